/- Contract of spec.l01Put: a copy in which actions are replaced, as long as there are nodes left. -/
import Derived.Test.YtdcaelgojjnglaaOwnE
import Derived.Test.YtdcaelgojjnglaaRepl
import Derived.Test.YtdcaelgojjnglaaBut
import Derived.Test.YtdcaelgojjnglaaSize
import Derived.Deep.RegionLaw
import Derived.Deep.RegionHeld3
import Derived.Deep.AppendLies
import Derived.RegionTactic
import Derived.OwnWalk
import Derived.IntWalk
namespace Go.Proofs.Ytdcaelgojjnglaa
open Go.RowKit

/-- A box with one number. -/
def Box1 (W : World) (b : Nat) (l : Int) : Prop := W.heap[b]? = some (.cells #[.int .i64 l] 2 (0, 0))
theorem Box1.ne {W : World} {lb : Nat} {l : Int} (h : Box1 W lb l) {b o : Nat} {v : Value} (hc : W.cell? ⟨b, o + 2, none⟩ = some v) : b ≠ lb := by
  rintro rfl
  have := Fo.cell_of_block h (o + 2)
  rw [hc] at this
  simp at this
theorem Box1.cell {W : World} {lb : Nat} {l : Int} (h : Box1 W lb l) : W.cell? ⟨lb, 0, none⟩ = some (.int .i64 l) := Fo.cell_of_block h 0
theorem Box1.free {W : World} {lb : Nat} {l : Int} (h : Box1 W lb l) : W.frozen? ⟨lb, 0, none⟩ = false := Fo.unfrozen_of_block h 0
theorem Box1.lt {W : World} {lb : Nat} {l : Int} (h : Box1 W lb l) : lb < W.heap.size := (Array.getElem?_eq_some_iff.1 h).1
theorem Box1.put {W : World} {lb : Nat} {l : Int} (h : Box1 W lb l) {b i : Nat} (hn : b ≠ lb) (v : Value) : Box1 (W.setCell ⟨b, i, none⟩ v) lb l := (Below.heap_setCell _ _ _ _ (by show lb ≠ b; omega)).trans h
theorem Box1.below {W W' : World} {lb : Nat} {l : Int} (h : Box1 W lb l) (hb : Below W.heap.size W W') : Box1 W' lb l := (hb.block lb h.lt).trans h
theorem Fo.At.but {w w' : World} {lb : Nat} {l : Int} (hx : Box1 w lb l) (hb : But lb w.heap.size w w') {f : Fo} : ∀ {b o : Nat}, f.At w b o → f.At w' b o := by
  induction f with
  | nil => intro b o _; trivial
  | cons k n ks r ihk ihr =>
    intro b o ⟨h0, h1, ⟨A, C, h2, h3⟩, h4⟩
    have hlt : b < w.heap.size := World.block_lt_of_cell? _ _ h0
    have hne := hx.ne h2
    exact ⟨(hb.cell hlt hne).trans h0, (hb.cell hlt hne).trans h1, ⟨A, C, (hb.cell hlt hne).trans h2, fun hn => let ⟨b', o', ha, hat⟩ := h3 hn; ⟨b', o', ha, ihk hat⟩⟩, ihr h4⟩
theorem Fo.Lies.but {w w' : World} {lb : Nat} {l : Int} (hx : Box1 w lb l) (hb : But lb w.heap.size w w') {f : Fo} {A : Option Addr} (h : f.Lies w A) : f.Lies w' A :=
  fun hn => let ⟨b, o, ha, hat⟩ := h hn; ⟨b, o, ha, hat.but hx hb⟩
theorem But.grown {s B : Nat} {a w w' : World} {row : Option Nat} (h : But s B a w) (hg : w.grownBy w' row) (hB : B ≤ w.heap.size) (hr : ∀ k, row = some k → B ≤ k) : But s B a w' :=
  h.trans ⟨hg.os, hg.tape, hg.output, hg.size, fun k hk _ => hg.block k (by omega) (fun e => by have := hr k e.symm; omega)⟩
theorem KX.but {W W' : World} {lo lb : Nat} {f : Fo} {v : Value} {xs : List Value} (h : KX W lo f v xs) (hl : lb < lo) (hb : But lb W.heap.size W W') : KX W' lo f v xs :=
  ⟨h.own.kept ⟨hb.os, hb.tape, hb.output, hb.size, fun k hk hn => hb.block k hk (fun e => hn (by rw [e]))⟩ (row := some lb) (by
      cases hv : v.ownBlock with
      | none => simp
      | some g => have := (h.own.lt g hv).1; simp; omega), h.rows.keep hb.size (fun x hlo hx _ => hb.block x hx (by omega)) (Or.inl rfl)⟩
theorem KX.snocB {W W1 W2 : World} {lo lb : Nat} {f : Fo} {v : Value} {xs : List Value} {k n : Int} {ks : Fo} {A : Option Addr} {C g cap : Nat} {T : TypeId} (h : KX W lo f v xs) (hl : lb < lo) (hlo : lo ≤ W.heap.size) (hb : But lb W.heap.size W W1) (hk : ks.LiesIn W1 W.heap.size W1.heap.size A)
    (hown : W2.ownsRow lo 35 3 (.slice (some ⟨g, 0, none⟩) (f.len + 1) cap) (f.len + 1) (xs ++ [.int .i64 k, .int .i64 n, .slice A ks.len C])) (hg : (W1.alloc (.cells #[.int .i64 k, .int .i64 n, .slice A ks.len C] T (0, 0))).grownBy W2 v.ownBlock) (hat : v.ownBlock = some g ∨ g = (W1.alloc (.cells #[.int .i64 k, .int .i64 n, .slice A ks.len C] T (0, 0))).heap.size) :
    Kids W2 lo (f.app (.cons k n ks .nil)) (.slice (some ⟨g, 0, none⟩) (f.len + 1) cap) := by
  refine Kids.snoc (l := W.heap.size) (m := W1.heap.size) ((h.but hl hb).alloc _).rows (hk.agree (Fo.Agree.of_below ((Below.refl _ _).alloc (Nat.le_refl _) _))) hlo (by simp) (fun x hx => Or.inl (h.own.lt x hx).2) hown hg ?_
  rcases hat with h1 | h1
  · exact Or.inl (by rw [h1]; rfl)
  · exact Or.inr (by rw [← h1]; rfl)

/-- What a call hands back that puts a copy together: z is the whole one, which is handed back if there are nodes enough. -/
def PutEnd (lb : Nat) (l : Int) (z : Int × Int × Fo) (w : World) (e : Ending) (w' : World) : Prop := ∃ (K N : Int) (F : Fo) (A : Option Addr) (C : Nat) (l' : Int), e = .returned (.agg #[.int .i64 K, .int .i64 N, .slice A F.len C]) ∧ F.LiesIn w' w.heap.size w'.heap.size A ∧ But lb w.heap.size w w' ∧ Box1 w' lb l' ∧
  -2000000 ≤ l' ∧ l' ≤ l ∧ (0 ≤ l' → (K, N, F) = z ∧ l' = l - (1 + z.2.2.nodes)) ∧ (l' < 0 → l < 1 + z.2.2.nodes)

/-- Where a loop stands that has put j kids together. -/
def PutAt (R : Fo) (l : Int) (j : Nat) (F : Fo) (q : Int) : Prop := F.len = j ∧ -2000000 ≤ q ∧ q ≤ l ∧ (0 ≤ q → F = R.take j ∧ q = l - 1 - (R.take j).nodes) ∧ (q < 0 → l < 1 + R.nodes)
theorem PutAt.start (R : Fo) {l : Int} (h0 : 0 ≤ l) : PutAt R l 0 .nil (l - 1) :=
  ⟨rfl, by omega, by omega, fun _ => ⟨(Fo.take_zero R).symm, by rw [Fo.take_zero]; simp [Fo.nodes]⟩, fun _ => by omega⟩
theorem PutAt.step {R : Fo} {l : Int} {j : Nat} {F : Fo} {q : Int} (h : PutAt R l j F q) (h0 : 0 ≤ q) {z : Int × Int × Fo} {r : Fo} (hR : R.drop j = .cons z.1 z.2.1 z.2.2 r) {K N : Int} {F1 : Fo} {q' : Int} (b1 : -2000000 ≤ q') (b2 : q' ≤ q)
    (h1 : 0 ≤ q' → (K, N, F1) = z ∧ q' = q - (1 + z.2.2.nodes)) (h2 : q' < 0 → q < 1 + z.2.2.nodes) : PutAt R l (j + 1) (F.app (.cons K N F1 .nil)) q' := by
  obtain ⟨e1, _, e3, e4, _⟩ := h
  obtain ⟨e5, e6⟩ := e4 h0
  refine ⟨by rw [Fo.app_len, e1]; rfl, b1, by omega, fun hq => ?_, fun hq => ?_⟩
  · obtain ⟨g1, g2⟩ := h1 hq
    subst g1
    have e7 := Fo.take_app R j hR
    have e8 := Fo.take_row R j hR
    exact ⟨by rw [e7, e5], by omega⟩
  · have g := h2 hq
    have e8 := Fo.take_row R j hR
    have e9 := R.take_nodes (j + 1)
    omega

theorem PutAt.fin {R : Fo} {l : Int} {j : Nat} {F : Fo} {q : Int} (h : PutAt R l j F q) (he : j = R.len ∨ q < 0) (k n : Int) : (0 ≤ q → (k, n, F) = (k, n, R) ∧ q = l - (1 + (k, n, R).2.2.nodes)) ∧ (q < 0 → l < 1 + (k, n, R).2.2.nodes) := by
  obtain ⟨_, _, _, h4, h5⟩ := h
  refine ⟨fun hq => ?_, h5⟩
  rcases he with rfl | he
  · obtain ⟨e1, e2⟩ := h4 hq
    rw [Fo.take_len] at e1 e2
    exact ⟨by rw [e1], by show q = l - (1 + (R.nodes : Int)); omega⟩
  · omega

set_option maxRecDepth 100000 in
set_option maxHeartbeats 4000000 in
theorem l01Put_any (B : Fo) (hB : B.nodes ≤ 1048576) (P : Option Addr) (D lb : Nat) : ∀ (N : Nat) (f : Fo), f.nodes < N → f.nodes ≤ 1048576 → ∀ (t a : Int) (tb : Bool) (k n : Int) (A : Option Addr) (C b o : Nat) (l : Int) (w : World), (B.len : Int) = a → treeE t a tb k n f = true → f.Lies w A → B.Lies w P → Box1 w lb l → 0 ≤ l → l ≤ 200 →
      w.cell? ⟨b, o, none⟩ = some (.int .i64 k) → w.cell? ⟨b, o + 1, none⟩ = some (.int .i64 n) → w.cell? ⟨b, o + 2, none⟩ = some (.slice A f.len C) →
      Calls Try.prog 61 #[.pointer (some ⟨b, o, none⟩), .slice P B.len D, .pointer (some ⟨lb, 0, none⟩)] w (PutEnd lb l (Fo.replE B k n f) w) := by
  intro N
  induction N with
  | zero => intro f hN; exact absurd hN (Nat.not_lt_zero _)
  | succ N ih =>
    intro f hN hm t a tb k n A C b o l w ha hv hl hP hx hl0 hl1 p0 p1 p2
    have IH := Lib.hid ih; clear ih
    have hln := f.len_le_nodes
    have hlB := B.len_le_nodes
    have llb := hx.lt
    have nb : b ≠ lb := hx.ne p2
    have bB : b < w.heap.size := World.block_lt_of_cell? _ _ p0
    have x0 := hx.cell
    have xf := hx.free
    by_cases hk : k = 4
    · subst hk
      have hnn : 0 ≤ n ∧ n < (B.len : Int) := by
        unfold treeE shapeB at hv
        simp only [Bool.and_eq_true, decide_eq_true_eq] at hv
        have := hv.1.1.2
        rw [show numC t a 4 = a from rfl] at this
        omega
      obtain ⟨k1, n1, f1, r1, e1, _⟩ := B.drop_lt n.toNat (by omega)
      have hz : Fo.replE B 4 n f = (k1, n1, f1) := by unfold Fo.replE; rw [if_pos rfl]; exact Fo.getE_row e1
      rw [hz]
      obtain ⟨b', o', rfl, hat⟩ := hP (by rintro rfl; simp [Fo.len] at hnn; omega)
      have hat2 := Fo.at_drop hat n.toNat
      rw [e1] at hat2
      obtain ⟨c0, c1, ⟨A', C', c2, hl2'⟩, _⟩ := hat2
      have hl2 : f1.Lies w A' := hl2'
      have hnd := B.nodes_drop n.toNat
      rw [e1] at hnd
      simp only [Fo.nodes] at hnd
      have nb' : b' ≠ lb := hx.ne c2
      have lb' : b' < w.heap.size := World.block_lt_of_cell? _ _ c0
      obtain ⟨m, hm1, hm2⟩ : ∃ m : Nat, m = f1.nodes ∧ m ≤ 1048576 := ⟨_, rfl, by omega⟩
      obtain ⟨q, hq, hq0, hq1⟩ : ∃ q : Int, q = l - (1 + (m : Int)) ∧ -2000000 ≤ q ∧ q ≤ l := ⟨_, rfl, by omega, by omega⟩
      have KS : Hid (∀ W : World, Sees w W → Calls Try.prog 106 #[.pointer (some ⟨b', o' + n.toNat * 3, none⟩)] W fun e w' => e = .returned (.int .i64 (1 + (m : Int))) ∧ W = w') :=
        fun W h => by rw [hm1]; exact l01Size_any (f1.nodes + 1) f1 (Nat.lt_succ_self _) (by omega) A' C' b' _ W (hl2.sees h) (kc h c2)
      have KO : Hid (∀ W : World, But lb w.heap.size w W → Calls Try.prog 56 #[.pointer (some ⟨b', o' + n.toNat * 3, none⟩)] W fun e w' => ∃ A1 C1, e = .returned (.agg #[.int .i64 k1, .int .i64 n1, .slice A1 f1.len C1]) ∧ f1.LiesIn w' W.heap.size w'.heap.size A1 ∧ Below W.heap.size W w') :=
        fun W h => l01Own_any (f1.nodes + 1) f1 (Nat.lt_succ_self _) (by omega) k1 n1 A' C' b' _ W (hl2.but hx h) ((h.cell lb' nb').trans c0) ((h.cell lb' nb').trans c1) ((h.cell lb' nb').trans c2)
      have HE : Hid ((k1, n1, f1).2.2.nodes = m) := hm1.symm
      have wq : IntKind.i64.wrap (l - (1 + (m : Int))) = q := by rw [IntWalk.i64_in _ (by omega)]; exact hq.symm
      have HQ : Hid (q = l - (1 + (m : Int))) := hq
      have n0 : 0 ≤ n := hnn.1
      have n1' : n < (B.len : Int) := hnn.2
      clear hz hat c0 c1 c2 hl2' hl2 hnd e1 hm1 hq hnn hv ha IH hl
      obtain ⟨W0, hW0⟩ : ∃ W0, W0 = w.alloc (.cells #[.int .i64 0, .int .i64 0, .slice none 0 0] 35) := ⟨_, rfl⟩
      have S0 : Sees w W0 := by rw [hW0]; unfold Sees; go_grown
      have HB0 : Hid (W0.heap[w.heap.size]? = some (.cells #[.int .i64 0, .int .i64 0, .slice none 0 0] 35 (0, 0))) := by show _ = _; rw [hW0]; exact heap_new _ _ _ rfl
      have z0 : W0.heap.size = w.heap.size + 1 := by rw [hW0]; simp
      have y0 : W0.cell? ⟨lb, 0, none⟩ = some (.int .i64 l) := kc S0 x0
      have yf : W0.frozen? ⟨lb, 0, none⟩ = false := (World.frozen?_of_block (a := ⟨lb, 0, none⟩) (S0.block lb llb)).trans xf
      have y1 : W0.cell? ⟨b, o + 1, none⟩ = some (.int .i64 n) := kc S0 p1
      have y2 : W0.cell? ⟨b, o, none⟩ = some (.int .i64 4) := kc S0 p0
      have hx0 : Box1 W0 lb l := (S0.block lb llb).trans hx
      go_enter Try.func61, Try.ntmps61
      go_wp2_with fail
      rw [← hW0]
      clear hW0 p0 p2 x0 xf
      go_wp2_with fail
      obtain ⟨W1, hW1⟩ : ∃ W1, W1 = (W0.setCell ⟨lb, 0, none⟩ (.int .i64 q)).drew := ⟨_, rfl⟩
      have hx1 : Box1 W1 lb q := by
        rw [hW1]; show ((W0.setCell ⟨lb, 0, none⟩ (.int .i64 q))).heap[lb]? = _
        rw [Fo.block_setCell hx0]; rfl
      have S1 : But lb w.heap.size w W1 := by rw [hW1]; exact But.drew (But.setCell (p := ⟨lb, 0, none⟩) (But.of_below S0 (Nat.le_refl _)) (Or.inl rfl) _)
      have HB1 : Hid (W1.heap[w.heap.size]? = some (.cells #[.int .i64 0, .int .i64 0, .slice none 0 0] 35 (0, 0))) := by
        show _ = _; rw [hW1]; show ((W0.setCell ⟨lb, 0, none⟩ (.int .i64 q))).heap[w.heap.size]? = _
        rw [Below.heap_setCell _ _ _ _ (by show w.heap.size ≠ lb; omega)]; exact HB0.out
      have z1 : W1.heap.size = w.heap.size + 1 := by rw [hW1]; show (W0.setCell _ _).heap.size = _; rw [World.size_setCell]; exact z0
      have v0 : W1.cell? ⟨lb, 0, none⟩ = some (.int .i64 q) := hx1.cell
      have v1 : W1.cell? ⟨b, o + 1, none⟩ = some (.int .i64 n) := (S1.cell bB nb).trans p1
      obtain ⟨r0, r1, r2, g0, g1, g2⟩ := cells3 HB1.out
      have HW1 := Lib.hid hW1
      clear hW1 p1
      go_region_law ((go_simp; go_at_call 106; refine (KS.out _ ?_).mono ?_; exact S0.drew; rintro e w' ⟨rfl, rfl⟩))
      all_goals
        rw [← HW1.out]
        clear HW1 y0 yf y1 y2 hx0 KS
        by_cases hneg : q < 0
        · go_wp2_with fail
          have HBF : (((W1.setCell ⟨w.heap.size, 0, none⟩ (.int .i64 0)).setCell ⟨w.heap.size, 1, none⟩ (.int .i64 0)).setCell ⟨w.heap.size, 2, none⟩ (.slice none 0 0)).heap[w.heap.size]? = some (.cells #[.int .i64 0, .int .i64 0, .slice none 0 0] 35 (0, 0)) := by
            rw [Fo.block_setCell (Fo.block_setCell (Fo.block_setCell HB1.out _) _) _]; rfl
          obtain ⟨d0, d1, d2, _⟩ := cells3 HBF
          refine bodyPost_ret (v := .agg #[.int .i64 0, .int .i64 0, .slice none 0 0]) (by simp [results, Try.results61, go_sem, d0, d1, d2]) rfl ?_
          refine ⟨0, 0, .nil, none, 0, q, rfl, Fo.LiesIn.nil _ _ _, ((S1.setCell (Or.inr (Nat.le_refl _)) _).setCell (Or.inr (Nat.le_refl _)) _).setCell (Or.inr (Nat.le_refl _)) _, ?_, hq0, hq1, fun h => absurd h (by omega), fun _ => ?_⟩
          · exact ((hx1.put (by omega) _).put (by omega) _).put (by omega) _
          · rw [HE.out]; have := HQ.out; omega
        · go_wp2_with fail
          refine (KO.out _ S1).mono ?_
          rintro e w2 ⟨A1, C1, rfl, hL, hb⟩
          have HB2 := (hb.block w.heap.size (by omega)).trans HB1.out
          have S2 : But lb w.heap.size w w2 := S1.trans (But.of_below hb (by omega))
          have hx2 : Box1 w2 lb q := hx1.below hb
          have HL := Lib.hid hL
          have z2 := hb.size
          clear hL hb r0 r1 r2 g0 g1 g2 v0 v1
          obtain ⟨r0, r1, r2, g0, g1, g2⟩ := cells3 HB2
          go_wp2_with fail
          have HBF : (((w2.setCell ⟨w.heap.size, 0, none⟩ (.int .i64 k1)).setCell ⟨w.heap.size, 1, none⟩ (.int .i64 n1)).setCell ⟨w.heap.size, 2, none⟩ (.slice A1 f1.len C1)).heap[w.heap.size]? = some (.cells #[.int .i64 k1, .int .i64 n1, .slice A1 f1.len C1] 35 (0, 0)) := by
            rw [Fo.block_setCell (Fo.block_setCell (Fo.block_setCell HB2 _) _) _]; rfl
          obtain ⟨d0, d1, d2, _⟩ := cells3 HBF
          refine bodyPost_ret (v := .agg #[.int .i64 k1, .int .i64 n1, .slice A1 f1.len C1]) (by simp [results, Try.results61, go_sem, d0, d1, d2]) rfl ?_
          refine ⟨k1, n1, f1, A1, C1, q, rfl, ?_, ((S2.setCell (Or.inr (Nat.le_refl _)) _).setCell (Or.inr (Nat.le_refl _)) _).setCell (Or.inr (Nat.le_refl _)) _, ((hx2.put (by omega) _).put (by omega) _).put (by omega) _, hq0, hq1, fun _ => ⟨rfl, by rw [HE.out]; exact HQ.out⟩, fun h => absurd h (by omega)⟩
          exact (HL.out.agree (Fo.Agree.setCell (Fo.Agree.setCell (Fo.Agree.setCell (Fo.Agree.refl _ _ _) _ (Or.inl (by show w.heap.size < W1.heap.size; omega)) _) _ (Or.inl (by show w.heap.size < W1.heap.size; omega)) _) _ (Or.inl (by show w.heap.size < W1.heap.size; omega)) _)).mono (by omega) (by simp)
    · have d4 : decide (k = 4) = false := decide_eq_false hk
      have k4 : (k == 4) = false := by rw [beq_eq_false_iff_ne]; exact hk
      have htree : f.tree t a (tb || k == 5) = true := by unfold treeE at hv; simp only [Bool.and_eq_true] at hv; exact hv.2
      obtain ⟨R, hR⟩ : ∃ R : Fo, R = Fo.repl B f := ⟨_, rfl⟩
      have hz : Fo.replE B k n f = (k, n, R) := by unfold Fo.replE; rw [if_neg hk, hR]
      have HR := Lib.hid hR
      have hRl : R.len = f.len := by rw [hR]; exact Fo.repl_len B f
      have HT := Lib.hid htree
      rw [hz]
      obtain ⟨i0, hi0, hz0, hs0, hb0⟩ := info_parts Try.infoX
      have HI := Lib.hid hi0; have HZ := Lib.hid hz0; have HS := Lib.hid hs0; have HB := Lib.hid hb0
      have HA := Lib.hid ha
      have wl : IntKind.i64.wrap (l - 1) = l - 1 := IntWalk.i64_in _ (by omega)
      clear hi0 hz0 hs0 hb0 hz hR hv htree ha hk
      obtain ⟨W0, hW0⟩ : ∃ W0, W0 = (w.setCell ⟨lb, 0, none⟩ (.int .i64 (l - 1))).alloc (.cells #[.int .i64 0, .int .i64 0, .slice none 0 0] 35) := ⟨_, rfl⟩
      have hx0 : Box1 W0 lb (l - 1) := by
        rw [hW0]; refine (Below.heap_alloc _ _ _ (by rw [World.size_setCell]; exact llb)).trans ?_
        rw [Fo.block_setCell hx]; rfl
      have S0 : But lb w.heap.size w W0 := by rw [hW0]; exact (But.setCell (p := ⟨lb, 0, none⟩) (But.refl _ _ _) (Or.inl rfl) _).alloc (by rw [World.size_setCell]; exact Nat.le_refl _) _
      have HB0 : Hid (W0.heap[w.heap.size]? = some (.cells #[.int .i64 0, .int .i64 0, .slice none 0 0] 35 (0, 0))) := by
        show _ = _; rw [hW0]; exact heap_new _ _ _ (by rw [World.size_setCell])
      have z0 : W0.heap.size = w.heap.size + 1 := by rw [hW0]; simp
      have y0 : W0.cell? ⟨b, o, none⟩ = some (.int .i64 k) := (S0.cell bB nb).trans p0
      have y1 : W0.cell? ⟨b, o + 1, none⟩ = some (.int .i64 n) := (S0.cell bB nb).trans p1
      have y2 : W0.cell? ⟨b, o + 2, none⟩ = some (.slice A f.len C) := (S0.cell bB nb).trans p2
      have HS0 : Hid (St W0 [(b, o, .int .i64 k), (b, o + 1, .int .i64 n), (b, o + 2, .slice A f.len C)] W0) := ⟨Sees.refl _, y0, y1, y2, trivial⟩
      have P2 := Lib.hid p2
      go_enter Try.func61, Try.ntmps61
      go_wp2_with fail
      rw [← hW0]
      clear hW0 p0 p1 p2 x0 xf y0 y1 y2
      go_region_held3 (fun w' => Sees W0 w' ∧ w'.cell? ⟨b, o, none⟩ = some (.int .i64 k) ∧ w'.cell? ⟨b, o + 1, none⟩ = some (.int .i64 n) ∧ w'.cell? ⟨b, o + 2, none⟩ = some (.slice A f.len C) ∧ True) (first | exact HS0.out.drew | exact HS0.out.drew.alloc _ | exact (HS0.out.alloc _).drew | (go_keep; done)) (fail)
      go_wp2_with fail
      go_loopw [8] (fun i wr => ∃ (j : Nat) (v : Value) (F : Fo) (q : Int), j ≤ f.len ∧ i = .int .i64 j ∧ Hid (Kids wr (w.heap.size + 2) F v) ∧ Hid (PutAt R l j F q) ∧ Hid (Box1 wr lb q) ∧ -2000000 ≤ q ∧ q ≤ 200 ∧ Hid (q ≤ l) ∧ Hid (wr.heap[w.heap.size + 1]? = some (.cells #[.int .i64 k, .int .i64 n, v] 35 (0, 0))) ∧ Hid (wr.heap[w.heap.size]? = some (.cells #[.int .i64 0, .int .i64 0, .slice none 0 0] 35 (0, 0))) ∧ Hid (But lb w.heap.size w wr)) (fun i _ => f.len - (intOf i).toNat)
      case atStart =>
        refine ⟨0, .slice none 0 0, .nil, l - 1, Nat.zero_le _, rfl, Kids.nil _ _, PutAt.start R hl0, ?_, by omega, by omega, by show _ ≤ _; omega, ?_, ?_, ?_⟩
        · exact (Below.heap_alloc _ _ _ hx0.lt).trans hx0
        · show _ = _; exact heap_new _ _ _ (by simp [z0])
        · show _ = _; exact (Below.heap_alloc _ _ _ (by omega)).trans HB0.out
        · exact (S0.alloc (by omega) _).drew
      case round =>
        obtain ⟨j, v, F, q, hj, rfl, hK, hPA, hBx, hq0, hq1, hql, hBo, hBr, hSe⟩ := hrel
        clear HB0 HS0 S0 hx0 z0
        have e2 := (hSe.out.cell bB nb).trans P2.out
        have xq := hBx.out.cell
        by_cases hjl : j < f.len
        · by_cases hq : 0 ≤ q
          · obtain ⟨k1, n1, f1, r, hd, hd2⟩ := f.drop_lt j hjl
            have htr := tree_drop f j HT.out
            rw [hd, Fo.tree_cons, Bool.and_eq_true] at htr
            have hRj : Hid (R.drop j = .cons (Fo.replE B k1 n1 f1).1 (Fo.replE B k1 n1 f1).2.1 (Fo.replE B k1 n1 f1).2.2 (Fo.repl B r)) := by show _ = _; rw [HR.out, Fo.repl_drop, hd, Fo.repl_cons]
            obtain ⟨b', o', rfl, hat⟩ := hl (by rintro rfl; simp [Fo.len] at hjl)
            have hat2 := Fo.at_drop hat j
            rw [hd] at hat2
            obtain ⟨c0, c1, ⟨A', C', c2, hl2'⟩, _⟩ := hat2
            have hl2 : f1.Lies w A' := hl2'
            have hnd := f.nodes_drop j
            rw [hd] at hnd
            have hkn : f1.nodes < N ∧ f1.nodes ≤ 1048576 := by simp only [Fo.nodes] at hnd; omega
            have lb' : b' < w.heap.size := World.block_lt_of_cell? _ _ c0
            have nb' : b' ≠ lb := hx.ne c2
            obtain ⟨z1, hz1⟩ : ∃ z1, z1 = Fo.replE B k1 n1 f1 := ⟨_, rfl⟩
            have KT : Hid (∀ W : World, But lb w.heap.size w W → Box1 W lb q → Calls Try.prog 61 #[.pointer (some ⟨b', o' + j * 3, none⟩), .slice P B.len D, .pointer (some ⟨lb, 0, none⟩)] W (PutEnd lb q z1 W)) := fun W h hb => by
              rw [hz1]
              exact IH.out f1 hkn.1 hkn.2 t a (tb || k == 5) k1 n1 A' C' b' (o' + j * 3) q W HA.out htr.1 (hl2.but hx h) (hP.but hx h) hb hq (by omega) ((h.cell lb' nb').trans c0) ((h.cell lb' nb').trans c1) ((h.cell lb' nb').trans c2)
            rw [← hz1] at hRj
            have m0 : (0 : Int) ≤ (j : Int) := Int.natCast_nonneg _
            have m1 : (j : Int) < (f.len : Int) := by omega
            obtain ⟨xs, hxk⟩ := hK.out.kx
            have HX := Lib.hid hxk
            have hlen : F.len = j := hPA.out.1
            have hsz : w.heap.size + 2 ≤ wr.heap.size := by have := (Array.getElem?_eq_some_iff.1 hBo.out).1; omega
            obtain ⟨x0, x1, x2, y0, y1, y2⟩ := cells3 hBo.out
            have JL := Lib.hid hjl
            have HLEN := Lib.hid hlen
            clear hxk hd hd2 hat c0 c1 c2 hl2' hl2 hnd hkn hK hjl hz1 htr hlen
            have U0 : But lb w.heap.size w wr := hSe.out
            go_wp2_with fail
            go_region_law
              (first
                | (go_simp; go_at_call 61; refine (KT.out _ ?_ ?_).mono ?_; exact U0.drew; exact hBx.out; rintro e wa ⟨K1, N1, F1, A1, C1, q', rfl, hL1, hb1, hx1, g1, g2, g3, g4⟩; have U1 : But lb w.heap.size w wa := U0.drew.trans (hb1.mono (by show w.heap.size ≤ wr.heap.size; omega)); have HX1 := Lib.hid (HX.out.drew.but (by omega) hb1); have HB1 := (hb1.block (w.heap.size + 1) (show w.heap.size + 1 < wr.heap.size by omega) (by omega)).trans hBo.out; have HBr1 := (hb1.block w.heap.size (show w.heap.size < wr.heap.size by omega) (by omega)).trans hBr.out; have HL1 := Lib.hid hL1; have HBB1 := Lib.hid hb1; have HX2 := Lib.hid hx1; have za : wr.heap.size ≤ wa.heap.size := hb1.size; obtain ⟨x0', x1', x2', y0', y1', y2'⟩ := cells3 HB1; have z1' : w.heap.size + 1 < wa.heap.size := (by omega); have z2 : wa.heap.size ≠ w.heap.size + 1 := (by omega); have z3 : w.heap.size + 1 ≠ wa.heap.size := (by omega); have HP2 := Lib.hid (hPA.out.step hq hRj.out g1 g2 g3 g4); have gq : q' ≤ 200 := (by omega); have gl : Hid (q' ≤ l) := (by have := hql.out; show _ ≤ _; omega); clear hL1 hb1 hx1 g3 g4; dsimp only)
                | (refine step_append_lies _ rfl (.tmp 68) (.tmp 78) 33 rfl (w.heap.size + 2) 35 i0 (.agg #[.int .i64 0, .int .i64 0, .slice none 0 0]) 3 40 Try.underlying33 HI.out HZ.out HS.out HB.out rfl (by decide) v F.len xs rfl (HX1.out.alloc _).own ⟨wa.heap.size, 0, none⟩ 1 1 [.int .i64 K1, .int .i64 N1, .slice A1 F1.len C1] rfl rfl (World.news_of_block (heap_new _ _ _ rfl)) (by intro u hu; simp at hu; rcases hu with rfl | rfl | rfl <;> rfl) (by decide) (by rw [HLEN.out]; unfold maxLen; omega) (by rw [HLEN.out]; omega) (by simp; omega) _ rfl ?_; intro g cap wb hown hgrow hat hlt; have HK2 : Hid (Kids wb (w.heap.size + 2) (F.app (.cons K1 N1 F1 .nil)) (.slice (some ⟨g, 0, none⟩) (F.len + 1) cap)) := (by show Kids _ _ _ _; exact HX.out.drew.snocB (lb := lb) (by omega) (by simpa using hsz) HBB1.out HL1.out hown hgrow hat); have hvn : ∀ x, x < w.heap.size + 2 → some x ≠ v.ownBlock := (fun x hx he => absurd (HX1.out.own.lt x he.symm).1 (by omega)); have HB2 := (hgrow.block (w.heap.size + 1) (by simp; omega) (hvn _ (by omega))).trans ((Below.heap_alloc _ _ _ (by omega)).trans HB1); have HBr2 := (hgrow.block w.heap.size (by simp; omega) (hvn _ (by omega))).trans ((Below.heap_alloc _ _ _ (by omega)).trans HBr1); have HX3 : Box1 wb lb q' := (hgrow.block lb (by simp; omega) (hvn _ (by omega))).trans ((Below.heap_alloc _ _ _ (by omega)).trans HX2.out); have U2 : But lb w.heap.size w wb := ((U1.alloc (by omega) _).grown hgrow (by simp; omega) (fun x hx => (by have := (HX1.out.own.lt x hx).1; omega))); obtain ⟨x0'', x1'', x2'', y0'', y1'', y2''⟩ := cells3 HB2; clear hown hgrow hat hlt))
            all_goals
              go_wp2_with fail
              go_roundw
              case rel => exact ⟨j + 1, _, _, q', JL.out, by go_num, HK2.out.put (by omega) _, HP2, HX3.put (by omega) _, g1, gq, gl, (Fo.block_setCell HB2 _).trans rfl, (Below.heap_setCell _ _ _ _ (by show w.heap.size ≠ w.heap.size + 1; omega)).trans HBr2, U2.setCell (Or.inr (by show w.heap.size ≤ w.heap.size + 1; omega)) _⟩
              case measure => have := JL.out; simp [intOf]; omega
          · obtain ⟨x0, x1, x2, y0, y1, y2⟩ := cells3 hBo.out
            obtain ⟨u0, u1, u2, v0, v1, v2⟩ := cells3 hBr.out
            obtain ⟨A1, C1, rfl, hL⟩ := hK.out.lies
            have HL := Lib.hid hL
            have HF := Lib.hid (hPA.out.fin (Or.inr (by omega)) k n)
            have zr : w.heap.size + 1 < wr.heap.size := (Array.getElem?_eq_some_iff.1 hBo.out).1
            clear hK hL hPA
            go_wp2_with fail
            have HBF : (((wr.setCell ⟨w.heap.size, 0, none⟩ (.int .i64 k)).setCell ⟨w.heap.size, 1, none⟩ (.int .i64 n)).setCell ⟨w.heap.size, 2, none⟩ (.slice A1 F.len C1)).heap[w.heap.size]? = some (.cells #[.int .i64 k, .int .i64 n, .slice A1 F.len C1] 35 (0, 0)) := by
              rw [Fo.block_setCell (Fo.block_setCell (Fo.block_setCell hBr.out _) _) _]; rfl
            obtain ⟨d0, d1, d2, _⟩ := cells3 HBF
            refine bodyPost_ret (v := .agg #[.int .i64 k, .int .i64 n, .slice A1 F.len C1]) (by simp [results, Try.results61, go_sem, d0, d1, d2]) rfl ?_
            refine ⟨k, n, F, A1, C1, q, rfl, ?_, ((hSe.out.setCell (Or.inr (Nat.le_refl _)) _).setCell (Or.inr (Nat.le_refl _)) _).setCell (Or.inr (Nat.le_refl _)) _, ((hBx.out.put (by omega) _).put (by omega) _).put (by omega) _, hq0, by have := hql.out; omega, HF.out.1, HF.out.2⟩
            refine (HL.out.agree (Fo.Agree.setCell (Fo.Agree.setCell (Fo.Agree.setCell (Fo.Agree.refl _ _ _) _ ?_ _) _ ?_ _) _ ?_ _)).mono (by omega) (by simp)
            all_goals (left; show w.heap.size < _; omega)
        · have hje : j = f.len := by omega
          obtain ⟨x0, x1, x2, y0, y1, y2⟩ := cells3 hBo.out
          obtain ⟨u0, u1, u2, v0, v1, v2⟩ := cells3 hBr.out
          obtain ⟨A1, C1, rfl, hL⟩ := hK.out.lies
          have HL := Lib.hid hL
          have HF := Lib.hid (hPA.out.fin (Or.inl (by rw [hRl]; exact hje)) k n)
          have zr : w.heap.size + 1 < wr.heap.size := (Array.getElem?_eq_some_iff.1 hBo.out).1
          clear hK hL hPA
          go_wp2_with fail
          have HBF : (((wr.setCell ⟨w.heap.size, 0, none⟩ (.int .i64 k)).setCell ⟨w.heap.size, 1, none⟩ (.int .i64 n)).setCell ⟨w.heap.size, 2, none⟩ (.slice A1 F.len C1)).heap[w.heap.size]? = some (.cells #[.int .i64 k, .int .i64 n, .slice A1 F.len C1] 35 (0, 0)) := by
            rw [Fo.block_setCell (Fo.block_setCell (Fo.block_setCell hBr.out _) _) _]; rfl
          obtain ⟨d0, d1, d2, _⟩ := cells3 HBF
          refine bodyPost_ret (v := .agg #[.int .i64 k, .int .i64 n, .slice A1 F.len C1]) (by simp [results, Try.results61, go_sem, d0, d1, d2]) rfl ?_
          refine ⟨k, n, F, A1, C1, q, rfl, ?_, ((hSe.out.setCell (Or.inr (Nat.le_refl _)) _).setCell (Or.inr (Nat.le_refl _)) _).setCell (Or.inr (Nat.le_refl _)) _, ((hBx.out.put (by omega) _).put (by omega) _).put (by omega) _, hq0, by have := hql.out; omega, HF.out.1, HF.out.2⟩
          refine (HL.out.agree (Fo.Agree.setCell (Fo.Agree.setCell (Fo.Agree.setCell (Fo.Agree.refl _ _ _) _ ?_ _) _ ?_ _) _ ?_ _)).mono (by omega) (by simp)
          all_goals (left; show w.heap.size < _; omega)
end Go.Proofs.Ytdcaelgojjnglaa
