/- Contract of spec.l01Turn. -/
import Derived.Test.YtdcaelgojjnglaaExO
import Derived.Deep.RegionHeld3
import Derived.Deep.RegionLaw
import Derived.Deep.AppendLies
import Derived.RegionTactic
import Derived.OwnWalk
namespace Go.Proofs.Ytdcaelgojjnglaa
open Go.RowKit

namespace Fo
def take : Fo → Nat → Fo
  | nil, _ => nil
  | cons _ _ _ _, 0 => nil
  | cons k n ks r, j + 1 => cons k n ks (r.take j)
theorem take_zero (f : Fo) : f.take 0 = nil := by cases f <;> rfl
theorem take_len (f : Fo) : f.take f.len = f := by
  induction f with
  | nil => rfl
  | cons k n ks r _ ih => simp only [len, take, ih]
theorem take_le (f : Fo) : ∀ (j : Nat), j ≤ f.len → (f.take j).len = j := by
  induction f with
  | nil => intro j hj; simp [len] at hj; subst hj; rfl
  | cons k n ks r _ ih =>
    intro j hj
    cases j with
    | zero => rfl
    | succ j => simp only [take, len]; rw [ih j (by simp only [len] at hj; omega)]
end Fo

/-- The row that round j appends: whence it is, and what becomes of it. -/
theorem turn_row {t a : Int} {b : Bool} {k n : Int} {f : Fo} (h : treeE t a b k n f = true) (j : Nat) (hj : j < f.len) :
    ∃ (m : Nat) (k1 n1 : Int) (f1 r : Fo) (b1 : Bool), (m : Int) = (if k = 7 then 1 - (j : Int) else (j : Int)) ∧ m < f.len ∧ f.drop m = .cons k1 n1 f1 r ∧ treeE t a b1 k1 n1 f1 = true ∧ (ndE f k n).rev.ks.take (j + 1) = ((ndE f k n).rev.ks.take j).app (.cons k1 n1 (ndE f1 k1 n1).rev.ks .nil) := by
  rcases tree_forms h with ⟨rfl, hk⟩ | ⟨k1, n1, f1, rfl, hk, h1⟩ | ⟨k1, n1, f1, k2, n2, f2, rfl, hk, h1, h2⟩
  · simp [Fo.len] at hj
  · have e1 := (ndE_all h1).1
    have e2 := (ndE_all h1).2.1
    obtain rfl : j = 0 := by simp [Fo.len] at hj; omega
    rcases hk with rfl | rfl
    · refine ⟨0, k1, n1, f1, .nil, _, by simp, by simp [Fo.len], rfl, h1, ?_⟩
      show Fo.cons (ndE f1 k1 n1).rev.kd (ndE f1 k1 n1).rev.nm _ .nil = Fo.cons k1 n1 _ .nil
      rw [Nd.rev_kd, Nd.rev_nm, e1, e2]
    · refine ⟨0, k1, n1, f1, .nil, _, by simp, by simp [Fo.len], rfl, h1, ?_⟩
      show Fo.cons (ndE f1 k1 n1).rev.kd (ndE f1 k1 n1).rev.nm _ .nil = Fo.cons k1 n1 _ .nil
      rw [Nd.rev_kd, Nd.rev_nm, e1, e2]
  · have e1 := (ndE_all h1).1
    have e2 := (ndE_all h1).2.1
    have g1 := (ndE_all h2).1
    have g2 := (ndE_all h2).2.1
    have hj' : j = 0 ∨ j = 1 := by simp [Fo.len] at hj; omega
    rcases hk with rfl | rfl
    · rcases hj' with rfl | rfl
      · refine ⟨0, k1, n1, f1, _, _, by simp, by simp [Fo.len], rfl, h1, ?_⟩
        show Fo.cons (ndE f1 k1 n1).rev.kd (ndE f1 k1 n1).rev.nm _ .nil = Fo.cons k1 n1 _ .nil
        rw [Nd.rev_kd, Nd.rev_nm, e1, e2]
      · refine ⟨1, k2, n2, f2, .nil, _, by simp, by simp [Fo.len], rfl, h2, ?_⟩
        show Fo.cons (ndE f1 k1 n1).rev.kd (ndE f1 k1 n1).rev.nm _ (Fo.cons (ndE f2 k2 n2).rev.kd (ndE f2 k2 n2).rev.nm _ .nil) = Fo.cons (ndE f1 k1 n1).rev.kd (ndE f1 k1 n1).rev.nm _ (Fo.cons k2 n2 _ .nil)
        rw [Nd.rev_kd (ndE f2 k2 n2), Nd.rev_nm (ndE f2 k2 n2), g1, g2]
    · rcases hj' with rfl | rfl
      · refine ⟨1, k2, n2, f2, .nil, _, by simp, by simp [Fo.len], rfl, h2, ?_⟩
        show Fo.cons (ndE f2 k2 n2).rev.kd (ndE f2 k2 n2).rev.nm _ .nil = Fo.cons k2 n2 _ .nil
        rw [Nd.rev_kd, Nd.rev_nm, g1, g2]
      · refine ⟨0, k1, n1, f1, _, _, by simp, by simp [Fo.len], rfl, h1, ?_⟩
        show Fo.cons (ndE f2 k2 n2).rev.kd (ndE f2 k2 n2).rev.nm _ (Fo.cons (ndE f1 k1 n1).rev.kd (ndE f1 k1 n1).rev.nm _ .nil) = Fo.cons (ndE f2 k2 n2).rev.kd (ndE f2 k2 n2).rev.nm _ (Fo.cons k1 n1 _ .nil)
        rw [Nd.rev_kd (ndE f1 k1 n1), Nd.rev_nm (ndE f1 k1 n1), e1, e2]

/-- A list of expressions, with what its cells hold. -/
structure KX (W : World) (lo : Nat) (f : Fo) (v : Value) (xs : List Value) : Prop where
  own : W.ownsRow lo 35 3 v f.len xs
  rows : f.RowsIn W lo v.ownBlock xs
theorem Kids.kx {W : World} {lo : Nat} {f : Fo} {v : Value} (h : Kids W lo f v) : ∃ xs, KX W lo f v xs := let ⟨xs, h1, h2⟩ := h; ⟨xs, h1, h2⟩
theorem KX.below {W W' : World} {lo : Nat} {f : Fo} {v : Value} {xs : List Value} (h : KX W lo f v xs) (hb : Below W.heap.size W W') : KX W' lo f v xs :=
  ⟨h.own.kept ⟨hb.os, hb.tape, hb.output, hb.size, fun k hk _ => hb.block k hk⟩ (row := none) (by cases hv : v.ownBlock <;> simp), h.rows.keep hb.size (fun x _ hx _ => hb.block x hx) (Or.inl rfl)⟩
theorem KX.drew {W : World} {lo : Nat} {f : Fo} {v : Value} {xs : List Value} (h : KX W lo f v xs) : KX W.drew lo f v xs := h.below ⟨rfl, rfl, rfl, Nat.le_refl _, fun _ _ => rfl⟩
theorem KX.alloc {W : World} {lo : Nat} {f : Fo} {v : Value} {xs : List Value} (h : KX W lo f v xs) (o : Obj) : KX (W.alloc o) lo f v xs := h.below ((Below.refl _ _).alloc (Nat.le_refl _) _)
/-- A row is appended whose kids a call has made. -/
theorem KX.snoc {W W1 W2 : World} {lo : Nat} {f : Fo} {v : Value} {xs : List Value} {k n : Int} {ks : Fo} {A : Option Addr} {C g cap : Nat} {T : TypeId} (h : KX W lo f v xs) (hlo : lo ≤ W.heap.size) (hb : Below W.heap.size W W1) (hk : ks.LiesIn W1 W.heap.size W1.heap.size A)
    (hown : W2.ownsRow lo 35 3 (.slice (some ⟨g, 0, none⟩) (f.len + 1) cap) (f.len + 1) (xs ++ [.int .i64 k, .int .i64 n, .slice A ks.len C])) (hg : (W1.alloc (.cells #[.int .i64 k, .int .i64 n, .slice A ks.len C] T (0, 0))).grownBy W2 v.ownBlock) (hat : v.ownBlock = some g ∨ g = (W1.alloc (.cells #[.int .i64 k, .int .i64 n, .slice A ks.len C] T (0, 0))).heap.size) :
    Kids W2 lo (f.app (.cons k n ks .nil)) (.slice (some ⟨g, 0, none⟩) (f.len + 1) cap) := by
  refine Kids.snoc (l := W.heap.size) (m := W1.heap.size) ((h.below hb).alloc _).rows (hk.agree (Fo.Agree.of_below ((Below.refl _ _).alloc (Nat.le_refl _) _))) hlo (by simp) (fun x hx => Or.inl (h.own.lt x hx).2) hown hg ?_
  rcases hat with h1 | h1
  · exact Or.inl (by rw [h1]; rfl)
  · exact Or.inr (by rw [← h1]; rfl)

theorem Try.infoX : (Try.prog.info? 35).map (fun i => (i.zero, i.size, i.bytes)) = some (some (.agg #[.int .i64 0, .int .i64 0, .slice none 0 0]), 3, 40) := by kernel_rfl

set_option maxRecDepth 100000 in
set_option maxHeartbeats 4000000 in
theorem l01Turn_any : ∀ (N : Nat) (f : Fo), f.nodes < N → f.nodes ≤ 1048576 → ∀ (t a : Int) (b : Bool) (k n : Int) (A : Option Addr) (C B o : Nat) (w : World), f.Lies w A → treeE t a b k n f = true →
      w.cell? ⟨B, o, none⟩ = some (.int .i64 k) → w.cell? ⟨B, o + 1, none⟩ = some (.int .i64 n) → w.cell? ⟨B, o + 2, none⟩ = some (.slice A f.len C) →
      Calls Try.prog 96 #[.pointer (some ⟨B, o, none⟩)] w fun e w' => ∃ A' C', e = .returned (.agg #[.int .i64 k, .int .i64 n, .slice A' f.len C']) ∧ (ndE f k n).rev.ks.LiesIn w' w.heap.size w'.heap.size A' ∧ Below w.heap.size w w' := by
  intro N
  induction N with
  | zero => intro f hN; exact absurd hN (Nat.not_lt_zero _)
  | succ N ih =>
    intro f hN hm t a b k n A C B o w hl ht p0 p1 p2
    have IH := Lib.hid ih; clear ih
    have hln := f.len_le_nodes
    have hrl := rev_len_of ht
    have HT := Lib.hid ht
    have HR := Lib.hid (fun j hj => turn_row HT.out j hj)
    clear ht
    obtain ⟨R, hR⟩ : ∃ R : Fo, R = (ndE f k n).rev.ks := ⟨_, rfl⟩
    rw [← hR] at hrl HR ⊢
    clear hR
    obtain ⟨i0, hi0, hz0, hs0, hb0⟩ := info_parts Try.infoX
    have HI := Lib.hid hi0; have HZ := Lib.hid hz0; have HS := Lib.hid hs0; have HB := Lib.hid hb0
    clear hi0 hz0 hs0 hb0
    have lB : B < w.heap.size := World.block_lt_of_cell? _ _ p0
    obtain ⟨W0, hW0⟩ : ∃ W0, W0 = w.alloc (.cells #[.int .i64 0, .int .i64 0, .slice none 0 0] 35) := ⟨_, rfl⟩
    have HS0 : Hid (St w [(B, o, .int .i64 k), (B, o + 1, .int .i64 n), (B, o + 2, .slice A f.len C)] W0) := by rw [hW0]; exact ⟨(by unfold Sees; go_grown), ka _ p0, ka _ p1, ka _ p2, trivial⟩
    have HB0 : Hid (W0.heap[w.heap.size]? = some (.cells #[.int .i64 0, .int .i64 0, .slice none 0 0] 35 (0, 0))) := by show _ = _; rw [hW0]; exact heap_new _ _ _ rfl
    have z0 : W0.heap.size = w.heap.size + 1 := by rw [hW0]; simp
    by_cases h7 : k = 7
    · subst h7
      go_enter Try.func96, Try.ntmps96
      go_wp2_with fail
      rw [← hW0]
      clear hW0
      go_region_held3 (fun w' => Sees w w' ∧ w'.cell? ⟨B, o, none⟩ = some (.int .i64 7) ∧ w'.cell? ⟨B, o + 1, none⟩ = some (.int .i64 n) ∧ w'.cell? ⟨B, o + 2, none⟩ = some (.slice A f.len C) ∧ True) (first | exact HS0.out.drew | exact HS0.out.drew.alloc _ | exact (HS0.out.alloc _).drew | (go_keep; done)) (fail)
      go_wp2_with fail
      have MK : ∀ W : World, Sees w W → St w [(B, o + 2, .slice A f.len C)] W := fun W h => ⟨h, (h.cell (p := ⟨B, o + 2, none⟩) lB).trans p2, trivial⟩
      go_loopw [4] (fun i wr => ∃ (j : Nat) (v : Value), j ≤ f.len ∧ i = .int .i64 j ∧ Hid (Kids wr (w.heap.size + 2) (R.take j) v) ∧ Hid (wr.heap[w.heap.size + 1]? = some (.cells #[.int .i64 7, .int .i64 n, v] 35 (0, 0))) ∧ Hid (wr.heap[w.heap.size]? = some (.cells #[.int .i64 0, .int .i64 0, .slice none 0 0] 35 (0, 0))) ∧ Hid (Sees w wr)) (fun i _ => f.len - (intOf i).toNat)
      case atStart =>
        refine ⟨0, .slice none 0 0, Nat.zero_le _, rfl, ?_, ?_, ?_, ?_⟩
        · show Kids _ _ _ _; rw [Fo.take_zero]; exact Kids.nil _ _
        · show _ = _; exact heap_new _ _ _ (by simp [z0])
        · show _ = _; exact (Below.heap_alloc _ _ _ (by omega)).trans HB0.out
        · show Below _ _ _; exact (Below.alloc HS0.out.1 (by omega) _).drew
      case round =>
        obtain ⟨j, v, hj, rfl, hK, hBo, hBr, hSe⟩ := hrel
        clear HB0 HS0
        have e2 := (hSe.out.cell (p := ⟨B, o + 2, none⟩) lB).trans p2
        have e0 := (hSe.out.cell (p := ⟨B, o, none⟩) lB).trans p0
        by_cases hjl : j < f.len
        · obtain ⟨m, k1, n1, f1, r, b1, hme, hml, hd, ht1, htk⟩ := HR.out j hjl
          obtain ⟨b', o', rfl, hat⟩ := hl (by rintro rfl; simp [Fo.len] at hjl)
          have hat2 := Fo.at_drop hat m
          rw [hd] at hat2
          obtain ⟨c0, c1, ⟨A', C', c2, hl2'⟩, _⟩ := hat2
          have hl2 : f1.Lies w A' := hl2'
          have hnd := f.nodes_drop m
          rw [hd] at hnd
          have hkn : f1.nodes < N ∧ f1.nodes ≤ 1048576 := by simp only [Fo.nodes] at hnd; omega
          have lb : b' < w.heap.size := World.block_lt_of_cell? _ _ c0
          obtain ⟨g1, hg1⟩ : ∃ g : Fo, g = (ndE f1 k1 n1).rev.ks := ⟨_, rfl⟩
          have hgl : g1.len = f1.len := by rw [hg1]; exact rev_len_of ht1
          have KT : Hid (∀ W : World, Sees w W → Calls Try.prog 96 #[.pointer (some ⟨b', o' + m * 3, none⟩)] W fun e w' => ∃ A1 C1, e = .returned (.agg #[.int .i64 k1, .int .i64 n1, .slice A1 g1.len C1]) ∧ g1.LiesIn w' W.heap.size w'.heap.size A1 ∧ Below W.heap.size W w') := fun W h => by
            rw [hgl, hg1]
            exact IH.out f1 hkn.1 hkn.2 t a b1 k1 n1 A' C' b' (o' + m * 3) W (hl2.sees h) ht1 ((h.cell (p := ⟨b', o' + m * 3, none⟩) lb).trans c0) ((h.cell (p := ⟨b', o' + m * 3 + 1, none⟩) lb).trans c1) ((h.cell (p := ⟨b', o' + m * 3 + 2, none⟩) lb).trans c2)
          have HTK : Hid (R.take (j + 1) = (R.take j).app (.cons k1 n1 g1 .nil)) := by show _ = _; rw [htk, hg1]
          have m0 : (0 : Int) ≤ (m : Int) := Int.natCast_nonneg _
          have m1 : (m : Int) < (f.len : Int) := by omega
          rw [if_pos trivial] at hme
          have wk : IntKind.i64.wrap (1 - (j : Int)) = (m : Int) := by rw [IntWalk.i64_in _ (by omega)]; omega
          obtain ⟨xs, hx⟩ := hK.out.kx
          have HX := Lib.hid hx
          have hlen : (R.take j).len = j := Fo.take_le R j (by omega)
          have hsz : w.heap.size + 2 ≤ wr.heap.size := by have := (Array.getElem?_eq_some_iff.1 hBo.out).1; omega
          obtain ⟨x0, x1, x2, y0, y1, y2⟩ := cells3 hBo.out
          have JL := Lib.hid hjl
          clear hx hme hml hd ht1 htk hat c0 c1 c2 hl2' hl2 hnd hkn hg1 hgl hK hjl
          have U0 : Sees w wr := hSe.out
          go_wp2_with fail
          go_region_law
            (first
              | (go_simp; go_at_call 96; refine (KT.out _ ?_).mono ?_; exact U0.drew; rintro e wa ⟨A1, C1, rfl, hL1, hb1⟩; have U1 := U0.drew.below hb1; have HX1 := Lib.hid (HX.out.drew.below hb1); have HB1 := (hb1.block _ (show w.heap.size + 1 < wr.heap.size by omega)).trans hBo.out; have HBr1 := (hb1.block _ (show w.heap.size < wr.heap.size by omega)).trans hBr.out; have HL1 := Lib.hid hL1; have HBB1 := Lib.hid hb1; have za : wr.heap.size ≤ wa.heap.size := hb1.size; obtain ⟨x0', x1', x2', y0', y1', y2'⟩ := cells3 HB1; have z1 : w.heap.size + 1 < wa.heap.size := (by omega); have z2 : wa.heap.size ≠ w.heap.size + 1 := (by omega); have z3 : w.heap.size + 1 ≠ wa.heap.size := (by omega); clear hL1 hb1; dsimp only)
              | (refine step_append_lies _ rfl (.tmp 33) (.tmp 41) 33 rfl (w.heap.size + 2) 35 i0 (.agg #[.int .i64 0, .int .i64 0, .slice none 0 0]) 3 40 Try.underlying33 HI.out HZ.out HS.out HB.out rfl (by decide) v (R.take j).len xs rfl (HX1.out.alloc _).own ⟨wa.heap.size, 0, none⟩ 1 1 [.int .i64 k1, .int .i64 n1, .slice A1 g1.len C1] rfl rfl (World.news_of_block (heap_new _ _ _ rfl)) (by intro u hu; simp at hu; rcases hu with rfl | rfl | rfl <;> rfl) (by decide) (by rw [hlen]; unfold maxLen; omega) (by rw [hlen]; omega) (by simp; omega) _ rfl ?_; intro g cap wb hown hgrow hat hlt; have HK2 : Hid (Kids wb (w.heap.size + 2) (R.take (j + 1)) (.slice (some ⟨g, 0, none⟩) (j + 1) cap)) := (by show Kids _ _ _ _; have hk := HX.out.drew.snoc (by simpa using hsz) HBB1.out HL1.out hown hgrow hat; rw [hlen] at hk; rw [HTK.out]; exact hk); have hvn : ∀ x, x < w.heap.size + 2 → some x ≠ v.ownBlock := (fun x hx he => absurd (HX1.out.own.lt x he.symm).1 (by omega)); have HB2 := (hgrow.block (w.heap.size + 1) (by simp; omega) (hvn _ (by omega))).trans ((Below.heap_alloc _ _ _ (by omega)).trans HB1); have HBr2 := (hgrow.block w.heap.size (by simp; omega) (hvn _ (by omega))).trans ((Below.heap_alloc _ _ _ (by omega)).trans HBr1); have U2 : Sees w wb := (Below.grown (U1.alloc _) hgrow (Below.size (U1.alloc _)) (fun x hx => (by have := (HX1.out.own.lt x hx).1; omega))); obtain ⟨x0'', x1'', x2'', y0'', y1'', y2''⟩ := cells3 HB2; clear hown hgrow hat hlt))
          all_goals
            go_wp2_with fail
            go_roundw
            case rel => exact ⟨j + 1, _, JL.out, by go_num, HK2.out.put (by omega) _, (Fo.block_setCell HB2 _).trans rfl, (Below.heap_setCell _ _ _ _ (by show w.heap.size ≠ w.heap.size + 1; omega)).trans HBr2, Below.setCell U2 (by show w.heap.size ≤ w.heap.size + 1; omega) _⟩
            case measure => have := JL.out; simp [intOf]; omega
        · obtain rfl : j = f.len := by omega
          obtain ⟨x0, x1, x2, y0, y1, y2⟩ := cells3 hBo.out
          obtain ⟨u0, u1, u2, v0, v1, v2⟩ := cells3 hBr.out
          rw [show R.take f.len = R by rw [← hrl, Fo.take_len]] at hK
          obtain ⟨A1, C1, rfl, hL⟩ := hK.out.lies
          have HL := Lib.hid hL
          rw [hrl] at hBo x2
          clear hK hL
          go_wp2_with fail
          have HBF : (((wr.setCell ⟨w.heap.size, 0, none⟩ (.int .i64 7)).setCell ⟨w.heap.size, 1, none⟩ (.int .i64 n)).setCell ⟨w.heap.size, 2, none⟩ (.slice A1 f.len C1)).heap[w.heap.size]? = some (.cells #[.int .i64 7, .int .i64 n, .slice A1 f.len C1] 35 (0, 0)) := by
            rw [Fo.block_setCell (Fo.block_setCell (Fo.block_setCell hBr.out _) _) _]; rfl
          obtain ⟨d0, d1, d2, _⟩ := cells3 HBF
          refine bodyPost_ret (v := .agg #[.int .i64 7, .int .i64 n, .slice A1 f.len C1]) (by simp [results, Try.results96, go_sem, d0, d1, d2]) rfl ⟨A1, C1, rfl, ?_, ?_⟩
          · refine (HL.out.agree (Fo.Agree.setCell (Fo.Agree.setCell (Fo.Agree.setCell (Fo.Agree.refl _ _ _) _ ?_ _) _ ?_ _) _ ?_ _)).mono (by omega) (by simp)
            all_goals (left; show w.heap.size < _; omega)
          · exact Below.setCell (Below.setCell (Below.setCell hSe.out (Nat.le_refl _) _) (Nat.le_refl _) _) (Nat.le_refl _) _
    · have k7 : (k == 7) = false := by rw [beq_eq_false_iff_ne]; exact h7
      have d7 : decide (k = 7) = false := decide_eq_false h7
      go_enter Try.func96, Try.ntmps96
      go_wp2_with fail
      rw [← hW0]
      clear hW0
      go_region_held3 (fun w' => Sees w w' ∧ w'.cell? ⟨B, o, none⟩ = some (.int .i64 k) ∧ w'.cell? ⟨B, o + 1, none⟩ = some (.int .i64 n) ∧ w'.cell? ⟨B, o + 2, none⟩ = some (.slice A f.len C) ∧ True) (first | exact HS0.out.drew | exact HS0.out.drew.alloc _ | exact (HS0.out.alloc _).drew | (go_keep; done)) (fail)
      go_wp2_with fail
      have MK : ∀ W : World, Sees w W → St w [(B, o + 2, .slice A f.len C)] W := fun W h => ⟨h, (h.cell (p := ⟨B, o + 2, none⟩) lB).trans p2, trivial⟩
      go_loopw [4] (fun i wr => ∃ (j : Nat) (v : Value), j ≤ f.len ∧ i = .int .i64 j ∧ Hid (Kids wr (w.heap.size + 2) (R.take j) v) ∧ Hid (wr.heap[w.heap.size + 1]? = some (.cells #[.int .i64 k, .int .i64 n, v] 35 (0, 0))) ∧ Hid (wr.heap[w.heap.size]? = some (.cells #[.int .i64 0, .int .i64 0, .slice none 0 0] 35 (0, 0))) ∧ Hid (Sees w wr)) (fun i _ => f.len - (intOf i).toNat)
      case atStart =>
        refine ⟨0, .slice none 0 0, Nat.zero_le _, rfl, ?_, ?_, ?_, ?_⟩
        · show Kids _ _ _ _; rw [Fo.take_zero]; exact Kids.nil _ _
        · show _ = _; exact heap_new _ _ _ (by simp [z0])
        · show _ = _; exact (Below.heap_alloc _ _ _ (by omega)).trans HB0.out
        · show Below _ _ _; exact (Below.alloc HS0.out.1 (by omega) _).drew
      case round =>
        obtain ⟨j, v, hj, rfl, hK, hBo, hBr, hSe⟩ := hrel
        clear HB0 HS0
        have e2 := (hSe.out.cell (p := ⟨B, o + 2, none⟩) lB).trans p2
        have e0 := (hSe.out.cell (p := ⟨B, o, none⟩) lB).trans p0
        by_cases hjl : j < f.len
        · obtain ⟨m, k1, n1, f1, r, b1, hme, hml, hd, ht1, htk⟩ := HR.out j hjl
          obtain ⟨b', o', rfl, hat⟩ := hl (by rintro rfl; simp [Fo.len] at hjl)
          have hat2 := Fo.at_drop hat m
          rw [hd] at hat2
          obtain ⟨c0, c1, ⟨A', C', c2, hl2'⟩, _⟩ := hat2
          have hl2 : f1.Lies w A' := hl2'
          have hnd := f.nodes_drop m
          rw [hd] at hnd
          have hkn : f1.nodes < N ∧ f1.nodes ≤ 1048576 := by simp only [Fo.nodes] at hnd; omega
          have lb : b' < w.heap.size := World.block_lt_of_cell? _ _ c0
          obtain ⟨g1, hg1⟩ : ∃ g : Fo, g = (ndE f1 k1 n1).rev.ks := ⟨_, rfl⟩
          have hgl : g1.len = f1.len := by rw [hg1]; exact rev_len_of ht1
          have KT : Hid (∀ W : World, Sees w W → Calls Try.prog 96 #[.pointer (some ⟨b', o' + m * 3, none⟩)] W fun e w' => ∃ A1 C1, e = .returned (.agg #[.int .i64 k1, .int .i64 n1, .slice A1 g1.len C1]) ∧ g1.LiesIn w' W.heap.size w'.heap.size A1 ∧ Below W.heap.size W w') := fun W h => by
            rw [hgl, hg1]
            exact IH.out f1 hkn.1 hkn.2 t a b1 k1 n1 A' C' b' (o' + m * 3) W (hl2.sees h) ht1 ((h.cell (p := ⟨b', o' + m * 3, none⟩) lb).trans c0) ((h.cell (p := ⟨b', o' + m * 3 + 1, none⟩) lb).trans c1) ((h.cell (p := ⟨b', o' + m * 3 + 2, none⟩) lb).trans c2)
          have HTK : Hid (R.take (j + 1) = (R.take j).app (.cons k1 n1 g1 .nil)) := by show _ = _; rw [htk, hg1]
          have m0 : (0 : Int) ≤ (m : Int) := Int.natCast_nonneg _
          have m1 : (m : Int) < (f.len : Int) := by omega
          rw [if_neg h7] at hme
          have hjm : j = m := by omega
          subst hjm
          obtain ⟨xs, hx⟩ := hK.out.kx
          have HX := Lib.hid hx
          have hlen : (R.take j).len = j := Fo.take_le R j (by omega)
          have hsz : w.heap.size + 2 ≤ wr.heap.size := by have := (Array.getElem?_eq_some_iff.1 hBo.out).1; omega
          obtain ⟨x0, x1, x2, y0, y1, y2⟩ := cells3 hBo.out
          have JL := Lib.hid hjl
          clear hx hme hml hd ht1 htk hat c0 c1 c2 hl2' hl2 hnd hkn hg1 hgl hK hjl
          have U0 : Sees w wr := hSe.out
          go_wp2_with fail
          go_region_law
            (first
              | (go_simp; go_at_call 96; refine (KT.out _ ?_).mono ?_; exact U0.drew; rintro e wa ⟨A1, C1, rfl, hL1, hb1⟩; have U1 := U0.drew.below hb1; have HX1 := Lib.hid (HX.out.drew.below hb1); have HB1 := (hb1.block _ (show w.heap.size + 1 < wr.heap.size by omega)).trans hBo.out; have HBr1 := (hb1.block _ (show w.heap.size < wr.heap.size by omega)).trans hBr.out; have HL1 := Lib.hid hL1; have HBB1 := Lib.hid hb1; have za : wr.heap.size ≤ wa.heap.size := hb1.size; obtain ⟨x0', x1', x2', y0', y1', y2'⟩ := cells3 HB1; have z1 : w.heap.size + 1 < wa.heap.size := (by omega); have z2 : wa.heap.size ≠ w.heap.size + 1 := (by omega); have z3 : w.heap.size + 1 ≠ wa.heap.size := (by omega); clear hL1 hb1; dsimp only)
              | (refine step_append_lies _ rfl (.tmp 33) (.tmp 41) 33 rfl (w.heap.size + 2) 35 i0 (.agg #[.int .i64 0, .int .i64 0, .slice none 0 0]) 3 40 Try.underlying33 HI.out HZ.out HS.out HB.out rfl (by decide) v (R.take j).len xs rfl (HX1.out.alloc _).own ⟨wa.heap.size, 0, none⟩ 1 1 [.int .i64 k1, .int .i64 n1, .slice A1 g1.len C1] rfl rfl (World.news_of_block (heap_new _ _ _ rfl)) (by intro u hu; simp at hu; rcases hu with rfl | rfl | rfl <;> rfl) (by decide) (by rw [hlen]; unfold maxLen; omega) (by rw [hlen]; omega) (by simp; omega) _ rfl ?_; intro g cap wb hown hgrow hat hlt; have HK2 : Hid (Kids wb (w.heap.size + 2) (R.take (j + 1)) (.slice (some ⟨g, 0, none⟩) (j + 1) cap)) := (by show Kids _ _ _ _; have hk := HX.out.drew.snoc (by simpa using hsz) HBB1.out HL1.out hown hgrow hat; rw [hlen] at hk; rw [HTK.out]; exact hk); have hvn : ∀ x, x < w.heap.size + 2 → some x ≠ v.ownBlock := (fun x hx he => absurd (HX1.out.own.lt x he.symm).1 (by omega)); have HB2 := (hgrow.block (w.heap.size + 1) (by simp; omega) (hvn _ (by omega))).trans ((Below.heap_alloc _ _ _ (by omega)).trans HB1); have HBr2 := (hgrow.block w.heap.size (by simp; omega) (hvn _ (by omega))).trans ((Below.heap_alloc _ _ _ (by omega)).trans HBr1); have U2 : Sees w wb := (Below.grown (U1.alloc _) hgrow (Below.size (U1.alloc _)) (fun x hx => (by have := (HX1.out.own.lt x hx).1; omega))); obtain ⟨x0'', x1'', x2'', y0'', y1'', y2''⟩ := cells3 HB2; clear hown hgrow hat hlt))
          all_goals
            go_wp2_with fail
            go_roundw
            case rel => exact ⟨j + 1, _, JL.out, by go_num, HK2.out.put (by omega) _, (Fo.block_setCell HB2 _).trans rfl, (Below.heap_setCell _ _ _ _ (by show w.heap.size ≠ w.heap.size + 1; omega)).trans HBr2, Below.setCell U2 (by show w.heap.size ≤ w.heap.size + 1; omega) _⟩
            case measure => have := JL.out; simp [intOf]; omega
        · obtain rfl : j = f.len := by omega
          obtain ⟨x0, x1, x2, y0, y1, y2⟩ := cells3 hBo.out
          obtain ⟨u0, u1, u2, v0, v1, v2⟩ := cells3 hBr.out
          rw [show R.take f.len = R by rw [← hrl, Fo.take_len]] at hK
          obtain ⟨A1, C1, rfl, hL⟩ := hK.out.lies
          have HL := Lib.hid hL
          rw [hrl] at hBo x2
          clear hK hL
          go_wp2_with fail
          have HBF : (((wr.setCell ⟨w.heap.size, 0, none⟩ (.int .i64 k)).setCell ⟨w.heap.size, 1, none⟩ (.int .i64 n)).setCell ⟨w.heap.size, 2, none⟩ (.slice A1 f.len C1)).heap[w.heap.size]? = some (.cells #[.int .i64 k, .int .i64 n, .slice A1 f.len C1] 35 (0, 0)) := by
            rw [Fo.block_setCell (Fo.block_setCell (Fo.block_setCell hBr.out _) _) _]; rfl
          obtain ⟨d0, d1, d2, _⟩ := cells3 HBF
          refine bodyPost_ret (v := .agg #[.int .i64 k, .int .i64 n, .slice A1 f.len C1]) (by simp [results, Try.results96, go_sem, d0, d1, d2]) rfl ⟨A1, C1, rfl, ?_, ?_⟩
          · refine (HL.out.agree (Fo.Agree.setCell (Fo.Agree.setCell (Fo.Agree.setCell (Fo.Agree.refl _ _ _) _ ?_ _) _ ?_ _) _ ?_ _)).mono (by omega) (by simp)
            all_goals (left; show w.heap.size < _; omega)
          · exact Below.setCell (Below.setCell (Below.setCell hSe.out (Nat.le_refl _) _) (Nat.le_refl _) _) (Nat.le_refl _) _
end Go.Proofs.Ytdcaelgojjnglaa
