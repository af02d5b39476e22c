/- Contracts of spec.l06Kids, l06Asks, l06Left, l06Depth. A region that draws its order, whose operations read and whose calls make memory alone: one walk of the text's order serves every order. Contract of spec.l06Tree. Contracts of spec.l06Ok, spec.ValidProg. Contracts of spec.l07Triple, spec.ValidTriple. Nodes: what impl's node values are. Plain facts, no walk. -/
import Derived.Test.YtcgbepmhfimbjaaGreatDoorVpD
import Derived.Test.YtcgbepmhfimbjaaGreatDoorValid
import Derived.Test.YtcgbepmhfimbjaaGreatDoorSep
import Derived.Deep.QuietTactic
import Derived.BigQuiet
import Derived.Deep.RegionHeld3
import Derived.Lib.SmallJoins
import Derived.Test.YtcgbepmhfimbjaaGreatDoorOk
import Derived.Test.YtcgbepmhfimbjaaGreatDoorTreeD
namespace Go.Proofs.YtcgbepmhfimbjaaGreatDoor
open Go.RowKit
set_option linter.unusedVariables false

theorem pkinds (k : Int) : (k = 1 ∨ k = 2 ∨ k = 3 ∨ k = 4 ∨ k = 5 ∨ k = 6 ∨ k = 7) ∨ (pkidC k = -1 ∧ (k == 1) = false ∧ (k == 2) = false ∧ (k == 3) = false ∧ (k == 4) = false ∧ (k == 5) = false ∧ (k == 6) = false ∧ (k == 7) = false) := by
  by_cases h : k = 1 ∨ k = 2 ∨ k = 3 ∨ k = 4 ∨ k = 5 ∨ k = 6 ∨ k = 7
  · exact Or.inl h
  · refine Or.inr ⟨?_, ?_, ?_, ?_, ?_, ?_, ?_, ?_⟩
    · unfold pkidC; rw [if_neg (by omega), if_neg (by omega), if_neg (by omega)]
    all_goals (rw [beq_eq_false_iff_ne]; omega)
theorem l06Kids_any (k : Int) (w : World) : Calls Tryz.prog 109 #[.int .i64 k] w fun e w' => e = .returned (.int .i64 (pkidC k)) ∧ w = w' := by
  rcases pkinds k with h | ⟨h0, h1, h2, h3, h4, h5, h6, h7⟩
  · rcases h with rfl | rfl | rfl | rfl | rfl | rfl | rfl
    all_goals
      go_enter Tryz.func109, Tryz.ntmps109
      go_wp2
      go_ret
      exact ⟨rfl, rfl⟩
  · have H0 := Lib.hid h0; clear h0
    go_enter Tryz.func109, Tryz.ntmps109
    go_wp2
    go_ret
    exact ⟨ret_int H0.out.symm, rfl⟩
theorem l06Asks_any (k : Int) (w : World) : Calls Tryz.prog 110 #[.int .i64 k] w fun e w' => e = .returned (.bool (askB k)) ∧ w = w' := by
  rcases pkinds k with h | ⟨h0, h1, h2, h3, h4, h5, h6, h7⟩
  · rcases h with rfl | rfl | rfl | rfl | rfl | rfl | rfl
    all_goals
      go_enter Tryz.func110, Tryz.ntmps110
      go_wp2
      go_ret
      exact ⟨rfl, rfl⟩
  · have H0 : Hid (askB k = false) := by show _ = _; unfold askB; rw [h4, h6, h7]; rfl
    clear h0
    go_enter Tryz.func110, Tryz.ntmps110
    go_wp2
    go_ret
    exact ⟨ret_bool H0.out.symm, rfl⟩

set_option maxHeartbeats 1000000 in
theorem l06Left_any : ∀ (N : Nat) (f : Pg), f.nodes < N → f.nodes ≤ 1048576 → ∀ (l : Int) (A : Option Addr) (C b o : Nat) (w : World), 0 ≤ l → l ≤ 1048576 → f.Lies w A → w.cell? ⟨b, o + 5, none⟩ = some (.slice A f.len C) →
      Calls Tryz.prog 74 #[.pointer (some ⟨b, o, none⟩), .int .i64 l] w fun e w' => e = .returned (.int .i64 (f.left (l - 1))) ∧ w = w' := by
  intro N
  induction N with
  | zero => intro f hN; exact absurd hN (Nat.not_lt_zero _)
  | succ N ih =>
    intro f hN hm l A C b o w hl0 hl1 hl hc2
    have IH := Lib.hid ih; clear ih
    have hln := f.len_le_nodes
    go_enter Tryz.func74, Tryz.ntmps74
    go_wp2_with fail
    go_loop [1, 5] (fun x i => ∃ (j : Nat) (q : Int), j ≤ f.len ∧ i = .int .i64 j ∧ x = .int .i64 q ∧ -1 ≤ q ∧ q ≤ 1048576 ∧ Hid (f.left (l - 1) = (f.drop j).left q)) (fun _ i => f.len - (intOf i).toNat)
    case atStart => exact ⟨0, _, Nat.zero_le _, rfl, rfl, by omega, by omega, rfl⟩
    case round =>
      obtain ⟨j, q, hj, rfl, rfl, hq0, hq1, hq⟩ := hrel
      by_cases hjl : j < f.len
      · obtain ⟨b', o', rfl, hat⟩ := hl (by rintro rfl; simp [Pg.len] at hjl)
        obtain ⟨k', n', ck', cn', cf', ks, r, A0, C0, A1, C1, e1, e2, c0, c1, c2, c3, c4, hl0', c5, hl1'⟩ := Pg.Lies.row hat hjl
        by_cases hneg : q < 0
        · have hq2 : Hid (f.left (l - 1) = q) := by
            show _ = _
            rw [hq.out, Pg.left_neg _ hneg]
          clear hq
          go_wp2_with fail
          go_ret
          exact ⟨ret_int hq2.out.symm, rfl⟩
        · have hnd := f.nodes_drop j
          rw [e1.out] at hnd
          simp only [Pg.nodes] at hnd
          have hkn : ks.nodes < N ∧ ks.nodes ≤ 1048576 := by omega
          have hg := ks.left_ge (q - 1) (by omega)
          obtain ⟨x, hx, hx0, hx1⟩ : ∃ x : Int, x = ks.left (q - 1) ∧ -1 ≤ x ∧ x ≤ 1048576 := ⟨_, rfl, hg.1, by omega⟩
          have hq2 : Hid (f.left (l - 1) = (f.drop (j + 1)).left x) := by
            show _ = _
            rw [hq.out, e1.out, hx, e2.out]
            simp only [Pg.left]
            rw [if_neg hneg]
          have KC : Hid (∀ W : World, W = w → Calls Tryz.prog 74 #[.pointer (some ⟨b', o' + j * 6, none⟩), .int .i64 q] W fun e w' => e = .returned (.int .i64 x) ∧ W = w') := fun W h => by subst h; rw [hx]; exact IH.out ks hkn.1 hkn.2 q A1 C1 b' _ _ (by omega) hq1 hl1' c5
          clear hnd hq hx hg
          go_wp2_with fail
          refine (KC.out _ rfl).mono ?_
          rintro e w' ⟨rfl, rfl⟩
          go_wp2_with fail
          go_round
          case rel => exact ⟨j + 1, x, by omega, by go_num, rfl, hx0, hx1, hq2⟩
          case measure => simp [intOf]; omega
      · obtain rfl : j = f.len := by omega
        have hq2 : Hid (f.left (l - 1) = q) := by
          show _ = _
          rw [hq.out, Pg.drop_len]; rfl
        clear hq
        go_wp2_with fail
        go_ret
        exact ⟨ret_int hq2.out.symm, rfl⟩

set_option maxHeartbeats 1000000 in
theorem l06Depth_any : ∀ (N : Nat) (f : Pg), f.nodes < N → f.nodes ≤ 1048576 → ∀ (A : Option Addr) (C b o : Nat) (w : World), f.Lies w A → w.cell? ⟨b, o + 5, none⟩ = some (.slice A f.len C) →
      Calls Tryz.prog 75 #[.pointer (some ⟨b, o, none⟩)] w fun e w' => e = .returned (.int .i64 (f.deep + 1)) ∧ w = w' := by
  intro N
  induction N with
  | zero => intro f hN; exact absurd hN (Nat.not_lt_zero _)
  | succ N ih =>
    intro f hN hm A C b o w hl hc2
    have IH := Lib.hid ih; clear ih
    have hln := f.len_le_nodes
    have hdp := f.deep_le
    have hct := f.cnt_le
    go_enter Tryz.func75, Tryz.ntmps75
    go_wp2_with fail
    go_loop [3, 4] (fun x i => ∃ (j : Nat) (q : Int), j ≤ f.len ∧ i = .int .i64 j ∧ x = .int .i64 q ∧ 0 ≤ q ∧ q ≤ 1048576 ∧ Hid ((f.deep : Int) = max q (f.drop j).deep)) (fun _ i => f.len - (intOf i).toNat)
    case atStart => exact ⟨0, 0, Nat.zero_le _, rfl, rfl, by omega, by omega, by show _ = _; simp only [Pg.drop]; omega⟩
    case round =>
      obtain ⟨j, q, hj, rfl, rfl, hq0, hq1, hq⟩ := hrel
      by_cases hjl : j < f.len
      · obtain ⟨b', o', rfl, hat⟩ := hl (by rintro rfl; simp [Pg.len] at hjl)
        obtain ⟨k', n', ck', cn', cf', ks, r, A0, C0, A1, C1, e1, e2, c0, c1, c2, c3, c4, hl0', c5, hl1⟩ := Pg.Lies.row hat hjl
        have hnd := f.nodes_drop j
        have hq' := hq.out
        rw [e1.out] at hnd hq'
        simp only [Pg.nodes, Pg.deep] at hnd hq'
        have hkd := ks.deep_le
        have hkc := ks.cnt_le
        have hkn : ks.nodes < N ∧ ks.nodes ≤ 1048576 := by omega
        obtain ⟨x, hx, hx0, hx1⟩ : ∃ x : Int, x = (ks.deep : Int) + 1 ∧ 0 ≤ x ∧ x ≤ 1048576 := ⟨_, rfl, by omega, by omega⟩
        have KC : Hid (∀ W : World, W = w → Calls Tryz.prog 75 #[.pointer (some ⟨b', o' + j * 6, none⟩)] W fun e w' => e = .returned (.int .i64 x) ∧ W = w') := fun W h => by subst h; rw [hx]; exact IH.out ks hkn.1 hkn.2 A1 C1 b' _ _ hl1 c5
        obtain ⟨y, hy, hy0, hy1⟩ : ∃ y : Int, y = max q x ∧ 0 ≤ y ∧ y ≤ 1048576 := ⟨_, rfl, by omega, by omega⟩
        have KM : Hid (∀ W : World, Calls Tryz.prog 92 #[.int .i64 q, .int .i64 x] W fun e w' => e = .returned (.int .i64 y) ∧ W = w') := fun W => by rw [hy]; exact l00Max_any q x W
        have hq2 : Hid ((f.deep : Int) = max y (f.drop (j + 1)).deep) := by
          show _ = _
          rw [e2.out]
          omega
        clear hnd hq hq' hx hy hkd hkc
        go_wp2_with fail
        refine (KC.out _ rfl).mono ?_
        rintro e w' ⟨rfl, rfl⟩
        go_wp2_with fail
        refine (KM.out _).mono ?_
        rintro e w' ⟨rfl, rfl⟩
        go_wp2_with fail
        go_round
        case rel => exact ⟨j + 1, y, by omega, by go_num, rfl, hy0, hy1, hq2⟩
        case measure => simp [intOf]; omega
      · obtain rfl : j = f.len := by omega
        have hq2 : Hid ((f.deep : Int) + 1 = q + 1) := by
          have := hq.out
          rw [Pg.drop_len] at this
          simp only [Pg.deep] at this
          show _ = _
          omega
        clear hq
        go_wp2_with fail
        go_ret
        exact ⟨ret_int hq2.out.symm, rfl⟩
end Go.Proofs.YtcgbepmhfimbjaaGreatDoor

namespace Go.Proofs.YtcgbepmhfimbjaaGreatDoor
open Go.RowKit

theorem wp_region_quietC (w0 : World) (L : List (Nat × Nat × Value)) {P : Program} {id : Nat} {Q : Exit → Act → World → Prop} {a : Act} {w : World} {l : List Oper} (hm : P.follows .mixedOrders = true) (hB : Region.lexB .any l.toArray = true) (hC : St w0 L w)
    (h : wpQuiet P l.toArray (St w0 L) (fun a' => ∀ w', St w0 L w' → Q .normal a' w') l a) : (Code.region id l.toArray true).wp P Q a w :=
  wp_region_quiet (C := St w0 L) hm hB hC.drew (by simpa using h)

/-- One operation: what it yields in every world of the class. -/
theorem quietC_op {P : Program} {o : Oper} {a : Act} {C : World → Prop} {K : Act → Prop} (v : Value) (h : ∀ W, C W → o.quietAt P a C W v) (hk : K (a.put o.dst v)) : o.quiet P a C K := ⟨v, h, hk⟩

/-- A call: what it answers, wherever it is made in the class. -/
theorem quietC_call {P : Program} {w0 : World} {L : List (Nat × Nat × Value)} {f : FuncId} {args : Array Value} {W : World} {v : Value} (hW : St w0 L W) (h : Calls P f args W fun e w' => e = .returned v ∧ Below W.heap.size W w') :
    Calls P f args W fun e w' => e = .returned v ∧ St w0 L w' := h.mono fun _ _ ⟨he, hb⟩ => ⟨he, hW.below hb⟩

end Go.Proofs.YtcgbepmhfimbjaaGreatDoor

namespace Go.Proofs.YtcgbepmhfimbjaaGreatDoor
open Go.RowKit
set_option linter.unusedVariables false

set_option maxHeartbeats 8000000 in
set_option maxRecDepth 100000 in
theorem l06Tree_any : ∀ (N : Nat) (f : Pg), f.nodes < N → f.nodes ≤ 1048576 → f.Fits → ∀ (cf : Fo), cf.nodes ≤ 1048576 → cf.Fits → ∀ (t a k n ck cn : Int) (A B : Option Addr) (C D b o : Nat) (w : World), 0 ≤ t → t ≤ 3 → 0 ≤ a → a ≤ 4 → cf.Lies w A → f.Lies w B →
      w.cell? ⟨b, o, none⟩ = some (.int .i64 k) → w.cell? ⟨b, o + 1, none⟩ = some (.int .i64 n) → w.cell? ⟨b, o + 2, none⟩ = some (.int .i64 ck) → w.cell? ⟨b, o + 3, none⟩ = some (.int .i64 cn) → w.cell? ⟨b, o + 4, none⟩ = some (.slice A cf.len C) → w.cell? ⟨b, o + 5, none⟩ = some (.slice B f.len D) →
      Calls Tryz.prog 76 #[.agg #[.int .i64 t, .int .i64 a], .pointer (some ⟨b, o, none⟩)] w fun e w' => e = .returned (.bool (ptreeE t a k n ck cn cf f)) ∧ Below w.heap.size w w' := by
  intro N
  induction N with
  | zero => intro f hN; exact absurd hN (Nat.not_lt_zero _)
  | succ N ih =>
    intro f hN hm hf cf hcm hcf t a k n ck cn A B C D b o w ht0 ht1 ha0 ha1 hA0 hB0 g0 g1 g2 g3 g4 g5
    have IH := Lib.hid ih; clear ih
    have hln := f.len_le_nodes
    obtain ⟨w0, hw0⟩ : ∃ w0, w0 = w.alloc (.cells #[.int .i64 t, .int .i64 a] 34) := ⟨_, rfl⟩
    have B0 : Sees w w0 := by rw [hw0]; exact (Sees.refl w).alloc _
    have hs0 : w0.heap[w.heap.size]? = some (.cells #[.int .i64 t, .int .i64 a] 34 (0, 0)) := by rw [hw0]; exact heap_new _ _ _ rfl
    have hA := hA0.sees B0; have hB := hB0.sees B0
    have H0 : Hid (St w0 [(w.heap.size, 0, .int .i64 t), (w.heap.size, 1, .int .i64 a), (b, o, .int .i64 k), (b, o + 1, .int .i64 n), (b, o + 2, .int .i64 ck), (b, o + 3, .int .i64 cn), (b, o + 4, .slice A cf.len C), (b, o + 5, .slice B f.len D)] w0) := ⟨Sees.refl _, Fo.cell_of_block hs0 0, Fo.cell_of_block hs0 1, kc B0 g0, kc B0 g1, kc B0 g2, kc B0 g3, kc B0 g4, kc B0 g5, trivial⟩
    have FIN : Hid (∀ W : World, Sees w0 W → Below w.heap.size w W) := fun W h => B0.below h
    obtain ⟨qk, hqk⟩ : ∃ q : Int, q = pkidC k := ⟨_, rfl⟩
    obtain ⟨qa, hqa⟩ : ∃ q : Bool, q = askB k := ⟨_, rfl⟩
    obtain ⟨qc, hqc⟩ : ∃ q : Bool, q = condV t a ck cn cf := ⟨_, rfl⟩
    obtain ⟨qn, hqn⟩ : ∃ q : Bool, q = noneC ck cn cf := ⟨_, rfl⟩
    obtain ⟨qi, hqi⟩ : ∃ q : Bool, q = inB n 0 (a - 1) := ⟨_, rfl⟩
    have HE : Hid (ptreeE t a k n ck cn cf f = (decide ((f.len : Int) = qk) && (((if k = 3 then qi else decide (n = 0)) && (if qa = true then qc else qn)) && f.tree t a))) := by
      show _ = _
      unfold ptreeE pform fieldV
      rw [← hqk, ← hqa, ← hqc, ← hqn]
      have e : belowB n (pnumC a k) = if k = 3 then qi else decide (n = 0) := by
        unfold belowB pnumC
        split
        · rw [hqi]; unfold inB; rw [decide_eq_decide]; omega
        · rw [decide_eq_decide]; omega
      rw [e, Bool.and_assoc]
    have KK : Hid (∀ W : World, Sees w0 W → Calls Tryz.prog 109 #[.int .i64 k] W fun e w' => e = .returned (.int .i64 qk) ∧ Below W.heap.size W w') := fun W _ => by rw [hqk]; exact (l06Kids_any k W).mono fun e w' h => ⟨h.1, by rw [← h.2]; exact Below.refl _ _⟩
    have KA : Hid (∀ W : World, Sees w0 W → Calls Tryz.prog 110 #[.int .i64 k] W fun e w' => e = .returned (.bool qa) ∧ Below W.heap.size W w') := fun W _ => by rw [hqa]; exact (l06Asks_any k W).mono fun e w' h => ⟨h.1, by rw [← h.2]; exact Below.refl _ _⟩
    have KI : Hid (∀ W : World, Sees w0 W → Calls Tryz.prog 90 #[.int .i64 n, .int .i64 0, .int .i64 (a - 1)] W fun e w' => e = .returned (.bool qi) ∧ Below W.heap.size W w') := fun W _ => by rw [hqi]; exact (in_any n 0 (a - 1) W).mono fun e w' h => ⟨h.1, by rw [← h.2]; exact Below.refl _ _⟩
    have KC : Hid (∀ W : World, Sees w0 W → Calls Tryz.prog 44 #[.agg #[.int .i64 t, .int .i64 a], .pointer (some ⟨b, o + 2, none⟩)] W fun e w' => e = .returned (.bool qc) ∧ Below W.heap.size W w') := fun W h => by rw [hqc]; exact l06Cond_any t a ck cn cf hcm hcf A C b (o + 2) W (hA.sees h) (kc h (kc B0 g2)) (kc h (kc B0 g3)) (kc h (kc B0 g4))
    have KN : Hid (∀ W : World, Sees w0 W → Calls Tryz.prog 111 #[.pointer (some ⟨b, o + 2, none⟩)] W fun e w' => e = .returned (.bool qn) ∧ Below W.heap.size W w') := fun W h => by rw [hqn]; exact l06None_any ck cn cf A C b (o + 2) W (kc h (kc B0 g2)) (kc h (kc B0 g3)) (kc h (kc B0 g4))
    have HB := Lib.hid hB; have HF := Lib.hid hf; have HT := Lib.hid (And.intro ht0 (And.intro ht1 (And.intro ha0 ha1)))
    have wa : IntKind.i64.wrap (a - 1) = a - 1 := IntWalk.i64_in _ (by omega)
    clear hA hB hA0 hB0 hcm hcf hf g0 g1 g2 g3 g4 g5 hqk hqa hqc hqn hqi B0 hs0 ht0 ht1 ha0 ha1
    go_enter Tryz.func76, Tryz.ntmps76
    have HW0 := Lib.hid hw0
    go_wp2_with fail
    rw [← hw0]
    clear hw0
    by_cases hlen : (f.len : Int) = qk
    case neg =>
      have tl : ((f.len : Int) != qk) = true := by rw [bne_iff_ne]; exact hlen
      have HX : Hid (decide ((f.len : Int) = qk) = false) := decide_eq_false hlen
      clear hlen
      refine wp_region_quietC w0 [(w.heap.size, 0, .int .i64 t), (w.heap.size, 1, .int .i64 a), (b, o, .int .i64 k), (b, o + 1, .int .i64 n), (b, o + 2, .int .i64 ck), (b, o + 3, .int .i64 cn), (b, o + 4, .slice A cf.len C), (b, o + 5, .slice B f.len D)] (by kernel_rfl) (by kernel_rfl) H0.out ?_
      repeat (first | go_big_quiet_skip | (go_big_quiet_want; apply Exists.intro; refine ⟨fun W hW => ?_, ?_⟩; focus (have hK := Lib.hid hW; obtain ⟨hs, hc⟩ := hW; simp only [Has, and_true] at hc; go_simp; (first | rfl | exact ⟨rfl, rfl⟩ | exact quietC_call hK.out (KK.out _ hs)))) | (go_simp; go_big_quiet_on))
      refine wpQuiet_nil ?_
      intro w1 Hw1
      go_wp2_with fail
      go_ret
      exact ⟨ret_bool (by rw [HE.out]; rw [HX.out]; rfl), FIN.out _ Hw1.1⟩
    have tl : ((f.len : Int) != qk) = false := by simp [hlen]
    have HX : Hid (decide ((f.len : Int) = qk) = true) := decide_eq_true hlen
    clear hlen
    refine wp_region_quietC w0 [(w.heap.size, 0, .int .i64 t), (w.heap.size, 1, .int .i64 a), (b, o, .int .i64 k), (b, o + 1, .int .i64 n), (b, o + 2, .int .i64 ck), (b, o + 3, .int .i64 cn), (b, o + 4, .slice A cf.len C), (b, o + 5, .slice B f.len D)] (by kernel_rfl) (by kernel_rfl) H0.out ?_
    repeat (first | go_big_quiet_skip | (go_big_quiet_want; apply Exists.intro; refine ⟨fun W hW => ?_, ?_⟩; focus (have hK := Lib.hid hW; obtain ⟨hs, hc⟩ := hW; simp only [Has, and_true] at hc; go_simp; (first | rfl | exact ⟨rfl, rfl⟩ | exact quietC_call hK.out (KK.out _ hs)))) | (go_simp; go_big_quiet_on))
    refine wpQuiet_nil ?_
    intro w1 Hw1
    have G1 := Lib.hid Hw1
    clear Hw1 tl KK H0
    go_wp2_with fail
    obtain ⟨qx, hqx⟩ : ∃ q : Bool, q = if k = 3 then qi else decide (n = 0) := ⟨_, rfl⟩
    have hR3 : ((k == 3) = true ∧ (k != 3) = false ∧ qi = qx) ∨ (k == 3) = false ∧ (k != 3) = true ∧ (n != 0) = !qx := by
      by_cases h3 : k = 3
      · left; rw [hqx, if_pos h3]; exact ⟨by simp [h3], by simp [h3], rfl⟩
      · right; rw [hqx, if_neg h3]; refine ⟨by rw [beq_eq_false_iff_ne]; exact h3, by rw [bne_iff_ne]; exact h3, ?_⟩; by_cases h0 : n = 0 <;> simp [h0]
    have HQX : Hid ((if k = 3 then qi else decide (n = 0)) = qx) := hqx.symm
    clear hqx
    cases qx
    case false =>
      rcases hR3 with ⟨h3, h3', hi⟩ | ⟨h3, h3', hi⟩
      · subst hi
        refine wp_region_quietC w0 [(w.heap.size, 0, .int .i64 t), (w.heap.size, 1, .int .i64 a), (b, o, .int .i64 k), (b, o + 1, .int .i64 n), (b, o + 2, .int .i64 ck), (b, o + 3, .int .i64 cn), (b, o + 4, .slice A cf.len C), (b, o + 5, .slice B f.len D)] (by kernel_rfl) (by kernel_rfl) G1.out ?_
        repeat (first | go_big_quiet_skip | (go_big_quiet_want; apply Exists.intro; refine ⟨fun W hW => ?_, ?_⟩; focus (have hK := Lib.hid hW; obtain ⟨hs, hc⟩ := hW; simp only [Has, and_true] at hc; go_simp; (first | rfl | exact ⟨rfl, rfl⟩ | exact quietC_call hK.out (KI.out _ hs)))) | (go_simp; go_big_quiet_on))
        refine wpQuiet_nil ?_
        intro w2 Hw2
        go_wp2_with fail
        go_ret
        exact ⟨ret_bool (by rw [HE.out]; rw [HX.out, HQX.out]; rfl), FIN.out _ Hw2.1⟩
      · have hn : (n != 0) = true := hi; clear hi
        refine wp_region_quietC w0 [(w.heap.size, 0, .int .i64 t), (w.heap.size, 1, .int .i64 a), (b, o, .int .i64 k), (b, o + 1, .int .i64 n), (b, o + 2, .int .i64 ck), (b, o + 3, .int .i64 cn), (b, o + 4, .slice A cf.len C), (b, o + 5, .slice B f.len D)] (by kernel_rfl) (by kernel_rfl) G1.out ?_
        repeat (first | go_big_quiet_skip | (go_big_quiet_want; apply Exists.intro; refine ⟨fun W hW => ?_, ?_⟩; focus (have hK := Lib.hid hW; obtain ⟨hs, hc⟩ := hW; simp only [Has, and_true] at hc; go_simp; (first | rfl | exact ⟨rfl, rfl⟩ | exact quietC_call hK.out (KI.out _ hs)))) | (go_simp; go_big_quiet_on))
        refine wpQuiet_nil ?_
        intro w2 Hw2
        go_wp2_with fail
        go_ret
        exact ⟨ret_bool (by rw [HE.out]; rw [HX.out, HQX.out]; rfl), FIN.out _ Hw2.1⟩
    have HR3 := Lib.hid hR3
    clear hR3
    rcases HR3.out with ⟨h3, h3', hi⟩ | ⟨h3, h3', hi⟩
    · subst hi
      refine wp_region_quietC w0 [(w.heap.size, 0, .int .i64 t), (w.heap.size, 1, .int .i64 a), (b, o, .int .i64 k), (b, o + 1, .int .i64 n), (b, o + 2, .int .i64 ck), (b, o + 3, .int .i64 cn), (b, o + 4, .slice A cf.len C), (b, o + 5, .slice B f.len D)] (by kernel_rfl) (by kernel_rfl) G1.out ?_
      repeat (first | go_big_quiet_skip | (go_big_quiet_want; apply Exists.intro; refine ⟨fun W hW => ?_, ?_⟩; focus (have hK := Lib.hid hW; obtain ⟨hs, hc⟩ := hW; simp only [Has, and_true] at hc; go_simp; (first | rfl | exact ⟨rfl, rfl⟩ | exact quietC_call hK.out (KI.out _ hs)))) | (go_simp; go_big_quiet_on))
      refine wpQuiet_nil ?_
      intro w2 Hw2
      have G2 := Lib.hid Hw2
      clear Hw2
      go_wp2_with fail
      cases qa
      · cases qn
        · skip
          refine wp_region_quietC w0 [(w.heap.size, 0, .int .i64 t), (w.heap.size, 1, .int .i64 a), (b, o, .int .i64 k), (b, o + 1, .int .i64 n), (b, o + 2, .int .i64 ck), (b, o + 3, .int .i64 cn), (b, o + 4, .slice A cf.len C), (b, o + 5, .slice B f.len D)] (by kernel_rfl) (by kernel_rfl) G2.out ?_
          repeat (first | go_big_quiet_skip | (go_big_quiet_want; apply Exists.intro; refine ⟨fun W hW => ?_, ?_⟩; focus (have hK := Lib.hid hW; obtain ⟨hs, hc⟩ := hW; simp only [Has, and_true] at hc; go_simp; (first | rfl | exact ⟨rfl, rfl⟩ | exact quietC_call hK.out (KA.out _ hs) | exact quietC_call hK.out (KN.out _ hs)))) | (go_simp; go_big_quiet_on))
          refine wpQuiet_nil ?_
          intro w3 Hw3
          go_wp2_with fail
          go_ret
          exact ⟨ret_bool (by rw [HE.out]; rw [HX.out, HQX.out]; rfl), FIN.out _ Hw3.1⟩
        · skip
          refine wp_region_quietC w0 [(w.heap.size, 0, .int .i64 t), (w.heap.size, 1, .int .i64 a), (b, o, .int .i64 k), (b, o + 1, .int .i64 n), (b, o + 2, .int .i64 ck), (b, o + 3, .int .i64 cn), (b, o + 4, .slice A cf.len C), (b, o + 5, .slice B f.len D)] (by kernel_rfl) (by kernel_rfl) G2.out ?_
          repeat (first | go_big_quiet_skip | (go_big_quiet_want; apply Exists.intro; refine ⟨fun W hW => ?_, ?_⟩; focus (have hK := Lib.hid hW; obtain ⟨hs, hc⟩ := hW; simp only [Has, and_true] at hc; go_simp; (first | rfl | exact ⟨rfl, rfl⟩ | exact quietC_call hK.out (KA.out _ hs) | exact quietC_call hK.out (KN.out _ hs)))) | (go_simp; go_big_quiet_on))
          refine wpQuiet_nil ?_
          intro w3 Hw3
          have HD : Hid (ptreeE t a k n ck cn cf f = f.tree t a) := by show _ = _; rw [HE.out, HX.out, HQX.out]; rfl
          have G3 := Lib.hid Hw3
          clear Hw3 HE HX HQX KA KC KN KI G1 G2
          obtain ⟨_, z0, z1, z2, z3, z4, z5, z6, z7, _⟩ := G3.out
          go_wp2_with fail
          clear z0 z1 z2 z3 z4 z5 z6 z7
          go_loopw [5] (fun i wr => ∃ j : Nat, j ≤ f.len ∧ i = .int .i64 j ∧ Hid (f.tree t a = (f.drop j).tree t a) ∧ Hid (St w0 [(w.heap.size, 0, .int .i64 t), (w.heap.size, 1, .int .i64 a), (b, o, .int .i64 k), (b, o + 1, .int .i64 n), (b, o + 2, .int .i64 ck), (b, o + 3, .int .i64 cn), (b, o + 4, .slice A cf.len C), (b, o + 5, .slice B f.len D)] wr)) (fun i _ => f.len - (intOf i).toNat)
          case atStart => exact ⟨0, Nat.zero_le _, rfl, rfl, G3.out⟩
          case round =>
            obtain ⟨j, hj, rfl, hq, G⟩ := hrel
            clear G3
            obtain ⟨_, z0, z1, z2, z3, z4, z5, z6, z7, _⟩ := G.out
            by_cases hjl : j < f.len
            · obtain ⟨b', o', rfl, hat⟩ := (HB.out.sees G.out.1) (by rintro rfl; simp [Pg.len] at hjl)
              obtain ⟨k', n', ck', cn', cf', ks, r, A1, C1, B1, D1, e1, e2, c0, c1, c2, c3, c4, hl1, c5, hl2⟩ := Pg.Lies.row hat hjl
              have hfd := Pg.fits_drop HF.out j
              have hnd := f.nodes_drop j
              rw [e1.out] at hfd hnd
              simp only [Pg.nodes] at hnd
              have hq' : Hid (f.tree t a = (ptreeE t a k' n' ck' cn' cf' ks && (f.drop (j + 1)).tree t a)) := by show _ = _; rw [hq.out, e1.out, e2.out, Pg.tree_cons]
              obtain ⟨q2, hqe⟩ : ∃ q2 : Bool, q2 = ptreeE t a k' n' ck' cn' cf' ks := ⟨_, rfl⟩
              rw [← hqe] at hq'
              have KR : Hid (∀ W : World, Sees wr W → Calls Tryz.prog 76 #[.agg #[.int .i64 t, .int .i64 a], .pointer (some ⟨b', o' + j * 6, none⟩)] W fun e w' => e = .returned (.bool q2) ∧ Below W.heap.size W w') := fun W h => by
                rw [hqe]
                exact IH.out ks (by omega) (by omega) hfd.2.2.1 cf' (by omega) hfd.1.2 t a k' n' ck' cn' A1 B1 C1 D1 b' _ W HT.out.1 HT.out.2.1 HT.out.2.2.1 HT.out.2.2.2 (hl1.sees h) (hl2.sees h) (kc h c0) (kc h c1) (kc h c2) (kc h c3) (kc h c4) (kc h c5)
              have j0 : (0 : Int) ≤ (j : Int) := Int.natCast_nonneg _
              have j1 : (j : Int) < (f.len : Int) := by omega
              have JL := Lib.hid hjl
              have GG : Hid (St wr [(w.heap.size, 0, .int .i64 t), (w.heap.size, 1, .int .i64 a), (b, o, .int .i64 k), (b, o + 1, .int .i64 n), (b, o + 2, .int .i64 ck), (b, o + 3, .int .i64 cn), (b, o + 4, .slice A cf.len C), (b, o + 5, .slice (some ⟨b', o', none⟩) f.len D)] wr) := ⟨Sees.refl _, z0, z1, z2, z3, z4, z5, z6, z7, trivial⟩
              clear hqe hq hfd hnd c0 c1 c2 c3 c4 c5 hl1 hl2 hat hjl e1 e2
              go_wp2_with fail
              clear z0 z1 z2 z3 z4 z5 z6 z7
              cases q2
              · skip
                refine wp_region_quietC wr [(w.heap.size, 0, .int .i64 t), (w.heap.size, 1, .int .i64 a), (b, o, .int .i64 k), (b, o + 1, .int .i64 n), (b, o + 2, .int .i64 ck), (b, o + 3, .int .i64 cn), (b, o + 4, .slice A cf.len C), (b, o + 5, .slice (some ⟨b', o', none⟩) f.len D)] (by kernel_rfl) (by kernel_rfl) GG.out ?_
                repeat (first | go_big_quiet_skip | (go_big_quiet_want; apply Exists.intro; refine ⟨fun W hW => ?_, ?_⟩; focus (have hK := Lib.hid hW; obtain ⟨hs, hc⟩ := hW; simp only [Has, and_true] at hc; go_simp; (first | rfl | exact ⟨rfl, rfl⟩ | exact quietC_call hK.out (KR.out _ hs)))) | (go_simp; go_big_quiet_on))
                refine wpQuiet_nil ?_
                intro w4 Hw4
                have HX4 := Lib.hid (G.out.1.below Hw4.1)
                clear Hw4
                go_wp2_with fail
                go_ret
                exact ⟨ret_bool (by rw [HD.out, hq'.out]; rfl), FIN.out _ HX4.out⟩
              · skip
                refine wp_region_quietC wr [(w.heap.size, 0, .int .i64 t), (w.heap.size, 1, .int .i64 a), (b, o, .int .i64 k), (b, o + 1, .int .i64 n), (b, o + 2, .int .i64 ck), (b, o + 3, .int .i64 cn), (b, o + 4, .slice A cf.len C), (b, o + 5, .slice (some ⟨b', o', none⟩) f.len D)] (by kernel_rfl) (by kernel_rfl) GG.out ?_
                repeat (first | go_big_quiet_skip | (go_big_quiet_want; apply Exists.intro; refine ⟨fun W hW => ?_, ?_⟩; focus (have hK := Lib.hid hW; obtain ⟨hs, hc⟩ := hW; simp only [Has, and_true] at hc; go_simp; (first | rfl | exact ⟨rfl, rfl⟩ | exact quietC_call hK.out (KR.out _ hs)))) | (go_simp; go_big_quiet_on))
                refine wpQuiet_nil ?_
                intro w4 Hw4
                have G5 : Hid (St w0 [(w.heap.size, 0, .int .i64 t), (w.heap.size, 1, .int .i64 a), (b, o, .int .i64 k), (b, o + 1, .int .i64 n), (b, o + 2, .int .i64 ck), (b, o + 3, .int .i64 cn), (b, o + 4, .slice A cf.len C), (b, o + 5, .slice (some ⟨b', o', none⟩) f.len D)] w4) := St.below G.out Hw4.1
                have hq2 : Hid (f.tree t a = (f.drop (j + 1)).tree t a) := hq'.out
                clear Hw4 hq'
                go_wp2_with fail
                go_roundw
                case rel => exact ⟨j + 1, JL.out, by go_num, hq2, G5.out⟩
                case measure => have := JL.out; simp [intOf]; omega
            · obtain rfl : j = f.len := by omega
              have hq2 : Hid (f.tree t a = true) := by show _ = _; rw [hq.out, Pg.drop_len]; rfl
              clear hq
              go_wp2_with fail
              go_ret
              exact ⟨ret_bool (HD.out.trans hq2.out).symm, FIN.out _ G.out.1⟩
      · cases qc
        · skip
          refine wp_region_quietC w0 [(w.heap.size, 0, .int .i64 t), (w.heap.size, 1, .int .i64 a), (b, o, .int .i64 k), (b, o + 1, .int .i64 n), (b, o + 2, .int .i64 ck), (b, o + 3, .int .i64 cn), (b, o + 4, .slice A cf.len C), (b, o + 5, .slice B f.len D)] (by kernel_rfl) (by kernel_rfl) G2.out ?_
          repeat (first | go_big_quiet_skip | (go_big_quiet_want; apply Exists.intro; refine ⟨fun W hW => ?_, ?_⟩; focus (have hK := Lib.hid hW; obtain ⟨hs, hc⟩ := hW; simp only [Has, and_true] at hc; go_simp; (first | rfl | exact ⟨rfl, rfl⟩ | exact quietC_call hK.out (KA.out _ hs) | exact quietC_call hK.out (KC.out _ hs)))) | (go_simp; go_big_quiet_on))
          refine wpQuiet_nil ?_
          intro w3 Hw3
          go_wp2_with fail
          go_ret
          exact ⟨ret_bool (by rw [HE.out]; rw [HX.out, HQX.out]; rfl), FIN.out _ Hw3.1⟩
        · skip
          refine wp_region_quietC w0 [(w.heap.size, 0, .int .i64 t), (w.heap.size, 1, .int .i64 a), (b, o, .int .i64 k), (b, o + 1, .int .i64 n), (b, o + 2, .int .i64 ck), (b, o + 3, .int .i64 cn), (b, o + 4, .slice A cf.len C), (b, o + 5, .slice B f.len D)] (by kernel_rfl) (by kernel_rfl) G2.out ?_
          repeat (first | go_big_quiet_skip | (go_big_quiet_want; apply Exists.intro; refine ⟨fun W hW => ?_, ?_⟩; focus (have hK := Lib.hid hW; obtain ⟨hs, hc⟩ := hW; simp only [Has, and_true] at hc; go_simp; (first | rfl | exact ⟨rfl, rfl⟩ | exact quietC_call hK.out (KA.out _ hs) | exact quietC_call hK.out (KC.out _ hs)))) | (go_simp; go_big_quiet_on))
          refine wpQuiet_nil ?_
          intro w3 Hw3
          have HD : Hid (ptreeE t a k n ck cn cf f = f.tree t a) := by show _ = _; rw [HE.out, HX.out, HQX.out]; rfl
          have G3 := Lib.hid Hw3
          clear Hw3 HE HX HQX KA KC KN KI G1 G2
          obtain ⟨_, z0, z1, z2, z3, z4, z5, z6, z7, _⟩ := G3.out
          go_wp2_with fail
          clear z0 z1 z2 z3 z4 z5 z6 z7
          go_loopw [5] (fun i wr => ∃ j : Nat, j ≤ f.len ∧ i = .int .i64 j ∧ Hid (f.tree t a = (f.drop j).tree t a) ∧ Hid (St w0 [(w.heap.size, 0, .int .i64 t), (w.heap.size, 1, .int .i64 a), (b, o, .int .i64 k), (b, o + 1, .int .i64 n), (b, o + 2, .int .i64 ck), (b, o + 3, .int .i64 cn), (b, o + 4, .slice A cf.len C), (b, o + 5, .slice B f.len D)] wr)) (fun i _ => f.len - (intOf i).toNat)
          case atStart => exact ⟨0, Nat.zero_le _, rfl, rfl, G3.out⟩
          case round =>
            obtain ⟨j, hj, rfl, hq, G⟩ := hrel
            clear G3
            obtain ⟨_, z0, z1, z2, z3, z4, z5, z6, z7, _⟩ := G.out
            by_cases hjl : j < f.len
            · obtain ⟨b', o', rfl, hat⟩ := (HB.out.sees G.out.1) (by rintro rfl; simp [Pg.len] at hjl)
              obtain ⟨k', n', ck', cn', cf', ks, r, A1, C1, B1, D1, e1, e2, c0, c1, c2, c3, c4, hl1, c5, hl2⟩ := Pg.Lies.row hat hjl
              have hfd := Pg.fits_drop HF.out j
              have hnd := f.nodes_drop j
              rw [e1.out] at hfd hnd
              simp only [Pg.nodes] at hnd
              have hq' : Hid (f.tree t a = (ptreeE t a k' n' ck' cn' cf' ks && (f.drop (j + 1)).tree t a)) := by show _ = _; rw [hq.out, e1.out, e2.out, Pg.tree_cons]
              obtain ⟨q2, hqe⟩ : ∃ q2 : Bool, q2 = ptreeE t a k' n' ck' cn' cf' ks := ⟨_, rfl⟩
              rw [← hqe] at hq'
              have KR : Hid (∀ W : World, Sees wr W → Calls Tryz.prog 76 #[.agg #[.int .i64 t, .int .i64 a], .pointer (some ⟨b', o' + j * 6, none⟩)] W fun e w' => e = .returned (.bool q2) ∧ Below W.heap.size W w') := fun W h => by
                rw [hqe]
                exact IH.out ks (by omega) (by omega) hfd.2.2.1 cf' (by omega) hfd.1.2 t a k' n' ck' cn' A1 B1 C1 D1 b' _ W HT.out.1 HT.out.2.1 HT.out.2.2.1 HT.out.2.2.2 (hl1.sees h) (hl2.sees h) (kc h c0) (kc h c1) (kc h c2) (kc h c3) (kc h c4) (kc h c5)
              have j0 : (0 : Int) ≤ (j : Int) := Int.natCast_nonneg _
              have j1 : (j : Int) < (f.len : Int) := by omega
              have JL := Lib.hid hjl
              have GG : Hid (St wr [(w.heap.size, 0, .int .i64 t), (w.heap.size, 1, .int .i64 a), (b, o, .int .i64 k), (b, o + 1, .int .i64 n), (b, o + 2, .int .i64 ck), (b, o + 3, .int .i64 cn), (b, o + 4, .slice A cf.len C), (b, o + 5, .slice (some ⟨b', o', none⟩) f.len D)] wr) := ⟨Sees.refl _, z0, z1, z2, z3, z4, z5, z6, z7, trivial⟩
              clear hqe hq hfd hnd c0 c1 c2 c3 c4 c5 hl1 hl2 hat hjl e1 e2
              go_wp2_with fail
              clear z0 z1 z2 z3 z4 z5 z6 z7
              cases q2
              · skip
                refine wp_region_quietC wr [(w.heap.size, 0, .int .i64 t), (w.heap.size, 1, .int .i64 a), (b, o, .int .i64 k), (b, o + 1, .int .i64 n), (b, o + 2, .int .i64 ck), (b, o + 3, .int .i64 cn), (b, o + 4, .slice A cf.len C), (b, o + 5, .slice (some ⟨b', o', none⟩) f.len D)] (by kernel_rfl) (by kernel_rfl) GG.out ?_
                repeat (first | go_big_quiet_skip | (go_big_quiet_want; apply Exists.intro; refine ⟨fun W hW => ?_, ?_⟩; focus (have hK := Lib.hid hW; obtain ⟨hs, hc⟩ := hW; simp only [Has, and_true] at hc; go_simp; (first | rfl | exact ⟨rfl, rfl⟩ | exact quietC_call hK.out (KR.out _ hs)))) | (go_simp; go_big_quiet_on))
                refine wpQuiet_nil ?_
                intro w4 Hw4
                have HX4 := Lib.hid (G.out.1.below Hw4.1)
                clear Hw4
                go_wp2_with fail
                go_ret
                exact ⟨ret_bool (by rw [HD.out, hq'.out]; rfl), FIN.out _ HX4.out⟩
              · skip
                refine wp_region_quietC wr [(w.heap.size, 0, .int .i64 t), (w.heap.size, 1, .int .i64 a), (b, o, .int .i64 k), (b, o + 1, .int .i64 n), (b, o + 2, .int .i64 ck), (b, o + 3, .int .i64 cn), (b, o + 4, .slice A cf.len C), (b, o + 5, .slice (some ⟨b', o', none⟩) f.len D)] (by kernel_rfl) (by kernel_rfl) GG.out ?_
                repeat (first | go_big_quiet_skip | (go_big_quiet_want; apply Exists.intro; refine ⟨fun W hW => ?_, ?_⟩; focus (have hK := Lib.hid hW; obtain ⟨hs, hc⟩ := hW; simp only [Has, and_true] at hc; go_simp; (first | rfl | exact ⟨rfl, rfl⟩ | exact quietC_call hK.out (KR.out _ hs)))) | (go_simp; go_big_quiet_on))
                refine wpQuiet_nil ?_
                intro w4 Hw4
                have G5 : Hid (St w0 [(w.heap.size, 0, .int .i64 t), (w.heap.size, 1, .int .i64 a), (b, o, .int .i64 k), (b, o + 1, .int .i64 n), (b, o + 2, .int .i64 ck), (b, o + 3, .int .i64 cn), (b, o + 4, .slice A cf.len C), (b, o + 5, .slice (some ⟨b', o', none⟩) f.len D)] w4) := St.below G.out Hw4.1
                have hq2 : Hid (f.tree t a = (f.drop (j + 1)).tree t a) := hq'.out
                clear Hw4 hq'
                go_wp2_with fail
                go_roundw
                case rel => exact ⟨j + 1, JL.out, by go_num, hq2, G5.out⟩
                case measure => have := JL.out; simp [intOf]; omega
            · obtain rfl : j = f.len := by omega
              have hq2 : Hid (f.tree t a = true) := by show _ = _; rw [hq.out, Pg.drop_len]; rfl
              clear hq
              go_wp2_with fail
              go_ret
              exact ⟨ret_bool (HD.out.trans hq2.out).symm, FIN.out _ G.out.1⟩
    · have hn : (n != 0) = false := hi; clear hi
      refine wp_region_quietC w0 [(w.heap.size, 0, .int .i64 t), (w.heap.size, 1, .int .i64 a), (b, o, .int .i64 k), (b, o + 1, .int .i64 n), (b, o + 2, .int .i64 ck), (b, o + 3, .int .i64 cn), (b, o + 4, .slice A cf.len C), (b, o + 5, .slice B f.len D)] (by kernel_rfl) (by kernel_rfl) G1.out ?_
      repeat (first | go_big_quiet_skip | (go_big_quiet_want; apply Exists.intro; refine ⟨fun W hW => ?_, ?_⟩; focus (have hK := Lib.hid hW; obtain ⟨hs, hc⟩ := hW; simp only [Has, and_true] at hc; go_simp; (first | rfl | exact ⟨rfl, rfl⟩ | exact quietC_call hK.out (KI.out _ hs)))) | (go_simp; go_big_quiet_on))
      refine wpQuiet_nil ?_
      intro w2 Hw2
      have G2 := Lib.hid Hw2
      clear Hw2
      go_wp2_with fail
      cases qa
      · cases qn
        · skip
          refine wp_region_quietC w0 [(w.heap.size, 0, .int .i64 t), (w.heap.size, 1, .int .i64 a), (b, o, .int .i64 k), (b, o + 1, .int .i64 n), (b, o + 2, .int .i64 ck), (b, o + 3, .int .i64 cn), (b, o + 4, .slice A cf.len C), (b, o + 5, .slice B f.len D)] (by kernel_rfl) (by kernel_rfl) G2.out ?_
          repeat (first | go_big_quiet_skip | (go_big_quiet_want; apply Exists.intro; refine ⟨fun W hW => ?_, ?_⟩; focus (have hK := Lib.hid hW; obtain ⟨hs, hc⟩ := hW; simp only [Has, and_true] at hc; go_simp; (first | rfl | exact ⟨rfl, rfl⟩ | exact quietC_call hK.out (KA.out _ hs) | exact quietC_call hK.out (KN.out _ hs)))) | (go_simp; go_big_quiet_on))
          refine wpQuiet_nil ?_
          intro w3 Hw3
          go_wp2_with fail
          go_ret
          exact ⟨ret_bool (by rw [HE.out]; rw [HX.out, HQX.out]; rfl), FIN.out _ Hw3.1⟩
        · skip
          refine wp_region_quietC w0 [(w.heap.size, 0, .int .i64 t), (w.heap.size, 1, .int .i64 a), (b, o, .int .i64 k), (b, o + 1, .int .i64 n), (b, o + 2, .int .i64 ck), (b, o + 3, .int .i64 cn), (b, o + 4, .slice A cf.len C), (b, o + 5, .slice B f.len D)] (by kernel_rfl) (by kernel_rfl) G2.out ?_
          repeat (first | go_big_quiet_skip | (go_big_quiet_want; apply Exists.intro; refine ⟨fun W hW => ?_, ?_⟩; focus (have hK := Lib.hid hW; obtain ⟨hs, hc⟩ := hW; simp only [Has, and_true] at hc; go_simp; (first | rfl | exact ⟨rfl, rfl⟩ | exact quietC_call hK.out (KA.out _ hs) | exact quietC_call hK.out (KN.out _ hs)))) | (go_simp; go_big_quiet_on))
          refine wpQuiet_nil ?_
          intro w3 Hw3
          have HD : Hid (ptreeE t a k n ck cn cf f = f.tree t a) := by show _ = _; rw [HE.out, HX.out, HQX.out]; rfl
          have G3 := Lib.hid Hw3
          clear Hw3 HE HX HQX KA KC KN KI G1 G2
          obtain ⟨_, z0, z1, z2, z3, z4, z5, z6, z7, _⟩ := G3.out
          go_wp2_with fail
          clear z0 z1 z2 z3 z4 z5 z6 z7
          go_loopw [5] (fun i wr => ∃ j : Nat, j ≤ f.len ∧ i = .int .i64 j ∧ Hid (f.tree t a = (f.drop j).tree t a) ∧ Hid (St w0 [(w.heap.size, 0, .int .i64 t), (w.heap.size, 1, .int .i64 a), (b, o, .int .i64 k), (b, o + 1, .int .i64 n), (b, o + 2, .int .i64 ck), (b, o + 3, .int .i64 cn), (b, o + 4, .slice A cf.len C), (b, o + 5, .slice B f.len D)] wr)) (fun i _ => f.len - (intOf i).toNat)
          case atStart => exact ⟨0, Nat.zero_le _, rfl, rfl, G3.out⟩
          case round =>
            obtain ⟨j, hj, rfl, hq, G⟩ := hrel
            clear G3
            obtain ⟨_, z0, z1, z2, z3, z4, z5, z6, z7, _⟩ := G.out
            by_cases hjl : j < f.len
            · obtain ⟨b', o', rfl, hat⟩ := (HB.out.sees G.out.1) (by rintro rfl; simp [Pg.len] at hjl)
              obtain ⟨k', n', ck', cn', cf', ks, r, A1, C1, B1, D1, e1, e2, c0, c1, c2, c3, c4, hl1, c5, hl2⟩ := Pg.Lies.row hat hjl
              have hfd := Pg.fits_drop HF.out j
              have hnd := f.nodes_drop j
              rw [e1.out] at hfd hnd
              simp only [Pg.nodes] at hnd
              have hq' : Hid (f.tree t a = (ptreeE t a k' n' ck' cn' cf' ks && (f.drop (j + 1)).tree t a)) := by show _ = _; rw [hq.out, e1.out, e2.out, Pg.tree_cons]
              obtain ⟨q2, hqe⟩ : ∃ q2 : Bool, q2 = ptreeE t a k' n' ck' cn' cf' ks := ⟨_, rfl⟩
              rw [← hqe] at hq'
              have KR : Hid (∀ W : World, Sees wr W → Calls Tryz.prog 76 #[.agg #[.int .i64 t, .int .i64 a], .pointer (some ⟨b', o' + j * 6, none⟩)] W fun e w' => e = .returned (.bool q2) ∧ Below W.heap.size W w') := fun W h => by
                rw [hqe]
                exact IH.out ks (by omega) (by omega) hfd.2.2.1 cf' (by omega) hfd.1.2 t a k' n' ck' cn' A1 B1 C1 D1 b' _ W HT.out.1 HT.out.2.1 HT.out.2.2.1 HT.out.2.2.2 (hl1.sees h) (hl2.sees h) (kc h c0) (kc h c1) (kc h c2) (kc h c3) (kc h c4) (kc h c5)
              have j0 : (0 : Int) ≤ (j : Int) := Int.natCast_nonneg _
              have j1 : (j : Int) < (f.len : Int) := by omega
              have JL := Lib.hid hjl
              have GG : Hid (St wr [(w.heap.size, 0, .int .i64 t), (w.heap.size, 1, .int .i64 a), (b, o, .int .i64 k), (b, o + 1, .int .i64 n), (b, o + 2, .int .i64 ck), (b, o + 3, .int .i64 cn), (b, o + 4, .slice A cf.len C), (b, o + 5, .slice (some ⟨b', o', none⟩) f.len D)] wr) := ⟨Sees.refl _, z0, z1, z2, z3, z4, z5, z6, z7, trivial⟩
              clear hqe hq hfd hnd c0 c1 c2 c3 c4 c5 hl1 hl2 hat hjl e1 e2
              go_wp2_with fail
              clear z0 z1 z2 z3 z4 z5 z6 z7
              cases q2
              · skip
                refine wp_region_quietC wr [(w.heap.size, 0, .int .i64 t), (w.heap.size, 1, .int .i64 a), (b, o, .int .i64 k), (b, o + 1, .int .i64 n), (b, o + 2, .int .i64 ck), (b, o + 3, .int .i64 cn), (b, o + 4, .slice A cf.len C), (b, o + 5, .slice (some ⟨b', o', none⟩) f.len D)] (by kernel_rfl) (by kernel_rfl) GG.out ?_
                repeat (first | go_big_quiet_skip | (go_big_quiet_want; apply Exists.intro; refine ⟨fun W hW => ?_, ?_⟩; focus (have hK := Lib.hid hW; obtain ⟨hs, hc⟩ := hW; simp only [Has, and_true] at hc; go_simp; (first | rfl | exact ⟨rfl, rfl⟩ | exact quietC_call hK.out (KR.out _ hs)))) | (go_simp; go_big_quiet_on))
                refine wpQuiet_nil ?_
                intro w4 Hw4
                have HX4 := Lib.hid (G.out.1.below Hw4.1)
                clear Hw4
                go_wp2_with fail
                go_ret
                exact ⟨ret_bool (by rw [HD.out, hq'.out]; rfl), FIN.out _ HX4.out⟩
              · skip
                refine wp_region_quietC wr [(w.heap.size, 0, .int .i64 t), (w.heap.size, 1, .int .i64 a), (b, o, .int .i64 k), (b, o + 1, .int .i64 n), (b, o + 2, .int .i64 ck), (b, o + 3, .int .i64 cn), (b, o + 4, .slice A cf.len C), (b, o + 5, .slice (some ⟨b', o', none⟩) f.len D)] (by kernel_rfl) (by kernel_rfl) GG.out ?_
                repeat (first | go_big_quiet_skip | (go_big_quiet_want; apply Exists.intro; refine ⟨fun W hW => ?_, ?_⟩; focus (have hK := Lib.hid hW; obtain ⟨hs, hc⟩ := hW; simp only [Has, and_true] at hc; go_simp; (first | rfl | exact ⟨rfl, rfl⟩ | exact quietC_call hK.out (KR.out _ hs)))) | (go_simp; go_big_quiet_on))
                refine wpQuiet_nil ?_
                intro w4 Hw4
                have G5 : Hid (St w0 [(w.heap.size, 0, .int .i64 t), (w.heap.size, 1, .int .i64 a), (b, o, .int .i64 k), (b, o + 1, .int .i64 n), (b, o + 2, .int .i64 ck), (b, o + 3, .int .i64 cn), (b, o + 4, .slice A cf.len C), (b, o + 5, .slice (some ⟨b', o', none⟩) f.len D)] w4) := St.below G.out Hw4.1
                have hq2 : Hid (f.tree t a = (f.drop (j + 1)).tree t a) := hq'.out
                clear Hw4 hq'
                go_wp2_with fail
                go_roundw
                case rel => exact ⟨j + 1, JL.out, by go_num, hq2, G5.out⟩
                case measure => have := JL.out; simp [intOf]; omega
            · obtain rfl : j = f.len := by omega
              have hq2 : Hid (f.tree t a = true) := by show _ = _; rw [hq.out, Pg.drop_len]; rfl
              clear hq
              go_wp2_with fail
              go_ret
              exact ⟨ret_bool (HD.out.trans hq2.out).symm, FIN.out _ G.out.1⟩
      · cases qc
        · skip
          refine wp_region_quietC w0 [(w.heap.size, 0, .int .i64 t), (w.heap.size, 1, .int .i64 a), (b, o, .int .i64 k), (b, o + 1, .int .i64 n), (b, o + 2, .int .i64 ck), (b, o + 3, .int .i64 cn), (b, o + 4, .slice A cf.len C), (b, o + 5, .slice B f.len D)] (by kernel_rfl) (by kernel_rfl) G2.out ?_
          repeat (first | go_big_quiet_skip | (go_big_quiet_want; apply Exists.intro; refine ⟨fun W hW => ?_, ?_⟩; focus (have hK := Lib.hid hW; obtain ⟨hs, hc⟩ := hW; simp only [Has, and_true] at hc; go_simp; (first | rfl | exact ⟨rfl, rfl⟩ | exact quietC_call hK.out (KA.out _ hs) | exact quietC_call hK.out (KC.out _ hs)))) | (go_simp; go_big_quiet_on))
          refine wpQuiet_nil ?_
          intro w3 Hw3
          go_wp2_with fail
          go_ret
          exact ⟨ret_bool (by rw [HE.out]; rw [HX.out, HQX.out]; rfl), FIN.out _ Hw3.1⟩
        · skip
          refine wp_region_quietC w0 [(w.heap.size, 0, .int .i64 t), (w.heap.size, 1, .int .i64 a), (b, o, .int .i64 k), (b, o + 1, .int .i64 n), (b, o + 2, .int .i64 ck), (b, o + 3, .int .i64 cn), (b, o + 4, .slice A cf.len C), (b, o + 5, .slice B f.len D)] (by kernel_rfl) (by kernel_rfl) G2.out ?_
          repeat (first | go_big_quiet_skip | (go_big_quiet_want; apply Exists.intro; refine ⟨fun W hW => ?_, ?_⟩; focus (have hK := Lib.hid hW; obtain ⟨hs, hc⟩ := hW; simp only [Has, and_true] at hc; go_simp; (first | rfl | exact ⟨rfl, rfl⟩ | exact quietC_call hK.out (KA.out _ hs) | exact quietC_call hK.out (KC.out _ hs)))) | (go_simp; go_big_quiet_on))
          refine wpQuiet_nil ?_
          intro w3 Hw3
          have HD : Hid (ptreeE t a k n ck cn cf f = f.tree t a) := by show _ = _; rw [HE.out, HX.out, HQX.out]; rfl
          have G3 := Lib.hid Hw3
          clear Hw3 HE HX HQX KA KC KN KI G1 G2
          obtain ⟨_, z0, z1, z2, z3, z4, z5, z6, z7, _⟩ := G3.out
          go_wp2_with fail
          clear z0 z1 z2 z3 z4 z5 z6 z7
          go_loopw [5] (fun i wr => ∃ j : Nat, j ≤ f.len ∧ i = .int .i64 j ∧ Hid (f.tree t a = (f.drop j).tree t a) ∧ Hid (St w0 [(w.heap.size, 0, .int .i64 t), (w.heap.size, 1, .int .i64 a), (b, o, .int .i64 k), (b, o + 1, .int .i64 n), (b, o + 2, .int .i64 ck), (b, o + 3, .int .i64 cn), (b, o + 4, .slice A cf.len C), (b, o + 5, .slice B f.len D)] wr)) (fun i _ => f.len - (intOf i).toNat)
          case atStart => exact ⟨0, Nat.zero_le _, rfl, rfl, G3.out⟩
          case round =>
            obtain ⟨j, hj, rfl, hq, G⟩ := hrel
            clear G3
            obtain ⟨_, z0, z1, z2, z3, z4, z5, z6, z7, _⟩ := G.out
            by_cases hjl : j < f.len
            · obtain ⟨b', o', rfl, hat⟩ := (HB.out.sees G.out.1) (by rintro rfl; simp [Pg.len] at hjl)
              obtain ⟨k', n', ck', cn', cf', ks, r, A1, C1, B1, D1, e1, e2, c0, c1, c2, c3, c4, hl1, c5, hl2⟩ := Pg.Lies.row hat hjl
              have hfd := Pg.fits_drop HF.out j
              have hnd := f.nodes_drop j
              rw [e1.out] at hfd hnd
              simp only [Pg.nodes] at hnd
              have hq' : Hid (f.tree t a = (ptreeE t a k' n' ck' cn' cf' ks && (f.drop (j + 1)).tree t a)) := by show _ = _; rw [hq.out, e1.out, e2.out, Pg.tree_cons]
              obtain ⟨q2, hqe⟩ : ∃ q2 : Bool, q2 = ptreeE t a k' n' ck' cn' cf' ks := ⟨_, rfl⟩
              rw [← hqe] at hq'
              have KR : Hid (∀ W : World, Sees wr W → Calls Tryz.prog 76 #[.agg #[.int .i64 t, .int .i64 a], .pointer (some ⟨b', o' + j * 6, none⟩)] W fun e w' => e = .returned (.bool q2) ∧ Below W.heap.size W w') := fun W h => by
                rw [hqe]
                exact IH.out ks (by omega) (by omega) hfd.2.2.1 cf' (by omega) hfd.1.2 t a k' n' ck' cn' A1 B1 C1 D1 b' _ W HT.out.1 HT.out.2.1 HT.out.2.2.1 HT.out.2.2.2 (hl1.sees h) (hl2.sees h) (kc h c0) (kc h c1) (kc h c2) (kc h c3) (kc h c4) (kc h c5)
              have j0 : (0 : Int) ≤ (j : Int) := Int.natCast_nonneg _
              have j1 : (j : Int) < (f.len : Int) := by omega
              have JL := Lib.hid hjl
              have GG : Hid (St wr [(w.heap.size, 0, .int .i64 t), (w.heap.size, 1, .int .i64 a), (b, o, .int .i64 k), (b, o + 1, .int .i64 n), (b, o + 2, .int .i64 ck), (b, o + 3, .int .i64 cn), (b, o + 4, .slice A cf.len C), (b, o + 5, .slice (some ⟨b', o', none⟩) f.len D)] wr) := ⟨Sees.refl _, z0, z1, z2, z3, z4, z5, z6, z7, trivial⟩
              clear hqe hq hfd hnd c0 c1 c2 c3 c4 c5 hl1 hl2 hat hjl e1 e2
              go_wp2_with fail
              clear z0 z1 z2 z3 z4 z5 z6 z7
              cases q2
              · skip
                refine wp_region_quietC wr [(w.heap.size, 0, .int .i64 t), (w.heap.size, 1, .int .i64 a), (b, o, .int .i64 k), (b, o + 1, .int .i64 n), (b, o + 2, .int .i64 ck), (b, o + 3, .int .i64 cn), (b, o + 4, .slice A cf.len C), (b, o + 5, .slice (some ⟨b', o', none⟩) f.len D)] (by kernel_rfl) (by kernel_rfl) GG.out ?_
                repeat (first | go_big_quiet_skip | (go_big_quiet_want; apply Exists.intro; refine ⟨fun W hW => ?_, ?_⟩; focus (have hK := Lib.hid hW; obtain ⟨hs, hc⟩ := hW; simp only [Has, and_true] at hc; go_simp; (first | rfl | exact ⟨rfl, rfl⟩ | exact quietC_call hK.out (KR.out _ hs)))) | (go_simp; go_big_quiet_on))
                refine wpQuiet_nil ?_
                intro w4 Hw4
                have HX4 := Lib.hid (G.out.1.below Hw4.1)
                clear Hw4
                go_wp2_with fail
                go_ret
                exact ⟨ret_bool (by rw [HD.out, hq'.out]; rfl), FIN.out _ HX4.out⟩
              · skip
                refine wp_region_quietC wr [(w.heap.size, 0, .int .i64 t), (w.heap.size, 1, .int .i64 a), (b, o, .int .i64 k), (b, o + 1, .int .i64 n), (b, o + 2, .int .i64 ck), (b, o + 3, .int .i64 cn), (b, o + 4, .slice A cf.len C), (b, o + 5, .slice (some ⟨b', o', none⟩) f.len D)] (by kernel_rfl) (by kernel_rfl) GG.out ?_
                repeat (first | go_big_quiet_skip | (go_big_quiet_want; apply Exists.intro; refine ⟨fun W hW => ?_, ?_⟩; focus (have hK := Lib.hid hW; obtain ⟨hs, hc⟩ := hW; simp only [Has, and_true] at hc; go_simp; (first | rfl | exact ⟨rfl, rfl⟩ | exact quietC_call hK.out (KR.out _ hs)))) | (go_simp; go_big_quiet_on))
                refine wpQuiet_nil ?_
                intro w4 Hw4
                have G5 : Hid (St w0 [(w.heap.size, 0, .int .i64 t), (w.heap.size, 1, .int .i64 a), (b, o, .int .i64 k), (b, o + 1, .int .i64 n), (b, o + 2, .int .i64 ck), (b, o + 3, .int .i64 cn), (b, o + 4, .slice A cf.len C), (b, o + 5, .slice (some ⟨b', o', none⟩) f.len D)] w4) := St.below G.out Hw4.1
                have hq2 : Hid (f.tree t a = (f.drop (j + 1)).tree t a) := hq'.out
                clear Hw4 hq'
                go_wp2_with fail
                go_roundw
                case rel => exact ⟨j + 1, JL.out, by go_num, hq2, G5.out⟩
                case measure => have := JL.out; simp [intOf]; omega
            · obtain rfl : j = f.len := by omega
              have hq2 : Hid (f.tree t a = true) := by show _ = _; rw [hq.out, Pg.drop_len]; rfl
              clear hq
              go_wp2_with fail
              go_ret
              exact ⟨ret_bool (HD.out.trans hq2.out).symm, FIN.out _ G.out.1⟩
end Go.Proofs.YtcgbepmhfimbjaaGreatDoor

namespace Go.Proofs.YtcgbepmhfimbjaaGreatDoor
open Go.RowKit
set_option linter.unusedVariables false

set_option maxHeartbeats 1000000 in
theorem l06Ok_any (f : Pg) (hm : f.nodes ≤ 1048576) (hf : f.Fits) (cf : Fo) (hcm : cf.nodes ≤ 1048576) (hcf : cf.Fits) (t a k n ck cn : Int) (A0 A : Option Addr) (C0 C b o : Nat) (w : World) (hc : cf.Lies w A0) (hl : f.Lies w A)
      (h0 : w.cell? ⟨b, o, none⟩ = some (.int .i64 k)) (h1 : w.cell? ⟨b, o + 1, none⟩ = some (.int .i64 n)) (h3 : w.cell? ⟨b, o + 2, none⟩ = some (.int .i64 ck)) (h4 : w.cell? ⟨b, o + 3, none⟩ = some (.int .i64 cn)) (h5 : w.cell? ⟨b, o + 4, none⟩ = some (.slice A0 cf.len C0)) (h2 : w.cell? ⟨b, o + 5, none⟩ = some (.slice A f.len C)) :
      Calls Tryz.prog 45 #[.agg #[.int .i64 t, .int .i64 a], .pointer (some ⟨b, o, none⟩)] w fun e w' => e = .returned (.bool (validP t a k n ck cn cf f)) ∧ Below w.heap.size w w' := by
  have lb : b < w.heap.size := World.block_lt_of_cell? _ _ h0
  obtain ⟨q1, hq1⟩ : ∃ q1 : Bool, q1 = sigOk t a := ⟨_, rfl⟩
  have K1 : Hid (∀ W : World, Calls Tryz.prog 58 #[.agg #[.int .i64 t, .int .i64 a]] W fun e w' => e = .returned (.bool q1) ∧ Below W.heap.size W w') := fun W => by rw [hq1]; exact l01Sig_any t a W
  cases q1
  · have HD : Hid (validP t a k n ck cn cf f = false) := by show _ = _; unfold validP; rw [← hq1]; rfl
    clear hq1
    go_enter Tryz.func45, Tryz.ntmps45
    go_wp2_with fail
    refine (K1.out _).mono ?_
    rintro e w1 ⟨rfl, hb⟩
    have B1 : Sees w w1 := Sees.below (by unfold Sees; go_grown) hb
    clear hb
    go_wp2_with fail
    go_ret
    exact ⟨ret_bool HD.out.symm, B1⟩
  have hs := sigOk_of hq1.symm
  obtain ⟨x, hx⟩ : ∃ x : Int, x = f.left (60 - 1) := ⟨_, rfl⟩
  have hx2 := f.left_ok 60 (by omega)
  rw [← hx] at hx2
  have K2 : Hid (∀ W : World, Sees w W → Calls Tryz.prog 74 #[.pointer (some ⟨b, o, none⟩), .int .i64 60] W fun e w' => e = .returned (.int .i64 x) ∧ W = w') := fun W h => by rw [hx]; exact l06Left_any (f.nodes + 1) f (Nat.lt_succ_self _) hm 60 A C b o W (by omega) (by omega) (hl.sees h) (kc h h2)
  rcases (Decidable.em (0 ≤ x)).symm with hx0 | hx0
  · have HD : Hid (validP t a k n ck cn cf f = false) := by
      show _ = _
      unfold validP
      rw [show decide (1 + f.cnt ≤ 60) = false from by
        rw [decide_eq_false hx0] at hx2
        have := of_decide_eq_false hx2.symm
        exact decide_eq_false (by omega)]
      simp
    clear hq1 hx hx2 hs
    go_enter Tryz.func45, Tryz.ntmps45
    go_wp2_with fail
    refine (K1.out _).mono ?_
    rintro e w1 ⟨rfl, hb⟩
    have B1 : Sees w w1 := Sees.below (by unfold Sees; go_grown) hb
    clear hb
    go_wp2_with fail
    refine (K2.out _ B1).mono ?_
    rintro e w' ⟨rfl, rfl⟩
    go_wp2_with fail
    go_ret
    exact ⟨ret_bool HD.out.symm, B1⟩
  have hn : 1 + f.cnt ≤ 60 := by
    rw [decide_eq_true hx0] at hx2
    have := of_decide_eq_true hx2.symm
    omega
  obtain ⟨y, hy⟩ : ∃ y : Int, y = (f.deep : Int) + 1 := ⟨_, rfl⟩
  have K3 : Hid (∀ W : World, Sees w W → Calls Tryz.prog 75 #[.pointer (some ⟨b, o, none⟩)] W fun e w' => e = .returned (.int .i64 y) ∧ W = w') := fun W h => by rw [hy]; exact l06Depth_any (f.nodes + 1) f (Nat.lt_succ_self _) hm A C b o W (hl.sees h) (kc h h2)
  rcases (Decidable.em (y ≤ 20)).symm with hy0 | hy0
  · have HD : Hid (validP t a k n ck cn cf f = false) := by
      show _ = _
      unfold validP
      rw [show decide (1 + f.deep ≤ 20) = false from decide_eq_false (by omega)]
      simp
    clear hq1 hx hx2 hs hn hy
    go_enter Tryz.func45, Tryz.ntmps45
    go_wp2_with fail
    refine (K1.out _).mono ?_
    rintro e w1 ⟨rfl, hb⟩
    have B1 : Sees w w1 := Sees.below (by unfold Sees; go_grown) hb
    clear hb
    go_wp2_with fail
    refine (K2.out _ B1).mono ?_
    rintro e w' ⟨rfl, rfl⟩
    go_wp2_with fail
    refine (K3.out _ B1).mono ?_
    rintro e w' ⟨rfl, rfl⟩
    go_wp2_with fail
    go_ret
    exact ⟨ret_bool HD.out.symm, B1⟩
  obtain ⟨q4, hq4⟩ : ∃ q4 : Bool, q4 = ptreeE t a k n ck cn cf f := ⟨_, rfl⟩
  have K4 : Hid (∀ W : World, Sees w W → Calls Tryz.prog 76 #[.agg #[.int .i64 t, .int .i64 a], .pointer (some ⟨b, o, none⟩)] W fun e w' => e = .returned (.bool q4) ∧ Below W.heap.size W w') := fun W h => by rw [hq4]; exact l06Tree_any (f.nodes + 1) f (Nat.lt_succ_self _) hm hf cf hcm hcf t a k n ck cn A0 A C0 C b o W hs.1 hs.2.1 hs.2.2.1 hs.2.2.2 (hc.sees h) (hl.sees h) (kc h h0) (kc h h1) (kc h h3) (kc h h4) (kc h h5) (kc h h2)
  have HD : Hid (validP t a k n ck cn cf f = q4) := by
    show _ = _
    unfold validP
    rw [← hq1, ← hq4, decide_eq_true hn, decide_eq_true (show 1 + f.deep ≤ 20 by omega)]
    simp
  clear hq1 hx hx2 hs hn hy hq4
  go_enter Tryz.func45, Tryz.ntmps45
  go_wp2_with fail
  refine (K1.out _).mono ?_
  rintro e w1 ⟨rfl, hb⟩
  obtain ⟨x0, x1⟩ := box2 hb (b := w.heap.size) (u := .int .i64 t) (v := .int .i64 a) (by simp [go_sem])
  have B1 : Sees w w1 := Sees.below (by unfold Sees; go_grown) hb
  clear hb
  go_wp2_with fail
  refine (K2.out _ B1).mono ?_
  rintro e w' ⟨rfl, rfl⟩
  go_wp2_with fail
  refine (K3.out _ B1).mono ?_
  rintro e w' ⟨rfl, rfl⟩
  go_wp2_with fail
  refine (K4.out _ B1).mono ?_
  rintro e w2 ⟨rfl, hb⟩
  have B2 := B1.below hb
  clear hb
  go_wp2_with fail
  go_ret
  exact ⟨ret_bool HD.out.symm, B2⟩

end Go.Proofs.YtcgbepmhfimbjaaGreatDoor

namespace Go.Proofs.YtcgbepmhfimbjaaGreatDoor
open Go.RowKit
set_option linter.unusedVariables false

/-- Whether a triple is valid. -/
def tripV (t a pk pn : Int) (pf : Fo) (gk gn gck gcn : Int) (gcf : Fo) (gks : Pg) (qk qn : Int) (qf : Fo) : Bool := condV t a pk pn pf && (condV t a qk qn qf && validP t a gk gn gck gcn gcf gks)

set_option maxHeartbeats 2000000 in
set_option maxRecDepth 100000 in
theorem l07Triple_any (t a pk pn : Int) (pf : Fo) (gk gn gck gcn : Int) (gcf : Fo) (gks : Pg) (qk qn : Int) (qf : Fo) (hsz : pf.nodes + gcf.nodes + gks.nodes + qf.nodes ≤ 1048576) (hpf : pf.Fits) (hgcf : gcf.Fits) (hgks : gks.Fits) (hqf : qf.Fits) (Ap Ac Ag Aq : Option Addr) (Cp Cc Cg Cq b o : Nat) (w : World) (hA : pf.Lies w Ap) (hB : gcf.Lies w Ac) (hC : gks.Lies w Ag) (hD : qf.Lies w Aq) (h0 : w.cell? ⟨b, o, none⟩ = some (.int .i64 pk)) (h1 : w.cell? ⟨b, o + 1, none⟩ = some (.int .i64 pn)) (h2 : w.cell? ⟨b, o + 2, none⟩ = some (.slice Ap pf.len Cp)) (h3 : w.cell? ⟨b, o + 3, none⟩ = some (.int .i64 gk)) (h4 : w.cell? ⟨b, o + 4, none⟩ = some (.int .i64 gn)) (h5 : w.cell? ⟨b, o + 5, none⟩ = some (.int .i64 gck)) (h6 : w.cell? ⟨b, o + 6, none⟩ = some (.int .i64 gcn)) (h7 : w.cell? ⟨b, o + 7, none⟩ = some (.slice Ac gcf.len Cc)) (h8 : w.cell? ⟨b, o + 8, none⟩ = some (.slice Ag gks.len Cg)) (h9 : w.cell? ⟨b, o + 9, none⟩ = some (.int .i64 qk)) (h10 : w.cell? ⟨b, o + 10, none⟩ = some (.int .i64 qn)) (h11 : w.cell? ⟨b, o + 11, none⟩ = some (.slice Aq qf.len Cq)) :
    Calls Tryz.prog 18 #[.agg #[.int .i64 t, .int .i64 a], .pointer (some ⟨b, o, none⟩)] w fun e w' => e = .returned (.bool (tripV t a pk pn pf gk gn gck gcn gcf gks qk qn qf)) ∧ Below w.heap.size w w' := by
  obtain ⟨q1, hq1⟩ : ∃ q : Bool, q = condV t a pk pn pf := ⟨_, rfl⟩
  obtain ⟨q2, hq2⟩ : ∃ q : Bool, q = condV t a qk qn qf := ⟨_, rfl⟩
  obtain ⟨q3, hq3⟩ : ∃ q : Bool, q = validP t a gk gn gck gcn gcf gks := ⟨_, rfl⟩
  have K1 : Hid (∀ W : World, Sees w W → Calls Tryz.prog 44 #[.agg #[.int .i64 t, .int .i64 a], .pointer (some ⟨b, o, none⟩)] W fun e w' => e = .returned (.bool q1) ∧ Below W.heap.size W w') := fun W h => by
    rw [hq1]
    exact l06Cond_any t a pk pn pf (by omega) hpf Ap Cp b o W (hA.sees h) (kc h h0) (kc h h1) (kc h h2)
  have K2 : Hid (∀ W : World, Sees w W → Calls Tryz.prog 44 #[.agg #[.int .i64 t, .int .i64 a], .pointer (some ⟨b, o + 9, none⟩)] W fun e w' => e = .returned (.bool q2) ∧ Below W.heap.size W w') := fun W h => by
    rw [hq2]
    exact l06Cond_any t a qk qn qf (by omega) hqf Aq Cq b (o + 9) W (hD.sees h) (kc h h9) (kc h (by rw [Nat.add_assoc]; exact h10)) (kc h (by rw [Nat.add_assoc]; exact h11))
  have K3 : Hid (∀ W : World, Sees w W → Calls Tryz.prog 45 #[.agg #[.int .i64 t, .int .i64 a], .pointer (some ⟨b, o + 3, none⟩)] W fun e w' => e = .returned (.bool q3) ∧ Below W.heap.size W w') := fun W h => by
    rw [hq3]
    exact l06Ok_any gks (by omega) hgks gcf (by omega) hgcf t a gk gn gck gcn Ac Ag Cc Cg b (o + 3) W (hB.sees h) (hC.sees h) (kc h h3) (kc h (by rw [Nat.add_assoc]; exact h4)) (kc h (by rw [Nat.add_assoc]; exact h5)) (kc h (by rw [Nat.add_assoc]; exact h6)) (kc h (by rw [Nat.add_assoc]; exact h7)) (kc h (by rw [Nat.add_assoc]; exact h8))
  have HD : Hid (tripV t a pk pn pf gk gn gck gcn gcf gks qk qn qf = (q1 && (q2 && q3))) := by show _ = _; unfold tripV; rw [hq1, hq2, hq3]
  clear hq1 hq2 hq3 hA hB hC hD hpf hgcf hgks hqf hsz h0 h1 h2 h3 h4 h5 h6 h7 h8 h9 h10 h11
  have S1 : Sees w (w.alloc (.cells #[.int .i64 t, .int .i64 a] 34)) := (Sees.refl w).alloc _
  obtain ⟨w1, hw1⟩ : ∃ w1, w1 = w.alloc (.cells #[.int .i64 t, .int .i64 a] 34) := ⟨_, rfl⟩
  have s0 : w1.cell? ⟨w.heap.size, 0, none⟩ = some (.int .i64 t) := by rw [hw1]; simp [go_sem]
  have s1 : w1.cell? ⟨w.heap.size, 1, none⟩ = some (.int .i64 a) := by rw [hw1]; simp [go_sem]
  rw [← hw1] at S1
  cases q1
  · clear K2 K3
    go_enter Tryz.func18, Tryz.ntmps18
    go_wp2_with fail
    rw [← hw1]
    clear hw1
    refine wp_region_quietC w1 [(w.heap.size, 0, .int .i64 t), (w.heap.size, 1, .int .i64 a)] (by kernel_rfl) (by kernel_rfl) ⟨Below.refl _ _, s0, s1, trivial⟩ ?_
    repeat (first | go_big_quiet_skip | (go_big_quiet_want; apply Exists.intro; refine ⟨fun W hW => ?_, ?_⟩; focus (have hK := Lib.hid hW; obtain ⟨hs, hc⟩ := hW; simp only [Has, and_true] at hc; go_simp; (first | rfl | exact ⟨rfl, rfl⟩ | ((with_reducible refine quietC_call hK.out (K1.out _ ?_)); exact Sees.below S1 hs)))) | (go_simp; go_big_quiet_on))
    refine wpQuiet_nil ?_
    intro w2 H1
    have hb : Sees w w2 := Sees.below S1 H1.1
    clear H1
    go_wp2_with fail
    go_ret
    exact ⟨ret_bool HD.out.symm, hb⟩
  cases q2
  · clear K3
    go_enter Tryz.func18, Tryz.ntmps18
    go_wp2_with fail
    rw [← hw1]
    clear hw1
    refine wp_region_quietC w1 [(w.heap.size, 0, .int .i64 t), (w.heap.size, 1, .int .i64 a)] (by kernel_rfl) (by kernel_rfl) ⟨Below.refl _ _, s0, s1, trivial⟩ ?_
    repeat (first | go_big_quiet_skip | (go_big_quiet_want; apply Exists.intro; refine ⟨fun W hW => ?_, ?_⟩; focus (have hK := Lib.hid hW; obtain ⟨hs, hc⟩ := hW; simp only [Has, and_true] at hc; go_simp; (first | rfl | exact ⟨rfl, rfl⟩ | ((with_reducible refine quietC_call hK.out (K1.out _ ?_)); exact Sees.below S1 hs) | ((with_reducible refine quietC_call hK.out (K2.out _ ?_)); exact Sees.below S1 hs)))) | (go_simp; go_big_quiet_on))
    refine wpQuiet_nil ?_
    intro w2 H1
    have hb : Sees w w2 := Sees.below S1 H1.1
    clear H1
    go_wp2_with fail
    go_ret
    exact ⟨ret_bool HD.out.symm, hb⟩
  cases q3
  · skip
    go_enter Tryz.func18, Tryz.ntmps18
    go_wp2_with fail
    rw [← hw1]
    clear hw1
    refine wp_region_quietC w1 [(w.heap.size, 0, .int .i64 t), (w.heap.size, 1, .int .i64 a)] (by kernel_rfl) (by kernel_rfl) ⟨Below.refl _ _, s0, s1, trivial⟩ ?_
    repeat (first | go_big_quiet_skip | (go_big_quiet_want; apply Exists.intro; refine ⟨fun W hW => ?_, ?_⟩; focus (have hK := Lib.hid hW; obtain ⟨hs, hc⟩ := hW; simp only [Has, and_true] at hc; go_simp; (first | rfl | exact ⟨rfl, rfl⟩ | ((with_reducible refine quietC_call hK.out (K1.out _ ?_)); exact Sees.below S1 hs) | ((with_reducible refine quietC_call hK.out (K2.out _ ?_)); exact Sees.below S1 hs) | ((with_reducible refine quietC_call hK.out (K3.out _ ?_)); exact Sees.below S1 hs)))) | (go_simp; go_big_quiet_on))
    refine wpQuiet_nil ?_
    intro w2 H1
    have hb : Sees w w2 := Sees.below S1 H1.1
    clear H1
    go_wp2_with fail
    go_ret
    exact ⟨ret_bool HD.out.symm, hb⟩
  · skip
    go_enter Tryz.func18, Tryz.ntmps18
    go_wp2_with fail
    rw [← hw1]
    clear hw1
    refine wp_region_quietC w1 [(w.heap.size, 0, .int .i64 t), (w.heap.size, 1, .int .i64 a)] (by kernel_rfl) (by kernel_rfl) ⟨Below.refl _ _, s0, s1, trivial⟩ ?_
    repeat (first | go_big_quiet_skip | (go_big_quiet_want; apply Exists.intro; refine ⟨fun W hW => ?_, ?_⟩; focus (have hK := Lib.hid hW; obtain ⟨hs, hc⟩ := hW; simp only [Has, and_true] at hc; go_simp; (first | rfl | exact ⟨rfl, rfl⟩ | ((with_reducible refine quietC_call hK.out (K1.out _ ?_)); exact Sees.below S1 hs) | ((with_reducible refine quietC_call hK.out (K2.out _ ?_)); exact Sees.below S1 hs) | ((with_reducible refine quietC_call hK.out (K3.out _ ?_)); exact Sees.below S1 hs)))) | (go_simp; go_big_quiet_on))
    refine wpQuiet_nil ?_
    intro w2 H1
    have hb : Sees w w2 := Sees.below S1 H1.1
    clear H1
    go_wp2_with fail
    go_ret
    exact ⟨ret_bool HD.out.symm, hb⟩

end Go.Proofs.YtcgbepmhfimbjaaGreatDoor

namespace Go.Proofs.YtcgbepmhfimbjaaGreatDoor
open Go.RowKit

inductive Nd where
  | zero
  | one
  | test (n : Int)
  | act (n : Int)
  | not (a : Nd)
  | sum (a b : Nd)
  | dot (a b : Nd)
  | star (a : Nd)
deriving DecidableEq, Inhabited

namespace Nd
def size : Nd → Nat
  | zero | one | test _ | act _ => 1
  | not a | star a => 1 + a.size
  | sum a b | dot a b => 1 + a.size + b.size
def val : Nd → Value
  | zero => .iface 169 (.agg #[])
  | one => .iface 163 (.agg #[])
  | test n => .iface 165 (.agg #[.int .i64 n])
  | act n => .iface 166 (.agg #[.int .i64 n])
  | not a => .iface 202 (.agg #[a.val, .int .i64 (1 + a.size : Nat)])
  | sum a b => .iface 204 (.agg #[a.val, b.val, .int .i64 (1 + a.size + b.size : Nat)])
  | dot a b => .iface 206 (.agg #[a.val, b.val, .int .i64 (1 + a.size + b.size : Nat)])
  | star a => .iface 207 (.agg #[a.val, .int .i64 (1 + a.size : Nat)])
end Nd

/-- The node of an expression without kids. -/
def leaf (k n : Int) : Nd := if k = 2 then .one else if k = 3 then .test n else if k = 4 then .act n else .zero
/-- The node of an expression. -/
def ndE : Fo → Int → Int → Nd
  | .nil, k, n => leaf k n
  | .cons k1 n1 f1 .nil, k, n => if k = 5 then .not (ndE f1 k1 n1) else if k = 8 then .star (ndE f1 k1 n1) else leaf k n
  | .cons k1 n1 f1 (.cons k2 n2 f2 _), k, n => if k = 6 then .sum (ndE f1 k1 n1) (ndE f2 k2 n2) else if k = 7 then .dot (ndE f1 k1 n1) (ndE f2 k2 n2) else leaf k n

/-- The forms that an expression of the table has. -/
theorem tree_forms {t a : Int} {b : Bool} {k n : Int} {f : Fo} (h : treeE t a b k n f = true) :
    (f = .nil ∧ (k = 1 ∨ k = 2 ∨ (k = 3 ∧ 0 ≤ n ∧ n < t) ∨ (k = 4 ∧ 0 ≤ n ∧ n < a))) ∨
    (∃ k1 n1 f1, f = .cons k1 n1 f1 .nil ∧ (k = 5 ∨ k = 8) ∧ treeE t a (b || k == 5) k1 n1 f1 = true) ∨
    (∃ k1 n1 f1 k2 n2 f2, f = .cons k1 n1 f1 (.cons k2 n2 f2 .nil) ∧ (k = 6 ∨ k = 7) ∧ treeE t a b k1 n1 f1 = true ∧ treeE t a b k2 n2 f2 = true) := by
  have h0 := h
  unfold treeE shapeB at h
  simp only [Bool.and_eq_true, decide_eq_true_eq] at h
  obtain ⟨⟨⟨h1, h2, h3⟩, h4⟩, h5⟩ := h
  have hk : (1 ≤ k ∧ k ≤ 4 ∧ f.len = 0) ∨ ((k = 5 ∨ k = 8) ∧ f.len = 1) ∨ ((k = 6 ∨ k = 7) ∧ f.len = 2) := by
    unfold kidC at h1
    split at h1
    · left; omega
    · split at h1
      · right; left; omega
      · split at h1
        · right; right; omega
        · omega
  rcases hk with ⟨hk1, hk2, hl⟩ | ⟨hk, hl⟩ | ⟨hk, hl⟩
  · left
    refine ⟨Fo.nil_of_len hl, ?_⟩
    unfold numC at h3
    split at h3
    · right; right; left; omega
    · split at h3
      · right; right; right; omega
      · omega
  · right; left
    match f, hl with
    | .cons k1 n1 f1 r, hl =>
      have hr : r = .nil := Fo.nil_of_len (by simp [Fo.len] at hl; omega)
      subst hr
      refine ⟨k1, n1, f1, rfl, hk, ?_⟩
      rw [Fo.tree_cons] at h5
      simp only [Bool.and_eq_true] at h5
      exact h5.1
  · right; right
    have hk5 : (k == 5) = false := by rw [beq_eq_false_iff_ne]; omega
    match f, hl with
    | .cons k1 n1 f1 (.cons k2 n2 f2 r), hl =>
      have hr : r = .nil := Fo.nil_of_len (by simp [Fo.len] at hl; omega)
      subst hr
      refine ⟨k1, n1, f1, k2, n2, f2, rfl, hk, ?_⟩
      rw [hk5, Bool.or_false, Fo.tree_cons, Fo.tree_cons] at h5
      simp only [Bool.and_eq_true] at h5
      exact ⟨h5.1, h5.2.1⟩
    | .cons _ _ _ .nil, hl => simp [Fo.len] at hl

theorem leaf_size (k n : Int) : (leaf k n).size = 1 := by
  unfold leaf; split
  · rfl
  · split
    · rfl
    · split <;> rfl
theorem ndE_size : ∀ (f : Fo) (k n : Int), (ndE f k n).size ≤ 1 + f.nodes
  | .nil, k, n => by simp [ndE, leaf_size, Fo.nodes]
  | .cons k1 n1 f1 .nil, k, n => by
    have h1 := ndE_size f1 k1 n1
    unfold ndE
    split
    · simp only [Nd.size, Fo.nodes]; omega
    · split
      · simp only [Nd.size, Fo.nodes]; omega
      · rw [leaf_size]; omega
  | .cons k1 n1 f1 (.cons k2 n2 f2 r), k, n => by
    have h1 := ndE_size f1 k1 n1
    have h2 := ndE_size f2 k2 n2
    unfold ndE
    split
    · simp only [Nd.size, Fo.nodes]; omega
    · split
      · simp only [Nd.size, Fo.nodes]; omega
      · rw [leaf_size]; omega
end Go.Proofs.YtcgbepmhfimbjaaGreatDoor
