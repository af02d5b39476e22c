/- Contract of impl.possibleBehind. Contract of impl.indicesWhere. Contract of impl.atomSet.list. Contracts of impl.every at premises, impl.validPremise, impl.ValidPremises. -/
import Derived.Test.YtmblgkpgfofceaaAxf
import Derived.Test.YtmblgkpgfofceaaAxg
import Derived.Test.YtmblgkpgfofceaaAxd
import Derived.Lib.Hide
import Derived.Test.YtmblgkpgfofceaaPrD
import Derived.Test.YtmblgkpgfofceaaPrC
import Derived.Shelf.Abstract
import Derived.Laws.EntriesVeiled
import Derived.Deep.RegionHeld3
namespace Go.Proofs.Ytmblgkpgfofceaa
open Go.RowKit
set_option linter.unusedVariables false

set_option maxHeartbeats 4000000 in
set_option maxRecDepth 100000 in
theorem possibleBehind_any (t a : Int) (h0 : 0 ≤ t) (h1 : t ≤ 3) (xs : Ft) (hm : xs.len ≤ 9223372036854775807) (i : Nat) (hi : i < 8) (A : Option Addr) (C : Nat) (w : World) (hl : xs.Lies w A) :
    Calls Try.prog 53 #[.agg #[.int .i64 t, .int .i64 a], .slice A xs.len C, .int .i64 (i : Int)] w fun e w' => e = .returned (.agg (arr8 (setOfG (atomsNat t) (fun j => xs.allG (ruleG i j))))) ∧ Below w.heap.size w w' := by
  obtain ⟨S, hS⟩ : ∃ S : Nat → Bool, S = setOfG (atomsNat t) (fun j => xs.allG (ruleG i j)) := ⟨_, rfl⟩
  have KW : Hid (∀ (W : World) (p1 p2 : Nat), Sees w W → W.cell? ⟨p1, 0, none⟩ = some (.slice A xs.len C) → W.cell? ⟨p2, 0, none⟩ = some (.int .i64 (i : Int)) → Calls Try.prog 108 #[.agg #[.int .i64 t, .int .i64 a], .func (.func 109) #[] #[.pointer (some ⟨p1, 0, none⟩), .pointer (some ⟨p2, 0, none⟩)]] W fun e w' => e = .returned (.agg #[.bool (S 0), .bool (S 1), .bool (S 2), .bool (S 3), .bool (S 4), .bool (S 5), .bool (S 6), .bool (S 7)]) ∧ Below W.heap.size W w') := fun W p1 p2 h c1 c2 => by
    show Calls _ _ _ _ (fun e w' => e = .returned (.agg (arr8 S)) ∧ Below W.heap.size W w')
    rw [hS]
    exact atomsWhere_any t a h0 h1 (fun j => xs.allG (ruleG i j)) 109 #[.pointer (some ⟨p1, 0, none⟩), .pointer (some ⟨p2, 0, none⟩)] (enters_of Try.func109 (by kernel_rfl) rfl) W (fun W2 j s hj => behind1_any xs hm i j hi (by have := (atomsNat_bd t).2; omega) A C p1 p2 W2 (hl.sees (Sees.below h s)) (kc s c1) (kc s c2))
  rw [← hS]
  obtain ⟨W0, hW0⟩ : ∃ W0, W0 = ((((w.alloc (.cells #[.int .i64 t, .int .i64 a] 29)).alloc (.cells #[.slice A xs.len C] 90)).alloc (.cells #[.int .i64 (i : Int)] 2)).alloc (.cells (arr8 (fun _ => false)) 88)) := ⟨_, rfl⟩
  have HK0 : Hid (W0.heap[w.heap.size + 1 + 1 + 1]? = some (.cells (arr8 (fun _ => false)) 88 (0, 0))) := by show _ = _; rw [hW0]; exact heap_new _ _ _ (by simp)
  have S0 : Sees w W0 := by rw [hW0]; exact ((((Sees.refl w).alloc _).alloc _).alloc _).alloc _
  have z0 : w.heap.size + 1 + 1 + 1 < W0.heap.size := World.block_lt_of_cell? _ _ (arr8_facts HK0.out).1
  have c1 : W0.cell? ⟨w.heap.size + 1, 0, none⟩ = some (.slice A xs.len C) := by rw [hW0]; simp [go_sem]
  have c2 : W0.cell? ⟨w.heap.size + 1 + 1, 0, none⟩ = some (.int .i64 (i : Int)) := by rw [hW0]; simp [go_sem]
  have HC := Lib.hid (And.intro c1 c2); have HZ := Lib.hid z0; have HS0 := Lib.hid S0
  clear c1 c2 z0 S0 hS hl h0 h1 hm hi
  go_enter Try.func53, Try.ntmps53
  go_wp2_with fail
  show Calls _ _ _ ((((w.alloc (.cells #[.int .i64 t, .int .i64 a] 29)).alloc (.cells #[.slice A xs.len C] 90)).alloc (.cells #[.int .i64 (i : Int)] 2)).alloc (.cells (arr8 (fun _ => false)) 88)) _
  rw [← hW0]
  clear hW0
  refine (KW.out _ (w.heap.size + 1) (w.heap.size + 1 + 1) HS0.out HC.out.1 HC.out.2).mono ?_
  rintro e w2 ⟨rfl, hb⟩
  have HS3 : Hid (Sees w w2) := Sees.below HS0.out hb
  have HK3 := Lib.hid ((hb.block _ HZ.out).trans HK0.out)
  clear hb HS0 HK0 HZ HC KW
  obtain ⟨d0, d1, d2, d3, d4, d5, d6, d7, g0, g1, g2, g3, g4, g5, g6, g7⟩ := arr8_facts HK3.out
  go_wp2_with fail
  have Bf : Sees w ((((((((w2.setCell ⟨w.heap.size + 1 + 1 + 1, 0, none⟩ (.bool (S 0))).setCell ⟨w.heap.size + 1 + 1 + 1, 1, none⟩ (.bool (S 1))).setCell ⟨w.heap.size + 1 + 1 + 1, 2, none⟩ (.bool (S 2))).setCell ⟨w.heap.size + 1 + 1 + 1, 3, none⟩ (.bool (S 3))).setCell ⟨w.heap.size + 1 + 1 + 1, 4, none⟩ (.bool (S 4))).setCell ⟨w.heap.size + 1 + 1 + 1, 5, none⟩ (.bool (S 5))).setCell ⟨w.heap.size + 1 + 1 + 1, 6, none⟩ (.bool (S 6))).setCell ⟨w.heap.size + 1 + 1 + 1, 7, none⟩ (.bool (S 7))) := (Below.setCell (Below.setCell (Below.setCell (Below.setCell (Below.setCell (Below.setCell (Below.setCell (Below.setCell HS3.out (show w.heap.size ≤ w.heap.size + 1 + 1 + 1 by omega) _) (show w.heap.size ≤ w.heap.size + 1 + 1 + 1 by omega) _) (show w.heap.size ≤ w.heap.size + 1 + 1 + 1 by omega) _) (show w.heap.size ≤ w.heap.size + 1 + 1 + 1 by omega) _) (show w.heap.size ≤ w.heap.size + 1 + 1 + 1 by omega) _) (show w.heap.size ≤ w.heap.size + 1 + 1 + 1 by omega) _) (show w.heap.size ≤ w.heap.size + 1 + 1 + 1 by omega) _) (show w.heap.size ≤ w.heap.size + 1 + 1 + 1 by omega) _)
  have kf : ((((((((w2.setCell ⟨w.heap.size + 1 + 1 + 1, 0, none⟩ (.bool (S 0))).setCell ⟨w.heap.size + 1 + 1 + 1, 1, none⟩ (.bool (S 1))).setCell ⟨w.heap.size + 1 + 1 + 1, 2, none⟩ (.bool (S 2))).setCell ⟨w.heap.size + 1 + 1 + 1, 3, none⟩ (.bool (S 3))).setCell ⟨w.heap.size + 1 + 1 + 1, 4, none⟩ (.bool (S 4))).setCell ⟨w.heap.size + 1 + 1 + 1, 5, none⟩ (.bool (S 5))).setCell ⟨w.heap.size + 1 + 1 + 1, 6, none⟩ (.bool (S 6))).setCell ⟨w.heap.size + 1 + 1 + 1, 7, none⟩ (.bool (S 7))).heap[w.heap.size + 1 + 1 + 1]? = some (.cells (arr8 S) 88 (0, 0)) := (Fo.block_setCell (Fo.block_setCell (Fo.block_setCell (Fo.block_setCell (Fo.block_setCell (Fo.block_setCell (Fo.block_setCell (Fo.block_setCell HK3.out (.bool (S 0))) (.bool (S 1))) (.bool (S 2))) (.bool (S 3))) (.bool (S 4))) (.bool (S 5))) (.bool (S 6))) (.bool (S 7)))
  generalize ((((((((w2.setCell ⟨w.heap.size + 1 + 1 + 1, 0, none⟩ (.bool (S 0))).setCell ⟨w.heap.size + 1 + 1 + 1, 1, none⟩ (.bool (S 1))).setCell ⟨w.heap.size + 1 + 1 + 1, 2, none⟩ (.bool (S 2))).setCell ⟨w.heap.size + 1 + 1 + 1, 3, none⟩ (.bool (S 3))).setCell ⟨w.heap.size + 1 + 1 + 1, 4, none⟩ (.bool (S 4))).setCell ⟨w.heap.size + 1 + 1 + 1, 5, none⟩ (.bool (S 5))).setCell ⟨w.heap.size + 1 + 1 + 1, 6, none⟩ (.bool (S 6))).setCell ⟨w.heap.size + 1 + 1 + 1, 7, none⟩ (.bool (S 7))) = wj at Bf kf ⊢
  clear d0 d1 d2 d3 d4 d5 d6 d7 g0 g1 g2 g3 g4 g5 g6 g7
  obtain ⟨p0, p1, p2, p3, p4, p5, p6, p7, _⟩ := arr8_facts kf
  exact bodyPost_ret (v := .agg (arr8 S)) (by simp [results, Try.results53, go_sem, p0, p1, p2, p3, p4, p5, p6, p7, arr8]) rfl ⟨rfl, Bf⟩
end Go.Proofs.Ytmblgkpgfofceaa

namespace Go.Proofs.Ytmblgkpgfofceaa
open Go.RowKit

set_option maxHeartbeats 2000000 in
set_option maxRecDepth 100000 in
theorem indicesWhere_any (g : Nat → Bool) (n : Nat) (hn : n ≤ 1048576) (A : Option Addr) (C : Nat) (w : World) (hl : 0 < n → ∃ b o, A = some ⟨b, o, none⟩ ∧ ∀ j, j < n → w.cell? ⟨b, o + j, none⟩ = some (.bool (g j))) :
    Calls Try.prog 113 #[.slice A n C] w fun e w' => ∃ A' C', e = .returned (.slice A' (pickA g n).length C') ∧ IntsIn w' (pickA g n) w.heap.size w'.heap.size A' ∧ Below w.heap.size w w' := by
  have HL := Lib.hid hl
  clear hl
  go_enter Try.func113, Try.ntmps113
  go_wp2_with fail
  go_loopw [3, 8] (fun v i wr => ∃ j : Nat, j ≤ n ∧ i = .int .i64 j ∧ Hid (OwnI wr w.heap.size v (pickA g j)) ∧ Hid (Sees w wr)) (fun _ i _ => n - (intOf i).toNat)
  case atStart => exact ⟨0, Nat.zero_le _, rfl, OwnI.nil _ _, Sees.refl _⟩
  case round =>
    obtain ⟨j, hj, rfl, hO, hS⟩ := hrel
    by_cases hjl : j < n
    · obtain ⟨b, o, rfl, hat⟩ := HL.out (by omega)
      have cj := kc hS.out (hat j hjl)
      have JL := Lib.hid hjl
      obtain ⟨q, hq⟩ : ∃ q : Bool, q = g j := ⟨_, rfl⟩
      rw [← hq] at cj
      have j0 : (0 : Int) ≤ (j : Int) := Int.natCast_nonneg _
      have j1 : (j : Int) < (n : Int) := by omega
      clear hat
      cases q
      · have hP : Hid (pickA g (j + 1) = pickA g j) := pickA_no hq.symm
        have hO2 := Lib.hid (show OwnI wr w.heap.size _ (pickA g (j + 1)) by rw [hP.out]; exact hO.out)
        clear hq hO
        go_wp2_with fail
        go_roundw
        case rel => exact ⟨j + 1, JL.out, by go_num, hO2, hS⟩
        case measure => have := JL.out; simp [intOf]; omega
      · have hP : Hid (pickA g (j + 1) = pickA g j ++ [(j : Int)]) := pickA_yes hq.symm
        have hln : Hid ((pickA g j).length < 4194304) := by have := pickA_len g j; show _ < _; omega
        clear hq
        have hsz := hS.out.size
        go_wp2_with (at_builtin; refine wpList_append_one wr (by rfl) _ _ (by rfl) w.heap.size _ (pickA g j) (j : Int) (by rfl) (by rfl) hO.out hln.out hsz (by rfl) ?_)
        intro v' w3 hO3 hB3
        have hO4 : Hid (OwnI w3 w.heap.size v' (pickA g (j + 1))) := by show OwnI _ _ _ _; rw [hP.out]; exact hO3
        have hS4 : Hid (Sees w w3) := hB3 w rfl hS.out
        clear hO3 hB3
        go_wp2_with fail
        go_roundw
        case rel => exact ⟨j + 1, JL.out, by go_num, hO4, hS4⟩
        case measure => have := JL.out; simp [intOf]; omega
    · obtain rfl : j = n := by omega
      obtain ⟨A', C', hv, hI⟩ := hO.out.ints hS.out.size
      subst hv
      have HI := Lib.hid hI
      clear hjl hO hI
      go_wp2_with fail
      go_ret
      exact ⟨A', C', rfl, HI.out, hS.out⟩
end Go.Proofs.Ytmblgkpgfofceaa

namespace Go.Proofs.Ytmblgkpgfofceaa
open Go.RowKit

set_option maxHeartbeats 4000000 in
set_option maxRecDepth 100000 in
theorem list_any (f : Nat → Bool) (w : World) :
    Calls Try.prog 55 #[.agg (arr8 f)] w fun e w' => ∃ A C, e = .returned (.slice A (pickA f 8).length C) ∧ IntsIn w' (pickA f 8) w.heap.size w'.heap.size A ∧ Below w.heap.size w w' := by
  obtain ⟨W0, hW0⟩ : ∃ W0, W0 = w.alloc (.cells (arr8 f) 88) := ⟨_, rfl⟩
  have k0 : W0.heap[w.heap.size]? = some (.cells (arr8 f) 88 (0, 0)) := by rw [hW0]; exact heap_new _ _ _ rfl
  have HW : Hid (Sees w W0) := by show Sees _ _; rw [hW0]; exact (Sees.refl w).alloc _
  have KI : Hid (∀ W : World, Sees W0 W → Calls Try.prog 113 #[.slice (some ⟨w.heap.size, 0, none⟩) 8 8] W fun e w' => ∃ A' C', e = .returned (.slice A' (pickA f 8).length C') ∧ IntsIn w' (pickA f 8) W.heap.size w'.heap.size A' ∧ Below W.heap.size W w') := fun W h =>
    indicesWhere_any f 8 (by omega) _ 8 W (fun _ => ⟨w.heap.size, 0, rfl, fun j hj => by
      refine kc h ?_
      rw [Fo.cell_of_block k0, Nat.zero_add]
      rcases lt8 hj with rfl | rfl | rfl | rfl | rfl | rfl | rfl | rfl <;> rfl⟩)
  clear k0
  go_enter Try.func55, Try.ntmps55
  go_wp2_with fail
  rw [← hW0]
  clear hW0
  refine (KI.out _ (Sees.refl _)).mono ?_
  rintro e w1 ⟨A, C, rfl, hI, hb⟩
  have hI := Lib.hid (hI.mono HW.out.size (Nat.le_refl _))
  have hb := Lib.hid (Sees.below HW.out hb)
  go_wp2_with fail
  go_ret
  exact ⟨A, C, rfl, hI.out, hb.out⟩
end Go.Proofs.Ytmblgkpgfofceaa

namespace Go.Proofs.Ytmblgkpgfofceaa
open Go.RowKit

set_option maxHeartbeats 400000 in
theorem every1P_any (q : Bool) (N : Nat) (caps : Array Value) (eg : ∀ args w, (callFunc N args).run Try.prog w = .ok (.enter N args) w) (bh : Nat) (x : Pm) (A B : Option Addr) (C D : Nat) (w : World) (hc : w.cell? ⟨bh, 0, none⟩ = some (.func (.func N) #[] caps))
    (KC : Hid (∀ W : World, Sees w W → Calls Try.prog N (#[.agg #[.int .i64 x.pk, .int .i64 x.pn, .slice A x.pf.len C, .int .i64 x.act, .int .i64 x.qk, .int .i64 x.qn, .slice B x.qf.len D]] ++ caps) W fun e w' => e = .returned (.bool q) ∧ Below W.heap.size W w')) :
    Calls Try.prog 141 #[.agg #[.int .i64 x.pk, .int .i64 x.pn, .slice A x.pf.len C, .int .i64 x.act, .int .i64 x.qk, .int .i64 x.qn, .slice B x.qf.len D], .pointer (some ⟨bh, 0, none⟩)] w fun e w' => e = .returned (.bool (!q)) ∧ Below w.heap.size w w' := by
  have hc2 := ka (.cells #[.int .i64 x.pk, .int .i64 x.pn, .slice A x.pf.len C, .int .i64 x.act, .int .i64 x.qk, .int .i64 x.qn, .slice B x.qf.len D] 50) hc
  have KS := Lib.hid (KC.out _ ((Sees.refl w).alloc (.cells #[.int .i64 x.pk, .int .i64 x.pn, .slice A x.pf.len C, .int .i64 x.act, .int .i64 x.qk, .int .i64 x.qn, .slice B x.qf.len D] 50)))
  clear hc KC
  cases q
  all_goals
    go_enter Try.func141, Try.ntmps141
    go_wp2_with (go_at_fn N; refine KS.out.mono ?_; rintro e w1 ⟨rfl, hb⟩)
    go_ret
    exact ⟨rfl, Sees.below ((Sees.refl w).alloc _) (by assumption)⟩

set_option maxHeartbeats 1000000 in
theorem indexP_any (G : Pm → Bool) (bh : Nat) (xs : List Pm) (hm : xs.length ≤ 9223372036854775807) (A : Option Addr) (C : Nat) (w : World) (hl : PmL w xs A)
    (KC : Hid (∀ (W : World) (x : Pm) (A B : Option Addr) (C D : Nat), Sees w W → x ∈ xs → x.pf.Lies W A → x.qf.Lies W B → Calls Try.prog 141 #[.agg #[.int .i64 x.pk, .int .i64 x.pn, .slice A x.pf.len C, .int .i64 x.act, .int .i64 x.qk, .int .i64 x.qn, .slice B x.qf.len D], .pointer (some ⟨bh, 0, none⟩)] W fun e w' => e = .returned (.bool (!G x)) ∧ Below W.heap.size W w')) :
    Calls Try.prog 165 #[.slice A xs.length C, .func (.func 141) #[] #[.pointer (some ⟨bh, 0, none⟩)]] w fun e w' => (∃ i : Int, e = .returned (.int .i64 i) ∧ decide (0 ≤ i) = !(xs.all G)) ∧ Below w.heap.size w w' := by
  have HD : Hid (xs.all G = allS G xs 0) := allS_zero G xs
  have HH := Lib.hid hl
  clear hl
  go_enter Try.func165, Try.ntmps165
  go_wp2_with fail
  go_loopw [8] (fun i wr => ∃ j : Nat, j ≤ xs.length ∧ i = .int .i64 j ∧ Hid (xs.all G = allS G xs j) ∧ Hid (Below w.heap.size w wr)) (fun i _ => xs.length - (intOf i).toNat)
  case atStart => exact ⟨0, Nat.zero_le _, rfl, HD, Below.refl _ _⟩
  case round =>
    obtain ⟨j, hj, rfl, hq, hw⟩ := hrel
    clear HD
    by_cases hjl : j < xs.length
    · obtain ⟨b, o, rfl, hat⟩ := HH.out (by rintro rfl; simp at hjl)
      obtain ⟨A', C', B', D', c', hQ, hR⟩ := hat j xs[j] (List.getElem?_eq_getElem hjl)
      have hst0 := allS_step G xs hjl
      have hin := List.getElem_mem hjl
      obtain ⟨x, hx⟩ : ∃ x, x = xs[j] := ⟨_, rfl⟩
      rw [← hx] at c' hst0 hin hQ hR
      obtain ⟨c0, c1, c2, c3, c4, c5, c6⟩ := c'.below hw.out
      have KX := Lib.hid (KC.out wr x A' B' C' D' hw.out hin (hQ.below hw.out) (hR.below hw.out))
      have HA := Lib.hid hat
      have hst : Hid (xs.all G = (G x && allS G xs (j + 1))) := hq.out.trans hst0
      obtain ⟨q, hqe⟩ : ∃ q : Bool, q = G x := ⟨_, rfl⟩
      rw [← hqe] at KX hst
      clear hat hst0 c' hx hin hQ hR hqe hq
      have hj0 : (0 : Int) ≤ (j : Int) := Int.natCast_nonneg _
      have hj1 : (j : Int) < (xs.length : Int) := by omega
      cases q
      · have hq2 : Hid (decide ((0 : Int) ≤ (j : Int)) = !(xs.all G)) := by show _ = _; rw [hst.out, decide_eq_true hj0]; rfl
        go_wp2_with fail
        refine KX.out.mono ?_
        rintro e w1 ⟨rfl, hb1⟩
        have hw2 := Sees.below hw.out hb1
        clear hb1 c0 c1 c2 c3 c4 c5 c6
        go_wp2_with fail
        go_ret
        exact ⟨⟨_, rfl, hq2.out⟩, hw2⟩
      · have hq2 : Hid (xs.all G = allS G xs (j + 1)) := by show _ = _; rw [hst.out]; rfl
        go_wp2_with fail
        refine KX.out.mono ?_
        rintro e w1 ⟨rfl, hb1⟩
        have hw2 := Lib.hid (Sees.below hw.out hb1)
        clear hb1 c0 c1 c2 c3 c4 c5 c6
        go_wp2_with fail
        go_roundw
        case rel => exact ⟨j + 1, by omega, by go_num, hq2, hw2⟩
        case measure => simp [intOf]; omega
    · obtain rfl : j = xs.length := by omega
      have hq2 : Hid (decide ((0 : Int) ≤ -1) = !(xs.all G)) := by show _ = _; rw [hq.out, allS_end]; rfl
      clear hq
      go_wp2_with fail
      go_ret
      exact ⟨⟨_, rfl, hq2.out⟩, hw.out⟩

set_option maxHeartbeats 400000 in
theorem containsP_any (G : Pm → Bool) (bh : Nat) (xs : List Pm) (hm : xs.length ≤ 9223372036854775807) (A : Option Addr) (C : Nat) (w : World) (hl : PmL w xs A)
    (KC : Hid (∀ (W : World) (x : Pm) (A B : Option Addr) (C D : Nat), Sees w W → x ∈ xs → x.pf.Lies W A → x.qf.Lies W B → Calls Try.prog 141 #[.agg #[.int .i64 x.pk, .int .i64 x.pn, .slice A x.pf.len C, .int .i64 x.act, .int .i64 x.qk, .int .i64 x.qn, .slice B x.qf.len D], .pointer (some ⟨bh, 0, none⟩)] W fun e w' => e = .returned (.bool (!G x)) ∧ Below W.heap.size W w')) :
    Calls Try.prog 140 #[.slice A xs.length C, .func (.func 141) #[] #[.pointer (some ⟨bh, 0, none⟩)]] w fun e w' => e = .returned (.bool (!(xs.all G))) ∧ Below w.heap.size w w' := by
  have KI := Lib.hid (indexP_any G bh xs hm A C w hl KC)
  clear hl
  obtain ⟨q, hq⟩ : ∃ q : Bool, q = xs.all G := ⟨_, rfl⟩
  rw [← hq] at KI ⊢
  clear hq
  go_enter Try.func140, Try.ntmps140
  go_wp2_with fail
  refine KI.out.mono ?_
  rintro e w1 ⟨⟨i, rfl, hi⟩, hb⟩
  by_cases h0 : 0 ≤ i
  · have hi' : q = false := by rw [decide_eq_true h0] at hi; simpa using hi.symm
    subst hi'
    clear hi
    go_wp2_with fail
    go_ret
    exact ⟨rfl, hb⟩
  · have hi' : q = true := by rw [decide_eq_false h0] at hi; simpa using hi.symm
    subst hi'
    clear hi
    have hd : Hid (decide (0 ≤ i) = !true) := decide_eq_false h0
    go_wp2_with fail
    go_ret
    exact ⟨ret_bool hd.out, hb⟩

set_option maxHeartbeats 400000 in
theorem everyP_any (G : Pm → Bool) (N : Nat) (caps : Array Value) (eg : ∀ args w, (callFunc N args).run Try.prog w = .ok (.enter N args) w) (xs : List Pm) (hm : xs.length ≤ 9223372036854775807) (A : Option Addr) (C : Nat) (w : World) (hl : PmL w xs A)
    (KC : Hid (∀ (W : World) (x : Pm) (A B : Option Addr) (C D : Nat), Sees w W → x ∈ xs → x.pf.Lies W A → x.qf.Lies W B → Calls Try.prog N (#[.agg #[.int .i64 x.pk, .int .i64 x.pn, .slice A x.pf.len C, .int .i64 x.act, .int .i64 x.qk, .int .i64 x.qn, .slice B x.qf.len D]] ++ caps) W fun e w' => e = .returned (.bool (G x)) ∧ Below W.heap.size W w')) :
    Calls Try.prog 106 #[.slice A xs.length C, .func (.func N) #[] caps] w fun e w' => e = .returned (.bool (xs.all G)) ∧ Below w.heap.size w w' := by
  have KI : Hid (∀ W : World, Sees w W → W.cell? ⟨w.heap.size, 0, none⟩ = some (.func (.func N) #[] caps) → Calls Try.prog 140 #[.slice A xs.length C, .func (.func 141) #[] #[.pointer (some ⟨w.heap.size, 0, none⟩)]] W fun e w' => e = .returned (.bool (!(xs.all G))) ∧ Below W.heap.size W w') := fun W h hc =>
    containsP_any G w.heap.size xs hm A C W (hl.below h) (fun W' x A B C D h' hx hQ hR => every1P_any (G x) N caps eg w.heap.size x A B C D W' (kc h' hc) (fun W2 h2 => KC.out W2 x A B C D (Sees.below h (Sees.below h' h2)) hx (hQ.below h2) (hR.below h2)))
  clear hl
  obtain ⟨q, hq⟩ : ∃ q : Bool, q = xs.all G := ⟨_, rfl⟩
  rw [← hq] at KI ⊢
  clear hq
  cases q
  all_goals
    go_enter Try.func106, Try.ntmps106
    go_wp2_with fail
    refine (KI.out _ (by unfold Sees; go_grown) (by simp [go_sem])).mono ?_
    rintro e w1 ⟨rfl, hb⟩
    have B1 : Sees w w1 := Sees.below (by unfold Sees; go_grown) hb
    clear hb
    go_wp2_with fail
    go_ret
    exact ⟨rfl, B1⟩

set_option maxHeartbeats 1000000 in
set_option maxRecDepth 100000 in
theorem validPremise_any (t a : Int) (x : Pm) (hm : x.pf.nodes + x.qf.nodes ≤ 1048576) (hf : x.pf.Fits) (hg : x.qf.Fits) (A B : Option Addr) (C D : Nat) (w : World) (hA : x.pf.Lies w A) (hB : x.qf.Lies w B) :
    Calls Try.prog 64 #[.agg #[.int .i64 t, .int .i64 a], .agg #[.int .i64 x.pk, .int .i64 x.pn, .slice A x.pf.len C, .int .i64 x.act, .int .i64 x.qk, .int .i64 x.qn, .slice B x.qf.len D]] w fun e w' => e = .returned (.bool (premB t a x)) ∧ Below w.heap.size w w' := by
  obtain ⟨q1, hq1⟩ : ∃ q : Bool, q = condV t a x.pk x.pn x.pf := ⟨_, rfl⟩
  obtain ⟨q2, hq2⟩ : ∃ q : Bool, q = condV t a x.qk x.qn x.qf := ⟨_, rfl⟩
  obtain ⟨q3, hq3⟩ : ∃ q : Bool, q = belowB x.act a := ⟨_, rfl⟩
  have K1 : Hid (∀ W : World, Sees w W → Calls Try.prog 120 #[.agg #[.int .i64 t, .int .i64 a], .agg #[.int .i64 x.pk, .int .i64 x.pn, .slice A x.pf.len C]] W fun e w' => e = .returned (.bool q1) ∧ Below W.heap.size W w') := fun W h => by
    rw [hq1]; exact validCondition_any t a x.pk x.pn x.pf (by omega) hf A C W (hA.sees h)
  have K2 : Hid (∀ W : World, Sees w W → Calls Try.prog 120 #[.agg #[.int .i64 t, .int .i64 a], .agg #[.int .i64 x.qk, .int .i64 x.qn, .slice B x.qf.len D]] W fun e w' => e = .returned (.bool q2) ∧ Below W.heap.size W w') := fun W h => by
    rw [hq2]; exact validCondition_any t a x.qk x.qn x.qf (by omega) hg B D W (hB.sees h)
  have K3 : Hid (∀ W : World, Calls Try.prog 51 #[.int .i64 x.act, .int .i64 a] W fun e w' => e = .returned (.bool q3) ∧ Below W.heap.size W w') := fun W => (below_any x.act a W).mono fun e w' h => ⟨by rw [hq3]; exact h.1, by rw [← h.2]; exact Below.refl _ _⟩
  have HD : Hid (premB t a x = (q1 && (q3 && q2))) := by show _ = _; unfold premB; rw [hq1, hq2, hq3]
  clear hq1 hq2 hq3 hA hB hf hg hm
  cases q1
  · clear K2 K3
    go_enter Try.func64, Try.ntmps64
    go_wp2_with fail
    refine (K1.out _ (by unfold Sees; go_grown)).mono ?_
    rintro e w1 ⟨rfl, hb⟩
    have S1 : Hid (St w [(w.heap.size, 0, .int .i64 t), (w.heap.size, 1, .int .i64 a), (w.heap.size + 1, 0, .int .i64 x.pk), (w.heap.size + 1, 1, .int .i64 x.pn), (w.heap.size + 1, 2, .slice A x.pf.len C), (w.heap.size + 1, 3, .int .i64 x.act), (w.heap.size + 1, 4, .int .i64 x.qk), (w.heap.size + 1, 5, .int .i64 x.qn), (w.heap.size + 1, 6, .slice B x.qf.len D)] w1) := St.below (l := [(w.heap.size, 0, .int .i64 t), (w.heap.size, 1, .int .i64 a), (w.heap.size + 1, 0, .int .i64 x.pk), (w.heap.size + 1, 1, .int .i64 x.pn), (w.heap.size + 1, 2, .slice A x.pf.len C), (w.heap.size + 1, 3, .int .i64 x.act), (w.heap.size + 1, 4, .int .i64 x.qk), (w.heap.size + 1, 5, .int .i64 x.qn), (w.heap.size + 1, 6, .slice B x.qf.len D)]) ⟨(by unfold Sees; go_grown), (by simp [go_sem]), (by simp [go_sem]), (by simp [go_sem]), (by simp [go_sem]), (by simp [go_sem]), (by simp [go_sem]), (by simp [go_sem]), (by simp [go_sem]), (by simp [go_sem]), trivial⟩ hb
    clear hb
    obtain ⟨B1, y0, y1, c0, c1, c2, c3, c4, c5, c6, _⟩ := S1.out
    go_wp2_with fail
    go_ret
    exact ⟨ret_bool HD.out.symm, B1⟩
  cases q3
  · clear K2
    go_enter Try.func64, Try.ntmps64
    go_wp2_with fail
    refine (K1.out _ (by unfold Sees; go_grown)).mono ?_
    rintro e w1 ⟨rfl, hb⟩
    have S1 : Hid (St w [(w.heap.size, 0, .int .i64 t), (w.heap.size, 1, .int .i64 a), (w.heap.size + 1, 0, .int .i64 x.pk), (w.heap.size + 1, 1, .int .i64 x.pn), (w.heap.size + 1, 2, .slice A x.pf.len C), (w.heap.size + 1, 3, .int .i64 x.act), (w.heap.size + 1, 4, .int .i64 x.qk), (w.heap.size + 1, 5, .int .i64 x.qn), (w.heap.size + 1, 6, .slice B x.qf.len D)] w1) := St.below (l := [(w.heap.size, 0, .int .i64 t), (w.heap.size, 1, .int .i64 a), (w.heap.size + 1, 0, .int .i64 x.pk), (w.heap.size + 1, 1, .int .i64 x.pn), (w.heap.size + 1, 2, .slice A x.pf.len C), (w.heap.size + 1, 3, .int .i64 x.act), (w.heap.size + 1, 4, .int .i64 x.qk), (w.heap.size + 1, 5, .int .i64 x.qn), (w.heap.size + 1, 6, .slice B x.qf.len D)]) ⟨(by unfold Sees; go_grown), (by simp [go_sem]), (by simp [go_sem]), (by simp [go_sem]), (by simp [go_sem]), (by simp [go_sem]), (by simp [go_sem]), (by simp [go_sem]), (by simp [go_sem]), (by simp [go_sem]), trivial⟩ hb
    clear hb
    obtain ⟨B1, y0, y1, c0, c1, c2, c3, c4, c5, c6, _⟩ := S1.out
    go_wp2_with fail
    refine (K3.out _).mono ?_
    rintro e w2 ⟨rfl, hb⟩
    have S2 := Lib.hid (St.below S1.out hb)
    clear hb y0 y1 c0 c1 c2 c3 c4 c5 c6 S1 B1
    obtain ⟨B2, y0, y1, c0, c1, c2, c3, c4, c5, c6, _⟩ := S2.out
    go_wp2_with fail
    go_ret
    exact ⟨ret_bool HD.out.symm, B2⟩
  · go_enter Try.func64, Try.ntmps64
    go_wp2_with fail
    refine (K1.out _ (by unfold Sees; go_grown)).mono ?_
    rintro e w1 ⟨rfl, hb⟩
    have S1 : Hid (St w [(w.heap.size, 0, .int .i64 t), (w.heap.size, 1, .int .i64 a), (w.heap.size + 1, 0, .int .i64 x.pk), (w.heap.size + 1, 1, .int .i64 x.pn), (w.heap.size + 1, 2, .slice A x.pf.len C), (w.heap.size + 1, 3, .int .i64 x.act), (w.heap.size + 1, 4, .int .i64 x.qk), (w.heap.size + 1, 5, .int .i64 x.qn), (w.heap.size + 1, 6, .slice B x.qf.len D)] w1) := St.below (l := [(w.heap.size, 0, .int .i64 t), (w.heap.size, 1, .int .i64 a), (w.heap.size + 1, 0, .int .i64 x.pk), (w.heap.size + 1, 1, .int .i64 x.pn), (w.heap.size + 1, 2, .slice A x.pf.len C), (w.heap.size + 1, 3, .int .i64 x.act), (w.heap.size + 1, 4, .int .i64 x.qk), (w.heap.size + 1, 5, .int .i64 x.qn), (w.heap.size + 1, 6, .slice B x.qf.len D)]) ⟨(by unfold Sees; go_grown), (by simp [go_sem]), (by simp [go_sem]), (by simp [go_sem]), (by simp [go_sem]), (by simp [go_sem]), (by simp [go_sem]), (by simp [go_sem]), (by simp [go_sem]), (by simp [go_sem]), trivial⟩ hb
    clear hb
    obtain ⟨B1, y0, y1, c0, c1, c2, c3, c4, c5, c6, _⟩ := S1.out
    go_wp2_with fail
    refine (K3.out _).mono ?_
    rintro e w2 ⟨rfl, hb⟩
    have S2 := Lib.hid (St.below S1.out hb)
    clear hb y0 y1 c0 c1 c2 c3 c4 c5 c6 S1 B1
    obtain ⟨B2, y0, y1, c0, c1, c2, c3, c4, c5, c6, _⟩ := S2.out
    go_wp2_with fail
    refine (K2.out _ B2).mono ?_
    rintro e w3 ⟨rfl, hb⟩
    have B3 := B2.below hb
    clear hb y0 y1 c0 c1 c2 c3 c4 c5 c6
    go_wp2_with fail
    go_ret
    exact ⟨ret_bool HD.out.symm, B3⟩

set_option maxHeartbeats 1000000 in
set_option maxRecDepth 100000 in
theorem premOf_any (t a : Int) (bg : Nat) (x : Pm) (hm : x.pf.nodes + x.qf.nodes ≤ 1048576) (hf : x.pf.Fits) (hg : x.qf.Fits) (A B : Option Addr) (C D : Nat) (w : World) (hg0 : w.cell? ⟨bg, 0, none⟩ = some (.int .i64 t)) (hg1 : w.cell? ⟨bg, 1, none⟩ = some (.int .i64 a)) (hA : x.pf.Lies w A) (hB : x.qf.Lies w B) :
    Calls Try.prog 107 #[.agg #[.int .i64 x.pk, .int .i64 x.pn, .slice A x.pf.len C, .int .i64 x.act, .int .i64 x.qk, .int .i64 x.qn, .slice B x.qf.len D], .pointer (some ⟨bg, 0, none⟩)] w fun e w' => e = .returned (.bool (premB t a x)) ∧ Below w.heap.size w w' := by
  obtain ⟨q, hq⟩ : ∃ q : Bool, q = premB t a x := ⟨_, rfl⟩
  have K : Hid (∀ W : World, Sees w W → Calls Try.prog 64 #[.agg #[.int .i64 t, .int .i64 a], .agg #[.int .i64 x.pk, .int .i64 x.pn, .slice A x.pf.len C, .int .i64 x.act, .int .i64 x.qk, .int .i64 x.qn, .slice B x.qf.len D]] W fun e w' => e = .returned (.bool q) ∧ Below W.heap.size W w') := fun W h => by rw [hq]; exact validPremise_any t a x hm hf hg A B C D W (hA.sees h) (hB.sees h)
  have y0 := ka (.cells #[.int .i64 x.pk, .int .i64 x.pn, .slice A x.pf.len C, .int .i64 x.act, .int .i64 x.qk, .int .i64 x.qn, .slice B x.qf.len D] 50) hg0; have y1 := ka (.cells #[.int .i64 x.pk, .int .i64 x.pn, .slice A x.pf.len C, .int .i64 x.act, .int .i64 x.qk, .int .i64 x.qn, .slice B x.qf.len D] 50) hg1
  rw [← hq]
  clear hq hm hf hg hA hB hg0 hg1
  go_enter Try.func107, Try.ntmps107
  go_wp2_with fail
  refine (K.out _ ((Sees.refl w).alloc _)).mono ?_
  rintro e w1 ⟨rfl, hb⟩
  have B1 : Sees w w1 := Sees.below ((Sees.refl w).alloc _) hb
  clear hb
  go_wp2_with fail
  go_ret
  exact ⟨rfl, B1⟩

set_option maxHeartbeats 2000000 in
set_option maxRecDepth 100000 in
theorem implValidPremises_any (t a : Int) (xs : List Pm) (hf : FitPm xs) (hm : tot Pm.cnt xs ≤ 1048576) (A : Option Addr) (C : Nat) (w : World) (hA : PmL w xs A) :
    Calls Try.prog 50 #[.agg #[.int .i64 t, .int .i64 a], .slice A xs.length C] w fun e w' => e = .returned (.bool (premsB t a xs)) ∧ Below w.heap.size w w' := by
  have hlen := pm_len xs
  obtain ⟨q0, hq0⟩ : ∃ q : Bool, q = sigOk t a := ⟨_, rfl⟩
  have K0 : Hid (∀ W : World, Calls Try.prog 105 #[.agg #[.int .i64 t, .int .i64 a]] W fun e w' => e = .returned (.bool q0) ∧ Below W.heap.size W w') := fun W => by rw [hq0]; exact implValidSig_any t a W
  obtain ⟨q3, hq3⟩ : ∃ q : Bool, q = xs.all (premB t a) := ⟨_, rfl⟩
  have K3 : Hid (∀ (W : World) (bg : Nat), Sees w W → W.cell? ⟨bg, 0, none⟩ = some (.int .i64 t) → W.cell? ⟨bg, 1, none⟩ = some (.int .i64 a) → Calls Try.prog 106 #[.slice A xs.length C, .func (.func 107) #[] #[.pointer (some ⟨bg, 0, none⟩)]] W fun e w' => e = .returned (.bool q3) ∧ Below W.heap.size W w') := fun W bg h h0 h1 => by
    rw [hq3]
    exact everyP_any (premB t a) 107 #[.pointer (some ⟨bg, 0, none⟩)] (enters_of Try.func107 (by kernel_rfl) rfl) xs hf.1 A C W (hA.sees h) (fun W2 x A2 B2 C2 D2 h2' hx hQ hR => premOf_any t a bg x (Nat.le_trans (pm_ge hx) hm) (hf.2 x hx).1.2 (hf.2 x hx).2.2 A2 B2 C2 D2 W2 (kc h2' h0) (kc h2' h1) hQ hR)
  have HS : Hid (premsB t a xs = (q0 && (decide ((xs.length : Int) ≤ 12) && q3))) := by
    show _ = _
    unfold premsB
    rw [← hq0, ← hq3]
  obtain ⟨w0, hw0⟩ : ∃ w0, w0 = w.alloc (.cells #[.int .i64 t, .int .i64 a] 29) := ⟨_, rfl⟩
  have B0 : Sees w w0 := by rw [hw0]; exact (Sees.refl w).alloc _
  have s0 : w0.cell? ⟨w.heap.size, 0, none⟩ = some (.int .i64 t) := by rw [hw0]; simp [go_sem]
  have s1 : w0.cell? ⟨w.heap.size, 1, none⟩ = some (.int .i64 a) := by rw [hw0]; simp [go_sem]
  clear hq0 hq3 hA hf hm
  cases q0
  · have HD : Hid (premsB t a xs = false) := by show _ = _; rw [HS.out]; rfl
    clear HS K3
    go_enter Try.func50, Try.ntmps50
    go_wp2_with fail
    rw [← hw0]
    refine (K0.out _).mono ?_
    rintro e w1 ⟨rfl, hb⟩
    have x0 := kc hb s0; have x1 := kc hb s1
    have B1 : Sees w w1 := B0.below hb
    clear hw0 s0 s1 hb B0
    go_wp2_with fail
    go_ret
    exact ⟨ret_bool HD.out.symm, B1⟩
  by_cases hhi : (xs.length : Int) ≤ 12
  case neg =>
    have HD : Hid (premsB t a xs = false) := by show _ = _; rw [HS.out, decide_eq_false hhi]; rfl
    have tl : decide ((xs.length : Int) ≤ 12) = false := decide_eq_false hhi
    clear HS K3
    go_enter Try.func50, Try.ntmps50
    go_wp2_with fail
    rw [← hw0]
    refine (K0.out _).mono ?_
    rintro e w1 ⟨rfl, hb⟩
    have x0 := kc hb s0; have x1 := kc hb s1
    have B1 : Sees w w1 := B0.below hb
    clear hw0 s0 s1 hb B0
    go_wp2_with fail
    go_ret
    exact ⟨ret_bool HD.out.symm, B1⟩
  have tl : decide ((xs.length : Int) ≤ 12) = true := decide_eq_true hhi
  have HD : Hid (premsB t a xs = q3) := by show _ = _; rw [HS.out, tl]; rfl
  clear HS
  go_enter Try.func50, Try.ntmps50
  go_wp2_with fail
  rw [← hw0]
  refine (K0.out _).mono ?_
  rintro e w1 ⟨rfl, hb⟩
  have x0 := kc hb s0; have x1 := kc hb s1
  have B1 : Sees w w1 := B0.below hb
  clear hw0 s0 s1 hb B0
  go_wp2_with fail
  refine (K3.out _ w.heap.size B1 x0 x1).mono ?_
  rintro e w3 ⟨rfl, hb⟩
  have B3 := B1.below hb
  clear hb
  go_wp2_with fail
  go_ret
  exact ⟨ret_bool HD.out.symm, B3⟩
end Go.Proofs.Ytmblgkpgfofceaa
