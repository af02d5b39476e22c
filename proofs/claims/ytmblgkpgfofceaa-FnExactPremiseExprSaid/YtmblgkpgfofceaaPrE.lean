/- Contracts of laws.eqPremiseS, laws.eqPremise, of premises and themselves. -/
import Derived.Test.YtmblgkpgfofceaaEq
import Derived.Test.YtmblgkpgfofceaaPr
import Derived.Deep.RegionHeld3
namespace Go.Proofs.Ytmblgkpgfofceaa
open Go.RowKit

set_option maxHeartbeats 1000000 in
set_option maxRecDepth 100000 in
theorem eqPremise_same (x : Pm) (hf : (x.pf.len ≤ 9223372036854775807 ∧ x.pf.Fits) ∧ (x.qf.len ≤ 9223372036854775807 ∧ x.qf.Fits)) (A A' B B' : Option Addr) (C C' D D' : Nat) (w : World) (hA : x.pf.Lies w A) (hB : x.qf.Lies w B) (hA' : x.pf.Lies w A') (hB' : x.qf.Lies w B') :
    Calls Try.prog 24 #[.agg #[.int .i64 x.pk, .int .i64 x.pn, .slice A x.pf.len C, .int .i64 x.act, .int .i64 x.qk, .int .i64 x.qn, .slice B x.qf.len D], .agg #[.int .i64 x.pk, .int .i64 x.pn, .slice A' x.pf.len C', .int .i64 x.act, .int .i64 x.qk, .int .i64 x.qn, .slice B' x.qf.len D']] w fun e w' => e = .returned (.bool true) ∧ Below w.heap.size w w' := by
  have K1 : Hid (∀ W : World, Sees w W → Calls Try.prog 23 #[.agg #[.int .i64 x.pk, .int .i64 x.pn, .slice A x.pf.len C], .agg #[.int .i64 x.pk, .int .i64 x.pn, .slice A' x.pf.len C']] W fun e w' => e = .returned (.bool true) ∧ Below W.heap.size W w') := fun W h => eqExpr_same x.pf hf.1.1 hf.1.2 x.pk x.pn A C A' C' W (hA.sees h) (hA'.sees h)
  have K2 : Hid (∀ W : World, Sees w W → Calls Try.prog 23 #[.agg #[.int .i64 x.qk, .int .i64 x.qn, .slice B x.qf.len D], .agg #[.int .i64 x.qk, .int .i64 x.qn, .slice B' x.qf.len D']] W fun e w' => e = .returned (.bool true) ∧ Below W.heap.size W w') := fun W h => eqExpr_same x.qf hf.2.1 hf.2.2 x.qk x.qn B D B' D' W (hB.sees h) (hB'.sees h)
  clear hA hB hA' hB'
  have na : (x.act != x.act) = false := by simp
  go_enter Try.func24, Try.ntmps24
  go_wp2_with fail
  refine (K1.out _ (by unfold Sees; go_grown)).mono ?_
  rintro e w1 ⟨rfl, hb⟩
  have B1 : Sees w w1 := Sees.below (by unfold Sees; go_grown) hb
  have HB0 : w1.heap[w.heap.size]? = some (.cells #[.int .i64 x.pk, .int .i64 x.pn, .slice A x.pf.len C, .int .i64 x.act, .int .i64 x.qk, .int .i64 x.qn, .slice B x.qf.len D] 50 (0, 0)) := (hb.block _ (by simp <;> omega)).trans ((Below.heap_alloc _ _ _ (by simp <;> omega)).trans (heap_new _ _ _ rfl))
  have HB1 : w1.heap[w.heap.size + 1]? = some (.cells #[.int .i64 x.pk, .int .i64 x.pn, .slice A' x.pf.len C', .int .i64 x.act, .int .i64 x.qk, .int .i64 x.qn, .slice B' x.qf.len D'] 50 (0, 0)) := (hb.block _ (by simp <;> omega)).trans (heap_new _ _ _ (by simp))
  clear hb
  obtain ⟨c0, c1, c2, c3, c4, c5, c6, _⟩ := pm_facts HB0
  obtain ⟨e0, e1, e2, e3, e4, e5, e6, _⟩ := pm_facts HB1
  go_wp2_with fail
  refine (K2.out _ B1).mono ?_
  rintro e w2 ⟨rfl, hb⟩
  have B2 := B1.below hb
  clear hb
  go_wp2_with fail
  go_ret
  exact ⟨rfl, B2⟩

set_option maxHeartbeats 2000000 in
set_option maxRecDepth 100000 in
theorem eqPremiseS_same (xs : List Pm) (hf : FitPm xs) (A A' : Option Addr) (C C' : Nat) (w : World) (hl : PmL w xs A) (hl' : PmL w xs A') :
    Calls Try.prog 15 #[.slice A xs.length C, .slice A' xs.length C'] w fun e w' => e = .returned (.bool true) ∧ Below w.heap.size w w' := by
  have hm := hf.1
  have nl : ((xs.length : Int) != (xs.length : Int)) = false := by simp
  have HH := Lib.hid hl; have HH' := Lib.hid hl'; have HF := Lib.hid hf
  clear hl hl' hf
  go_enter Try.func15, Try.ntmps15
  go_wp2_with fail
  go_loopw [5] (fun i wr => ∃ j : Nat, j ≤ xs.length ∧ i = .int .i64 j ∧ Below w.heap.size w wr) (fun i _ => xs.length - (intOf i).toNat)
  case atStart => exact ⟨0, Nat.zero_le _, rfl, Below.refl _ _⟩
  case round =>
    obtain ⟨j, hj, rfl, hb⟩ := hrel
    clear nl
    by_cases hjl : j < xs.length
    · obtain ⟨b, o, rfl, hat⟩ := HH.out (by rintro rfl; simp at hjl)
      obtain ⟨b', o', rfl, hat'⟩ := HH'.out (by rintro rfl; simp at hjl)
      have hget : xs[j]? = some xs[j] := List.getElem?_eq_getElem hjl
      obtain ⟨A1, C1, B1, D1, a1, hQ, hR⟩ := hat j xs[j] hget
      obtain ⟨A2, C2, B2, D2, a2, hQ', hR'⟩ := hat' j xs[j] hget
      have hfx := HF.out.2 xs[j] (List.getElem_mem hjl)
      obtain ⟨x, hx⟩ : ∃ x, x = xs[j] := ⟨_, rfl⟩
      rw [← hx] at a1 a2 hQ hQ' hR hR' hfx
      have ltb : b < wr.heap.size := Nat.lt_of_lt_of_le a1.lt hb.size
      have ltb' : b' < wr.heap.size := Nat.lt_of_lt_of_le a2.lt hb.size
      obtain ⟨c0, c1, c2, c3, c4, c5, c6⟩ := a1.below hb
      obtain ⟨d0, d1, d2, d3, d4, d5, d6⟩ := a2.below hb
      have hj0 : (0 : Int) ≤ (j : Int) := Int.natCast_nonneg _
      have hj1 : (j : Int) < (xs.length : Int) := by omega
      have KC : Hid (∀ W : World, Sees w W → Calls Try.prog 24 #[.agg #[.int .i64 x.pk, .int .i64 x.pn, .slice A1 x.pf.len C1, .int .i64 x.act, .int .i64 x.qk, .int .i64 x.qn, .slice B1 x.qf.len D1], .agg #[.int .i64 x.pk, .int .i64 x.pn, .slice A2 x.pf.len C2, .int .i64 x.act, .int .i64 x.qk, .int .i64 x.qn, .slice B2 x.qf.len D2]] W fun e w' => e = .returned (.bool true) ∧ Below W.heap.size W w') :=
        fun W h => eqPremise_same x hfx A1 A2 B1 B2 C1 C2 D1 D2 W (hQ.sees h) (hR.sees h) (hQ'.sees h) (hR'.sees h)
      have HAT := Lib.hid hat; have HAT' := Lib.hid hat'
      clear hat hat' hget hfx hx a1 a2 hQ hQ' hR hR'
      go_wp2_with fail
      go_region_held3 (fun w' => w'.cell? ⟨b, o + j * 7, none⟩ = some (.int .i64 x.pk) ∧ w'.cell? ⟨b, o + j * 7 + 1, none⟩ = some (.int .i64 x.pn) ∧ w'.cell? ⟨b, o + j * 7 + 2, none⟩ = some (.slice A1 x.pf.len C1) ∧ w'.cell? ⟨b, o + j * 7 + 3, none⟩ = some (.int .i64 x.act) ∧ w'.cell? ⟨b, o + j * 7 + 4, none⟩ = some (.int .i64 x.qk) ∧ w'.cell? ⟨b, o + j * 7 + 5, none⟩ = some (.int .i64 x.qn) ∧ w'.cell? ⟨b, o + j * 7 + 6, none⟩ = some (.slice B1 x.qf.len D1) ∧ w'.cell? ⟨b', o' + j * 7, none⟩ = some (.int .i64 x.pk) ∧ w'.cell? ⟨b', o' + j * 7 + 1, none⟩ = some (.int .i64 x.pn) ∧ w'.cell? ⟨b', o' + j * 7 + 2, none⟩ = some (.slice A2 x.pf.len C2) ∧ w'.cell? ⟨b', o' + j * 7 + 3, none⟩ = some (.int .i64 x.act) ∧ w'.cell? ⟨b', o' + j * 7 + 4, none⟩ = some (.int .i64 x.qk) ∧ w'.cell? ⟨b', o' + j * 7 + 5, none⟩ = some (.int .i64 x.qn) ∧ w'.cell? ⟨b', o' + j * 7 + 6, none⟩ = some (.slice B2 x.qf.len D2))
        (first | go_keep | (refine ⟨?_, ?_, ?_, ?_, ?_, ?_, ?_, ?_, ?_, ?_, ?_, ?_, ?_, ?_⟩ <;> first | exact (m1 _ _ ltb).trans c0 | exact (m1 _ _ ltb).trans c1 | exact (m1 _ _ ltb).trans c2 | exact (m1 _ _ ltb).trans c3 | exact (m1 _ _ ltb).trans c4 | exact (m1 _ _ ltb).trans c5 | exact (m1 _ _ ltb).trans c6 | exact (m1 _ _ ltb').trans d0 | exact (m1 _ _ ltb').trans d1 | exact (m1 _ _ ltb').trans d2 | exact (m1 _ _ ltb').trans d3 | exact (m1 _ _ ltb').trans d4 | exact (m1 _ _ ltb').trans d5 | exact (m1 _ _ ltb').trans d6))
        (first | (go_at_call 24; refine (KC.out _ (Sees.drew hb)).mono ?_; rintro e w1 ⟨rfl, hb1⟩; obtain ⟨m1, m2, m3⟩ := bkeep hb1))
      have hb2 : Below w.heap.size w w1 := (Below.drew hb).trans (hb1.mono hb.size)
      clear hb hb1 m1 m2 m3 KC c0 c1 c2 c3 c4 c5 c6 d0 d1 d2 d3 d4 d5 d6
      go_wp2_with fail
      go_roundw
      case rel => exact ⟨j + 1, by omega, by go_num, hb2⟩
      case measure => simp [intOf]; omega
    · obtain rfl : j = xs.length := by omega
      go_wp2_with fail
      go_ret
      exact ⟨rfl, hb⟩
end Go.Proofs.Ytmblgkpgfofceaa
