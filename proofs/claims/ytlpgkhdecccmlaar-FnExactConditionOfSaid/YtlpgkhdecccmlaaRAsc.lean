/- Contract of impl.isAscending. -/
import Derived.Test.YtlpgkhdecccmlaaRAscD
import Derived.Lib.Hide
namespace Go.Proofs.YtlpgkhdecccmlaaR
open Go.RowKit

set_option maxHeartbeats 2000000 in
set_option maxRecDepth 100000 in
theorem isAscending_any (n : Int) (xs : List Int) (hm : xs.length ≤ 1048576) (A : Option Addr) (C : Nat) (w : World) (hl : Ints w xs A) :
    Calls Try.prog 75 #[.slice A xs.length C, .int .i64 n] w fun e w' => e = .returned (.bool (ascB n xs)) ∧ Below w.heap.size w w' := by
  have HL := Lib.hid hl; have HM := Lib.hid hm
  have KBB : Hid (∀ (x : Int) (W : World), Calls Try.prog 113 #[.int .i64 x, .int .i64 n] W fun e w' => e = .returned (.bool (belowB x n)) ∧ Below W.heap.size W w') := fun x W => (below_any x n W).mono fun e w' h => ⟨h.1, by rw [← h.2]; exact Below.refl _ _⟩
  have hA0 : Hid ((List.range 0).all (ascAt n xs) = true) := rfl
  clear hl
  go_enter Try.func75, Try.ntmps75
  go_wp2_with fail
  go_loopw [9] (fun i wr => ∃ j : Nat, j ≤ xs.length ∧ i = .int .i64 j ∧ Hid ((List.range j).all (ascAt n xs) = true) ∧ Hid (Sees w wr)) (fun i _ => xs.length - (intOf i).toNat)
  case atStart => exact ⟨0, Nat.zero_le _, rfl, hA0.out, Sees.refl _⟩
  case round =>
    obtain ⟨j, hj, rfl, hA, hS⟩ := hrel
    clear hA0
    by_cases hjl : j < xs.length
    · obtain ⟨b, o, rfl, hat⟩ := HL.out (by rintro rfl; simp at hjl)
      have cj := kc hS.out (hat j hjl)
      obtain ⟨p, hp⟩ : ∃ p : Bool, p = belowB (nth xs j) n := ⟨_, rfl⟩
      have KB := Lib.hid (KBB.out (nth xs j))
      rw [← hp] at KB
      have hjm := Lib.hid hjl
      have j0 : (0 : Int) ≤ (j : Int) := Int.natCast_nonneg _
      have j1 : (j : Int) < (xs.length : Int) := by omega
      clear hjl
      rcases j with _ | j
      · clear hat
        rw [Nat.add_zero] at cj
        cases p
        · have HF := Lib.hid (asc_no hjm.out (ascAt_far hp.symm))
          clear hp
          go_wp2_with fail
          refine (KB.out _).mono ?_
          rintro e w2 ⟨rfl, hb⟩
          have S2 := Lib.hid (hS.out.below hb)
          have cj2 := kc hb cj
          clear hb
          go_wp2_with fail
          go_ret
          exact ⟨ret_bool HF.out.symm, S2.out⟩
        · have HE := Lib.hid (asc_step hA.out (ascAt_zero hp.symm))
          clear hp
          go_wp2_with fail
          refine (KB.out _).mono ?_
          rintro e w2 ⟨rfl, hb⟩
          have S2 := Lib.hid (hS.out.below hb)
          have cj2 := kc hb cj
          clear hb
          go_wp2_with fail
          go_roundw
          case rel => exact ⟨0 + 1, by have := hjm.out; omega, by go_num, HE.out, S2⟩
          case measure => (have := hjm.out; simp [intOf]; try omega)
      · have ci := kc hS.out (hat j (by have := hjm.out; omega))
        have gp : decide ((0 : Int) < (j : Int) + 1) = true := decide_eq_true (by omega)
        have sb : IntKind.i64.wrap ((j : Int) + 1 - 1) = (j : Int) := by rw [Int.add_sub_cancel]; exact IntWalk.i64_in _ (by have := hjm.out; have := HM.out; omega)
        have sb2 : IntKind.i64.wrap (j : Int) = (j : Int) := IntWalk.i64_in _ (by have := hjm.out; have := HM.out; omega)
        have j2 : (0 : Int) ≤ (j : Int) + 1 := by omega
        have j3 : (j : Int) + 1 < (xs.length : Int) := by have := hjm.out; omega
        have j4 : (0 : Int) ≤ (j : Int) := by omega
        have j5 : (j : Int) < (xs.length : Int) := by have := hjm.out; omega
        clear hat
        cases p
        · have HF := Lib.hid (asc_no hjm.out (ascAt_far hp.symm))
          clear hp
          go_wp2_with fail
          refine (KB.out _).mono ?_
          rintro e w2 ⟨rfl, hb⟩
          have S2 := Lib.hid (hS.out.below hb)
          have cj2 := kc hb cj
          have ci2 := kc hb ci
          clear hb
          go_wp2_with fail
          go_ret
          exact ⟨ret_bool HF.out.symm, S2.out⟩
        · by_cases hle : nth xs (j + 1) ≤ nth xs j
          · have tle : decide (nth xs (j + 1) ≤ nth xs j) = true := decide_eq_true hle
            have HF := Lib.hid (asc_no hjm.out (ascAt_le hp.symm hle))
            clear hp hle
            go_wp2_with fail
            refine (KB.out _).mono ?_
            rintro e w2 ⟨rfl, hb⟩
            have S2 := Lib.hid (hS.out.below hb)
            have cj2 := kc hb cj
            have ci2 := kc hb ci
            clear hb
            go_wp2_with fail
            go_ret
            exact ⟨ret_bool HF.out.symm, S2.out⟩
          · have tle : decide (nth xs (j + 1) ≤ nth xs j) = false := decide_eq_false hle
            have HE := Lib.hid (asc_step hA.out (ascAt_lt hp.symm (by omega)))
            clear hp hle
            go_wp2_with fail
            refine (KB.out _).mono ?_
            rintro e w2 ⟨rfl, hb⟩
            have S2 := Lib.hid (hS.out.below hb)
            have cj2 := kc hb cj
            have ci2 := kc hb ci
            clear hb
            go_wp2_with fail
            go_roundw
            case rel => exact ⟨(j + 1) + 1, by have := hjm.out; omega, by go_num, HE.out, S2⟩
            case measure => (have := hjm.out; simp [intOf]; try omega)
    · obtain rfl : j = xs.length := by omega
      have HE : Hid (ascB n xs = true) := hA.out
      clear hjl hA
      go_wp2_with fail
      go_ret
      exact ⟨ret_bool HE.out.symm, hS.out⟩
end Go.Proofs.YtlpgkhdecccmlaaR
