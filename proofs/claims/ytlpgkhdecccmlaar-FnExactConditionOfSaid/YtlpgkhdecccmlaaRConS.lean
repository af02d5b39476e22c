/- Contracts of spec.l00Rises, l07Of, ConditionOf. -/
import Derived.Test.YtlpgkhdecccmlaaRConA
import Derived.Test.YtlpgkhdecccmlaaRSpD0
import Derived.Test.YtlpgkhdecccmlaaRQuietC
import Derived.Test.YtlpgkhdecccmlaaREndE
import Derived.Deep.RegionHeld3
import Derived.Deep.DrawnRows
namespace Go.Proofs.YtlpgkhdecccmlaaR
open Go.RowKit
attribute [local go_sem ↓] Go.wp_at_zero Go.wp_at_succ

set_option maxRecDepth 100000 in
set_option maxHeartbeats 4000000 in
theorem l00Rises_any (t : Int) (xs : List Int) (hm : xs.length ≤ 1048576) (A : Option Addr) (C : Nat) (w : World) (hl : Ints w xs A) :
    Calls Try.prog 71 #[.slice A xs.length C, .int .i64 0, .int .i64 (atomsN t - 1)] w fun e w' => e = .returned (.bool (risesB t xs)) ∧ Below w.heap.size w w' := by
  obtain ⟨d, hd⟩ : ∃ d : Int, d = atomsN t - 1 := ⟨_, rfl⟩
  rw [← hd]
  have K : ∀ x : Int, Hid (∀ W : World, Calls Try.prog 81 #[.int .i64 x, .int .i64 0, .int .i64 d] W fun e w' => e = .returned (.bool (belowB x (atomsN t))) ∧ Below W.heap.size W w') := fun x W => (in_any x 0 d W).mono fun e w' h => ⟨by rw [← in_below, ← hd]; exact h.1, by rw [← h.2]; exact Below.refl _ _⟩
  have HK := Lib.hid K; have HL := Lib.hid hl
  clear K hl hd
  have hA0 : Hid ((List.range 0).all (riseAt t xs) = true) := rfl
  go_enter Try.func71, Try.ntmps71
  go_wp2_with fail
  go_loopw [7] (fun i wr => ∃ j : Nat, j ≤ xs.length ∧ i = .int .i64 j ∧ Hid ((List.range j).all (riseAt t xs) = true) ∧ Hid (Sees w wr)) (fun i _ => xs.length - (intOf i).toNat)
  case atStart => exact ⟨0, Nat.zero_le _, rfl, hA0, Sees.refl w⟩
  case round =>
    obtain ⟨j, hj, rfl, hA, hb⟩ := hrel
    clear hA0
    by_cases hjl : j < xs.length
    · obtain ⟨b, o, rfl, hat⟩ := HL.out (by rintro rfl; simp at hjl)
      have c0 := kc hb.out (hat j hjl)
      have HX := Lib.hid (HK.out (nth xs j))
      obtain ⟨p, hp⟩ : ∃ p : Bool, p = belowB (nth xs j) (atomsN t) := ⟨_, rfl⟩
      have K3 : Hid (∀ W : World, Calls Try.prog 81 #[.int .i64 (nth xs j), .int .i64 0, .int .i64 d] W fun e w' => e = .returned (.bool p) ∧ Below W.heap.size W w') := by rw [hp]; exact HX.out
      have hjm := Lib.hid hjl
      have j0 : (0 : Int) ≤ (j : Int) := Int.natCast_nonneg _
      have j1 : (j : Int) < (xs.length : Int) := by omega
      clear hjl
      rcases j with _ | j
      · cases p
        · have HE := Lib.hid (rises_no hjm.out (show riseAt t xs 0 = false by unfold riseAt; rw [← hp]; rfl))
          clear hat HX
          clear hp
          go_wp2_with fail
          refine wp_region_quietC wr [(b, o, .int .i64 (nth xs 0))] (by kernel_rfl) (by kernel_rfl) ⟨Below.refl _ _, (by simpa using c0), trivial⟩ ?_
          repeat (first | go_big_quiet_skip | (go_big_quiet_want; apply Exists.intro; refine ⟨fun W hW => ?_, ?_⟩; focus (have hK := Lib.hid hW; obtain ⟨hs, hc⟩ := hW; simp only [Has, and_true] at hc; go_simp; (first | rfl | exact ⟨rfl, rfl⟩ | (with_reducible exact quietC_call hK.out (K3.out _))))) | (go_simp; go_big_quiet_on))
          refine wpQuiet_nil ?_
          intro w2 H1
          have hb2 := Lib.hid (Sees.below hb.out H1.1)
          clear H1
          go_wp2_with fail
          go_ret
          exact ⟨ret_bool HE.out.symm, hb2.out⟩
        · have HE := Lib.hid (rises_step hA.out (show riseAt t xs 0 = true by unfold riseAt; rw [← hp]; rfl))
          clear hat HX
          clear hp
          go_wp2_with fail
          refine wp_region_quietC wr [(b, o, .int .i64 (nth xs 0))] (by kernel_rfl) (by kernel_rfl) ⟨Below.refl _ _, (by simpa using c0), trivial⟩ ?_
          repeat (first | go_big_quiet_skip | (go_big_quiet_want; apply Exists.intro; refine ⟨fun W hW => ?_, ?_⟩; focus (have hK := Lib.hid hW; obtain ⟨hs, hc⟩ := hW; simp only [Has, and_true] at hc; go_simp; (first | rfl | exact ⟨rfl, rfl⟩ | (with_reducible exact quietC_call hK.out (K3.out _))))) | (go_simp; go_big_quiet_on))
          refine wpQuiet_nil ?_
          intro w2 H1
          have hb2 := Lib.hid (Sees.below hb.out H1.1)
          clear H1
          go_wp2_with fail
          go_roundw
          case rel => exact ⟨0 + 1, by have := hjm.out; omega, by go_num, HE, hb2⟩
          case measure => (have := hjm.out; simp [intOf]; try omega)
      · have c1 := kc hb.out (hat j (by have := hjm.out; omega))
        have gp : decide ((0 : Int) < (j : Int) + 1) = true := decide_eq_true (by omega)
        have sb : IntKind.i64.wrap ((j : Int) + 1 - 1) = (j : Int) := by rw [Int.add_sub_cancel]; exact IntWalk.i64_in _ (by have := hjm.out; omega)
        have sb2 : IntKind.i64.wrap (j : Int) = (j : Int) := IntWalk.i64_in _ (by have := hjm.out; omega)
        have j2 : (0 : Int) ≤ (j : Int) + 1 := by omega
        have j3 : (j : Int) + 1 < (xs.length : Int) := by have := hjm.out; omega
        have j4 : (0 : Int) ≤ (j : Int) := by omega
        have j5 : (j : Int) < (xs.length : Int) := by have := hjm.out; omega
        cases p
        · have HE := Lib.hid (rises_no hjm.out (show riseAt t xs (j + 1) = false by unfold riseAt; rw [← hp]; rfl))
          clear hat HX
          clear hp
          go_wp2_with fail
          refine wp_region_quietC wr [(b, o + (j + 1), .int .i64 (nth xs (j + 1))), (b, o + j, .int .i64 (nth xs j))] (by kernel_rfl) (by kernel_rfl) ⟨Below.refl _ _, c0, c1, trivial⟩ ?_
          repeat (first | go_big_quiet_skip | (go_big_quiet_want; apply Exists.intro; refine ⟨fun W hW => ?_, ?_⟩; focus (have hK := Lib.hid hW; obtain ⟨hs, hc⟩ := hW; simp only [Has, and_true] at hc; go_simp; (first | rfl | exact ⟨rfl, rfl⟩ | (with_reducible exact quietC_call hK.out (K3.out _))))) | (go_simp; go_big_quiet_on))
          refine wpQuiet_nil ?_
          intro w2 H1
          have hb2 := Lib.hid (Sees.below hb.out H1.1)
          clear H1
          go_wp2_with fail
          go_ret
          exact ⟨ret_bool HE.out.symm, hb2.out⟩
        · by_cases hle : nth xs (j + 1) ≤ nth xs j
          · have tle : decide (nth xs (j + 1) ≤ nth xs j) = true := decide_eq_true hle
            have HE := Lib.hid (rises_no hjm.out (show riseAt t xs (j + 1) = false by unfold riseAt; rw [← hp, decide_eq_false (show ¬ (j + 1 = 0) by omega), Nat.add_sub_cancel, decide_eq_false (show ¬ (nth xs j < nth xs (j + 1)) by omega)]; rfl))
            clear hat HX
            clear hp hle
            go_wp2_with fail
            refine wp_region_quietC wr [(b, o + (j + 1), .int .i64 (nth xs (j + 1))), (b, o + j, .int .i64 (nth xs j))] (by kernel_rfl) (by kernel_rfl) ⟨Below.refl _ _, c0, c1, trivial⟩ ?_
            repeat (first | go_big_quiet_skip | (go_big_quiet_want; apply Exists.intro; refine ⟨fun W hW => ?_, ?_⟩; focus (have hK := Lib.hid hW; obtain ⟨hs, hc⟩ := hW; simp only [Has, and_true] at hc; go_simp; (first | rfl | exact ⟨rfl, rfl⟩ | (with_reducible exact quietC_call hK.out (K3.out _))))) | (go_simp; go_big_quiet_on))
            refine wpQuiet_nil ?_
            intro w2 H1
            have hb2 := Lib.hid (Sees.below hb.out H1.1)
            clear H1
            go_wp2_with fail
            go_ret
            exact ⟨ret_bool HE.out.symm, hb2.out⟩
          · have tle : decide (nth xs (j + 1) ≤ nth xs j) = false := decide_eq_false hle
            have HE := Lib.hid (rises_step hA.out (show riseAt t xs (j + 1) = true by unfold riseAt; rw [← hp, decide_eq_false (show ¬ (j + 1 = 0) by omega), Nat.add_sub_cancel, decide_eq_true (show nth xs j < nth xs (j + 1) by omega)]; rfl))
            clear hat HX
            clear hp hle
            go_wp2_with fail
            refine wp_region_quietC wr [(b, o + (j + 1), .int .i64 (nth xs (j + 1))), (b, o + j, .int .i64 (nth xs j))] (by kernel_rfl) (by kernel_rfl) ⟨Below.refl _ _, c0, c1, trivial⟩ ?_
            repeat (first | go_big_quiet_skip | (go_big_quiet_want; apply Exists.intro; refine ⟨fun W hW => ?_, ?_⟩; focus (have hK := Lib.hid hW; obtain ⟨hs, hc⟩ := hW; simp only [Has, and_true] at hc; go_simp; (first | rfl | exact ⟨rfl, rfl⟩ | (with_reducible exact quietC_call hK.out (K3.out _))))) | (go_simp; go_big_quiet_on))
            refine wpQuiet_nil ?_
            intro w2 H1
            have hb2 := Lib.hid (Sees.below hb.out H1.1)
            clear H1
            go_wp2_with fail
            go_roundw
            case rel => exact ⟨(j + 1) + 1, by have := hjm.out; omega, by go_num, HE, hb2⟩
            case measure => (have := hjm.out; simp [intOf]; try omega)
    · obtain rfl : j = xs.length := by omega
      have HE : Hid (risesB t xs = true) := hA.out
      clear hjl
      go_wp2_with fail
      go_ret
      exact ⟨ret_bool HE.out.symm, hb.out⟩
end Go.Proofs.YtlpgkhdecccmlaaR
