/- FnExactCountVotes: for all arguments impl.CountVotes answers as the model does, and changes none of them. No condition. -/
import Derived.Test.YtlpgkhdecccmlaaRCvD
import Derived.Test.YtlpgkhdecccmlaaRLayE
import Derived.Test.YtlpgkhdecccmlaaRAutO
import Derived.Test.YtlpgkhdecccmlaaRLaw
namespace Go.Proofs.YtlpgkhdecccmlaaR
open Go.RowKit Go.WideShapes Go.ChangeShapes Go.ChangeAt Go.Deep Go.WideElems
set_option linter.unusedVariables false

set_option maxHeartbeats 1000000 in
set_option maxRecDepth 100000 in
theorem lawCountVotes (bs : List Bool) (A : Option Addr) (C : Nat) (w : World) (hm : bs.length ≤ 9223372036854775807) (hl : BoolsL 0 w bs A) :
    Calls Try.prog 5 #[.slice A bs.length C] w fun e w' => e = .returned (.bool true) ∧ Below w.heap.size w w' := by
  by_cases hbig : 1048576 < bs.length
  · have tb : decide ((1048576 : Int) < (bs.length : Int)) = true := decide_eq_true (by omega)
    go_enter Try.func5, Try.ntmps5
    go_wp2_with fail
    go_ret
    exact ⟨rfl, Below.refl _ _⟩
  · have hm2 : bs.length ≤ 1048576 := by omega
    have tb : decide ((1048576 : Int) < (bs.length : Int)) = false := decide_eq_false (by omega)
    have KT : Hid (∀ W : World, Sees w W → Calls Try.prog 27 #[.slice A bs.length C] W fun e w' => ∃ Z, e = .returned (.slice Z bs.length bs.length) ∧ BoolsL 0 w' bs Z ∧ Below W.heap.size W w') := fun W h => (toBoolS_any bs hm2 A C W (bools_ok.sees hl h)).mono fun e w' ⟨Z, he, hb, hw⟩ => ⟨Z, he, bools_ok.mono hb (Nat.zero_le _), hw⟩
    have KW : Hid (∀ (W : World) (Z : Option Addr), BoolsL 0 W bs Z → Calls Try.prog 26 #[.slice Z bs.length bs.length] W fun e w' => e = .returned (.tuple #[.bool (voteB bs), .int .i64 (voteC bs)]) ∧ Below W.heap.size W w') := fun W Z h => specCountVotes_any bs hm2 Z _ W h
    have KG : Hid (∀ (W : World) (Z : Option Addr), BoolsL 0 W bs Z → Calls Try.prog 28 #[.slice Z bs.length bs.length] W fun e w' => e = .returned (.tuple #[.bool (voteB bs), .int .i64 (voteC bs)]) ∧ Below W.heap.size W w') := fun W Z h => implCountVotes_any bs hm2 Z _ W h
    have KE : Hid (∀ (W : World) (Z Z' : Option Addr), BoolsL 0 W bs Z → BoolsL 0 W bs Z' → Calls Try.prog 29 #[.slice Z bs.length bs.length, .slice Z' bs.length bs.length] W fun e w' => e = .returned (.bool true) ∧ Below W.heap.size W w') := fun W Z Z' h h' => (eqBoolS_same bs hm _ _ _ _ W h h').mono fun e w' h => h
    obtain ⟨q, hq⟩ : ∃ q, q = voteB bs := ⟨_, rfl⟩
    obtain ⟨c, hc⟩ : ∃ c, c = voteC bs := ⟨_, rfl⟩
    rw [← hq, ← hc] at KW KG
    have nq : (q != q) = false := by simp
    have nc : (c != c) = false := by simp
    clear hq hc hbig hl hm hm2
    go_enter Try.func5, Try.ntmps5
    go_wp2_with fail
    refine (KT.out _ (Sees.refl _)).mono ?_
    rintro e w1 ⟨Z, rfl, hZ, hb⟩
    have S1 := Lib.hid hb
    have HZ := Lib.hid hZ
    clear hb hZ
    go_wp2_with fail
    refine (KW.out _ _ HZ.out).mono ?_
    rintro e w2 ⟨rfl, hb⟩
    have S2 := Lib.hid (Sees.below S1.out hb)
    clear hb
    go_wp2_with fail
    refine (KT.out _ S2.out).mono ?_
    rintro e w3 ⟨X, rfl, hX, hb⟩
    have S3 := Lib.hid (Sees.below S2.out hb)
    have HX := Lib.hid hX
    clear hb hX
    go_wp2_with fail
    refine (KG.out _ _ HX.out).mono ?_
    rintro e w4 ⟨rfl, hb⟩
    have S4 := Lib.hid (Sees.below S3.out hb)
    have HX4 := Lib.hid (bools_ok.below HX.out hb)
    clear hb HX
    go_wp2_with fail
    refine (KT.out _ S4.out).mono ?_
    rintro e w5 ⟨Y, rfl, hY, hb⟩
    have S5 := Lib.hid (Sees.below S4.out hb)
    have HX5 := Lib.hid (bools_ok.below HX4.out hb)
    have HY := Lib.hid hY
    clear hb hY HX4
    go_wp2_with fail
    refine (KE.out _ _ _ HX5.out HY.out).mono ?_
    rintro e w6 ⟨rfl, hb⟩
    have S6 := Lib.hid (Sees.below S5.out hb)
    clear hb
    go_wp2_with fail
    go_ret
    exact ⟨rfl, S6.out⟩

set_option maxRecDepth 100000 in
theorem lbools_open {H : Type} {enc : TypeId × Value → H} {W : World} {base : Nat} {v : Value} {d : DataW H} {p : List MemPlace} (hok : Value.okWide Try.prog W .any base 46 v) (h : DataW.Trod enc Try.prog W 0 (fun _ => true) true 46 v d p) :
    ∃ (xs : List Bool) (A : Option Addr) (C : Nat), v = .slice A xs.length C ∧ BoolsL 0 W xs A ∧ xs.length ≤ 9223372036854775807 := by
  obtain ⟨a, len, cap, rfl⟩ := okWide_slice Try.underlying46 hok
  obtain ⟨fuel, hf⟩ := h
  obtain ⟨xs, A, C, hx, l1, l2⟩ := boolsL_open hf
  simp [Value.cells] at hx
  obtain ⟨rfl, rfl, rfl⟩ := hx
  exact ⟨xs, _, _, rfl, l1, l2⟩

set_option maxRecDepth 100000 in
theorem countVotes_lifted (os : Os) (started : os.Started) (H : Type) (enc : TypeId × Value → H) :
    ReturnsInHanded {} Try.checked os 5 .any (Rows.fnExactCountVotesSpec.pre6 enc Try.prog Try.f5 Rows.fnExactCountVotesRow.domain false) (Rows.fnExactCountVotesSpec.post enc Try.prog Try.f5 false true false false) := by
  refine returnsInHanded_of_change (C := Try.checked) Try.own started (by kernel_rfl) Try.func5
    (ChangeSpec.witness6 (enc := enc) (C := Try.checked) false ⟨#[], #[.slice none 0 0], []⟩ 8 (by kernel_rfl) (by kernel_rfl) (by kernel_rfl) (by kernel_rfl)) ?_
  intro W base args ds gs before hval0 hW _ _
  have hval : ∀ (j : Nat) t v, Try.f5.params[j]? = some t → args[j]? = some v → Value.okWide Try.prog W .any base t v := hval0
  have hW' := hW
  obtain ⟨p, q, hA0, hV, rfl, _, _⟩ := hW
  have hA : DataW.TrodAll enc Try.prog W 0 (fun _ => true) true Try.f5.params.toList args.toList ds p := hA0
  rw [Try.params5] at hA hval
  obtain ⟨v0, d0, rfl, rfl, h0⟩ := trodAll_one hA
  obtain ⟨rfl, rfl⟩ := trodVars_none hV
  obtain ⟨bs, A0, C0, rfl, hl0, hm0⟩ := lbools_open (hval 0 46 v0 rfl rfl) h0
  clear hA0 hval0
  refine (lawCountVotes bs A0 C0 W hm0 hl0).mono fun e W' ⟨he, hb⟩ => ?_
  subst he
  exact ⟨_, rfl, law_end Try.laidOut Try.underlying4 rfl (by kernel_rfl) (by rw [Try.params5]; intro t ht; simp at ht; rcases ht with rfl <;> exact ⟨by kernel_rfl, of_decide_eq_true (by kernel_rfl)⟩) rfl rfl rfl hW' hb⟩

theorem countVotes_holds : Rows.FnExactCountVotesSaid :=
  OpenClaim.holds_of_wide 5 Try.f5 rfl rfl rfl rfl rfl rfl rfl ⟨rfl, rfl, rfl, rfl, rfl⟩ rfl rfl rfl rfl rfl (by kernel_rfl) Try.func5 (by kernel_rfl)
    (of_decide_eq_true (by kernel_rfl)) (by unfold Func.isWrapper; first | (rw [if_pos (by decide +kernel)]; kernel_rfl) | (rw [if_neg (by decide +kernel)]; exact ⟨rfl, rfl⟩))
    (fun os started H enc _ => countVotes_lifted os started H enc)

#print axioms countVotes_holds
end Go.Proofs.YtlpgkhdecccmlaaR
