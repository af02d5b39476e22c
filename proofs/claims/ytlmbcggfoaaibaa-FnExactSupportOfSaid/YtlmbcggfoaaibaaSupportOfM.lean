/- FnExactSupportOf: for all arguments impl.SupportOf answers as the model does, changes none of them, and its answer owns its memory. No condition. -/
import Derived.Test.YtlmbcggfoaaibaaSupI2
import Derived.Test.YtlmbcggfoaaibaaSupS2
import Derived.Test.YtlmbcggfoaaibaaLSupportOf
import Derived.Test.YtlmbcggfoaaibaaModO
import Derived.Test.YtlmbcggfoaaibaaLaw
namespace Go.Proofs.Ytlmbcggfoaaibaa
open Go.RowKit

set_option maxHeartbeats 4000000 in
set_option maxRecDepth 100000 in
theorem implSupportOf_no (t a p : Int) (ac : List (List Bool)) (nx : List (List (List Int))) (hs : SmallA ac nx) (hv : validC t a p ac nx = false) (A B : Option Addr) (C D : Nat) (w : World) (hA0 : BB 0 w ac A) (hB0 : III 0 w nx B) :
    Calls Try.prog 33 #[.agg #[.int .i64 t, .int .i64 a, .int .i64 p, .slice A ac.length C, .slice B nx.length D]] w (MEnd 0 0 0 [] [] 1 w) := by
  obtain ⟨w0, hw0⟩ : ∃ w0, w0 = (w.alloc (.cells #[.int .i64 t, .int .i64 a, .int .i64 p, .slice A ac.length C, .slice B nx.length D] 43)).alloc (.cells #[.int .i64 0, .int .i64 0, .int .i64 0, .slice none 0 0, .slice none 0 0] 32) := ⟨_, rfl⟩
  have B0 : Sees w w0 := by rw [hw0]; exact ((Sees.refl w).alloc _).alloc _
  have hA := hA0.sees B0; have hB := hB0.sees B0
  have hc0 : w0.heap[w.heap.size]? = some (.cells #[.int .i64 t, .int .i64 a, .int .i64 p, .slice A ac.length C, .slice B nx.length D] 43 (0, 0)) := by
    rw [hw0]; exact (Below.heap_alloc _ _ _ (by simp)).trans (heap_new _ _ _ rfl)
  have hr0 : w0.heap[w.heap.size + 1]? = some (.cells #[.int .i64 0, .int .i64 0, .int .i64 0, .slice none 0 0, .slice none 0 0] 32 (0, 0)) := by
    rw [hw0]; exact heap_new _ _ _ (by simp)
  have z0 : w.heap.size + 2 ≤ w0.heap.size := by rw [hw0]; simp
  have K1 : Hid (∀ W : World, Sees w0 W → Calls Try.prog 23 #[.agg #[.int .i64 t, .int .i64 a, .int .i64 p, .slice A ac.length C, .slice B nx.length D]] W fun e w' => e = .returned (.bool false) ∧ Below W.heap.size W w') := fun W h => by
    rw [← hv]; exact implValidCosts_any t a p ac nx hs A B C D W (hA.sees h) (hB.sees h)
  have HC0 := Lib.hid hc0; have HR0 := Lib.hid hr0
  have FIN : Hid (∀ W : World, Below w0.heap.size w0 W → Sees w W) := fun W h => B0.below h
  clear hA hB hA0 hB0 hv hs B0 hc0 hr0
  go_enter Try.func33, Try.ntmps33
  obtain ⟨c0, c1, c2, c3, c4, _, _, _, _, _⟩ := five_facts HC0.out
  have HW0 := Lib.hid hw0
  go_wp2_with fail
  rw [← hw0]
  clear hw0
  refine (K1.out _ (Sees.refl _)).mono ?_
  rintro e w1 ⟨rfl, hb⟩
  have HB1 := Lib.hid hb
  have HR1 := Lib.hid ((hb.block _ (by omega)).trans HR0.out)
  have z1 : w.heap.size + 1 < w1.heap.size := Nat.lt_of_lt_of_le (by omega) hb.size
  clear hb K1 c0 c1 c2 c3 c4
  obtain ⟨u0, u1, u2, u3, u4, x0, x1, x2, x3, x4⟩ := five_facts HR1.out
  go_wp2_with fail
  obtain ⟨y0, y1, y2, y3, y4, _, _, _, _, _⟩ := five_facts (five_block HR1.out (.int .i64 0) (.int .i64 0) (.int .i64 0) (.slice none 0 0) (.slice none 0 0))
  refine bodyPost_ret (v := .tuple #[.agg #[.int .i64 0, .int .i64 0, .int .i64 0, .slice none 0 0, .slice none 0 0], .int .i64 1]) (by simp [results, Try.results33, go_sem, y0, y1, y2, y3, y4]) rfl ?_
  exact MEnd.no (five_below (FIN.out _ HB1.out) (by omega) _ _ _ _ _)
theorem implSupportOf_any (t a p : Int) (ac : List (List Bool)) (nx : List (List (List Int))) (hs : SmallA ac nx) (A B : Option Addr) (C D : Nat) (w : World) (hA : BB 0 w ac A) (hB : III 0 w nx B) :
    Calls Try.prog 33 #[.agg #[.int .i64 t, .int .i64 a, .int .i64 p, .slice A ac.length C, .slice B nx.length D]] w (SEnd t a p ac nx w) := by
  by_cases hv : validC t a p ac nx = true
  · obtain ⟨ht, _, ha, _, hp, _⟩ := validC_bd hv
    obtain ⟨t, rfl⟩ := Int.eq_ofNat_of_zero_le ht
    obtain ⟨a, rfl⟩ := Int.eq_ofNat_of_zero_le ha
    obtain ⟨p, rfl⟩ := Int.eq_ofNat_of_zero_le (show 0 ≤ p by omega)
    exact (implSupportOf_yes t a p ac nx hs hv A B C D w hA hB).mono fun e w' h => SEnd.yes hv h
  · have hv : validC t a p ac nx = false := by simpa using hv
    exact (implSupportOf_no t a p ac nx hs hv A B C D w hA hB).mono fun e w' h => SEnd.no hv h
end Go.Proofs.Ytlmbcggfoaaibaa

namespace Go.Proofs.Ytlmbcggfoaaibaa
open Go.RowKit

set_option maxHeartbeats 4000000 in
set_option maxRecDepth 100000 in
theorem specSupportOf_no (t a p : Int) (ac : List (List Bool)) (nx : List (List (List Int))) (hs : SmallA ac nx) (hv : validC t a p ac nx = false) (A B : Option Addr) (C D : Nat) (w : World) (hA0 : BB 0 w ac A) (hB0 : III 0 w nx B) :
    Calls Try.prog 32 #[.agg #[.int .i64 t, .int .i64 a, .int .i64 p, .slice A ac.length C, .slice B nx.length D]] w (MEnd 0 0 0 [] [] 1 w) := by
  obtain ⟨w0, hw0⟩ : ∃ w0, w0 = (w.alloc (.cells #[.int .i64 t, .int .i64 a, .int .i64 p, .slice A ac.length C, .slice B nx.length D] 43)).alloc (.cells #[.int .i64 0, .int .i64 0, .int .i64 0, .slice none 0 0, .slice none 0 0] 32) := ⟨_, rfl⟩
  have B0 : Sees w w0 := by rw [hw0]; exact ((Sees.refl w).alloc _).alloc _
  have hA := hA0.sees B0; have hB := hB0.sees B0
  have hc0 : w0.heap[w.heap.size]? = some (.cells #[.int .i64 t, .int .i64 a, .int .i64 p, .slice A ac.length C, .slice B nx.length D] 43 (0, 0)) := by
    rw [hw0]; exact (Below.heap_alloc _ _ _ (by simp)).trans (heap_new _ _ _ rfl)
  have hr0 : w0.heap[w.heap.size + 1]? = some (.cells #[.int .i64 0, .int .i64 0, .int .i64 0, .slice none 0 0, .slice none 0 0] 32 (0, 0)) := by
    rw [hw0]; exact heap_new _ _ _ (by simp)
  have z0 : w.heap.size + 2 ≤ w0.heap.size := by rw [hw0]; simp
  have K1 : Hid (∀ W : World, Sees w0 W → Calls Try.prog 69 #[.pointer (some ⟨w.heap.size, 0, none⟩)] W fun e w' => e = .returned (.bool false) ∧ Below W.heap.size W w') := fun W h => by
    obtain ⟨g0, g1, g2, g3, g4, _, _, _, _, _⟩ := five_facts ((h.block _ (by omega)).trans hc0)
    rw [← hv]; exact l05CostsOk_any t a p ac nx hs A B C D _ W (hA.sees h) (hB.sees h) g0 g1 g2 g3 g4
  have HR0 := Lib.hid hr0
  have FIN : Hid (∀ W : World, Below w0.heap.size w0 W → Sees w W) := fun W h => B0.below h
  clear hA hB hA0 hB0 hv hs B0 hc0 hr0
  go_enter Try.func32, Try.ntmps32
  have HW0 := Lib.hid hw0
  go_wp2_with fail
  rw [← hw0]
  clear hw0
  refine (K1.out _ (Sees.refl _)).mono ?_
  rintro e w1 ⟨rfl, hb⟩
  have HB1 := Lib.hid hb
  have HR1 := Lib.hid ((hb.block _ (by omega)).trans HR0.out)
  have z1 : w.heap.size + 1 < w1.heap.size := Nat.lt_of_lt_of_le (by omega) hb.size
  clear hb K1
  obtain ⟨u0, u1, u2, u3, u4, x0, x1, x2, x3, x4⟩ := five_facts HR1.out
  go_wp2_with fail
  obtain ⟨y0, y1, y2, y3, y4, _, _, _, _, _⟩ := five_facts (five_block HR1.out (.int .i64 0) (.int .i64 0) (.int .i64 0) (.slice none 0 0) (.slice none 0 0))
  refine bodyPost_ret (v := .tuple #[.agg #[.int .i64 0, .int .i64 0, .int .i64 0, .slice none 0 0, .slice none 0 0], .int .i64 1]) (by simp [results, Try.results32, go_sem, y0, y1, y2, y3, y4]) rfl ?_
  exact MEnd.no (five_below (FIN.out _ HB1.out) (by omega) _ _ _ _ _)
theorem specSupportOf_any (t a p : Int) (ac : List (List Bool)) (nx : List (List (List Int))) (hs : SmallA ac nx) (A B : Option Addr) (C D : Nat) (w : World) (hA : BB 0 w ac A) (hB : III 0 w nx B) :
    Calls Try.prog 32 #[.agg #[.int .i64 t, .int .i64 a, .int .i64 p, .slice A ac.length C, .slice B nx.length D]] w (SEnd t a p ac nx w) := by
  by_cases hv : validC t a p ac nx = true
  · obtain ⟨ht, _, ha, _, hp, _⟩ := validC_bd hv
    obtain ⟨t, rfl⟩ := Int.eq_ofNat_of_zero_le ht
    obtain ⟨a, rfl⟩ := Int.eq_ofNat_of_zero_le ha
    obtain ⟨p, rfl⟩ := Int.eq_ofNat_of_zero_le (show 0 ≤ p by omega)
    exact (specSupportOf_yes t a p ac nx hs hv A B C D w hA hB).mono fun e w' h => SEnd.yes hv h
  · have hv : validC t a p ac nx = false := by simpa using hv
    exact (specSupportOf_no t a p ac nx hs hv A B C D w hA hB).mono fun e w' h => SEnd.no hv h
end Go.Proofs.Ytlmbcggfoaaibaa

namespace Go.Proofs.Ytlmbcggfoaaibaa
open Go.RowKit Go.WideShapes Go.ChangeShapes Go.ChangeAt Go.Deep Go.WideElems
set_option linter.unusedVariables false


set_option maxRecDepth 100000 in
theorem supportOf_lifted (os : Os) (started : os.Started) (H : Type) (enc : TypeId × Value → H) :
    ReturnsInHanded {} Try.checked os 8 .any (Rows.fnExactSupportOfSpec.pre6 enc Try.prog Try.f8 Rows.fnExactSupportOfRow.domain false) (Rows.fnExactSupportOfSpec.post enc Try.prog Try.f8 false true false false) := by
  refine returnsInHanded_of_change (C := Try.checked) Try.own started (by kernel_rfl) Try.func8
    (ChangeSpec.witness6 (enc := enc) (C := Try.checked) false ⟨#[], #[.agg #[.int .i64 0, .int .i64 0, .int .i64 0, .slice none 0 0, .slice none 0 0]], []⟩ 8 (by kernel_rfl) (by kernel_rfl) (by kernel_rfl) (by kernel_rfl)) ?_
  intro W base args ds gs before hval0 hW _ _
  have hval : ∀ (j : Nat) t v, Try.f8.params[j]? = some t → args[j]? = some v → Value.okWide Try.prog W .any base t v := hval0
  have hW' := hW
  obtain ⟨p, q, hA0, hV, rfl, _, _⟩ := hW
  have hA : DataW.TrodAll enc Try.prog W 0 (fun _ => true) true Try.f8.params.toList args.toList ds p := hA0
  rw [Try.params8] at hA hval
  obtain ⟨v0, d0, rfl, rfl, h0⟩ := trodAll_one hA
  obtain ⟨rfl, rfl⟩ := trodVars_none hV
  obtain ⟨t0, a0, u0, ac0, nx0, A0, B0, C0, D0, rfl, hl0, hr0, hm0, wt0, wa0, wu0⟩ := lcosts_open (hval 0 39 v0 rfl rfl) h0
  clear hA0 hval0
  refine (lawSupportOf t0 a0 u0 ac0 nx0 A0 B0 C0 D0 (fun _ => supO_small t0 a0 u0 ac0 nx0) (fun h0 W Z0 Y0 h h' => specSupportOf_any t0 a0 u0 ac0 nx0 (autN_small h0) Z0 Y0 _ _ W h h') (fun h0 W Z0 Y0 h h' => implSupportOf_any t0 a0 u0 ac0 nx0 (autN_small h0) Z0 Y0 _ _ W h h') W hm0 hl0 hr0).mono fun e W' ⟨he, hb⟩ => ?_
  subst he
  exact ⟨_, rfl, law_end Try.laidOut Try.underlying4 rfl (by kernel_rfl) (by rw [Try.params8]; intro t ht; simp at ht; rcases ht with rfl <;> exact ⟨by kernel_rfl, of_decide_eq_true (by kernel_rfl)⟩) rfl rfl rfl hW' hb⟩

theorem supportOf_holds : Rows.FnExactSupportOfSaid :=
  OpenClaim.holds_of_wide 8 Try.f8 rfl rfl rfl rfl rfl rfl rfl ⟨rfl, rfl, rfl, rfl, rfl⟩ rfl rfl rfl rfl rfl (by kernel_rfl) Try.func8 (by kernel_rfl)
    (of_decide_eq_true (by kernel_rfl)) (by unfold Func.isWrapper; first | (rw [if_pos (by decide +kernel)]; kernel_rfl) | (rw [if_neg (by decide +kernel)]; exact ⟨rfl, rfl⟩))
    (fun os started H enc _ => supportOf_lifted os started H enc)

#print axioms supportOf_holds
end Go.Proofs.Ytlmbcggfoaaibaa
