/- RestrictModel: what it answers. Plain facts. -/
import Derived.Test.YtcgbepmhfimbjaaRsD
import Derived.Test.YtcgbepmhfimbjaaAtmD
namespace Go.Proofs.Ytcgbepmhfimbjaa
open Go.RowKit
set_option linter.unusedVariables false

theorem asc_bd {n : Int} {xs : List Int} (h : ascB n xs = true) {j : Nat} (hj : j < xs.length) : 0 ≤ nth xs j ∧ nth xs j < n := by
  have h1 := asc_at h hj
  unfold ascAt belowB at h1
  simp only [Bool.and_eq_true, decide_eq_true_eq] at h1
  exact h1.1
theorem asc_ge {n : Int} {xs : List Int} (h : ascB n xs = true) : ∀ j : Nat, j < xs.length → (j : Int) ≤ nth xs j
  | 0, hj => (asc_bd h hj).1
  | j + 1, hj => by
    have h1 := asc_ge h j (by omega)
    have h2 := asc_at h hj
    unfold ascAt at h2
    simp only [Bool.and_eq_true, Bool.or_eq_true, decide_eq_true_eq, Nat.add_sub_cancel] at h2
    omega
theorem asc_len {n : Int} {xs : List Int} (h : ascB n xs = true) (hn : 0 ≤ n) : (xs.length : Int) ≤ n := by
  rcases Nat.eq_zero_or_pos xs.length with h0 | h0
  · omega
  · have h1 := asc_ge h (xs.length - 1) (by omega)
    have h2 := (asc_bd h (j := xs.length - 1) (by omega)).2
    omega
theorem rsOk_of {t a p : Nat} {ac : List (List Bool)} {nx : List (List (List Bool))} {xs : List Int} (hv : validM t a p ac nx = true) (ha : ascB p xs = true) : RsOk t a p xs ac nx := by
  obtain ⟨_, h2, _, h4, h5, h6, h7, h8, h9, h10⟩ := validM_bd hv
  have hl := asc_len ha (by omega)
  exact ⟨by omega, by omega, by omega, by omega, by omega, by omega, fun r hr => by have := h9 r hr; omega, fun rows hr => ⟨by have := (h10 rows hr).1; omega, fun r h => by have := (h10 rows hr).2 r h; omega⟩, fun x hx => asc_bd ha hx⟩
/-- What RestrictModel answers. -/
def rsO (t a p : Int) (ac : List (List Bool)) (nx : List (List (List Bool))) (xs : List Int) : Int × Int × Int × List (List Bool) × List (List (List Bool)) × Int :=
  if validM t a p ac nx = true then if (ascB p xs && !decide (xs.length = 0)) = true then (t, a, xs.length, rsT t.toNat xs ac, rsA xs nx, 0) else (0, 0, 0, [], [], 2) else (0, 0, 0, [], [], 1)
def REnd (t a p : Int) (ac : List (List Bool)) (nx : List (List (List Bool))) (xs : List Int) (w : World) : Ending → World → Prop :=
  MEnd (rsO t a p ac nx xs).1 (rsO t a p ac nx xs).2.1 (rsO t a p ac nx xs).2.2.1 (rsO t a p ac nx xs).2.2.2.1 (rsO t a p ac nx xs).2.2.2.2.1 (rsO t a p ac nx xs).2.2.2.2.2 w
theorem REnd.yes {t a p : Nat} {ac : List (List Bool)} {nx : List (List (List Bool))} {xs : List Int} {w w' : World} {e : Ending} (hv : validM t a p ac nx = true) (ha : ascB p xs = true) (he : xs.length ≠ 0) (h : MEnd t a xs.length (rsT t xs ac) (rsA xs nx) 0 w e w') : REnd t a p ac nx xs w e w' := by
  unfold REnd rsO
  rw [if_pos hv, if_pos (by simp [ha, he] : (ascB p xs && !decide (xs.length = 0)) = true)]
  exact h
theorem REnd.bad {t a p : Int} {ac : List (List Bool)} {nx : List (List (List Bool))} {xs : List Int} {w w' : World} {e : Ending} (hv : validM t a p ac nx = true) (hb : (ascB p xs && !decide (xs.length = 0)) = false) (h : MEnd 0 0 0 [] [] 2 w e w') : REnd t a p ac nx xs w e w' := by
  unfold REnd rsO
  rw [if_pos hv, if_neg (by rw [hb]; decide)]
  exact h
theorem REnd.no {t a p : Int} {ac : List (List Bool)} {nx : List (List (List Bool))} {xs : List Int} {w w' : World} {e : Ending} (hv : validM t a p ac nx = false) (h : MEnd 0 0 0 [] [] 1 w e w') : REnd t a p ac nx xs w e w' := by
  unfold REnd rsO
  rw [if_neg (by rw [hv]; decide)]
  exact h
theorem rsO_small (t a p : Int) (ac : List (List Bool)) (nx : List (List (List Bool))) (xs : List Int) : modN (rsO t a p ac nx xs).2.2.2.1 (rsO t a p ac nx xs).2.2.2.2.1 ≤ 1048576 := by
  unfold rsO
  split
  · rename_i hv
    split
    · rename_i hg
      obtain ⟨ht, ht3, _, ha4, hp, hp8, _, hnl, _⟩ := validM_bd hv
      have hl := asc_len (Bool.and_eq_true _ _ ▸ hg : ascB p xs = true ∧ _).1 (by omega)
      have h1 : tot List.length (rsT t.toNat xs ac) ≤ 3 + 3 * 8 := tot_le List.length (fun x hx => by rw [tab_rows hx]; omega) (by rw [rsT_len]; omega)
      have h2 : tot (tot List.length) (rsA xs nx) ≤ 4 + 4 * (8 + 8 * 8) := tot_le (tot List.length) (fun x hx => by
        obtain ⟨rows, _, rfl⟩ := List.mem_map.1 hx
        exact tot_le List.length (fun y hy => by rw [tab_rows hy]; omega) (by rw [rsR_len]; omega)) (by rw [rsA_len]; omega)
      show modN (rsT t.toNat xs ac) (rsA xs nx) ≤ _
      unfold modN
      omega
    · show modN [] [] ≤ _
      decide
  · show modN [] [] ≤ _
    decide
end Go.Proofs.Ytcgbepmhfimbjaa
