/- RenumberModel: what it answers. Plain facts. -/
import Derived.Test.YtmblgkpgfofceaaRsD
import Derived.Test.YtmblgkpgfofceaaAtmD
namespace Go.Proofs.Ytmblgkpgfofceaa
open Go.RowKit
set_option linter.unusedVariables false

/-- Whether a number is in a list. -/
def hasB (xs : List Int) (n : Int) : Bool := decide (n ∈ xs)
theorem nth_get {xs : List Int} {i : Nat} (h : i < xs.length) : nth xs i = xs[i] := by simp [nth, List.getD, h]
theorem has_at {xs : List Int} {n : Int} {i : Nat} (h : i < xs.length) (he : nth xs i = n) : hasB xs n = true := by
  unfold hasB
  rw [nth_get h] at he
  exact decide_eq_true (he ▸ List.getElem_mem h)
theorem has_no {xs : List Int} {n : Int} (h : ∀ i, i < xs.length → nth xs i ≠ n) : hasB xs n = false := by
  unfold hasB
  refine decide_eq_false fun hm => ?_
  obtain ⟨i, hi, he⟩ := List.getElem_of_mem hm
  exact h i hi (by rw [nth_get hi]; exact he)
/-- Whether all numbers below p are in a list. -/
def rnB (p : Int) (xs : List Int) : Bool := (List.range p.toNat).all fun x => hasB xs (x : Int)
theorem rn_no {p : Int} {xs : List Int} {j : Nat} (h : (j : Int) < p) (hj : hasB xs (j : Int) = false) : rnB p xs = false := by
  unfold rnB
  rw [List.all_eq_false]
  exact ⟨j, List.mem_range.2 (by omega), by simp [hj]⟩
theorem rn_step {xs : List Int} {j : Nat} (h : (List.range j).all (fun x => hasB xs (x : Int)) = true) (hj : hasB xs (j : Int) = true) : (List.range (j + 1)).all (fun x => hasB xs (x : Int)) = true := by
  rw [List.range_succ, List.all_append, h]
  simp [hj]
theorem rn_mem {p : Int} {xs : List Int} (h : rnB p xs = true) {x : Nat} (hx : (x : Int) < p) : (x : Int) ∈ xs := by
  unfold rnB at h
  rw [List.all_eq_true] at h
  have := h x (List.mem_range.2 (by omega))
  unfold hasB at this
  exact of_decide_eq_true this
theorem full : ∀ (n : Nat) (xs : List Int), xs.length = n → (∀ x : Nat, x < n → (x : Int) ∈ xs) → (∀ y ∈ xs, 0 ≤ y ∧ y < n) ∧ xs.Nodup
  | 0, xs, hl, _ => by
    obtain rfl := List.eq_nil_of_length_eq_zero hl
    exact ⟨fun y hy => (by cases hy), List.nodup_nil⟩
  | n + 1, xs, hl, h => by
    have hn := h n (Nat.lt_succ_self n)
    have hp := List.perm_cons_erase hn
    obtain ⟨h1, h2⟩ := full n (xs.erase (n : Int)) (by rw [List.length_erase_of_mem hn]; omega) fun x hx => (List.mem_erase_of_ne (by omega)).2 (h x (by omega))
    refine ⟨fun y hy => ?_, hp.nodup_iff.2 (List.nodup_cons.2 ⟨fun hm => by have := (h1 _ hm).2; omega, h2⟩)⟩
    rcases List.mem_cons.1 (hp.mem_iff.1 hy) with rfl | hm
    · omega
    · have := h1 y hm
      omega
theorem rnOk_of {t a p : Nat} {ac : List (List Bool)} {nx : List (List (List Bool))} {xs : List Int} (hv : validM t a p ac nx = true) (hl : (xs.length : Int) = p) (hb : rnB p xs = true) : RsOk t a p xs ac nx := by
  obtain ⟨_, h2, _, h4, h5, h6, h7, h8, h9, h10⟩ := validM_bd hv
  have hf := (full p xs (by omega) fun x hx => rn_mem hb (by omega)).1
  exact ⟨by omega, by omega, by omega, by omega, by omega, by omega, fun r hr => by have := h9 r hr; omega, fun rows hr => ⟨by have := (h10 rows hr).1; omega, fun r h => by have := (h10 rows hr).2 r h; omega⟩, fun x hx => by rw [nth_get hx]; exact hf _ (List.getElem_mem hx)⟩
/-- What RenumberModel answers. -/
def rnO (t a p : Int) (ac : List (List Bool)) (nx : List (List (List Bool))) (xs : List Int) : Int × Int × Int × List (List Bool) × List (List (List Bool)) × Int :=
  if validM t a p ac nx = true then if (decide ((xs.length : Int) = p) && rnB p xs) = true then (t, a, xs.length, rsT t.toNat xs ac, rsA xs nx, 0) else (0, 0, 0, [], [], 2) else (0, 0, 0, [], [], 1)
def NEnd (t a p : Int) (ac : List (List Bool)) (nx : List (List (List Bool))) (xs : List Int) (w : World) : Ending → World → Prop :=
  MEnd (rnO t a p ac nx xs).1 (rnO t a p ac nx xs).2.1 (rnO t a p ac nx xs).2.2.1 (rnO t a p ac nx xs).2.2.2.1 (rnO t a p ac nx xs).2.2.2.2.1 (rnO t a p ac nx xs).2.2.2.2.2 w
theorem NEnd.yes {t a p : Nat} {ac : List (List Bool)} {nx : List (List (List Bool))} {xs : List Int} {w w' : World} {e : Ending} (hv : validM t a p ac nx = true) (hl : (xs.length : Int) = p) (hb : rnB p xs = true) (h : MEnd t a xs.length (rsT t xs ac) (rsA xs nx) 0 w e w') : NEnd t a p ac nx xs w e w' := by
  unfold NEnd rnO
  rw [if_pos hv, if_pos (by rw [decide_eq_true hl, hb]; rfl : (decide ((xs.length : Int) = p) && rnB p xs) = true)]
  exact h
theorem NEnd.bad {t a p : Int} {ac : List (List Bool)} {nx : List (List (List Bool))} {xs : List Int} {w w' : World} {e : Ending} (hv : validM t a p ac nx = true) (hb : (decide ((xs.length : Int) = p) && rnB p xs) = false) (h : MEnd 0 0 0 [] [] 2 w e w') : NEnd t a p ac nx xs w e w' := by
  unfold NEnd rnO
  rw [if_pos hv, if_neg (by rw [hb]; decide)]
  exact h
theorem NEnd.no {t a p : Int} {ac : List (List Bool)} {nx : List (List (List Bool))} {xs : List Int} {w w' : World} {e : Ending} (hv : validM t a p ac nx = false) (h : MEnd 0 0 0 [] [] 1 w e w') : NEnd t a p ac nx xs w e w' := by
  unfold NEnd rnO
  rw [if_neg (by rw [hv]; decide)]
  exact h
theorem rnO_small (t a p : Int) (ac : List (List Bool)) (nx : List (List (List Bool))) (xs : List Int) : modN (rnO t a p ac nx xs).2.2.2.1 (rnO t a p ac nx xs).2.2.2.2.1 ≤ 1048576 := by
  unfold rnO
  split
  · rename_i hv
    split
    · rename_i hg
      obtain ⟨ht, ht3, _, ha4, hp, hp8, _, hnl, _⟩ := validM_bd hv
      have hl := of_decide_eq_true (Bool.and_eq_true _ _ ▸ hg : decide ((xs.length : Int) = p) = true ∧ _).1
      have h1 : tot List.length (rsT t.toNat xs ac) ≤ 3 + 3 * 8 := tot_le List.length (fun x hx => by rw [tab_rows hx]; omega) (by rw [rsT_len]; omega)
      have h2 : tot (tot List.length) (rsA xs nx) ≤ 4 + 4 * (8 + 8 * 8) := tot_le (tot List.length) (fun x hx => by
        obtain ⟨rows, _, rfl⟩ := List.mem_map.1 hx
        exact tot_le List.length (fun y hy => by rw [tab_rows hy]; omega) (by rw [rsR_len]; omega)) (by rw [rsA_len]; omega)
      show modN (rsT t.toNat xs ac) (rsA xs nx) ≤ _
      unfold modN
      omega
    · show modN [] [] ≤ _
      decide
  · show modN [] [] ≤ _
    decide
end Go.Proofs.Ytmblgkpgfofceaa
