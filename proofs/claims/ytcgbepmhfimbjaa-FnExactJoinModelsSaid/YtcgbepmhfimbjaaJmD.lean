/- JoinModels: what it answers. Plain facts. -/
import Derived.Test.YtcgbepmhfimbjaaRx
import Derived.Test.YtcgbepmhfimbjaaRsMD
namespace Go.Proofs.Ytcgbepmhfimbjaa
open Go.RowKit
set_option linter.unusedVariables false

/-- A table that is filled from row f and column f on with the first x rows of a table of p columns. -/
def plT (f p : Nat) (P T : Nat → Nat → Bool) (x y z : Nat) : Bool := if (f ≤ y ∧ y < f + x) ∧ (f ≤ z ∧ z < f + p) then P (y - f) (z - f) else T y z
/-- Tables of which those ahead of k are filled, and k itself up to row x. -/
def plA (f p : Nat) (P T : Nat → Nat → Nat → Bool) (k x i : Nat) : Nat → Nat → Bool := if i < k then plT f p (P i) (T i) p else if i = k then plT f p (P i) (T i) x else T i
/-- The first x rows filled from column f on. -/
def plR (f p : Nat) (P T : Nat → Nat → Bool) (x i j : Nat) : Bool := if i < x ∧ (f ≤ j ∧ j < f + p) then P i (j - f) else T i j
def off2 : Nat → Nat → Bool := fun _ _ => false
def at2 (ac : List (List Bool)) (i j : Nat) : Bool := (ac.getD i []).getD j false
def at3 (nx : List (List (List Bool))) (k i j : Nat) : Bool := ((nx.getD k []).getD i []).getD j false
theorem plT_zero (f p : Nat) (P T : Nat → Nat → Bool) : plT f p P T 0 = T := by
  funext y z; unfold plT; rw [if_neg (by omega)]
theorem plR_zero (f p : Nat) (P T : Nat → Nat → Bool) : plR f p P T 0 = T := by
  funext y z; unfold plR; rw [if_neg (by omega)]
theorem plA_zero (f p : Nat) (P T : Nat → Nat → Nat → Bool) : plA f p P T 0 0 = T := by
  funext i; unfold plA; rw [if_neg (by omega)]
  by_cases h : i = 0
  · rw [if_pos h, plT_zero]
  · rw [if_neg h]
theorem plA_next (f p : Nat) (P T : Nat → Nat → Nat → Bool) (k : Nat) : plA f p P T k p = plA f p P T (k + 1) 0 := by
  funext i; unfold plA
  by_cases h : i < k
  · rw [if_pos h, if_pos (by omega)]
  · rw [if_neg h]
    by_cases h2 : i = k
    · rw [if_pos h2, if_pos (by omega)]
    · rw [if_neg h2, if_neg (by omega)]
      by_cases h3 : i = k + 1
      · rw [if_pos h3, plT_zero]
      · rw [if_neg h3]
theorem plT_step {f p x : Nat} {P T : Nat → Nat → Bool} {row : List Bool} (hl : row.length = p) (hr : ∀ z, z < p → row.getD z false = P x z) : lay1 (plT f p P T x) (f + x) f row = plT f p P T (x + 1) := by
  funext y z
  unfold lay1 plT
  rw [hl]
  by_cases hz : f ≤ z ∧ z < f + p
  · by_cases hy : y = f + x
    · rw [if_pos ⟨hy, hz⟩, if_pos ⟨⟨by omega, by omega⟩, hz⟩, hr _ (by omega)]
      have : y - f = x := by omega
      rw [this]
    · rw [if_neg (fun h => hy h.1)]
      by_cases h2 : f ≤ y ∧ y < f + x
      · rw [if_pos ⟨h2, hz⟩, if_pos ⟨⟨h2.1, by omega⟩, hz⟩]
      · rw [if_neg (fun h => h2 h.1), if_neg (fun h => h2 ⟨h.1.1, by have := h.1.2; omega⟩)]
  · rw [if_neg (fun h => hz h.2), if_neg (fun h => hz h.2), if_neg (fun h => hz h.2)]
theorem plA_step {f p k x : Nat} {P T : Nat → Nat → Nat → Bool} {row : List Bool} (hl : row.length = p) (hr : ∀ z, z < p → row.getD z false = P k x z) : lay2 (plA f p P T k x) k (f + x) f row = plA f p P T k (x + 1) := by
  funext i
  unfold lay2
  by_cases hi : i = k
  · subst hi
    rw [if_pos rfl]
    unfold plA
    rw [if_neg (Nat.lt_irrefl _), if_neg (Nat.lt_irrefl _), if_pos rfl, if_pos rfl]
    exact plT_step hl hr
  · rw [if_neg hi]
    unfold plA
    rw [if_neg hi, if_neg hi]
theorem plR_step {f p x : Nat} {P T : Nat → Nat → Bool} {row : List Bool} (hl : row.length = p) (hr : ∀ z, z < p → row.getD z false = P x z) : lay1 (plR f p P T x) x f row = plR f p P T (x + 1) := by
  funext y z
  unfold lay1 plR
  rw [hl]
  by_cases hz : f ≤ z ∧ z < f + p
  · by_cases hy : y = x
    · subst hy
      rw [if_pos ⟨rfl, hz⟩, if_pos ⟨by omega, hz⟩, hr _ (by omega)]
    · rw [if_neg (fun h => hy h.1)]
      by_cases h2 : y < x
      · rw [if_pos ⟨h2, hz⟩, if_pos ⟨by omega, hz⟩]
      · rw [if_neg (fun h => h2 h.1), if_neg (fun h => h2 (by have := h.1; omega))]
  · rw [if_neg (fun h => hz h.2), if_neg (fun h => hz h.2), if_neg (fun h => hz h.2)]
/-- The joined tests and the joined actions. -/
def jmT (t p q : Nat) (ac bc : List (List Bool)) : List (List Bool) := tab t (p + q) (plR p q (at2 bc) (plR 0 p (at2 ac) off2 t) t)
def jmF (p q : Nat) (nx ny : List (List (List Bool))) (k : Nat) : Nat → Nat → Bool := plT p q (at3 ny k) (plT 0 p (at3 nx k) off2 p) q
def jmA (a p q : Nat) (nx ny : List (List (List Bool))) : List (List (List Bool)) := tabs a (p + q) (p + q) (jmF p q nx ny)
theorem jmT_len (t p q : Nat) (ac bc : List (List Bool)) : (jmT t p q ac bc).length = t := tab_len _ _ _
theorem jmA_len (a p q : Nat) (nx ny : List (List (List Bool))) : (jmA a p q nx ny).length = a := tabs_len _ _ _ _
theorem jmA_done (a p q : Nat) (nx ny : List (List (List Bool))) : tabs a (p + q) (p + q) (plA p q (at3 ny) (plA 0 p (at3 nx) (fun _ => off2) a 0) a 0) = jmA a p q nx ny :=
  tabs_ext fun k i j hk _ _ => by
    unfold plA jmF
    rw [if_pos hk, if_pos hk]
theorem jmA_step {a p q j : Nat} {nx ny : List (List (List Bool))} (h : j < a) : (jmA a p q nx ny).take (j + 1) = (jmA a p q nx ny).take j ++ [tab (p + q) (p + q) (jmF p q nx ny j)] := by
  have h1 : j < (jmA a p q nx ny).length := by rw [jmA_len]; exact h
  rw [List.take_succ_eq_append_getElem h1]
  rw [show (jmA a p q nx ny)[j] = _ from tabs_at h1]
theorem jmT_step {t p q j : Nat} {ac bc : List (List Bool)} (h : j < t) (ha : j < ac.length) (hb : j < bc.length) (hp : ac[j].length = p) (hq : bc[j].length = q) : (jmT t p q ac bc).take (j + 1) = (jmT t p q ac bc).take j ++ [ac[j] ++ bc[j]] := by
  have h1 : j < (jmT t p q ac bc).length := by rw [jmT_len]; exact h
  rw [List.take_succ_eq_append_getElem h1]
  have e : (jmT t p q ac bc)[j] = (List.range (p + q)).map fun y => plR p q (at2 bc) (plR 0 p (at2 ac) off2 t) t j y := tab_row _ _ _ h1
  rw [e]
  congr 2
  refine List.ext_getElem (by simp [hp, hq]) fun i h2 h3 => ?_
  have hi : i < p + q := by simpa using h2
  simp only [List.getElem_map, List.getElem_range]
  unfold plR
  by_cases hip : i < p
  · rw [if_neg (by omega), if_pos ⟨h, by omega, by omega⟩, List.getElem_append_left (by omega)]
    unfold at2
    have : i < ac[j].length := by omega
    simp [List.getD, ha, this]
  · rw [if_pos ⟨h, by omega, by omega⟩, List.getElem_append_right (by omega)]
    unfold at2
    have h5 : i - p < bc[j].length := by omega
    simp [List.getD, hb, h5, hp]
/-- What JoinModels answers. -/
def jmO (t a p : Int) (ac : List (List Bool)) (nx : List (List (List Bool))) (t' a' q : Int) (bc : List (List Bool)) (ny : List (List (List Bool))) : Int × Int × Int × List (List Bool) × List (List (List Bool)) × Int :=
  if validM t a p ac nx = true ∧ validM t' a' q bc ny = true then if t = t' ∧ a = a' then if p + q ≤ 8 then (t, a, p + q, jmT t.toNat p.toNat q.toNat ac bc, jmA a.toNat p.toNat q.toNat nx ny, 0) else (0, 0, 0, [], [], 3) else (0, 0, 0, [], [], 2) else (0, 0, 0, [], [], 1)
def JEnd (t a p : Int) (ac : List (List Bool)) (nx : List (List (List Bool))) (t' a' q : Int) (bc : List (List Bool)) (ny : List (List (List Bool))) (w : World) : Ending → World → Prop :=
  MEnd (jmO t a p ac nx t' a' q bc ny).1 (jmO t a p ac nx t' a' q bc ny).2.1 (jmO t a p ac nx t' a' q bc ny).2.2.1 (jmO t a p ac nx t' a' q bc ny).2.2.2.1 (jmO t a p ac nx t' a' q bc ny).2.2.2.2.1 (jmO t a p ac nx t' a' q bc ny).2.2.2.2.2 w
section
variable {t a p q t' a' : Int} {ac bc : List (List Bool)} {nx ny : List (List (List Bool))} {w w' : World} {e : Ending}
theorem JEnd.no (h : ¬ (validM t a p ac nx = true ∧ validM t' a' q bc ny = true)) (hm : MEnd 0 0 0 [] [] 1 w e w') : JEnd t a p ac nx t' a' q bc ny w e w' := by
  unfold JEnd jmO; rw [if_neg h]; exact hm
theorem JEnd.far (h : validM t a p ac nx = true ∧ validM t' a' q bc ny = true) (hs : ¬ (t = t' ∧ a = a')) (hm : MEnd 0 0 0 [] [] 2 w e w') : JEnd t a p ac nx t' a' q bc ny w e w' := by
  unfold JEnd jmO; rw [if_pos h, if_neg hs]; exact hm
theorem JEnd.big (h : validM t a p ac nx = true ∧ validM t' a' q bc ny = true) (hs : t = t' ∧ a = a') (hb : ¬ p + q ≤ 8) (hm : MEnd 0 0 0 [] [] 3 w e w') : JEnd t a p ac nx t' a' q bc ny w e w' := by
  unfold JEnd jmO; rw [if_pos h, if_pos hs, if_neg hb]; exact hm
end
theorem JEnd.yes {t a p q : Nat} {ac bc : List (List Bool)} {nx ny : List (List (List Bool))} {w w' : World} {e : Ending} (h : validM t a p ac nx = true ∧ validM t a q bc ny = true) (hb : p + q ≤ 8) (hm : MEnd t a ((p : Int) + q) (jmT t p q ac bc) (jmA a p q nx ny) 0 w e w') : JEnd t a p ac nx t a q bc ny w e w' := by
  unfold JEnd jmO; rw [if_pos h, if_pos ⟨rfl, rfl⟩, if_pos (by omega)]; exact hm
theorem jmO_small (t a p : Int) (ac : List (List Bool)) (nx : List (List (List Bool))) (t' a' q : Int) (bc : List (List Bool)) (ny : List (List (List Bool))) : modN (jmO t a p ac nx t' a' q bc ny).2.2.2.1 (jmO t a p ac nx t' a' q bc ny).2.2.2.2.1 ≤ 1048576 := by
  unfold jmO
  split
  · rename_i hv
    split
    · split
      · rename_i hpq
        obtain ⟨ht, ht3, ha, ha4, hp, hp8, _, _, _⟩ := validM_bd hv.1
        obtain ⟨_, _, _, _, hq, hq8, _, _, _⟩ := validM_bd hv.2
        have h1 : tot List.length (jmT t.toNat p.toNat q.toNat ac bc) ≤ 3 + 3 * 8 := tot_le List.length (fun x hx => by rw [tab_rows hx]; omega) (by rw [jmT_len]; omega)
        have h2 : tot (tot List.length) (jmA a.toNat p.toNat q.toNat nx ny) ≤ 4 + 4 * (8 + 8 * 8) := tot_le (tot List.length) (fun x hx => by
          obtain ⟨k, _, rfl⟩ := List.mem_map.1 hx
          exact tot_le List.length (fun y hy => by rw [tab_rows hy]; omega) (by rw [tab_len]; omega)) (by rw [jmA_len]; omega)
        show modN (jmT t.toNat p.toNat q.toNat ac bc) (jmA a.toNat p.toNat q.toNat nx ny) ≤ _
        unfold modN
        omega
      · show modN [] [] ≤ _
        decide
    · show modN [] [] ≤ _
      decide
  · show modN [] [] ≤ _
    decide
end Go.Proofs.Ytcgbepmhfimbjaa
