/- The text of a flowchart: what FlowText answers. Plain facts, no walk. -/
import Derived.Test.YtmblgkpgfofceaaDoorSpD
import Derived.Test.YtmblgkpgfofceaaDoorTx
import Derived.Test.YtmblgkpgfofceaaDoorTruthT
import Derived.Lib.ItoaNum
namespace Go.Proofs.YtmblgkpgfofceaaDoor
open Go.RowKit
set_option linter.unusedVariables false

/-- A spot. -/
def spotT (x : Sp) : List UInt8 :=
  if x.k = 1 then ([97] ++ Lib.decDigits x.n.toNat) ++ ([32] ++ Lib.decDigits x.tg.toNat)
  else if x.k = 2 then (([116, 101, 115, 116, 32] ++ (ndE x.cf x.ck x.cn).tx) ++ ([32] ++ Lib.decDigits x.tg.toNat)) ++ ([32] ++ Lib.decDigits x.el.toNat)
  else if x.k = 3 then [104, 97, 108, 116] else [102, 97, 105, 108]
def spotsT : List Sp → List UInt8
  | [] => []
  | x :: r => (spotT x ++ [10]) ++ spotsT r
def flowT (s : Int) (xs : List Sp) : List UInt8 := (([115, 116, 97, 114, 116, 32] ++ Lib.decDigits s.toNat) ++ [10]) ++ spotsT xs
/-- What FlowText answers. -/
def flTx (t a s : Int) (xs : List Sp) : List UInt8 := if flowB t a s xs = true then flowT s xs else []
theorem spotsT_step {xs : List Sp} {j : Nat} (h : j < xs.length) : spotsT (xs.drop j) = (spotT xs[j] ++ [10]) ++ spotsT (xs.drop (j + 1)) := by
  rw [List.drop_eq_getElem_cons h]; rfl
theorem dec_len2 {n : Nat} (h : n < 100) : (Lib.decDigits n).length ≤ 2 := by
  by_cases h10 : n < 10
  · rw [Lib.decDigits_one (by omega)]; simp
  · rw [Lib.decDigits_two (by omega) (by omega)]; simp
theorem condV_bd {t a ck cn : Int} {cf : Fo} (h : condV t a ck cn cf = true) : 1 + cf.nodes ≤ 200 ∧ treeE t a false ck cn cf = true := by
  unfold condV validE at h
  simp only [Bool.and_eq_true, decide_eq_true_eq] at h
  exact ⟨h.1.1.1.2, h.1.2⟩
/-- What a valid spot is like. -/
theorem sp_parts {t a cnt : Int} {x : Sp} (ht : t ≤ 3) (ha : a ≤ 4) (hc : cnt ≤ 60) (h : spB t a cnt x = true) :
    (x.k = 1 ∧ (0 ≤ x.n ∧ x.n < 100) ∧ (0 ≤ x.tg ∧ x.tg < 100)) ∨ (x.k = 2 ∧ condV t a x.ck x.cn x.cf = true ∧ (ndE x.cf x.ck x.cn).okD ∧ x.cf.nodes ≤ 199 ∧ (0 ≤ x.tg ∧ x.tg < 100) ∧ (0 ≤ x.el ∧ x.el < 100)) ∨ x.k = 3 ∨ x.k = 4 := by
  unfold spB at h
  by_cases h1 : x.k = 1
  · rw [h1, spot_act] at h
    simp only [Bool.and_eq_true, belowB, decide_eq_true_eq] at h
    exact Or.inl ⟨h1, by omega, by omega⟩
  · by_cases h2 : x.k = 2
    · rw [h2, spot_test] at h
      simp only [Bool.and_eq_true, belowB, decide_eq_true_eq] at h
      obtain ⟨g1, g2, g3, g4⟩ := h
      obtain ⟨g5, g6⟩ := condV_bd g4
      exact Or.inr (Or.inl ⟨h2, g4, ndE_okD t a ht ha (x.cf.nodes + 1) x.cf (Nat.lt_succ_self _) false x.ck x.cn g6, by omega, by omega, by omega⟩)
    · by_cases h3 : x.k = 3
      · exact Or.inr (Or.inr (Or.inl h3))
      · by_cases h4 : x.k = 4
        · exact Or.inr (Or.inr (Or.inr h4))
        · rw [spot_other _ _ _ _ _ _ _ _ _ _ h1 h2 h3 h4] at h; cases h
theorem spotT_len {t a cnt : Int} {x : Sp} (ht : t ≤ 3) (ha : a ≤ 4) (hc : cnt ≤ 60) (h : spB t a cnt x = true) : (spotT x).length ≤ 1100 := by
  unfold spotT
  rcases sp_parts ht ha hc h with ⟨h1, h2, h3⟩ | ⟨h1, h2, h3, h4, h5, h6⟩ | h1 | h1
  · rw [if_pos h1]
    have := dec_len2 (n := x.n.toNat) (by omega); have := dec_len2 (n := x.tg.toNat) (by omega)
    simp only [List.length_append, List.length_cons, List.length_nil]; omega
  · rw [if_neg (by omega), if_pos h1]
    have := dec_len2 (n := x.el.toNat) (by omega); have := dec_len2 (n := x.tg.toNat) (by omega)
    have := Nd.tx_len h3
    have := ndE_size x.cf x.ck x.cn
    simp only [List.length_append, List.length_cons, List.length_nil]; omega
  · rw [if_neg (by omega), if_neg (by omega), if_pos h1]; simp
  · rw [if_neg (by omega), if_neg (by omega), if_neg (by omega)]; simp
theorem spotsT_len {t a cnt : Int} (ht : t ≤ 3) (ha : a ≤ 4) (hc : cnt ≤ 60) : ∀ (xs : List Sp), xs.all (spB t a cnt) = true → (spotsT xs).length ≤ 1101 * xs.length
  | [], _ => by simp [spotsT]
  | x :: r, h => by
    rw [List.all_cons, Bool.and_eq_true] at h
    have h1 := spotT_len ht ha hc h.1
    have h2 := spotsT_len ht ha hc r h.2
    simp only [spotsT, List.length_append, List.length_cons, List.length_nil]; omega
theorem flow_parts {t a s : Int} {xs : List Sp} (h : flowB t a s xs = true) :
    (0 ≤ t ∧ t ≤ 3 ∧ 0 ≤ a ∧ a ≤ 4) ∧ (1 ≤ xs.length ∧ xs.length ≤ 60) ∧ (0 ≤ s ∧ s < 100) ∧ (flowT s xs).length ≤ 1000000 ∧ ∀ (j : Nat) (hj : j < xs.length), spB t a xs.length xs[j] = true := by
  unfold flowB inB at h
  simp only [Bool.and_eq_true, decide_eq_true_eq] at h
  obtain ⟨h1, h2, h3, h4⟩ := h
  have hs := sigOk_of h1
  have hl : xs.length ≤ 60 := by omega
  have hl1 : 1 ≤ xs.length := by omega
  have h5 := spotsT_len (t := t) (a := a) (cnt := xs.length) (by omega) (by omega) (by omega) xs h4
  refine ⟨by omega, ⟨hl1, hl⟩, by omega, ?_, fun j hj => List.all_eq_true.1 h4 _ (List.getElem_mem hj)⟩
  have := dec_len2 (n := s.toNat) (by omega)
  unfold flowT
  simp only [List.length_append, List.length_cons, List.length_nil]
  omega
end Go.Proofs.YtmblgkpgfofceaaDoor
