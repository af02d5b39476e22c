/- The texts of programs, as bytes. Plain facts, no walk. -/
import Derived.Test.YtcgbepmhfimbjaaDoorVpD
import Derived.Test.YtcgbepmhfimbjaaDoorTx
import Derived.Test.YtcgbepmhfimbjaaDoorOk
namespace Go.Proofs.YtcgbepmhfimbjaaDoor
open Go.RowKit
set_option linter.unusedVariables false

/-- The text of a program's first node, out of its condition's text and its kids' texts. -/
def ptN (k n : Int) (c : List UInt8) (ts : List (List UInt8)) : List UInt8 :=
  if k = 1 then [115, 107, 105, 112]
  else if k = 2 then [102, 97, 105, 108]
  else if k = 3 then [97] ++ Lib.decDigits n.toNat
  else if k = 4 then [97, 115, 115, 101, 114, 116, 32] ++ c
  else if k = 5 then [123] ++ ts.getD 0 [] ++ [59, 32] ++ ts.getD 1 [] ++ [125]
  else if k = 6 then [105, 102, 32] ++ c ++ [32, 116, 104, 101, 110, 32] ++ ts.getD 0 [] ++ [32, 101, 108, 115, 101, 32] ++ ts.getD 1 [] ++ [32, 102, 105]
  else [119, 104, 105, 108, 101, 32] ++ c ++ [32, 100, 111, 32] ++ ts.getD 0 [] ++ [32, 111, 100]
namespace Pg
def txs : Pg → List (List UInt8)
  | nil => []
  | cons k n ck cn cf ks r => ptN k n (ndE cf ck cn).tx ks.txs :: r.txs
end Pg
def ptE (k n ck cn : Int) (cf : Fo) (f : Pg) : List UInt8 := ptN k n (ndE cf ck cn).tx f.txs
/-- A program by its form. -/
theorem ptree_forms {t a k n ck cn : Int} {cf : Fo} {f : Pg} (h : ptreeE t a k n ck cn cf f = true) :
    (f = .nil ∧ (k = 1 ∨ k = 2 ∨ (k = 3 ∧ 0 ≤ n ∧ n < a) ∨ (k = 4 ∧ condV t a ck cn cf = true))) ∨
    (∃ k1 n1 ck1 cn1 cf1 f1, f = .cons k1 n1 ck1 cn1 cf1 f1 .nil ∧ k = 7 ∧ condV t a ck cn cf = true ∧ ptreeE t a k1 n1 ck1 cn1 cf1 f1 = true) ∨
    ∃ k1 n1 ck1 cn1 cf1 f1 k2 n2 ck2 cn2 cf2 f2, f = .cons k1 n1 ck1 cn1 cf1 f1 (.cons k2 n2 ck2 cn2 cf2 f2 .nil) ∧ (k = 5 ∨ (k = 6 ∧ condV t a ck cn cf = true)) ∧ ptreeE t a k1 n1 ck1 cn1 cf1 f1 = true ∧ ptreeE t a k2 n2 ck2 cn2 cf2 f2 = true := by
  unfold ptreeE at h
  rw [Bool.and_eq_true] at h
  obtain ⟨h1, h2⟩ := h
  unfold pform at h1
  rw [Bool.and_eq_true, Bool.and_eq_true, decide_eq_true_eq] at h1
  obtain ⟨hl, hn, hc⟩ := h1
  unfold pkidC at hl
  unfold belowB pnumC at hn
  unfold fieldV askB at hc
  by_cases h0 : k = 1 ∨ k = 2 ∨ k = 3 ∨ k = 4
  · rw [if_pos h0] at hl
    cases f with
    | cons k1 n1 ck1 cn1 cf1 f1 r => simp only [Pg.len] at hl; omega
    | nil =>
      refine Or.inl ⟨rfl, ?_⟩
      rcases h0 with rfl | rfl | rfl | rfl
      · exact Or.inl rfl
      · exact Or.inr (Or.inl rfl)
      · refine Or.inr (Or.inr (Or.inl ⟨rfl, ?_⟩))
        simp at hn
        omega
      · exact Or.inr (Or.inr (Or.inr ⟨rfl, by simpa using hc⟩))
  · rw [if_neg h0] at hl
    by_cases h7 : k = 7
    · subst h7
      simp only [if_pos] at hl
      cases f with
      | nil => simp [Pg.len] at hl
      | cons k1 n1 ck1 cn1 cf1 f1 r =>
        cases r with
        | cons k2 n2 ck2 cn2 cf2 f2 r => simp only [Pg.len] at hl; omega
        | nil =>
          rw [Pg.tree_cons, Bool.and_eq_true] at h2
          exact Or.inr (Or.inl ⟨_, _, _, _, _, _, rfl, rfl, by simpa using hc, h2.1⟩)
    · rw [if_neg h7] at hl
      by_cases h5 : k = 5 ∨ k = 6
      · rw [if_pos h5] at hl
        cases f with
        | nil => simp [Pg.len] at hl
        | cons k1 n1 ck1 cn1 cf1 f1 r =>
          cases r with
          | nil => simp [Pg.len] at hl
          | cons k2 n2 ck2 cn2 cf2 f2 r =>
            cases r with
            | cons k3 n3 ck3 cn3 cf3 f3 r => simp only [Pg.len] at hl; omega
            | nil =>
              rw [Pg.tree_cons, Bool.and_eq_true, Pg.tree_cons, Bool.and_eq_true] at h2
              refine Or.inr (Or.inr ⟨_, _, _, _, _, _, _, _, _, _, _, _, rfl, ?_, h2.1, h2.2.1⟩)
              rcases h5 with rfl | rfl
              · exact Or.inl rfl
              · exact Or.inr ⟨rfl, by simpa using hc⟩
      · rw [if_neg h5] at hl
        omega
theorem condV_parts {t a ck cn : Int} {cf : Fo} (h : condV t a ck cn cf = true) : t ≤ 3 ∧ a ≤ 4 ∧ treeE t a false ck cn cf = true := by
  unfold condV at h
  rw [Bool.and_eq_true] at h
  have h1 := h.1
  unfold validE at h1
  simp only [Bool.and_eq_true] at h1
  have := sigOk_of h1.1.1.1
  exact ⟨this.2.1, this.2.2.2, h1.2⟩
theorem condV_tx {t a ck cn : Int} {cf : Fo} (h : condV t a ck cn cf = true) : (ndE cf ck cn).okD ∧ (ndE cf ck cn).tx.length ≤ 5 * (1 + cf.nodes) := by
  obtain ⟨h1, h2, h3⟩ := condV_parts h
  have hok := ndE_okD t a h1 h2 (cf.nodes + 1) cf (Nat.lt_succ_self _) false ck cn h3
  refine ⟨hok, Nat.le_trans (Nd.tx_len hok) ?_⟩
  have := ndE_size cf ck cn
  omega
theorem ptE_len (t a : Int) (ha : a ≤ 4) : ∀ (N : Nat) (cf : Fo) (f : Pg), cf.nodes + f.nodes < N → ∀ (k n ck cn : Int), ptreeE t a k n ck cn cf f = true → (ptE k n ck cn cf f).length ≤ 40 * (1 + cf.nodes + f.nodes) := by
  intro N
  induction N with
  | zero => intro cf f hN; exact absurd hN (Nat.not_lt_zero _)
  | succ N ih =>
    intro cf f hN k n ck cn h
    rcases ptree_forms h with ⟨rfl, hk⟩ | ⟨k1, n1, ck1, cn1, cf1, f1, rfl, rfl, hc, h1⟩ | ⟨k1, n1, ck1, cn1, cf1, f1, k2, n2, ck2, cn2, cf2, f2, rfl, hk, h1, h2⟩
    · rcases hk with rfl | rfl | ⟨rfl, hn, hn'⟩ | ⟨rfl, hc⟩
      · simp [ptE, ptN]; omega
      · simp [ptE, ptN]; omega
      · have hd := Nd.dig_len (n := n) (by omega)
        simp [ptE, ptN, hd]; omega
      · have := (condV_tx hc).2
        simp [ptE, ptN]; omega
    · have hcl := (condV_tx hc).2
      have g1 := ih cf1 f1 (by simp only [Pg.nodes] at hN; omega) k1 n1 ck1 cn1 h1
      have e : (ptE 7 n ck cn cf (.cons k1 n1 ck1 cn1 cf1 f1 .nil)).length = 6 + (ndE cf ck cn).tx.length + 4 + (ptE k1 n1 ck1 cn1 cf1 f1).length + 3 := by
        simp [ptE, ptN, Pg.txs]; omega
      rw [e]
      simp only [Pg.nodes]
      omega
    · have g1 := ih cf1 f1 (by simp only [Pg.nodes] at hN; omega) k1 n1 ck1 cn1 h1
      have g2 := ih cf2 f2 (by simp only [Pg.nodes] at hN; omega) k2 n2 ck2 cn2 h2
      rcases hk with rfl | ⟨rfl, hc⟩
      · have e : (ptE 5 n ck cn cf (.cons k1 n1 ck1 cn1 cf1 f1 (.cons k2 n2 ck2 cn2 cf2 f2 .nil))).length = 1 + (ptE k1 n1 ck1 cn1 cf1 f1).length + 2 + (ptE k2 n2 ck2 cn2 cf2 f2).length + 1 := by
          simp [ptE, ptN, Pg.txs]; omega
        rw [e]
        simp only [Pg.nodes]
        omega
      · have hcl := (condV_tx hc).2
        have e : (ptE 6 n ck cn cf (.cons k1 n1 ck1 cn1 cf1 f1 (.cons k2 n2 ck2 cn2 cf2 f2 .nil))).length = 3 + (ndE cf ck cn).tx.length + 6 + (ptE k1 n1 ck1 cn1 cf1 f1).length + 6 + (ptE k2 n2 ck2 cn2 cf2 f2).length + 3 := by
          simp [ptE, ptN, Pg.txs]; omega
        rw [e]
        simp only [Pg.nodes]
        omega
/-- What ProgText answers. -/
def pgT (t a k n ck cn : Int) (cf : Fo) (f : Pg) : List UInt8 := if validP t a k n ck cn cf f = true then ptE k n ck cn cf f else []
theorem validP_parts {t a k n ck cn : Int} {cf : Fo} {f : Pg} (h : validP t a k n ck cn cf f = true) : t ≤ 3 ∧ a ≤ 4 ∧ ptreeE t a k n ck cn cf f = true := by
  unfold validP at h
  simp only [Bool.and_eq_true] at h
  have := sigOk_of h.1
  exact ⟨this.2.1, this.2.2.2, h.2.2.2⟩
end Go.Proofs.YtcgbepmhfimbjaaDoor
