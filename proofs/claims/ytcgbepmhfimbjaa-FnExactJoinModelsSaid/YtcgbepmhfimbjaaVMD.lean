/- Which models and costs are valid; facts on it. -/
import Derived.Test.YtcgbepmhfimbjaaMod
import Derived.Test.YtcgbepmhfimbjaaValAD
namespace Go.Proofs.Ytcgbepmhfimbjaa
open Go.RowKit

def isRow (p : Int) {α : Type} (r : List α) : Bool := decide ((r.length : Int) = p)
def rowV (p : Int) (r : List Int) : Bool := isRow p r && r.all fun v => inB v (-1) 1000
def actM (p : Int) (rows : List (List Bool)) : Bool := isRow p rows && rows.all (isRow p)
def actC (p : Int) (rows : List (List Int)) : Bool := isRow p rows && rows.all (rowV p)
def validT (t a p : Int) (ac : List (List Bool)) : Bool := sigOk t a && (inB p 1 8 && (decide ((ac.length : Int) = t) && ac.all (isRow p)))
def validM (t a p : Int) (ac : List (List Bool)) (nx : List (List (List Bool))) : Bool := validT t a p ac && (decide ((nx.length : Int) = a) && nx.all (actM p))
def validC (t a p : Int) (ac : List (List Bool)) (nx : List (List (List Int))) : Bool := validT t a p ac && (decide ((nx.length : Int) = a) && nx.all (actC p))
/-- All from a place on. -/
def allF {α : Type} (f : α → Bool) (xs : List α) (j : Nat) : Bool := (xs.drop j).all f
theorem allF_zero {α : Type} (f : α → Bool) (xs : List α) : xs.all f = allF f xs 0 := by simp [allF]
theorem allF_step {α : Type} (f : α → Bool) (xs : List α) {j : Nat} (h : j < xs.length) : allF f xs j = (f xs[j] && allF f xs (j + 1)) := all_drop h
theorem allF_end {α : Type} (f : α → Bool) (xs : List α) : allF f xs xs.length = true := by simp [allF]
theorem isRow_neg {p : Int} {α : Type} {r : List α} (h : ¬ (r.length : Int) = p) : isRow p r = false := decide_eq_false h
theorem isRow_pos {p : Int} {α : Type} {r : List α} (h : (r.length : Int) = p) : isRow p r = true := decide_eq_true h
theorem validT_bd {t a p : Int} {ac : List (List Bool)} (h : validT t a p ac = true) : 0 ≤ t ∧ t ≤ 3 ∧ 0 ≤ a ∧ a ≤ 4 ∧ 1 ≤ p ∧ p ≤ 8 ∧ (ac.length : Int) = t := by
  unfold validT at h
  simp only [Bool.and_eq_true, decide_eq_true_eq] at h
  have h1 := sigOk_of h.1
  have h2 := h.2.1
  unfold inB at h2
  simp only [decide_eq_true_eq] at h2
  omega
end Go.Proofs.Ytcgbepmhfimbjaa
