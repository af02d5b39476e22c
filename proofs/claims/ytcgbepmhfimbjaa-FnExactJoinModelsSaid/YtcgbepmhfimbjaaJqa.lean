/- Plain facts on 'all of a list from a place on'. The shape of models and costs. impl.every at int64: every$1, slices.IndexFunc, slices.ContainsFunc. impl.every at []int64: every$1, slices.IndexFunc, slices.ContainsFunc. impl.every at [][]int64: every$1, slices.IndexFunc, slices.ContainsFunc. -/
import Derived.Test.YtcgbepmhfimbjaaLayB
import Derived.Deep.RegionHeld3
import Derived.Shelf.Abstract
import Derived.Test.YtcgbepmhfimbjaaVMD
namespace Go.Proofs.Ytcgbepmhfimbjaa
open Go.RowKit
def allG {α : Type} (f : α → Bool) (xs : List α) (j : Nat) : Bool := (xs.drop j).all f
theorem allG_zero {α : Type} (f : α → Bool) (xs : List α) : xs.all f = allG f xs 0 := by simp [allG]
theorem allG_step {α : Type} (f : α → Bool) (xs : List α) {j : Nat} (h : j < xs.length) : allG f xs j = (f xs[j] && allG f xs (j + 1)) := by
  unfold allG
  rw [List.drop_eq_getElem_cons h, List.all_cons]
theorem allG_end {α : Type} (f : α → Bool) (xs : List α) : allG f xs xs.length = true := by simp [allG]
end Go.Proofs.Ytcgbepmhfimbjaa

namespace Go.Proofs.Ytcgbepmhfimbjaa
open Go.RowKit
def rowH (p : Int) {α : Type} (G : α → Bool) (r : List α) : Bool := isRow p r && r.all G
def actH (p : Int) {α : Type} (G : α → Bool) (rows : List (List α)) : Bool := isRow p rows && rows.all (rowH p G)
def validH {α : Type} (G : α → Bool) (t a p : Int) (ac : List (List Bool)) (nx : List (List (List α))) : Bool :=
  sigOk t a && (inB p 1 8 && (decide ((ac.length : Int) = t) && (decide ((nx.length : Int) = a) && (ac.all (isRow p) && nx.all (actH p G)))))
theorem validH_model (t a p : Int) (ac : List (List Bool)) (nx : List (List (List Bool))) : validH (fun _ => true) t a p ac nx = validM t a p ac nx := by
  have h : actH p (fun _ : Bool => true) = actM p := by
    funext rows
    unfold actH actM
    congr 2
    funext r
    unfold rowH
    rw [show r.all (fun _ => true) = true from by simp, Bool.and_true]
  unfold validH validM validT
  rw [h]
  cases sigOk t a <;> cases inB p 1 8 <;> cases decide ((ac.length : Int) = t) <;> cases decide ((nx.length : Int) = a) <;> cases ac.all (isRow p) <;> rfl
theorem validH_costs (t a p : Int) (ac : List (List Bool)) (nx : List (List (List Int))) : validH (fun v => inB v (-1) 1000) t a p ac nx = validC t a p ac nx := by
  have h : actH p (fun v => inB v (-1) 1000) = actC p := rfl
  unfold validH validC validT
  rw [h]
  cases sigOk t a <;> cases inB p 1 8 <;> cases decide ((ac.length : Int) = t) <;> cases decide ((nx.length : Int) = a) <;> cases ac.all (isRow p) <;> rfl
end Go.Proofs.Ytcgbepmhfimbjaa

namespace Go.Proofs.Ytcgbepmhfimbjaa
open Go.RowKit

end Go.Proofs.Ytcgbepmhfimbjaa

namespace Go.Proofs.Ytcgbepmhfimbjaa
open Go.RowKit

end Go.Proofs.Ytcgbepmhfimbjaa

namespace Go.Proofs.Ytcgbepmhfimbjaa
open Go.RowKit

end Go.Proofs.Ytcgbepmhfimbjaa
