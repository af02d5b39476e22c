/- The shape of models and costs. -/
import Derived.Test.YtojheipllpkgdaaVMD
import Derived.Test.YtojheipllpkgdaaEvy
namespace Go.Proofs.Ytojheipllpkgdaa
open Go.RowKit
def rowH (p : Int) {α : Type} (G : α → Bool) (r : List α) : Bool := isRow p r && r.all G
def actH (p : Int) {α : Type} (G : α → Bool) (rows : List (List α)) : Bool := isRow p rows && rows.all (rowH p G)
def validH {α : Type} (G : α → Bool) (t a p : Int) (ac : List (List Bool)) (nx : List (List (List α))) : Bool :=
  sigOk t a && (inB p 1 8 && (decide ((ac.length : Int) = t) && (decide ((nx.length : Int) = a) && (ac.all (isRow p) && nx.all (actH p G)))))
theorem validH_model (t a p : Int) (ac : List (List Bool)) (nx : List (List (List Bool))) : validH (fun _ => true) t a p ac nx = validM t a p ac nx := by
  have h : actH p (fun _ : Bool => true) = actM p := by
    funext rows
    unfold actH actM
    congr 2
    funext r
    unfold rowH
    rw [show r.all (fun _ => true) = true from by simp, Bool.and_true]
  unfold validH validM validT
  rw [h]
  cases sigOk t a <;> cases inB p 1 8 <;> cases decide ((ac.length : Int) = t) <;> cases decide ((nx.length : Int) = a) <;> cases ac.all (isRow p) <;> rfl
theorem validH_costs (t a p : Int) (ac : List (List Bool)) (nx : List (List (List Int))) : validH (fun v => inB v (-1) 1000) t a p ac nx = validC t a p ac nx := by
  have h : actH p (fun v => inB v (-1) 1000) = actC p := rfl
  unfold validH validC validT
  rw [h]
  cases sigOk t a <;> cases inB p 1 8 <;> cases decide ((ac.length : Int) = t) <;> cases decide ((nx.length : Int) = a) <;> cases ac.all (isRow p) <;> rfl
end Go.Proofs.Ytojheipllpkgdaa
