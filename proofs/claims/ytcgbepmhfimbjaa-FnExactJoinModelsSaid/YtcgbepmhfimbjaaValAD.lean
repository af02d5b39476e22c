/- Which automata are valid; facts on it. -/
import Derived.Test.YtcgbepmhfimbjaaAutT
import Derived.Test.YtcgbepmhfimbjaaVWordI
namespace Go.Proofs.Ytcgbepmhfimbjaa
open Go.RowKit

def rowOk (a : Int) (n : Nat) (row : List Int) : Bool := decide ((row.length : Int) = a) && row.all fun v => inB v (-1) ((n : Int) - 1)
def stateOk (t a : Int) (n : Nat) (ac : List Bool) (rows : List (List Int)) : Bool := decide ((ac.length : Int) = atomsN t) && (decide ((rows.length : Int) = atomsN t) && rows.all (rowOk a n))
def statesOk (t a : Int) (n : Nat) (ac : List (List Bool)) (nx : List (List (List Int))) (i : Nat) : Bool := ((ac.drop i).zip (nx.drop i)).all fun p => stateOk t a n p.1 p.2
def validA (t a : Int) (ac : List (List Bool)) (nx : List (List (List Int))) : Bool :=
  sigOk t a && (inB ac.length 1 60 && (decide (nx.length = ac.length) && statesOk t a ac.length ac nx 0))
theorem statesOk_step {t a : Int} {n : Nat} {ac : List (List Bool)} {nx : List (List (List Int))} {i : Nat} (h1 : i < ac.length) (h2 : i < nx.length) :
    statesOk t a n ac nx i = (stateOk t a n ac[i] nx[i] && statesOk t a n ac nx (i + 1)) := by
  unfold statesOk
  rw [List.drop_eq_getElem_cons h1, List.drop_eq_getElem_cons h2, List.zip_cons_cons, List.all_cons]
theorem statesOk_end {t a : Int} {n : Nat} {ac : List (List Bool)} {nx : List (List (List Int))} : statesOk t a n ac nx ac.length = true := by simp [statesOk]
theorem all_drop {α : Type} {f : α → Bool} {xs : List α} {j : Nat} (h : j < xs.length) : (xs.drop j).all f = (f xs[j] && (xs.drop (j + 1)).all f) := by
  rw [List.drop_eq_getElem_cons h, List.all_cons]
end Go.Proofs.Ytcgbepmhfimbjaa
