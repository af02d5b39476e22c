/- Models of some of their points: what they hold. Plain facts, no walk. -/
import Derived.Test.YtcgbepmhfimbjaaSupB
import Derived.Test.YtcgbepmhfimbjaaAscD
namespace Go.Proofs.Ytcgbepmhfimbjaa
open Go.RowKit
set_option linter.unusedVariables false

def rsT (t : Nat) (ord : List Int) (ac : List (List Bool)) : List (List Bool) := tab t ord.length fun i x => (ac.getD i []).getD (nth ord x).toNat false
def rsR (ord : List Int) (rows : List (List Bool)) : List (List Bool) := tab ord.length ord.length fun x y => (rows.getD (nth ord x).toNat []).getD (nth ord y).toNat false
def rsA (ord : List Int) (nx : List (List (List Bool))) : List (List (List Bool)) := nx.map (rsR ord)
theorem rsA_step {ord : List Int} {nx : List (List (List Bool))} {j : Nat} (h : j < nx.length) : (rsA ord nx).take (j + 1) = (rsA ord nx).take j ++ [rsR ord nx[j]] := by
  have h1 : j < (rsA ord nx).length := by simp [rsA]; exact h
  rw [List.take_succ_eq_append_getElem h1]
  simp [rsA]
theorem rsA_len (ord : List Int) (nx : List (List (List Bool))) : (rsA ord nx).length = nx.length := by simp [rsA]
theorem rsR_len (ord : List Int) (rows : List (List Bool)) : (rsR ord rows).length = ord.length := tab_len _ _ _
theorem rsT_len (t : Nat) (ord : List Int) (ac : List (List Bool)) : (rsT t ord ac).length = t := tab_len _ _ _
theorem getD_b3 {rows : List (List Bool)} {i x : Nat} (hi : i < rows.length) (hx : x < rows[i].length) : (rows.getD i []).getD x false = rows[i][x] := getD_bb hi hx
/-- What a call hands back that answers a model alone: its two lists one behind the other, in memory that the call made. -/
def MRet (t a n : Nat) (ts : List (List Bool)) (acts : List (List (List Bool))) (w : World) (e : Ending) (w' : World) : Prop :=
  ∃ (A B : Option Addr) (C D m : Nat), e = .returned (.agg #[.int .i64 (t : Int), .int .i64 (a : Int), .int .i64 (n : Int), .slice A ts.length C, .slice B acts.length D]) ∧ w.heap.size ≤ m ∧ m ≤ w'.heap.size ∧ BBF w' ts A (rng w.heap.size m) ∧ BBBF w' acts B (rng m w'.heap.size) ∧ Below w.heap.size w w'
/-- The shape that both sides ask for. -/
structure RsOk (t a p : Nat) (ord : List Int) (ac : List (List Bool)) (nx : List (List (List Bool))) : Prop where
  t3 : t ≤ 3
  a4 : a ≤ 4
  p8 : p ≤ 8
  n8 : ord.length ≤ 8
  al : ac.length = t
  nl : nx.length = a
  ar : ∀ r ∈ ac, r.length = p
  nr : ∀ rows ∈ nx, rows.length = p ∧ ∀ r ∈ rows, r.length = p
  ob : ∀ x, x < ord.length → 0 ≤ nth ord x ∧ nth ord x < p
end Go.Proofs.Ytcgbepmhfimbjaa
