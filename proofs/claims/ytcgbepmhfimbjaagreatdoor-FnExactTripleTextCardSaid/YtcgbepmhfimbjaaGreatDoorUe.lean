/- Contracts of laws.szExpr, toExpr, eqExpr and of their lists, in one form. -/
import Derived.Test.YtcgbepmhfimbjaaGreatDoorSz
import Derived.Test.YtcgbepmhfimbjaaGreatDoorTo
import Derived.Test.YtcgbepmhfimbjaaGreatDoorEq
import Derived.Test.YtcgbepmhfimbjaaGreatDoorFoIn
namespace Go.Proofs.YtcgbepmhfimbjaaGreatDoor
open Go.RowKit
set_option linter.unusedVariables false

theorem szExprS_u (f : Fo) (hf : f.len ≤ 9223372036854775807 ∧ f.Fits) (l : Int) (A : Option Addr) (C : Nat) (w : World) (hl : f.Lies w A) (h1 : -1 ≤ l) (h2 : l ≤ 1048576) :
    Calls Tryz.prog 42 #[.slice A f.len C, .int .i64 l] w fun e w' => e = .returned (.int .i64 (szR f.nodes l)) ∧ Below w.heap.size w w' := szExprS_any (f.nodes + 1) f (Nat.lt_succ_self _) hf.1 hf.2 l A C w hl h1 h2
theorem szExpr_u (k n : Int) (f : Fo) (hf : f.len ≤ 9223372036854775807 ∧ f.Fits) (l : Int) (A : Option Addr) (C : Nat) (w : World) (hl : f.Lies w A) (h1 : -1 ≤ l) (h2 : l ≤ 1048576) :
    Calls Tryz.prog 16 #[.agg #[.int .i64 k, .int .i64 n, .slice A f.len C], .int .i64 l] w fun e w' => e = .returned (.int .i64 (szR f.nodes l)) ∧ Below w.heap.size w w' := szExpr_any f hf.1 hf.2 k n l A C w hl h1 h2
theorem toExprS_u (f : Fo) (hm : f.nodes ≤ 1048576) (A : Option Addr) (C : Nat) (w : World) (hl : f.Lies w A) :
    Calls Tryz.prog 47 #[.slice A f.len C] w fun e w' => ∃ A', e = .returned (.slice A' f.len f.len) ∧ f.LiesIn w' w.heap.size w'.heap.size A' ∧ Below w.heap.size w w' := (toExprS_any (f.nodes + 1) f (Nat.lt_succ_self _) hm A C w hl).mono fun e w' ⟨A', he, hs, hb⟩ => ⟨A', he, hs.xin.liesIn, hb⟩
theorem toExpr_u (k n : Int) (f : Fo) (hm : f.nodes ≤ 1048576) (A : Option Addr) (C : Nat) (w : World) (hl : f.Lies w A) :
    Calls Tryz.prog 21 #[.agg #[.int .i64 k, .int .i64 n, .slice A f.len C]] w fun e w' => ∃ A', e = .returned (.agg #[.int .i64 k, .int .i64 n, .slice A' f.len f.len]) ∧ f.LiesIn w' w.heap.size w'.heap.size A' ∧ Below w.heap.size w w' := (toExpr_any f hm k n A C w hl).mono fun e w' ⟨A', he, hs, hb⟩ => ⟨A', he, hs.xin.liesIn, hb⟩
theorem eqExprS_u (f : Fo) (hf : f.len ≤ 9223372036854775807 ∧ f.Fits) (A A' : Option Addr) (C C' : Nat) (w : World) (hl : f.Lies w A) (hl' : f.Lies w A') :
    Calls Tryz.prog 55 #[.slice A f.len C, .slice A' f.len C'] w fun e w' => e = .returned (.bool true) ∧ Below w.heap.size w w' := by
  have h := eqExprS_any (f.nodes + 1) f f (Nat.lt_succ_self _) hf.1 hf.2 A C A' C' w hl hl'
  simpa using h
theorem eqExpr_u (k n : Int) (f : Fo) (hf : f.len ≤ 9223372036854775807 ∧ f.Fits) (A A' : Option Addr) (C C' : Nat) (w : World) (hl : f.Lies w A) (hl' : f.Lies w A') :
    Calls Tryz.prog 26 #[.agg #[.int .i64 k, .int .i64 n, .slice A f.len C], .agg #[.int .i64 k, .int .i64 n, .slice A' f.len C']] w fun e w' => e = .returned (.bool true) ∧ Below w.heap.size w w' := eqExpr_same f hf.1 hf.2 k n A C A' C' w hl hl'
end Go.Proofs.YtcgbepmhfimbjaaGreatDoor
