/- Contracts of laws.szProg, toProg, eqProg, in one form. -/
import Derived.Test.YtcgbepmhfimbjaaGreatDoorPgS
import Derived.Test.YtcgbepmhfimbjaaGreatDoorPgT
import Derived.Test.YtcgbepmhfimbjaaGreatDoorPgE
namespace Go.Proofs.YtcgbepmhfimbjaaGreatDoor
open Go.RowKit
set_option linter.unusedVariables false

theorem szProg_u (k n ck cn : Int) (cf : Fo) (ks : Pg) (hc : cf.len ≤ 9223372036854775807 ∧ cf.Fits) (hk : ks.len ≤ 9223372036854775807 ∧ ks.Fits) (l : Int) (A B : Option Addr) (C D : Nat) (w : World) (hA : cf.Lies w A) (hB : ks.Lies w B) (h1 : -1 ≤ l) (h2 : l ≤ 1048576) :
    Calls Tryz.prog 17 #[.agg #[.int .i64 k, .int .i64 n, .int .i64 ck, .int .i64 cn, .slice A cf.len C, .slice B ks.len D], .int .i64 l] w fun e w' => e = .returned (.int .i64 (szR (cf.nodes + ks.nodes) l)) ∧ Below w.heap.size w w' := szProg_any cf ks hc.1 hc.2 hk.1 hk.2 k n ck cn l A B C D w hA hB h1 h2
theorem toProg_u (k n ck cn : Int) (cf : Fo) (ks : Pg) (hm : cf.nodes + ks.nodes ≤ 1048576) (A B : Option Addr) (C D : Nat) (w : World) (hA : cf.Lies w A) (hB : ks.Lies w B) :
    Calls Tryz.prog 22 #[.agg #[.int .i64 k, .int .i64 n, .int .i64 ck, .int .i64 cn, .slice A cf.len C, .slice B ks.len D]] w fun e w' => ∃ Z Y, e = .returned (.agg #[.int .i64 k, .int .i64 n, .int .i64 ck, .int .i64 cn, .slice Z cf.len cf.len, .slice Y ks.len ks.len]) ∧ cf.LiesIn w' w.heap.size w'.heap.size Z ∧ ks.LiesIn w' w.heap.size w'.heap.size Y ∧ Below w.heap.size w w' := toProg_any cf ks hm k n ck cn A B C D w hA hB
theorem eqProg_u (k n ck cn : Int) (cf : Fo) (ks : Pg) (hc : cf.len ≤ 9223372036854775807 ∧ cf.Fits) (hk : ks.len ≤ 9223372036854775807 ∧ ks.Fits) (A B A' B' : Option Addr) (C D C' D' : Nat) (w : World) (hA : cf.Lies w A) (hB : ks.Lies w B) (hA' : cf.Lies w A') (hB' : ks.Lies w B') :
    Calls Tryz.prog 27 #[.agg #[.int .i64 k, .int .i64 n, .int .i64 ck, .int .i64 cn, .slice A cf.len C, .slice B ks.len D], .agg #[.int .i64 k, .int .i64 n, .int .i64 ck, .int .i64 cn, .slice A' cf.len C', .slice B' ks.len D']] w fun e w' => e = .returned (.bool true) ∧ Below w.heap.size w w' := eqProg_same cf ks hc.1 hc.2 hk.1 hk.2 k n ck cn A B A' B' C D C' D' w hA hB hA' hB'
end Go.Proofs.YtcgbepmhfimbjaaGreatDoor
