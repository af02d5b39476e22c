/- What is valid: conditions of a list, steps, claims, proofs. -/
import Derived.Test.YtlpgkhdecccmlaaREvE
import Derived.Test.YtlpgkhdecccmlaaRValQ
import Derived.Test.YtlpgkhdecccmlaaRCond
namespace Go.Proofs.YtlpgkhdecccmlaaR
open Go.RowKit

def condB (k _n : Int) (f : Fo) : Bool := condK k && f.cond
def stepB (t a us : Int) (_bk : Bool) (pa : Il) (te ac : Fo) : Bool :=
  !decide (us < -40) && (!decide ((24 : Int) ≤ us) && (!decide ((40 : Int) < (pa.len : Int)) && (!decide ((3 : Int) < (te.len : Int)) && (!decide ((4 : Int) < (ac.len : Int)) && (pa.l.all (fun i => belowB i 2) && ((te.allG (validE t a) && ac.allG (validE t a)) && te.allG condB))))))
def claimB (t a lk ln : Int) (lf : Fo) (rk rn : Int) (rf : Fo) (ru re : Int) (st : Ps) : Bool :=
  validQ t a lk ln lf rk rn rf && (if ru = 1 then decide (re = 0) && (decide ((st.len : Int) ≤ 60) && st.allG (stepB t a)) else (decide (ru = 2) || decide (ru = 3)) && (belowB re 40 && decide ((st.len : Int) = 0)))
def proofB (t a : Int) (cl : Cl) : Bool := sigOk t a && (decide ((cl.len : Int) ≤ 40) && cl.allG (claimB t a))
end Go.Proofs.YtlpgkhdecccmlaaR
