/- The state between a law's statements, with lists of integers that lie in blocks of their own. -/
import Derived.Test.YtcgbepmhfimbjaaGenX
namespace Go.Proofs.Ytcgbepmhfimbjaa
open Go.RowKit
section
variable {w W W' : World} {L : List (Nat × Nat × Value)} {O : List Own1} {p : List Int} {A : Option Addr} {lo hi b : Nat} {cs : Array Value} {T : TypeId}
def ownI (p : List Int) (lo hi : Nat) (A : Option Addr) : Own1 := ⟨fun W => IntsIn W p lo hi A, lo, hi, fun h a => IntsIn.agree h a⟩
theorem Gs.resI (h : Gs w L O W) (hi : IntsIn W' p W.heap.size W'.heap.size A) (hb : Below W.heap.size W W') : Gs w L (ownI p W.heap.size W'.heap.size A :: O) W' := h.result _ hi rfl rfl hb
theorem GB.resI (h : GB w L O b cs T W) (hi : IntsIn W' p W.heap.size W'.heap.size A) (hb : Below W.heap.size W W') : GB w L (ownI p W.heap.size W'.heap.size A :: O) b cs T W' := h.result _ hi rfl rfl hb
theorem Gs.i1 (h : Gs w L (ownI p lo hi A :: O) W) : Ints W p A := IntsIn.ints h.hd
theorem GB.i1 (h : GB w L (ownI p lo hi A :: O) b cs T W) : Ints W p A := h.gs.i1
end
end Go.Proofs.Ytcgbepmhfimbjaa
