/- The state between a law's statements, with models and costs in blocks of their own; what a call hands back that answers a model and a code. Plain facts, no walk. -/
import Derived.Test.YtcgbepmhfimbjaaFpN
import Derived.Test.YtcgbepmhfimbjaaGenI
namespace Go.Proofs.Ytcgbepmhfimbjaa
open Go.RowKit

def ownM (ac : List (List Bool)) (nx : List (List (List Bool))) (lo hi : Nat) (A B : Option Addr) : Own1 := ⟨fun W => ModF W ac nx lo hi A B, lo, hi, fun h a => TwoF.agree bbF_ok bbbF_ok h a⟩
def ownC (ac : List (List Bool)) (nx : List (List (List Int))) (lo hi : Nat) (A B : Option Addr) : Own1 := ⟨fun W => CosF W ac nx lo hi A B, lo, hi, fun h a => TwoF.agree bbF_ok iiiF_ok h a⟩
section
variable {w W W' : World} {L : List (Nat × Nat × Value)} {O : List Own1} {ac ac' : List (List Bool)} {nx nx' : List (List (List Bool))} {ny : List (List (List Int))} {A B : Option Addr} {lo hi b : Nat} {cs : Array Value} {T : TypeId} {x y z u v : Value}
theorem Gs.resM (h : Gs w L O W) (hi : ModF W' ac nx W.heap.size W'.heap.size A B) (hb : Below W.heap.size W W') : Gs w L (ownM ac nx W.heap.size W'.heap.size A B :: O) W' := h.result _ hi rfl rfl hb
theorem GB.resM (h : GB w L O b cs T W) (hi : ModF W' ac nx W.heap.size W'.heap.size A B) (hb : Below W.heap.size W W') : GB w L (ownM ac nx W.heap.size W'.heap.size A B :: O) b cs T W' := h.result _ hi rfl rfl hb
theorem Gs.resC (h : Gs w L O W) (hi : CosF W' ac ny W.heap.size W'.heap.size A B) (hb : Below W.heap.size W W') : Gs w L (ownC ac ny W.heap.size W'.heap.size A B :: O) W' := h.result _ hi rfl rfl hb
theorem GB.resC (h : GB w L O b cs T W) (hi : CosF W' ac ny W.heap.size W'.heap.size A B) (hb : Below W.heap.size W W') : GB w L (ownC ac ny W.heap.size W'.heap.size A B :: O) b cs T W' := h.result _ hi rfl rfl hb
theorem Gs.m1 (h : Gs w L (ownM ac nx lo hi A B :: O) W) : BB 0 W ac A := ModF.lie1 h.hd
theorem Gs.m2 (h : Gs w L (ownM ac nx lo hi A B :: O) W) : BBB 0 W nx B := ModF.lie2 h.hd
theorem GB.m1 (h : GB w L (ownM ac nx lo hi A B :: O) b cs T W) : BB 0 W ac A := h.gs.m1
theorem GB.m2 (h : GB w L (ownM ac nx lo hi A B :: O) b cs T W) : BBB 0 W nx B := h.gs.m2
theorem Gs.n1 (h : Gs w L (ownC ac ny lo hi A B :: O) W) : BB 0 W ac A := CosF.lie1 h.hd
theorem Gs.n2 (h : Gs w L (ownC ac ny lo hi A B :: O) W) : III 0 W ny B := CosF.lie2 h.hd
theorem GB.n1 (h : GB w L (ownC ac ny lo hi A B :: O) b cs T W) : BB 0 W ac A := h.gs.n1
theorem GB.n2 (h : GB w L (ownC ac ny lo hi A B :: O) b cs T W) : III 0 W ny B := h.gs.n2
theorem Gs.markedM (h : Gs w L (ownM ac nx lo hi A B :: O) W) (hb : ButIn lo hi W W') (hp : ModF W' ac' nx' lo hi A B) : Gs w L (ownM ac' nx' lo hi A B :: O) W' := h.marked _ hb hp rfl rfl
theorem GB.facts5 (h : GB w L O b #[x, y, z, u, v] T W) : W.cell? ⟨b, 0, none⟩ = some x ∧ W.cell? ⟨b, 1, none⟩ = some y ∧ W.cell? ⟨b, 2, none⟩ = some z ∧ W.cell? ⟨b, 3, none⟩ = some u ∧ W.cell? ⟨b, 4, none⟩ = some v ∧ W.frozen? ⟨b, 0, none⟩ = false ∧ W.frozen? ⟨b, 1, none⟩ = false ∧ W.frozen? ⟨b, 2, none⟩ = false ∧ W.frozen? ⟨b, 3, none⟩ = false ∧ W.frozen? ⟨b, 4, none⟩ = false :=
  ⟨h.cell 0, h.cell 1, h.cell 2, h.cell 3, h.cell 4, h.free 0, h.free 1, h.free 2, h.free 3, h.free 4⟩
theorem GB.open5 (h : GB w L O b #[x, y, z, u, v] T W) : Gs w ((b, 0, x) :: (b, 1, y) :: (b, 2, z) :: (b, 3, u) :: (b, 4, v) :: L) O W := h.rg
theorem GB.fill5 (h : GB w L O b cs T W) (v0 v1 v2 v3 v4 : Value) : GB w L O b (((((cs.setIfInBounds 0 v0).setIfInBounds 1 v1).setIfInBounds 2 v2).setIfInBounds 3 v3).setIfInBounds 4 v4) T (((((W.setCell ⟨b, 0, none⟩ v0).setCell ⟨b, 1, none⟩ v1).setCell ⟨b, 2, none⟩ v2).setCell ⟨b, 3, none⟩ v3).setCell ⟨b, 4, none⟩ v4) := ((h.fill3 v0 v1 v2).set 3 v3).set 4 v4
theorem GB.done5 (h : GB w L O b #[x, y, z, u, v] T W) (v0 v1 v2 v3 v4 : Value) : Gs w ((b, 0, v0) :: (b, 1, v1) :: (b, 2, v2) :: (b, 3, v3) :: (b, 4, v4) :: L) O (((((W.setCell ⟨b, 0, none⟩ v0).setCell ⟨b, 1, none⟩ v1).setCell ⟨b, 2, none⟩ v2).setCell ⟨b, 3, none⟩ v3).setCell ⟨b, 4, none⟩ v4) := (h.fill5 v0 v1 v2 v3 v4).rg
end
/-- A model and a code, in memory that the call made. -/
def MEnd (t a p : Int) (ac : List (List Bool)) (nx : List (List (List Bool))) (q : Int) (w : World) (e : Ending) (w' : World) : Prop :=
  ∃ A B C D, e = .returned (.tuple #[.agg #[.int .i64 t, .int .i64 a, .int .i64 p, .slice A ac.length C, .slice B nx.length D], .int .i64 q]) ∧ ModF w' ac nx w.heap.size w'.heap.size A B ∧ Below w.heap.size w w'
theorem fitM_small {ac : List (List Bool)} {nx : List (List (List Bool))} (h : SmallM ac nx) : FitM ac nx :=
  ⟨Nat.le_trans h.1 (by decide), fun x hx => Nat.le_trans (h.2.1 x hx) (by decide), Nat.le_trans h.2.2.1 (by decide), fun x hx => ⟨Nat.le_trans (h.2.2.2 x hx).1 (by decide), fun y hy => Nat.le_trans ((h.2.2.2 x hx).2 y hy) (by decide)⟩⟩
end Go.Proofs.Ytcgbepmhfimbjaa
