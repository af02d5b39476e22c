/- More on the state between a law's statements. Plain facts, no walk. -/
import Derived.Test.YtcgbepmhfimbjaaGen
namespace Go.Proofs.Ytcgbepmhfimbjaa
open Go.RowKit

theorem Fo.fits_small {f : Fo} (h : f.nodes ≤ 1048576) : f.len ≤ 9223372036854775807 ∧ f.Fits := by
  have : ∀ (f : Fo), f.nodes ≤ 1048576 → f.Fits := by
    intro f
    induction f with
    | nil => intro _; trivial
    | cons k n ks r ihk ihr =>
      intro h
      simp only [Fo.nodes] at h
      have := ks.len_le_nodes
      exact ⟨by omega, ihk (by omega), ihr (by omega)⟩
  have h1 := f.len_le_nodes
  exact ⟨by omega, this f h⟩

section
variable {w W W' : World} {L : List (Nat × Nat × Value)} {O : List Own1} {b : Nat} {T : TypeId} {x y z : Value} {p r : List Int} {A B : Option Addr} {lo hi : Nat} {cs : Array Value}
theorem Gs.resV (h : Gs w L O W) (hi : WordIn W' p r W.heap.size W'.heap.size A B) (hb : Below W.heap.size W W') : Gs w L (ownV p r W.heap.size W'.heap.size A B :: O) W' := h.result _ hi rfl rfl hb
theorem GB.resV (h : GB w L O b cs T W) (hi : WordIn W' p r W.heap.size W'.heap.size A B) (hb : Below W.heap.size W W') : GB w L (ownV p r W.heap.size W'.heap.size A B :: O) b cs T W' := h.result _ hi rfl rfl hb
theorem Gs.v1 (h : Gs w L (ownV p r lo hi A B :: O) W) : Ints W p A := WordIn.ints1 h.hd
theorem Gs.v2 (h : Gs w L (ownV p r lo hi A B :: O) W) : Ints W r B := WordIn.ints2 h.hd
theorem GB.v1 (h : GB w L (ownV p r lo hi A B :: O) b cs T W) : Ints W p A := h.gs.v1
theorem GB.v2 (h : GB w L (ownV p r lo hi A B :: O) b cs T W) : Ints W r B := h.gs.v2
theorem GB.facts3 (h : GB w L O b #[x, y, z] T W) : W.cell? ⟨b, 0, none⟩ = some x ∧ W.cell? ⟨b, 1, none⟩ = some y ∧ W.cell? ⟨b, 2, none⟩ = some z ∧ W.frozen? ⟨b, 0, none⟩ = false ∧ W.frozen? ⟨b, 1, none⟩ = false ∧ W.frozen? ⟨b, 2, none⟩ = false :=
  ⟨h.cell 0, h.cell 1, h.cell 2, h.free 0, h.free 1, h.free 2⟩
theorem GB.open3 (h : GB w L O b #[x, y, z] T W) : Gs w ((b, 0, x) :: (b, 1, y) :: (b, 2, z) :: L) O W := h.rg
theorem GB.open2 (h : GB w L O b #[x, y] T W) : Gs w ((b, 0, x) :: (b, 1, y) :: L) O W := h.rg
theorem GB.done3 (h : GB w L O b #[x, y, z] T W) (u v t : Value) : Gs w ((b, 0, u) :: (b, 1, v) :: (b, 2, t) :: L) O (((W.setCell ⟨b, 0, none⟩ u).setCell ⟨b, 1, none⟩ v).setCell ⟨b, 2, none⟩ t) := (h.fill3 u v t).rg
end
end Go.Proofs.Ytcgbepmhfimbjaa
