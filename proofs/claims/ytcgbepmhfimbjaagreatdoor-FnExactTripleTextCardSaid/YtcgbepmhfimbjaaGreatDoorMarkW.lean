/- Contracts of laws.markWord, heldWord. -/
import Derived.Test.YtcgbepmhfimbjaaGreatDoorMark
namespace Go.Proofs.YtcgbepmhfimbjaaGreatDoor
open Go.RowKit

/-- The numbers from k on. -/
def ramp (k : Int) (n : Nat) : List Int := (List.range n).map fun (i : Nat) => k + (i : Int)
theorem ramp_len (k : Int) (n : Nat) : (ramp k n).length = n := by simp [ramp]
theorem ramp_nth (k : Int) {n i : Nat} (h : i < n) : nth (ramp k n) i = k + (i : Int) := by
  simp [ramp, nth, h]

/-- Two worlds are the same but for the blocks from lo on, below hi. -/
structure ButIn (lo hi : Nat) (w w' : World) : Prop where
  os : w'.os = w.os
  tape : w'.tape = w.tape
  output : w'.output = w.output
  size : w.heap.size ≤ w'.heap.size
  block : ∀ k, k < w.heap.size → (k < lo ∨ hi ≤ k) → w'.heap[k]? = w.heap[k]?
theorem ButIn.refl (lo hi : Nat) (w : World) : ButIn lo hi w w := ⟨rfl, rfl, rfl, Nat.le_refl _, fun _ _ _ => rfl⟩
theorem ButIn.trans {lo hi : Nat} {a b c : World} (h : ButIn lo hi a b) (k : ButIn lo hi b c) : ButIn lo hi a c :=
  ⟨k.os.trans h.os, k.tape.trans h.tape, k.output.trans h.output, Nat.le_trans h.size k.size, fun i hi hn => (k.block i (Nat.lt_of_lt_of_le hi h.size) hn).trans (h.block i hi hn)⟩
theorem ButIn.of_but {lo hi b : Nat} {w w' : World} (h : But b w.heap.size w w') (h1 : lo ≤ b) (h2 : b < hi) : ButIn lo hi w w' :=
  ⟨h.os, h.tape, h.output, h.size, fun k hk hn => h.block k hk (by omega)⟩
theorem ButIn.mono {lo hi lo' hi' : Nat} {w w' : World} (h : ButIn lo hi w w') (h1 : lo' ≤ lo) (h2 : hi ≤ hi') : ButIn lo' hi' w w' :=
  ⟨h.os, h.tape, h.output, h.size, fun k hk hn => h.block k hk (by omega)⟩
theorem ButIn.of_below {lo hi : Nat} {w w' : World} (h : Below w.heap.size w w') : ButIn lo hi w w' := ⟨h.os, h.tape, h.output, h.size, fun k hk _ => h.block k hk⟩
theorem ButIn.below {lo hi : Nat} {w w' : World} (h : ButIn lo hi w w') {B : Nat} (h1 : B ≤ lo) (h2 : B ≤ w.heap.size) : Below B w w' := ⟨h.os, h.tape, h.output, h.size, fun k hk => h.block k (by omega) (Or.inl (by omega))⟩
theorem ButIn.agree {lo hi : Nat} {w w' : World} (h : ButIn lo hi w w') {l2 h2 : Nat} (h1 : h2 ≤ lo ∨ hi ≤ l2) (h3 : h2 ≤ w.heap.size) : Fo.Agree w w' l2 h2 := fun k a b => h.block k (by omega) (by omega)

theorem below_drewN (B : Nat) (w : World) (n : Nat) : Below B w (w.drewN n) := ⟨rfl, rfl, rfl, Nat.le_refl _, fun _ _ => rfl⟩

end Go.Proofs.YtcgbepmhfimbjaaGreatDoor
