/- Contracts of laws.markWord, heldWord. -/
import Derived.Test.YtojheipllpkgdaaMark
namespace Go.Proofs.Ytojheipllpkgdaa
open Go.RowKit

/-- The numbers from k on. -/
def ramp (k : Int) (n : Nat) : List Int := (List.range n).map fun (i : Nat) => k + (i : Int)
theorem ramp_len (k : Int) (n : Nat) : (ramp k n).length = n := by simp [ramp]
theorem ramp_nth (k : Int) {n i : Nat} (h : i < n) : nth (ramp k n) i = k + (i : Int) := by
  simp [ramp, nth, h]

/-- Two worlds are the same but for the blocks from lo on, below hi. -/
structure ButIn (lo hi : Nat) (w w' : World) : Prop where
  os : w'.os = w.os
  tape : w'.tape = w.tape
  output : w'.output = w.output
  size : w.heap.size ≤ w'.heap.size
  block : ∀ k, k < w.heap.size → (k < lo ∨ hi ≤ k) → w'.heap[k]? = w.heap[k]?
theorem ButIn.refl (lo hi : Nat) (w : World) : ButIn lo hi w w := ⟨rfl, rfl, rfl, Nat.le_refl _, fun _ _ _ => rfl⟩
theorem ButIn.trans {lo hi : Nat} {a b c : World} (h : ButIn lo hi a b) (k : ButIn lo hi b c) : ButIn lo hi a c :=
  ⟨k.os.trans h.os, k.tape.trans h.tape, k.output.trans h.output, Nat.le_trans h.size k.size, fun i hi hn => (k.block i (Nat.lt_of_lt_of_le hi h.size) hn).trans (h.block i hi hn)⟩
theorem ButIn.of_but {lo hi b : Nat} {w w' : World} (h : But b w.heap.size w w') (h1 : lo ≤ b) (h2 : b < hi) : ButIn lo hi w w' :=
  ⟨h.os, h.tape, h.output, h.size, fun k hk hn => h.block k hk (by omega)⟩
theorem ButIn.mono {lo hi lo' hi' : Nat} {w w' : World} (h : ButIn lo hi w w') (h1 : lo' ≤ lo) (h2 : hi ≤ hi') : ButIn lo' hi' w w' :=
  ⟨h.os, h.tape, h.output, h.size, fun k hk hn => h.block k hk (by omega)⟩
theorem ButIn.of_below {lo hi : Nat} {w w' : World} (h : Below w.heap.size w w') : ButIn lo hi w w' := ⟨h.os, h.tape, h.output, h.size, fun k hk _ => h.block k hk⟩
theorem ButIn.below {lo hi : Nat} {w w' : World} (h : ButIn lo hi w w') {B : Nat} (h1 : B ≤ lo) (h2 : B ≤ w.heap.size) : Below B w w' := ⟨h.os, h.tape, h.output, h.size, fun k hk => h.block k (by omega) (Or.inl (by omega))⟩
theorem ButIn.agree {lo hi : Nat} {w w' : World} (h : ButIn lo hi w w') {l2 h2 : Nat} (h1 : h2 ≤ lo ∨ hi ≤ l2) (h3 : h2 ≤ w.heap.size) : Fo.Agree w w' l2 h2 := fun k a b => h.block k (by omega) (by omega)

theorem markEmpty_any (k : Int) (A : Option Addr) (C : Nat) (w : World) :
      Calls Try.prog 62 #[.slice A 0 C, .int .i64 k] w fun e w' => e = .returned (.int .i64 k) ∧ w' = w := by
  go_enter Try.func62, Try.ntmps62
  go_wp2_with fail
  go_loopw [1, 5] (fun x i wr => x = .int .i64 k ∧ i = .int .i64 0 ∧ wr = w) (fun _ _ _ => 0)
  case atStart => exact ⟨rfl, rfl, rfl⟩
  case round =>
    obtain ⟨rfl, rfl, rfl⟩ := hrel
    go_wp2_with fail
    go_ret
    exact ⟨rfl, rfl⟩
theorem markInts_any (xs : List Int) (hm : xs.length ≤ 1048576) (k : Int) (hk0 : 0 ≤ k) (hk1 : k ≤ 16777216) (lo hi : Nat) (A : Option Addr) (C : Nat) (w : World) (h : IntsIn w xs lo hi A) :
      Calls Try.prog 62 #[.slice A xs.length C, .int .i64 k] w fun e w' => e = .returned (.int .i64 (k + xs.length)) ∧ IntsIn w' (ramp k xs.length) lo hi A ∧ ButIn lo hi w w' := by
  rcases h with ⟨rfl, hle⟩ | ⟨b, rfl, h1, h2, hf, hc⟩
  · refine (markEmpty_any k A C w).mono ?_
    rintro e w' ⟨rfl, rfl⟩
    exact ⟨by simp, Or.inl ⟨rfl, hle⟩, ButIn.refl _ _ _⟩
  · refine (markInt64S_any xs hm k hk0 hk1 b C w ⟨hf, fun i hi => absurd hi (Nat.not_lt_zero _), fun i _ hi => hc i hi⟩).mono ?_
    rintro e w' ⟨rfl, hM, hB⟩
    exact ⟨rfl, Or.inr ⟨b, rfl, h1, h2, hM.1, fun i hi => by rw [ramp_len] at hi; rw [ramp_nth k hi]; exact hM.2.1 i hi⟩, ButIn.of_but hB h1 h2⟩

set_option maxHeartbeats 400000 in
theorem markWord_any (p r : List Int) (hp : p.length ≤ 1048576) (hr : r.length ≤ 1048576) (k : Int) (hk0 : 0 ≤ k) (hk1 : k ≤ 4194304) (lo hi : Nat) (A B : Option Addr) (C D : Nat) (w : World) (h : WordIn w p r lo hi A B) (hz : hi ≤ w.heap.size) :
      Calls Try.prog 16 #[.agg #[.slice A p.length C, .slice B r.length D], .int .i64 k] w fun e w' => e = .returned (.int .i64 (k + p.length + r.length)) ∧ WordIn w' (ramp k p.length) (ramp (k + p.length) r.length) lo hi A B ∧ ButIn lo hi w w' := by
  obtain ⟨m, h1, h2⟩ := h
  have e1 := h1.le
  have e2 := h2.le
  have K1 : Hid (∀ W : World, Below w.heap.size w W → Calls Try.prog 62 #[.slice A p.length C, .int .i64 k] W fun e w' => e = .returned (.int .i64 (k + p.length)) ∧ IntsIn w' (ramp k p.length) lo m A ∧ ButIn lo m W w') :=
    fun W hW => markInts_any p hp k hk0 (by omega) lo m A C W (h1.agree (Fo.Agree.of_below (hW.mono (by omega))))
  have K2 : Hid (∀ W : World, IntsIn W r m hi B → Calls Try.prog 62 #[.slice B r.length D, .int .i64 (k + p.length)] W fun e w' => e = .returned (.int .i64 (k + p.length + r.length)) ∧ IntsIn w' (ramp (k + p.length) r.length) m hi B ∧ ButIn m hi W w') :=
    fun W hW => markInts_any r hr (k + p.length) (by omega) (by omega) m hi B D W hW
  have H2 := Lib.hid h2
  clear h1 h2
  go_enter Try.func16, Try.ntmps16
  go_wp2_with fail
  refine (K1.out _ (by go_grown)).mono ?_
  rintro e w1 ⟨rfl, hI, hB⟩
  have x1 : w1.cell? ⟨w.heap.size, 1, none⟩ = some (.slice B r.length D) := (World.cell?_of_block (a := ⟨w.heap.size, 1, none⟩) (hB.block w.heap.size (by simp) (Or.inr (by omega)))).trans (by simp [go_sem])
  have hB1 : ButIn lo hi w w1 := ((ButIn.of_below (lo := lo) (hi := hi) (by go_grown)).trans (hB.mono (Nat.le_refl _) e2))
  have hR : IntsIn w1 r m hi B := H2.out.agree (fun k a b => (hB.block k (by simp; omega) (Or.inr a)).trans (Below.heap_alloc _ _ _ (by omega)))
  have z1 : w.heap.size + 1 ≤ w1.heap.size := by have := hB.size; simpa using this
  have HI := Lib.hid hI; have HR := Lib.hid hR; have HB1 := Lib.hid hB1
  clear hI hR hB1 hB
  go_wp2_with fail
  refine (K2.out _ HR.out).mono ?_
  rintro e w2 ⟨rfl, hI2, hB2⟩
  have HA : Hid (IntsIn w2 (ramp k p.length) lo m A) := HI.out.agree (hB2.agree (Or.inl (Nat.le_refl _)) (by omega))
  have HI2 := Lib.hid hI2
  have HB2 : Hid (ButIn lo hi w w2) := HB1.out.trans (hB2.mono e1 (Nat.le_refl _))
  clear hI2 hB2 x1
  go_wp2_with fail
  go_ret
  exact ⟨rfl, ⟨m, HA.out, HI2.out⟩, HB2.out⟩

theorem below_drewN (B : Nat) (w : World) (n : Nat) : Below B w (w.drewN n) := ⟨rfl, rfl, rfl, Nat.le_refl _, fun _ _ => rfl⟩

end Go.Proofs.Ytojheipllpkgdaa
