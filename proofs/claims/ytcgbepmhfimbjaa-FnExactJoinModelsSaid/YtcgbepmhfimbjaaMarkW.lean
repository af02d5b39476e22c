/- Contracts of laws.markWord, heldWord. -/
import Derived.Test.YtcgbepmhfimbjaaMark
namespace Go.Proofs.Ytcgbepmhfimbjaa
open Go.RowKit

/-- The numbers from k on. -/
def ramp (k : Int) (n : Nat) : List Int := (List.range n).map fun (i : Nat) => k + (i : Int)
theorem ramp_len (k : Int) (n : Nat) : (ramp k n).length = n := by simp [ramp]
theorem ramp_nth (k : Int) {n i : Nat} (h : i < n) : nth (ramp k n) i = k + (i : Int) := by
  simp [ramp, nth, h]

/-- Two worlds are the same but for the blocks from lo on, below hi. -/
structure ButIn (lo hi : Nat) (w w' : World) : Prop where
  os : w'.os = w.os
  tape : w'.tape = w.tape
  output : w'.output = w.output
  size : w.heap.size ≤ w'.heap.size
  block : ∀ k, k < w.heap.size → (k < lo ∨ hi ≤ k) → w'.heap[k]? = w.heap[k]?
theorem ButIn.refl (lo hi : Nat) (w : World) : ButIn lo hi w w := ⟨rfl, rfl, rfl, Nat.le_refl _, fun _ _ _ => rfl⟩
theorem ButIn.trans {lo hi : Nat} {a b c : World} (h : ButIn lo hi a b) (k : ButIn lo hi b c) : ButIn lo hi a c :=
  ⟨k.os.trans h.os, k.tape.trans h.tape, k.output.trans h.output, Nat.le_trans h.size k.size, fun i hi hn => (k.block i (Nat.lt_of_lt_of_le hi h.size) hn).trans (h.block i hi hn)⟩
theorem ButIn.of_but {lo hi b : Nat} {w w' : World} (h : But b w.heap.size w w') (h1 : lo ≤ b) (h2 : b < hi) : ButIn lo hi w w' :=
  ⟨h.os, h.tape, h.output, h.size, fun k hk hn => h.block k hk (by omega)⟩
theorem ButIn.mono {lo hi lo' hi' : Nat} {w w' : World} (h : ButIn lo hi w w') (h1 : lo' ≤ lo) (h2 : hi ≤ hi') : ButIn lo' hi' w w' :=
  ⟨h.os, h.tape, h.output, h.size, fun k hk hn => h.block k hk (by omega)⟩
theorem ButIn.of_below {lo hi : Nat} {w w' : World} (h : Below w.heap.size w w') : ButIn lo hi w w' := ⟨h.os, h.tape, h.output, h.size, fun k hk _ => h.block k hk⟩
theorem ButIn.below {lo hi : Nat} {w w' : World} (h : ButIn lo hi w w') {B : Nat} (h1 : B ≤ lo) (h2 : B ≤ w.heap.size) : Below B w w' := ⟨h.os, h.tape, h.output, h.size, fun k hk => h.block k (by omega) (Or.inl (by omega))⟩
theorem ButIn.agree {lo hi : Nat} {w w' : World} (h : ButIn lo hi w w') {l2 h2 : Nat} (h1 : h2 ≤ lo ∨ hi ≤ l2) (h3 : h2 ≤ w.heap.size) : Fo.Agree w w' l2 h2 := fun k a b => h.block k (by omega) (by omega)

theorem markEmpty_any (k : Int) (A : Option Addr) (C : Nat) (w : World) :
      Calls Try.prog 196 #[.slice A 0 C, .int .i64 k] w fun e w' => e = .returned (.int .i64 k) ∧ w' = w := by
  go_enter Try.func196, Try.ntmps196
  go_wp2_with fail
  go_loopw [1, 5] (fun x i wr => x = .int .i64 k ∧ i = .int .i64 0 ∧ wr = w) (fun _ _ _ => 0)
  case atStart => exact ⟨rfl, rfl, rfl⟩
  case round =>
    obtain ⟨rfl, rfl, rfl⟩ := hrel
    go_wp2_with fail
    go_ret
    exact ⟨rfl, rfl⟩
theorem heldEmpty_any (k : Int) (A : Option Addr) (C : Nat) (w : World) :
      Calls Try.prog 199 #[.slice A 0 C, .int .i64 k] w fun e w' => e = .returned (.int .i64 k) ∧ ∃ m, w' = w.drewN m := by
  go_enter Try.func199, Try.ntmps199
  go_wp2_with fail
  go_loopw [1, 5] (fun x i wr => x = .int .i64 k ∧ i = .int .i64 0 ∧ wr = w) (fun _ _ _ => 0)
  case atStart => exact ⟨rfl, rfl, rfl⟩
  case round =>
    obtain ⟨rfl, rfl, rfl⟩ := hrel
    go_wp2_with fail
    go_ret
    exact ⟨rfl, 0, rfl⟩

theorem markInts_any (xs : List Int) (hm : xs.length ≤ 1048576) (k : Int) (hk0 : 0 ≤ k) (hk1 : k ≤ 16777216) (lo hi : Nat) (A : Option Addr) (C : Nat) (w : World) (h : IntsIn w xs lo hi A) :
      Calls Try.prog 196 #[.slice A xs.length C, .int .i64 k] w fun e w' => e = .returned (.int .i64 (k + xs.length)) ∧ IntsIn w' (ramp k xs.length) lo hi A ∧ ButIn lo hi w w' := by
  rcases h with ⟨rfl, hle⟩ | ⟨b, rfl, h1, h2, hf, hc⟩
  · refine (markEmpty_any k A C w).mono ?_
    rintro e w' ⟨rfl, rfl⟩
    exact ⟨by simp, Or.inl ⟨rfl, hle⟩, ButIn.refl _ _ _⟩
  · refine (markInt64S_any xs hm k hk0 hk1 b C w ⟨hf, fun i hi => absurd hi (Nat.not_lt_zero _), fun i _ hi => hc i hi⟩).mono ?_
    rintro e w' ⟨rfl, hM, hB⟩
    exact ⟨rfl, Or.inr ⟨b, rfl, h1, h2, hM.1, fun i hi => by rw [ramp_len] at hi; rw [ramp_nth k hi]; exact hM.2.1 i hi⟩, ButIn.of_but hB h1 h2⟩

theorem heldInts_any (n : Nat) (hm : n ≤ 1048576) (k : Int) (hk0 : 0 ≤ k) (hk1 : k ≤ 16777216) (lo hi : Nat) (A : Option Addr) (C : Nat) (w : World) (h : IntsIn w (ramp k n) lo hi A) :
      Calls Try.prog 199 #[.slice A n C, .int .i64 k] w fun e w' => e = .returned (.int .i64 (k + n)) ∧ ∃ m, w' = w.drewN m := by
  rcases h with ⟨h0, hle⟩ | ⟨b, rfl, h1, h2, hf, hc⟩
  · have hn : n = 0 := by have := congrArg List.length h0; rwa [ramp_len] at this
    subst hn
    refine (heldEmpty_any k A C w).mono ?_
    rintro e w' ⟨rfl, hw⟩
    exact ⟨by simp, hw⟩
  · exact heldInt64S_any n hm k hk0 hk1 b C w (fun i hi => by rw [← ramp_nth k hi]; exact hc i (by rw [ramp_len]; exact hi))

theorem below_drewN (B : Nat) (w : World) (n : Nat) : Below B w (w.drewN n) := ⟨rfl, rfl, rfl, Nat.le_refl _, fun _ _ => rfl⟩

end Go.Proofs.Ytcgbepmhfimbjaa
