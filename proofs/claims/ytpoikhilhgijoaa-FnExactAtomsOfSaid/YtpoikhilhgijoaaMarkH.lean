/- Contract of laws.heldInt64S, of a list in blocks of its own. -/
import Derived.Test.YtpoikhilhgijoaaMarkW
namespace Go.Proofs.Ytpoikhilhgijoaa
open Go.RowKit

theorem heldEmpty_any (k : Int) (A : Option Addr) (C : Nat) (w : World) :
      Calls Try.prog 37 #[.slice A 0 C, .int .i64 k] w fun e w' => e = .returned (.int .i64 k) ∧ ∃ m, w' = w.drewN m := by
  go_enter Try.func37, Try.ntmps37
  go_wp2_with fail
  go_loopw [1, 5] (fun x i wr => x = .int .i64 k ∧ i = .int .i64 0 ∧ wr = w) (fun _ _ _ => 0)
  case atStart => exact ⟨rfl, rfl, rfl⟩
  case round =>
    obtain ⟨rfl, rfl, rfl⟩ := hrel
    go_wp2_with fail
    go_ret
    exact ⟨rfl, 0, rfl⟩

theorem heldInts_any (n : Nat) (hm : n ≤ 1048576) (k : Int) (hk0 : 0 ≤ k) (hk1 : k ≤ 16777216) (lo hi : Nat) (A : Option Addr) (C : Nat) (w : World) (h : IntsIn w (ramp k n) lo hi A) :
      Calls Try.prog 37 #[.slice A n C, .int .i64 k] w fun e w' => e = .returned (.int .i64 (k + n)) ∧ ∃ m, w' = w.drewN m := by
  rcases h with ⟨h0, hle⟩ | ⟨b, rfl, h1, h2, hf, hc⟩
  · have hn : n = 0 := by have := congrArg List.length h0; rwa [ramp_len] at this
    subst hn
    refine (heldEmpty_any k A C w).mono ?_
    rintro e w' ⟨rfl, hw⟩
    exact ⟨by simp, hw⟩
  · exact heldInt64S_any n hm k hk0 hk1 b C w (fun i hi => by rw [← ramp_nth k hi]; exact hc i (by rw [ramp_len]; exact hi))
end Go.Proofs.Ytpoikhilhgijoaa
