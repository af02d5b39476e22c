/- Contract of impl.indicesWhere. -/
import Derived.Test.YtlpgkhdecccmlaaRPick
import Derived.Test.YtlpgkhdecccmlaaROneI
import Derived.Lib.Hide
namespace Go.Proofs.YtlpgkhdecccmlaaR
open Go.RowKit

set_option maxHeartbeats 2000000 in
set_option maxRecDepth 100000 in
theorem indicesWhere_any (g : Nat → Bool) (n : Nat) (hn : n ≤ 1048576) (A : Option Addr) (C : Nat) (w : World) (hl : 0 < n → ∃ b o, A = some ⟨b, o, none⟩ ∧ ∀ j, j < n → w.cell? ⟨b, o + j, none⟩ = some (.bool (g j))) :
    Calls Try.prog 80 #[.slice A n C] w fun e w' => ∃ A' C', e = .returned (.slice A' (pickA g n).length C') ∧ IntsIn w' (pickA g n) w.heap.size w'.heap.size A' ∧ Below w.heap.size w w' := by
  have HL := Lib.hid hl
  clear hl
  go_enter Try.func80, Try.ntmps80
  go_wp2_with fail
  go_loopw [3, 8] (fun v i wr => ∃ j : Nat, j ≤ n ∧ i = .int .i64 j ∧ Hid (OwnI wr w.heap.size v (pickA g j)) ∧ Hid (Sees w wr)) (fun _ i _ => n - (intOf i).toNat)
  case atStart => exact ⟨0, Nat.zero_le _, rfl, OwnI.nil _ _, Sees.refl _⟩
  case round =>
    obtain ⟨j, hj, rfl, hO, hS⟩ := hrel
    by_cases hjl : j < n
    · obtain ⟨b, o, rfl, hat⟩ := HL.out (by omega)
      have cj := kc hS.out (hat j hjl)
      have JL := Lib.hid hjl
      obtain ⟨q, hq⟩ : ∃ q : Bool, q = g j := ⟨_, rfl⟩
      rw [← hq] at cj
      have j0 : (0 : Int) ≤ (j : Int) := Int.natCast_nonneg _
      have j1 : (j : Int) < (n : Int) := by omega
      clear hat
      cases q
      · have hP : Hid (pickA g (j + 1) = pickA g j) := pickA_no hq.symm
        have hO2 := Lib.hid (show OwnI wr w.heap.size _ (pickA g (j + 1)) by rw [hP.out]; exact hO.out)
        clear hq hO
        go_wp2_with fail
        go_roundw
        case rel => exact ⟨j + 1, JL.out, by go_num, hO2, hS⟩
        case measure => have := JL.out; simp [intOf]; omega
      · have hP : Hid (pickA g (j + 1) = pickA g j ++ [(j : Int)]) := pickA_yes hq.symm
        have hln : Hid ((pickA g j).length < 4194304) := by have := pickA_len g j; show _ < _; omega
        clear hq
        have hsz := hS.out.size
        go_wp2_with (at_builtin; refine wpList_append_one wr (by rfl) _ _ (by rfl) w.heap.size _ (pickA g j) (j : Int) (by rfl) (by rfl) hO.out hln.out hsz (by rfl) ?_)
        intro v' w3 hO3 hB3
        have hO4 : Hid (OwnI w3 w.heap.size v' (pickA g (j + 1))) := by show OwnI _ _ _ _; rw [hP.out]; exact hO3
        have hS4 : Hid (Sees w w3) := hB3 w rfl hS.out
        clear hO3 hB3
        go_wp2_with fail
        go_roundw
        case rel => exact ⟨j + 1, JL.out, by go_num, hO4, hS4⟩
        case measure => have := JL.out; simp [intOf]; omega
    · obtain rfl : j = n := by omega
      obtain ⟨A', C', hv, hI⟩ := hO.out.ints hS.out.size
      subst hv
      have HI := Lib.hid hI
      clear hjl hO hI
      go_wp2_with fail
      go_ret
      exact ⟨A', C', rfl, HI.out, hS.out⟩
end Go.Proofs.YtlpgkhdecccmlaaR
