/- Automata in the laws: their size, their copy, their comparison. -/
import Derived.Test.YtcgbepmhfimbjaaLayS
import Derived.Test.YtcgbepmhfimbjaaLayT
import Derived.Test.YtcgbepmhfimbjaaLayE
import Derived.Test.YtcgbepmhfimbjaaSig
namespace Go.Proofs.Ytcgbepmhfimbjaa
open Go.RowKit

/-- How much an automaton counts. -/
def autN (ac : List (List Bool)) (nx : List (List (List Int))) : Nat := tot List.length ac + tot (tot List.length) nx
/-- Its lists' lengths are numbers of the machine. -/
def FitA (ac : List (List Bool)) (nx : List (List (List Int))) : Prop :=
  ac.length ≤ 9223372036854775807 ∧ (∀ x ∈ ac, x.length ≤ 9223372036854775807) ∧ nx.length ≤ 9223372036854775807 ∧ ∀ x ∈ nx, x.length ≤ 9223372036854775807 ∧ ∀ y ∈ x, y.length ≤ 9223372036854775807

set_option maxHeartbeats 1000000 in
set_option maxRecDepth 100000 in
theorem szAutomaton_any (t a : Int) (ac : List (List Bool)) (nx : List (List (List Int))) (hf : FitA ac nx) (l : Int) (A B : Option Addr) (C D : Nat) (w : World) (hA : BB 0 w ac A) (hB : III 0 w nx B) (h1 : -1 ≤ l) (h2 : l ≤ 1048576) :
    Calls Try.prog 37 #[.agg #[.int .i64 t, .int .i64 a, .slice A ac.length C, .slice B nx.length D], .int .i64 l] w fun e w' => e = .returned (.int .i64 (szR (autN ac nx) l)) ∧ Below w.heap.size w w' := by
  obtain ⟨f1, f2, f3, f4⟩ := hf
  obtain ⟨z, hz⟩ : ∃ z : Int, Hid (z = szR (tot List.length ac) l) := ⟨_, rfl⟩
  have K1 : Hid (∀ W : World, Sees w W → Calls Try.prog 59 #[.slice A ac.length C, .int .i64 l] W fun e w' => e = .returned (.int .i64 z) ∧ Below W.heap.size W w') := fun W h => by
    rw [hz.out]
    exact szBoolSS_any ac f1 f2 l A C W (bb_ok.below hA h) h1 h2
  by_cases hx : l < tot List.length ac
  · have hz1 : Hid (z = -1) := by show _ = _; rw [hz.out, szR_neg hx]
    have hzz : z < 0 := by rw [hz1.out]; omega
    have H : Hid (szR (autN ac nx) l = -1) := szR_neg (by unfold autN; omega)
    go_enter Try.func37, Try.ntmps37
    go_wp2_with fail
    refine (K1.out _ (by unfold Sees; go_grown)).mono ?_
    rintro e w1 ⟨rfl, hb⟩
    have B1 : Sees w w1 := Sees.below (by unfold Sees; go_grown) hb
    clear hb
    go_wp2_with fail
    go_ret
    exact ⟨ret_int H.out.symm, B1⟩
  · have hzv : z = l - (tot List.length ac : Nat) := by rw [hz.out, szR_pos (by omega)]
    have hz0 : 0 ≤ z := by omega
    have hz1 : z ≤ 1048576 := by omega
    have hzz : ¬ z < 0 := by omega
    obtain ⟨y, hy⟩ : ∃ y : Int, Hid (y = szR (tot (tot List.length) nx) z) := ⟨_, rfl⟩
    have H : Hid (szR (autN ac nx) l = y) := by
      show _ = _
      rw [hy.out]
      unfold szR autN
      split <;> split <;> omega
    have K2 : Hid (∀ W : World, Sees w W → Calls Try.prog 105 #[.slice B nx.length D, .int .i64 z] W fun e w' => e = .returned (.int .i64 y) ∧ Below W.heap.size W w') := fun W h => by
      rw [hy.out]
      exact szInt64SSS_any nx f3 f4 z B D W (iii_ok.below hB h) (by omega) hz1
    have H2 : Hid (y < 0 → y = -1) := by
      intro h
      rw [hy.out] at h ⊢
      unfold szR at h ⊢
      split <;> simp_all <;> omega
    clear hzv
    by_cases hyy : y < 0
    all_goals
      go_enter Try.func37, Try.ntmps37
      go_wp2_with fail
      refine (K1.out _ (by unfold Sees; go_grown)).mono ?_
      rintro e w1 ⟨rfl, hb⟩
      have B1 : Sees w w1 := Sees.below (by unfold Sees; go_grown) hb
      have x3 : w1.cell? ⟨w.heap.size, 3, none⟩ = some (.slice B nx.length D) := kc hb (by simp [go_sem])
      clear hb
      go_wp2_with fail
      refine (K2.out _ B1).mono ?_
      rintro e w2 ⟨rfl, hb⟩
      have B2 : Sees w w2 := B1.below hb
      clear hb B1 x3
      go_wp2_with fail
      go_ret
      first | exact ⟨ret_int H.out.symm, B2⟩ | exact ⟨ret_int (by rw [H.out, H2.out hyy]), B2⟩
end Go.Proofs.Ytcgbepmhfimbjaa
