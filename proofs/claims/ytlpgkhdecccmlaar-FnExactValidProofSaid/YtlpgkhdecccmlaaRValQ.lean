/- Contracts of spec.ValidEquation, impl.ValidEquation. -/
import Derived.Test.YtlpgkhdecccmlaaREqu
import Derived.Test.YtlpgkhdecccmlaaROk
import Derived.Test.YtlpgkhdecccmlaaRValidI
import Derived.Test.YtlpgkhdecccmlaaRQuietC
namespace Go.Proofs.YtlpgkhdecccmlaaR
open Go.RowKit

def validQ (t a k n : Int) (f : Fo) (j o : Int) (g : Fo) : Bool := validE t a k n f && validE t a j o g

set_option maxRecDepth 100000 in
set_option maxHeartbeats 1000000 in
theorem implValidEquation_any (t a k n : Int) (f : Fo) (j o : Int) (g : Fo) (h0 : f.nodes ≤ 1048576) (h1 : g.nodes ≤ 1048576) (A B : Option Addr) (C D : Nat) (w : World) (hl : f.Lies w A) (hr : g.Lies w B) :
    Calls Try.prog 157 #[.agg #[.int .i64 t, .int .i64 a], .agg #[.int .i64 k, .int .i64 n, .slice A f.len C, .int .i64 j, .int .i64 o, .slice B g.len D]] w fun e w' => e = .returned (.bool (validQ t a k n f j o g)) ∧ Below w.heap.size w w' := by
  obtain ⟨q1, hq1⟩ : ∃ q1 : Bool, q1 = validE t a k n f := ⟨_, rfl⟩
  obtain ⟨q2, hq2⟩ : ∃ q2 : Bool, q2 = validE t a j o g := ⟨_, rfl⟩
  have HQ : Hid (validQ t a k n f j o g = (q1 && q2)) := by show _ = _; unfold validQ; rw [hq1, hq2]
  have K1 : Hid (∀ W : World, Sees w W → Calls Try.prog 64 #[.agg #[.int .i64 t, .int .i64 a], .agg #[.int .i64 k, .int .i64 n, .slice A f.len C]] W fun e w' => e = .returned (.bool q1) ∧ Below W.heap.size W w') :=
    fun W h => by rw [hq1]; exact implValidExpr_any t a k n f h0 A C W (hl.sees h)
  have K2 : Hid (∀ W : World, Sees w W → Calls Try.prog 64 #[.agg #[.int .i64 t, .int .i64 a], .agg #[.int .i64 j, .int .i64 o, .slice B g.len D]] W fun e w' => e = .returned (.bool q2) ∧ Below W.heap.size W w') :=
    fun W h => by rw [hq2]; exact implValidExpr_any t a j o g h1 B D W (hr.sees h)
  clear hq1 hq2 hl hr
  cases q1
  all_goals
    go_enter Try.func157, Try.ntmps157
    go_wp2_with fail
    refine (K1.out _ (by unfold Sees; go_grown)).mono ?_
    rintro e w1 ⟨rfl, hb⟩
    have B1 : Sees w w1 := Sees.below (by unfold Sees; go_grown) hb
    have HB0 : w1.heap[w.heap.size]? = some (.cells #[.int .i64 t, .int .i64 a] 31 (0, 0)) := (hb.block _ (by simp <;> omega)).trans ((Below.heap_alloc _ _ _ (by simp <;> omega)).trans (heap_new _ _ _ rfl))
    have HB1 : w1.heap[w.heap.size + 1]? = some (.cells #[.int .i64 k, .int .i64 n, .slice A f.len C, .int .i64 j, .int .i64 o, .slice B g.len D] 224 (0, 0)) := (hb.block _ (by simp <;> omega)).trans (heap_new _ _ _ (by simp))
    have d0 : w1.cell? ⟨w.heap.size, 0, none⟩ = some (.int .i64 t) := Fo.cell_of_block HB0 0
    have d1 : w1.cell? ⟨w.heap.size, 1, none⟩ = some (.int .i64 a) := Fo.cell_of_block HB0 1
    obtain ⟨⟨c0, c1, c2, c3, c4, c5⟩, _⟩ := cells6 HB1
    clear hb HB0 HB1
    go_wp2_with fail
  · go_ret
    exact ⟨ret_bool (by rw [HQ.out]; simp), B1⟩
  · refine (K2.out _ B1).mono ?_
    rintro e w2 ⟨rfl, hb⟩
    have B2 := B1.below hb
    clear hb
    go_wp2_with fail
    go_ret
    exact ⟨ret_bool (by rw [HQ.out]; simp), B2⟩
end Go.Proofs.YtlpgkhdecccmlaaR
