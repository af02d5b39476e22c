/- Contracts of spec.ValidEquation, impl.ValidEquation. -/
import Derived.Test.YtgeaiadjmadakaaDoorEqu
import Derived.Test.YtgeaiadjmadakaaDoorOk
import Derived.Test.YtgeaiadjmadakaaDoorValidI
import Derived.Test.YtgeaiadjmadakaaDoorQuietC
namespace Go.Proofs.YtgeaiadjmadakaaDoor
open Go.RowKit

def validQ (t a k n : Int) (f : Fo) (j o : Int) (g : Fo) : Bool := validE t a k n f && validE t a j o g

set_option maxRecDepth 100000 in
set_option maxHeartbeats 1000000 in
theorem l04Equation_any (t a k n : Int) (f : Fo) (j o : Int) (g : Fo) (hf : f.Fits) (hg : g.Fits) (h0 : f.nodes ≤ 1048576) (h1 : g.nodes ≤ 1048576) (A B : Option Addr) (C D b p : Nat) (w : World) (hl : f.Lies w A) (hr : g.Lies w B)
    (c0 : w.cell? ⟨b, p, none⟩ = some (.int .i64 k)) (c1 : w.cell? ⟨b, p + 1, none⟩ = some (.int .i64 n)) (c2 : w.cell? ⟨b, p + 2, none⟩ = some (.slice A f.len C)) (c3 : w.cell? ⟨b, p + 3, none⟩ = some (.int .i64 j)) (c4 : w.cell? ⟨b, p + 4, none⟩ = some (.int .i64 o)) (c5 : w.cell? ⟨b, p + 5, none⟩ = some (.slice B g.len D)) :
    Calls Tryd.prog 23 #[.agg #[.int .i64 t, .int .i64 a], .pointer (some ⟨b, p, none⟩)] w fun e w' => e = .returned (.bool (validQ t a k n f j o g)) ∧ Below w.heap.size w w' := by
  obtain ⟨q1, hq1⟩ : ∃ q1 : Bool, q1 = validE t a k n f := ⟨_, rfl⟩
  obtain ⟨q2, hq2⟩ : ∃ q2 : Bool, q2 = validE t a j o g := ⟨_, rfl⟩
  have HQ : Hid (validQ t a k n f j o g = (q1 && q2)) := by show _ = _; unfold validQ; rw [hq1, hq2]
  have K1 : Hid (∀ W : World, Sees w W → Calls Tryd.prog 52 #[.agg #[.int .i64 t, .int .i64 a], .pointer (some ⟨b, p, none⟩)] W fun e w' => e = .returned (.bool q1) ∧ Below W.heap.size W w') :=
    fun W h => by rw [hq1]; exact l01Ok_any f h0 hf t a k n A C b p W (hl.sees h) (kc h c0) (kc h c1) (kc h c2)
  have K2 : Hid (∀ W : World, Sees w W → Calls Tryd.prog 52 #[.agg #[.int .i64 t, .int .i64 a], .pointer (some ⟨b, p + 3, none⟩)] W fun e w' => e = .returned (.bool q2) ∧ Below W.heap.size W w') :=
    fun W h => by rw [hq2]; exact l01Ok_any g h1 hg t a j o B D b (p + 3) W (hr.sees h) (kc h c3) (kc h c4) (kc h c5)
  clear hq1 hq2 c0 c1 c2 c3 c4 c5 hl hr
  have X0 : Hid (St w [(w.heap.size, 0, .int .i64 t), (w.heap.size, 1, .int .i64 a)] (w.alloc (.cells #[.int .i64 t, .int .i64 a] 31))) := ⟨(by unfold Sees; go_grown), (by simp [go_sem]), (by simp [go_sem]), trivial⟩
  cases q1
  all_goals
    go_enter Tryd.func23, Tryd.ntmps23
    go_wp2_with fail
    refine wp_region_quietC w [(w.heap.size, 0, .int .i64 t), (w.heap.size, 1, .int .i64 a)] (by kernel_rfl) (by kernel_rfl) X0.out ?_
    repeat (first | go_big_quiet_skip | (go_big_quiet_want; apply Exists.intro; refine ⟨fun W hW => ?_, ?_⟩; focus (have hK := Lib.hid hW; obtain ⟨hs, hc⟩ := hW; simp only [Has, and_true] at hc; go_simp; (first | (go_at_call_of 52 (Value.pointer (some ⟨b, p, none⟩)); exact quietC_call hK.out (K1.out _ hK.out.1)) | (go_at_call_of 52 (Value.pointer (some ⟨b, p + 3, none⟩)); exact quietC_call hK.out (K2.out _ hK.out.1)) | (go_at_call 52; exact quietC_call hK.out (K2.out _ hK.out.1)) | rfl))) | (go_simp; go_big_quiet_on))
    refine wpQuiet_nil ?_
    intro w1 H1
    go_wp2_with fail
    go_ret
    exact ⟨ret_bool (by rw [HQ.out]; simp), H1.1⟩

set_option maxRecDepth 100000 in
set_option maxHeartbeats 1000000 in
theorem implValidEquation_any (t a k n : Int) (f : Fo) (j o : Int) (g : Fo) (h0 : f.nodes ≤ 1048576) (h1 : g.nodes ≤ 1048576) (A B : Option Addr) (C D : Nat) (w : World) (hl : f.Lies w A) (hr : g.Lies w B) :
    Calls Tryd.prog 26 #[.agg #[.int .i64 t, .int .i64 a], .agg #[.int .i64 k, .int .i64 n, .slice A f.len C, .int .i64 j, .int .i64 o, .slice B g.len D]] w fun e w' => e = .returned (.bool (validQ t a k n f j o g)) ∧ Below w.heap.size w w' := by
  obtain ⟨q1, hq1⟩ : ∃ q1 : Bool, q1 = validE t a k n f := ⟨_, rfl⟩
  obtain ⟨q2, hq2⟩ : ∃ q2 : Bool, q2 = validE t a j o g := ⟨_, rfl⟩
  have HQ : Hid (validQ t a k n f j o g = (q1 && q2)) := by show _ = _; unfold validQ; rw [hq1, hq2]
  have K1 : Hid (∀ W : World, Sees w W → Calls Tryd.prog 54 #[.agg #[.int .i64 t, .int .i64 a], .agg #[.int .i64 k, .int .i64 n, .slice A f.len C]] W fun e w' => e = .returned (.bool q1) ∧ Below W.heap.size W w') :=
    fun W h => by rw [hq1]; exact implValidExpr_any t a k n f h0 A C W (hl.sees h)
  have K2 : Hid (∀ W : World, Sees w W → Calls Tryd.prog 54 #[.agg #[.int .i64 t, .int .i64 a], .agg #[.int .i64 j, .int .i64 o, .slice B g.len D]] W fun e w' => e = .returned (.bool q2) ∧ Below W.heap.size W w') :=
    fun W h => by rw [hq2]; exact implValidExpr_any t a j o g h1 B D W (hr.sees h)
  clear hq1 hq2 hl hr
  cases q1
  all_goals
    go_enter Tryd.func26, Tryd.ntmps26
    go_wp2_with fail
    refine (K1.out _ (by unfold Sees; go_grown)).mono ?_
    rintro e w1 ⟨rfl, hb⟩
    have B1 : Sees w w1 := Sees.below (by unfold Sees; go_grown) hb
    have HB0 : w1.heap[w.heap.size]? = some (.cells #[.int .i64 t, .int .i64 a] 31 (0, 0)) := (hb.block _ (by simp <;> omega)).trans ((Below.heap_alloc _ _ _ (by simp <;> omega)).trans (heap_new _ _ _ rfl))
    have HB1 : w1.heap[w.heap.size + 1]? = some (.cells #[.int .i64 k, .int .i64 n, .slice A f.len C, .int .i64 j, .int .i64 o, .slice B g.len D] 37 (0, 0)) := (hb.block _ (by simp <;> omega)).trans (heap_new _ _ _ (by simp))
    have d0 : w1.cell? ⟨w.heap.size, 0, none⟩ = some (.int .i64 t) := Fo.cell_of_block HB0 0
    have d1 : w1.cell? ⟨w.heap.size, 1, none⟩ = some (.int .i64 a) := Fo.cell_of_block HB0 1
    obtain ⟨⟨c0, c1, c2, c3, c4, c5⟩, _⟩ := cells6 HB1
    clear hb HB0 HB1
    go_wp2_with fail
  · go_ret
    exact ⟨ret_bool (by rw [HQ.out]; simp), B1⟩
  · refine (K2.out _ B1).mono ?_
    rintro e w2 ⟨rfl, hb⟩
    have B2 := B1.below hb
    clear hb
    go_wp2_with fail
    go_ret
    exact ⟨ret_bool (by rw [HQ.out]; simp), B2⟩
end Go.Proofs.YtgeaiadjmadakaaDoor
