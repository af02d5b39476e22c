/- Contract of impl.atomSet.list. -/
import Derived.Test.YtlpgkhdecccmlaaRAtD
import Derived.Test.YtlpgkhdecccmlaaRIdx
import Derived.Test.YtlpgkhdecccmlaaRWithin
namespace Go.Proofs.YtlpgkhdecccmlaaR
open Go.RowKit

set_option maxHeartbeats 4000000 in
set_option maxRecDepth 100000 in
theorem list_any (f : Nat → Bool) (w : World) :
    Calls Try.prog 67 #[.agg (arr8 f)] w fun e w' => ∃ A C, e = .returned (.slice A (pickA f 8).length C) ∧ IntsIn w' (pickA f 8) w.heap.size w'.heap.size A ∧ Below w.heap.size w w' := by
  obtain ⟨W0, hW0⟩ : ∃ W0, W0 = w.alloc (.cells (arr8 f) 121) := ⟨_, rfl⟩
  have k0 : W0.heap[w.heap.size]? = some (.cells (arr8 f) 121 (0, 0)) := by rw [hW0]; exact heap_new _ _ _ rfl
  have HW : Hid (Sees w W0) := by show Sees _ _; rw [hW0]; exact (Sees.refl w).alloc _
  have KI : Hid (∀ W : World, Sees W0 W → Calls Try.prog 80 #[.slice (some ⟨w.heap.size, 0, none⟩) 8 8] W fun e w' => ∃ A' C', e = .returned (.slice A' (pickA f 8).length C') ∧ IntsIn w' (pickA f 8) W.heap.size w'.heap.size A' ∧ Below W.heap.size W w') := fun W h =>
    indicesWhere_any f 8 (by omega) _ 8 W (fun _ => ⟨w.heap.size, 0, rfl, fun j hj => by
      refine kc h ?_
      rw [Fo.cell_of_block k0, Nat.zero_add]
      rcases lt8 hj with rfl | rfl | rfl | rfl | rfl | rfl | rfl | rfl <;> rfl⟩)
  clear k0
  go_enter Try.func67, Try.ntmps67
  go_wp2_with fail
  rw [← hW0]
  clear hW0
  refine (KI.out _ (Sees.refl _)).mono ?_
  rintro e w1 ⟨A, C, rfl, hI, hb⟩
  have hI := Lib.hid (hI.mono HW.out.size (Nat.le_refl _))
  have hb := Lib.hid (Sees.below HW.out hb)
  go_wp2_with fail
  go_ret
  exact ⟨A, C, rfl, hI.out, hb.out⟩
end Go.Proofs.YtlpgkhdecccmlaaR
