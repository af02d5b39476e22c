/- Contract of impl.newRunner. -/
import Derived.Test.YtlfafcbieeambaaDoorRnn
import Derived.Deep.RegionLaw
namespace Go.Proofs.YtlfafcbieeambaaDoor
open Go.RowKit

theorem rn_new (W : World) (P : Obj) (A : Option Addr) (np C : Nat) (B : Option Addr) (nn D : Nat) (f s u : Int) :
    Rn W (W.heap.size + 1 + 1) A np C B nn D f 0 s (.slice (some ⟨W.heap.size + 1, 0, none⟩) 1 1) (.slice none 0 0) [u] [] ((((W.alloc P).alloc (.cells #[.int .i64 u] 2)).alloc (.cells #[.slice A np C, .slice B nn D, .int .i64 f, .int .i64 s, .slice (some ⟨W.heap.size + 1, 0, none⟩) 1 1, .slice none 0 0, .int .i64 0] 99)).drew) := by
  have hU : ((((W.alloc P).alloc (.cells #[.int .i64 u] 2)).alloc (.cells #[.slice A np C, .slice B nn D, .int .i64 f, .int .i64 s, .slice (some ⟨W.heap.size + 1, 0, none⟩) 1 1, .slice none 0 0, .int .i64 0] 99)).drew).heap[W.heap.size + 1]? = some (.cells #[.int .i64 u] 2 (0, 0)) :=
    (Below.heap_alloc _ _ _ (by simp)).trans (heap_new _ _ _ (by simp))
  refine ⟨Sees.drew ((((Sees.refl W).alloc _).alloc _).alloc _), by omega, heap_new _ _ _ (by simp), ⟨by simp [encs], Or.inr ⟨W.heap.size + 1, 1, #[.int .i64 u], rfl, by omega, hU, Nat.le_refl _, by decide, rfl, rfl⟩⟩, World.ownsRow_nil _ _ _ _, ?_, ?_, ?_⟩
  · intro g _ h; cases h
  · intro h
    have h2 : W.heap.size + 1 = W.heap.size + 1 + 1 := Option.some.inj h
    omega
  · intro h; cases h

set_option maxHeartbeats 2000000 in
set_option maxRecDepth 100000 in
theorem newRunner_any (p : List Int) (σ : Nat) (hσ : σ < p.length) (f : Int) (A : Option Addr) (C : Nat) (B : Option Addr) (nn D : Nat) (W : World) (hA : Ints W p A) :
    Calls Tryd.prog 46 #[.agg #[.slice A p.length C, .slice B nn D], .int .i64 (σ : Int), .int .i64 f] W fun e w' =>
      ∃ b v1 v2, e = .returned (.pointer (some ⟨b, 0, none⟩)) ∧ Rn W b A p.length C B nn D f 0 (σ : Int) v1 v2 [nth p σ] [] w' := by
  obtain ⟨yA, zA, rfl, hatA⟩ := hA (by rintro rfl; simp at hσ)
  have cA := ka (.cells #[.slice (some ⟨yA, zA, none⟩) p.length C, .slice B nn D] 53) (hatA σ hσ)
  obtain ⟨u, hu⟩ : ∃ u : Int, u = nth p σ := ⟨_, rfl⟩
  have HN := Lib.hid (rn_new W (.cells #[.slice (some ⟨yA, zA, none⟩) p.length C, .slice B nn D] 53) (some ⟨yA, zA, none⟩) p.length C B nn D f (σ : Int) u)
  rw [← hu] at cA ⊢
  have s0 : (0 : Int) ≤ (σ : Int) := Int.natCast_nonneg _
  have s1 : (σ : Int) < (p.length : Int) := by omega
  have HA := Lib.hid hatA
  clear hatA hu hA
  have cA2 := ka (.cells #[.int .i64 u] 2) cA
  go_enter Tryd.func46, Tryd.ntmps46
  go_wp2_with fail
  go_region_law (fail)
  all_goals
    go_wp2_with fail
    go_ret
    exact ⟨_, _, _, rfl, HN.out⟩
end Go.Proofs.YtlfafcbieeambaaDoor
