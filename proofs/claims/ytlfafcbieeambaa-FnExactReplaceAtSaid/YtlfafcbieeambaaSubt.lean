/- Contracts of spec.SubtermAt, impl.SubtermAt. -/
import Derived.Test.YtlfafcbieeambaaAtS
import Derived.Test.YtlfafcbieeambaaNodeAt
import Derived.Test.YtlfafcbieeambaaOwnE
import Derived.Test.YtlfafcbieeambaaOk
import Derived.Test.YtlfafcbieeambaaValidI
import Derived.Test.YtlfafcbieeambaaNodeOf
import Derived.Test.YtlfafcbieeambaaEndE
namespace Go.Proofs.Ytlfafcbieeambaa
open Go.RowKit

/-- What SubtermAt answers. -/
def sbO (t a k n : Int) (f : Fo) (xs : List Int) : Int × Int × Fo × Int :=
  if validE t a k n f = true then (match walkP xs k n f false with | some (k', n', f', _) => (k', n', f', 0) | none => (0, 0, .nil, 2)) else (0, 0, .nil, 1)
def sbK (t a k n : Int) (f : Fo) (xs : List Int) : Int := (sbO t a k n f xs).1
def sbN (t a k n : Int) (f : Fo) (xs : List Int) : Int := (sbO t a k n f xs).2.1
def sbF (t a k n : Int) (f : Fo) (xs : List Int) : Fo := (sbO t a k n f xs).2.2.1
def sbC (t a k n : Int) (f : Fo) (xs : List Int) : Int := (sbO t a k n f xs).2.2.2
theorem sb_no {t a k n : Int} {f : Fo} (xs : List Int) (h : validE t a k n f = false) : sbO t a k n f xs = (0, 0, .nil, 1) := by unfold sbO; simp [h]
theorem sb_yes {t a k n : Int} {f : Fo} (xs : List Int) (h : validE t a k n f = true) : sbO t a k n f xs = (match walkP xs k n f false with | some (k', n', f', _) => (k', n', f', 0) | none => (0, 0, .nil, 2)) := by unfold sbO; simp [h]
theorem sbF_nodes (t a k n : Int) (f : Fo) (xs : List Int) (h : f.nodes ≤ 1048576) : (sbF t a k n f xs).nodes ≤ 1048576 := by
  unfold sbF sbO
  split
  · cases e : walkP xs k n f false with
    | none => exact Nat.zero_le _
    | some x => obtain ⟨k', n', f', b'⟩ := x; exact Nat.le_trans (walkP_nodes xs e) h
  · exact Nat.zero_le _

set_option maxRecDepth 100000 in
set_option maxHeartbeats 2000000 in
set_option maxRecDepth 100000 in
set_option maxHeartbeats 2000000 in
theorem copyExpr_any (t a : Int) (b : Bool) (k n : Int) (f : Fo) (h0 : f.nodes ≤ 1048576) (ht : treeE t a b k n f = true) (A : Option Addr) (C : Nat) (w : World) (hl : f.Lies w A) :
    Calls Try.prog 50 #[.agg #[.int .i64 k, .int .i64 n, .slice A f.len C]] w (ExEnd k n f w) := by
  have hz := ndE_size f k n
  obtain ⟨e1, e2, e3⟩ := ndE_all ht
  obtain ⟨v1, hv1⟩ : ∃ v : Value, v = (ndE f k n).val := ⟨_, rfl⟩
  have K4 : Hid (∀ W : World, Sees w W → Calls Try.prog 112 #[.agg #[.int .i64 k, .int .i64 n, .slice A f.len C]] W fun e w' => e = .returned v1 ∧ Below W.heap.size W w') :=
    fun W h => by rw [hv1]; exact nodeOf_any (f.nodes + 1) f (Nat.lt_succ_self _) h0 t a b k n A C W (hl.sees h) ht
  have K6 : Hid (∀ W : World, Calls Try.prog 111 #[v1] W (ExEnd k n f W)) := fun W => by
    have h := exprOf_any (ndE f k n) W (by omega)
    rw [e1, e2, e3, ← hv1] at h
    exact h
  clear hz e1 e2 e3 ht hv1
  have HL := Lib.hid hl
  clear hl
  go_enter Try.func50, Try.ntmps50
  go_wp2_with fail
  refine (K4.out _ (by unfold Sees; go_grown)).mono ?_
  rintro e w1 ⟨rfl, hb⟩
  have HBr : w1.heap[w.heap.size + 1]? = some (.cells #[.int .i64 0, .int .i64 0, .slice none 0 0] 31 (0, 0)) := (hb.block _ (by simp)).trans (heap_new _ _ _ (by simp))
  have S1 : Sees w w1 := Sees.below (by unfold Sees; go_grown) hb
  have zr : w.heap.size + 1 < w1.heap.size := (Array.getElem?_eq_some_iff.1 HBr).1
  clear hb
  go_wp2_with fail
  refine (K6.out _).mono ?_
  rintro e w2 ⟨A1, rfl, hX, hb⟩
  have HB2 := (hb.block _ zr).trans HBr
  have S2 := S1.below hb
  have z2 := hb.size
  have HX := Lib.hid hX
  clear hX hb
  obtain ⟨r0, r1, r2, g0, g1, g2⟩ := cells3 HB2
  go_wp2_with fail
  have HBF : (((w2.setCell ⟨w.heap.size + 1, 0, none⟩ (.int .i64 k)).setCell ⟨w.heap.size + 1, 1, none⟩ (.int .i64 n)).setCell ⟨w.heap.size + 1, 2, none⟩ (.slice A1 f.len f.len)).heap[w.heap.size + 1]? = some (.cells #[(.int .i64 k), (.int .i64 n), .slice A1 f.len f.len] 31 (0, 0)) := by
    rw [Fo.block_setCell (Fo.block_setCell (Fo.block_setCell HB2 _) _) _]; rfl
  obtain ⟨d0, d1, d2, _⟩ := cells3 HBF
  refine bodyPost_ret (v := .agg #[(.int .i64 k), (.int .i64 n), .slice A1 f.len f.len]) (by simp [results, Try.results50, go_sem, d0, d1, d2]) rfl ?_
  refine ⟨A1, rfl, ?_, Below.setCell (Below.setCell (Below.setCell S2 (by show w.heap.size ≤ w.heap.size + 1; omega) _) (by show w.heap.size ≤ w.heap.size + 1; omega) _) (by show w.heap.size ≤ w.heap.size + 1; omega) _⟩
  exact (HX.out.agree (Fo.Agree.setCell (Fo.Agree.setCell (Fo.Agree.setCell (Fo.Agree.refl _ _ _) _ (Or.inl zr) _) _ (Or.inl zr) _) _ (Or.inl zr) _)).mono (by omega) (by simp)

end Go.Proofs.Ytlfafcbieeambaa
