/- Contracts of impl.nodeText, impl.ExprText, spec.ExprText. -/
import Derived.Test.YtgeaiadjmadakaaDoorTxS
import Derived.Test.YtgeaiadjmadakaaDoorTxI
import Derived.Test.YtgeaiadjmadakaaDoorNodeOf
import Derived.Test.YtgeaiadjmadakaaDoorOk
import Derived.Test.YtgeaiadjmadakaaDoorValidI
namespace Go.Proofs.YtgeaiadjmadakaaDoor
open Go.RowKit

theorem grow_any {B : Nat} (z : Nat) (hz : z ≤ 281474976710656) {w : World} (h : w.heap[B]? = some (.cells #[.pointer none, .slice none 0 0] 81 (0, 0))) :
    Calls Tryd.prog 81 #[.pointer (some ⟨B, 0, none⟩), .int .i64 (z : Int)] w fun e w' => e = .returned (.tuple #[]) ∧ Bld B [] w' ∧ Below B w w' :=
  (Tryd.Builder_Grow_fresh B B z w (Nat.le_refl _) h (Nat.le_of_lt (Array.getElem?_eq_some_iff.1 h).1) hz).mono fun _ _ ⟨h1, h2, h3⟩ => ⟨h1, Lib.IsBuilderF.of (Or.inr h2), h3⟩

set_option maxRecDepth 100000 in
set_option maxHeartbeats 2000000 in
theorem nodeText_any (d : Nd) (hd : d.okD) (hs : d.size ≤ 134217729) (w : World) :
    Calls Tryd.prog 55 #[d.val] w fun e w' => e = .returned (.string ⟨d.tx.toArray⟩) ∧ Below w.heap.size w w' := by
  obtain ⟨T1, x1, F1, hv1, hm1, he1, hc1⟩ := node_size d
  have KN : Hid (∀ W, Bld w.heap.size [] W → Calls Tryd.prog 48 #[.pointer (some ⟨w.heap.size, 0, none⟩), .iface T1 x1] W fun e w' => e = .returned (.tuple #[]) ∧ Wrote w.heap.size ([] ++ d.tx) W w') := fun W hW => by rw [← hv1]; exact writeNode_any d hd w.heap.size [] W (by simp only [List.length_nil]; omega) hW
  obtain ⟨z, hz, hz0, hz1⟩ : ∃ z : Int, z = (d.size : Int) ∧ 0 ≤ z ∧ z ≤ 134217729 := ⟨_, rfl, by omega, by omega⟩
  obtain ⟨y, hy⟩ : ∃ y : Int, y = 4 * z := ⟨_, rfl⟩
  have wy : IntKind.i64.wrap (4 * z) = y := by rw [IntWalk.i64_in _ (by omega), hy]
  have K1 : Hid (∀ W : World, Calls Tryd.prog F1 #[x1] W fun e w' => e = .returned (.int .i64 z) ∧ Below W.heap.size W w') := fun W => by rw [hz]; exact hc1 W
  have KG : Hid (∀ W : World, W.heap[w.heap.size]? = some (.cells #[.pointer none, .slice none 0 0] 81 (0, 0)) → Calls Tryd.prog 81 #[.pointer (some ⟨w.heap.size, 0, none⟩), .int .i64 y] W fun e w' => e = .returned (.tuple #[]) ∧ Bld w.heap.size [] w' ∧ Below w.heap.size W w') := fun W h => by
    rw [show y = ((4 * d.size : Nat) : Int) by omega]
    exact grow_any (4 * d.size) (by omega) h
  have KS : Hid (∀ W, Bld w.heap.size ([] ++ d.tx) W → Calls Tryd.prog 39 #[.pointer (some ⟨w.heap.size, 0, none⟩)] W fun e w' => e = .returned (.string ⟨d.tx.toArray⟩) ∧ Below w.heap.size W w') := fun W hW => string_any hW
  rw [hv1]
  clear hc1 hv1 hz hd hs hy
  go_enter Tryd.func55, Tryd.ntmps55
  go_wp2_with fail
  refine (K1.out _).mono ?_
  rintro e w1 ⟨rfl, hb1⟩
  have hbk := (hb1.block w.heap.size (by simp)).trans (heap_new w (.cells #[.pointer none, .slice none 0 0] 81) _ rfl)
  have B1 : Below w.heap.size w w1 := Below.trans (by go_grown) (hb1.mono (by simp))
  go_wp2_with fail
  refine (KG.out _ hbk).mono ?_
  rintro e w2 ⟨rfl, hB2, hb2⟩
  go_wp2_with fail
  refine (KN.out _ hB2).mono ?_
  rintro e w3 ⟨rfl, hw3⟩
  go_wp2_with fail
  refine (KS.out _ hw3.bld).mono ?_
  rintro e w4 ⟨rfl, hb4⟩
  go_wp2_with fail
  go_ret
  exact ⟨rfl, ((B1.trans hb2).trans hw3.below).trans hb4⟩

/-- What ExprText answers. -/
def exT (t a k n : Int) (f : Fo) : List UInt8 := if validE t a k n f = true then (ndE f k n).tx else []
theorem validE_parts0 {t a k n : Int} {f : Fo} (h : validE t a k n f = true) : t ≤ 3 ∧ a ≤ 4 ∧ treeE t a false k n f = true := by
  unfold validE at h
  simp only [Bool.and_eq_true] at h
  have := sigOk_of h.1.1.1
  exact ⟨this.2.1, this.2.2.2, h.2⟩

set_option maxRecDepth 100000 in
set_option maxHeartbeats 2000000 in
theorem implExprText_any (t a k n : Int) (f : Fo) (_hf : f.Fits) (h0 : f.nodes ≤ 1048576) (A : Option Addr) (C : Nat) (w : World) (hl : f.Lies w A) :
    Calls Tryd.prog 27 #[.agg #[.int .i64 t, .int .i64 a], .agg #[.int .i64 k, .int .i64 n, .slice A f.len C]] w fun e w' => e = .returned (.string ⟨(exT t a k n f).toArray⟩) ∧ Below w.heap.size w w' := by
  obtain ⟨q1, hq1⟩ : ∃ q1 : Bool, q1 = validE t a k n f := ⟨_, rfl⟩
  have K1 : Hid (∀ W : World, St w [(w.heap.size, 0, .int .i64 t), (w.heap.size, 1, .int .i64 a), (w.heap.size + 1, 0, .int .i64 k), (w.heap.size + 1, 1, .int .i64 n), (w.heap.size + 1, 2, .slice A f.len C)] W → Calls Tryd.prog 54 #[.agg #[.int .i64 t, .int .i64 a], .agg #[.int .i64 k, .int .i64 n, .slice A f.len C]] W fun e w' => e = .returned (.bool q1) ∧ Below W.heap.size W w') :=
    fun W h => by rw [hq1]; exact implValidExpr_any t a k n f h0 A C W (hl.sees h.1)
  cases q1
  · have HD : Hid (exT t a k n f = []) := by show _ = _; unfold exT; rw [← hq1]; rfl
    rw [HD.out]
    clear hq1 HD
    go_enter Tryd.func27, Tryd.ntmps27
    go_wp2_with fail
    refine (K1.out _ ⟨(by unfold Sees; go_grown), (by simp [go_sem]), (by simp [go_sem]), (by simp [go_sem]), (by simp [go_sem]), (by simp [go_sem]), trivial⟩).mono ?_
    rintro e w1 ⟨rfl, hb⟩
    have H1 : Hid (St w [(w.heap.size, 0, .int .i64 t), (w.heap.size, 1, .int .i64 a), (w.heap.size + 1, 0, .int .i64 k), (w.heap.size + 1, 1, .int .i64 n), (w.heap.size + 1, 2, .slice A f.len C)] w1) := St.below (l := [(w.heap.size, 0, .int .i64 t), (w.heap.size, 1, .int .i64 a), (w.heap.size + 1, 0, .int .i64 k), (w.heap.size + 1, 1, .int .i64 n), (w.heap.size + 1, 2, .slice A f.len C)]) ⟨(by unfold Sees; go_grown), (by simp [go_sem]), (by simp [go_sem]), (by simp [go_sem]), (by simp [go_sem]), (by simp [go_sem]), trivial⟩ hb
    clear hb
    obtain ⟨sS, s0, s1, s2, s3, s4, _⟩ := H1.out
    go_wp2_with fail
    go_ret
    exact ⟨rfl, sS⟩
  · have hv := validE_parts0 hq1.symm
    have HD : Hid (exT t a k n f = (ndE f k n).tx) := by show _ = _; unfold exT; rw [← hq1]; rfl
    rw [HD.out]
    have hok := ndE_okD t a hv.1 hv.2.1 (f.nodes + 1) f (Nat.lt_succ_self _) false k n hv.2.2
    have hsz := ndE_size f k n
    obtain ⟨sv, hsv⟩ : ∃ s : ByteArray, s = ⟨(ndE f k n).tx.toArray⟩ := ⟨_, rfl⟩
    obtain ⟨v1, hv1⟩ : ∃ v : Value, v = (ndE f k n).val := ⟨_, rfl⟩
    have K4 : Hid (∀ W : World, Sees w W → Calls Tryd.prog 49 #[.agg #[.int .i64 k, .int .i64 n, .slice A f.len C]] W fun e w' => e = .returned v1 ∧ Below W.heap.size W w') :=
      fun W h => by rw [hv1]; exact nodeOf_any (f.nodes + 1) f (Nat.lt_succ_self _) h0 t a false k n A C W (hl.sees h) hv.2.2
    have K5 : Hid (∀ W : World, Calls Tryd.prog 55 #[v1] W fun e w' => e = .returned (.string sv) ∧ Below W.heap.size W w') := fun W => by rw [hv1, hsv]; exact nodeText_any _ hok (by omega) W
    rw [← hsv]
    clear hq1 HD hv hsv hv1 hok hsz
    go_enter Tryd.func27, Tryd.ntmps27
    go_wp2_with fail
    refine (K1.out _ ⟨(by unfold Sees; go_grown), (by simp [go_sem]), (by simp [go_sem]), (by simp [go_sem]), (by simp [go_sem]), (by simp [go_sem]), trivial⟩).mono ?_
    rintro e w1 ⟨rfl, hb⟩
    have H1 : Hid (St w [(w.heap.size, 0, .int .i64 t), (w.heap.size, 1, .int .i64 a), (w.heap.size + 1, 0, .int .i64 k), (w.heap.size + 1, 1, .int .i64 n), (w.heap.size + 1, 2, .slice A f.len C)] w1) := St.below (l := [(w.heap.size, 0, .int .i64 t), (w.heap.size, 1, .int .i64 a), (w.heap.size + 1, 0, .int .i64 k), (w.heap.size + 1, 1, .int .i64 n), (w.heap.size + 1, 2, .slice A f.len C)]) ⟨(by unfold Sees; go_grown), (by simp [go_sem]), (by simp [go_sem]), (by simp [go_sem]), (by simp [go_sem]), (by simp [go_sem]), trivial⟩ hb
    clear hb
    obtain ⟨sS, s0, s1, s2, s3, s4, _⟩ := H1.out
    go_wp2_with fail
    refine (K4.out _ sS).mono ?_
    rintro e w2 ⟨rfl, hb⟩
    have S2 := sS.below hb
    clear hb
    go_wp2_with fail
    refine (K5.out _).mono ?_
    rintro e w3 ⟨rfl, hb⟩
    have S3 := S2.below hb
    go_wp2_with fail
    go_ret
    exact ⟨rfl, S3⟩
end Go.Proofs.YtgeaiadjmadakaaDoor
