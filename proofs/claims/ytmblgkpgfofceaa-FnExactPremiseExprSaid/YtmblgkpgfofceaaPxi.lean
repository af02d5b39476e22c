/- Paths: the node to which a path leads. Plain facts, no walk. Contract of impl.nodeAt. Contracts of spec.SubtermAt, impl.SubtermAt. Contract of impl.PremiseExpr. -/
import Derived.Test.YtmblgkpgfofceaaTreeD
import Derived.Test.YtmblgkpgfofceaaInts
import Derived.Test.YtmblgkpgfofceaaPxb
import Derived.RegionTactic
import Derived.BigRegion
import Derived.Test.YtmblgkpgfofceaaPxh
import Derived.Test.YtmblgkpgfofceaaPxc
import Derived.Test.YtmblgkpgfofceaaOk
import Derived.Test.YtmblgkpgfofceaaValidI
import Derived.Test.YtmblgkpgfofceaaPxa
import Derived.Test.YtmblgkpgfofceaaEndE
import Derived.Test.YtmblgkpgfofceaaPxe
import Derived.Test.YtmblgkpgfofceaaPxg
import Derived.Deep.DeepCutAuto
namespace Go.Proofs.Ytmblgkpgfofceaa
open Go.RowKit

/-- The node to which a path leads, and whether it lies below a negation. -/
def walkP : List Int → Int → Int → Fo → Bool → Option (Int × Int × Fo × Bool)
  | [], k, n, f, b => some (k, n, f, b)
  | i :: r, k, _, f, b => if 0 ≤ i ∧ i < (f.len : Int) then (match f.drop i.toNat with | .cons k' n' ks _ => walkP r k' n' ks (b || k == 5) | .nil => none) else none

theorem walkP_no {xs : List Int} {j : Nat} (hj : j < xs.length) {k n : Int} {f : Fo} {b : Bool} (h : ¬ (0 ≤ nth xs j ∧ nth xs j < (f.len : Int))) : walkP (xs.drop j) k n f b = none := by
  rw [drop_getD xs j hj]; simp only [walkP]; rw [if_neg h]
theorem walkP_step {xs : List Int} {j : Nat} (hj : j < xs.length) {k n : Int} {f : Fo} {b : Bool} {k' n' : Int} {ks r : Fo} (h0 : 0 ≤ nth xs j) (h1 : nth xs j < (f.len : Int)) (e : f.drop (nth xs j).toNat = .cons k' n' ks r) :
    walkP (xs.drop j) k n f b = walkP (xs.drop (j + 1)) k' n' ks (b || k == 5) := by
  rw [drop_getD xs j hj]; simp only [walkP]; rw [if_pos ⟨h0, h1⟩, e]
theorem walkP_end (xs : List Int) (k n : Int) (f : Fo) (b : Bool) : walkP (xs.drop xs.length) k n f b = some (k, n, f, b) := by simp [walkP]

theorem tree_drop {t a : Int} {b : Bool} (f : Fo) : ∀ i, f.tree t a b = true → (f.drop i).tree t a b = true := by
  induction f with
  | nil => intro i h; cases i <;> exact h
  | cons k n ks r _ ih => intro i h; cases i with
    | zero => exact h
    | succ i => rw [Fo.tree_cons, Bool.and_eq_true] at h; exact ih i h.2

theorem walkP_tree {t a : Int} : ∀ (xs : List Int) {k n : Int} {f : Fo} {b c : Bool} {k' n' : Int} {f' : Fo} {b' : Bool}, treeE t a c k n f = true → walkP xs k n f b = some (k', n', f', b') → ∃ c', treeE t a c' k' n' f' = true := by
  intro xs
  induction xs with
  | nil => intro k n f b c k' n' f' b' h e; simp only [walkP, Option.some.injEq, Prod.mk.injEq] at e; obtain ⟨rfl, rfl, rfl, _⟩ := e; exact ⟨c, h⟩
  | cons i r ih =>
    intro k n f b c k' n' f' b' h e
    simp only [walkP] at e
    by_cases hi : 0 ≤ i ∧ i < (f.len : Int)
    · rw [if_pos hi] at e
      obtain ⟨k1, n1, ks, r1, e1, _⟩ := f.drop_lt i.toNat (by omega)
      rw [e1] at e
      have ht : f.tree t a (c || k == 5) = true := by
        have := h; unfold treeE at this; simp only [Bool.and_eq_true] at this; exact this.2
      have h2 := tree_drop f i.toNat ht
      rw [e1, Fo.tree_cons, Bool.and_eq_true] at h2
      exact ih h2.1 e
    · rw [if_neg hi] at e; cases e

theorem walkP_nodes : ∀ (xs : List Int) {k n : Int} {f : Fo} {b : Bool} {k' n' : Int} {f' : Fo} {b' : Bool}, walkP xs k n f b = some (k', n', f', b') → f'.nodes ≤ f.nodes := by
  intro xs
  induction xs with
  | nil => intro k n f b k' n' f' b' e; simp only [walkP, Option.some.injEq, Prod.mk.injEq] at e; obtain ⟨rfl, rfl, rfl, _⟩ := e; exact Nat.le_refl _
  | cons i r ih =>
    intro k n f b k' n' f' b' e
    simp only [walkP] at e
    by_cases hi : 0 ≤ i ∧ i < (f.len : Int)
    · rw [if_pos hi] at e
      obtain ⟨k1, n1, ks, r1, e1, _⟩ := f.drop_lt i.toNat (by omega)
      rw [e1] at e
      have h1 := f.nodes_drop i.toNat
      rw [e1] at h1
      simp only [Fo.nodes] at h1
      have := ih e
      omega
    · rw [if_neg hi] at e; cases e

theorem or5 (b : Bool) (k : Int) : (b || k == 5) = (if b then true else (k == 5)) := by cases b <;> rfl
end Go.Proofs.Ytmblgkpgfofceaa

namespace Go.Proofs.Ytmblgkpgfofceaa
open Go.RowKit

/-- What nodeAt hands back. -/
def NAEnd (o : Option (Int × Int × Fo × Bool)) (w : World) (e : Ending) (w' : World) : Prop :=
  (∃ k n f b A C, o = some (k, n, f, b) ∧ e = .returned (.tuple #[.agg #[.int .i64 k, .int .i64 n, .slice A f.len C], .bool b, .bool true]) ∧ f.Lies w A ∧ Below w.heap.size w w') ∨
  (o = none ∧ e = .returned (.tuple #[.agg #[.int .i64 0, .int .i64 0, .slice none 0 0], .bool false, .bool false]) ∧ Below w.heap.size w w')

end Go.Proofs.Ytmblgkpgfofceaa

namespace Go.Proofs.Ytmblgkpgfofceaa
open Go.RowKit

/-- What SubtermAt answers. -/
def sbO (t a k n : Int) (f : Fo) (xs : List Int) : Int × Int × Fo × Int :=
  if validE t a k n f = true then (match walkP xs k n f false with | some (k', n', f', _) => (k', n', f', 0) | none => (0, 0, .nil, 2)) else (0, 0, .nil, 1)
def sbK (t a k n : Int) (f : Fo) (xs : List Int) : Int := (sbO t a k n f xs).1
def sbN (t a k n : Int) (f : Fo) (xs : List Int) : Int := (sbO t a k n f xs).2.1
def sbF (t a k n : Int) (f : Fo) (xs : List Int) : Fo := (sbO t a k n f xs).2.2.1
def sbC (t a k n : Int) (f : Fo) (xs : List Int) : Int := (sbO t a k n f xs).2.2.2
theorem sb_no {t a k n : Int} {f : Fo} (xs : List Int) (h : validE t a k n f = false) : sbO t a k n f xs = (0, 0, .nil, 1) := by unfold sbO; simp [h]
theorem sb_yes {t a k n : Int} {f : Fo} (xs : List Int) (h : validE t a k n f = true) : sbO t a k n f xs = (match walkP xs k n f false with | some (k', n', f', _) => (k', n', f', 0) | none => (0, 0, .nil, 2)) := by unfold sbO; simp [h]
theorem sbF_nodes (t a k n : Int) (f : Fo) (xs : List Int) (h : f.nodes ≤ 1048576) : (sbF t a k n f xs).nodes ≤ 1048576 := by
  unfold sbF sbO
  split
  · cases e : walkP xs k n f false with
    | none => exact Nat.zero_le _
    | some x => obtain ⟨k', n', f', b'⟩ := x; exact Nat.le_trans (walkP_nodes xs e) h
  · exact Nat.zero_le _

set_option maxRecDepth 100000 in
set_option maxHeartbeats 2000000 in
theorem copyExpr_any (t a : Int) (b : Bool) (k n : Int) (f : Fo) (h0 : f.nodes ≤ 1048576) (ht : treeE t a b k n f = true) (A : Option Addr) (C : Nat) (w : World) (hl : f.Lies w A) :
    Calls Try.prog 68 #[.agg #[.int .i64 k, .int .i64 n, .slice A f.len C]] w (ExEnd k n f w) := by
  have hz := ndE_size f k n
  obtain ⟨e1, e2, e3⟩ := ndE_all ht
  obtain ⟨v1, hv1⟩ : ∃ v : Value, v = (ndE f k n).val := ⟨_, rfl⟩
  have K4 : Hid (∀ W : World, Sees w W → Calls Try.prog 123 #[.agg #[.int .i64 k, .int .i64 n, .slice A f.len C]] W fun e w' => e = .returned v1 ∧ Below W.heap.size W w') :=
    fun W h => by rw [hv1]; exact nodeOf_any (f.nodes + 1) f (Nat.lt_succ_self _) h0 t a b k n A C W (hl.sees h) ht
  have K6 : Hid (∀ W : World, Calls Try.prog 122 #[v1] W (ExEnd k n f W)) := fun W => by
    have h := exprOf_any (ndE f k n) W (by omega)
    rw [e1, e2, e3, ← hv1] at h
    exact h
  clear hz e1 e2 e3 ht hv1
  have HL := Lib.hid hl
  clear hl
  go_enter Try.func68, Try.ntmps68
  go_wp2_with fail
  refine (K4.out _ (by unfold Sees; go_grown)).mono ?_
  rintro e w1 ⟨rfl, hb⟩
  have HBr : w1.heap[w.heap.size + 1]? = some (.cells #[.int .i64 0, .int .i64 0, .slice none 0 0] 46 (0, 0)) := (hb.block _ (by simp)).trans (heap_new _ _ _ (by simp))
  have S1 : Sees w w1 := Sees.below (by unfold Sees; go_grown) hb
  have zr : w.heap.size + 1 < w1.heap.size := (Array.getElem?_eq_some_iff.1 HBr).1
  clear hb
  go_wp2_with fail
  refine (K6.out _).mono ?_
  rintro e w2 ⟨A1, rfl, hX, hb⟩
  have HB2 := (hb.block _ zr).trans HBr
  have S2 := S1.below hb
  have z2 := hb.size
  have HX := Lib.hid hX
  clear hX hb
  obtain ⟨r0, r1, r2, g0, g1, g2⟩ := cells3 HB2
  go_wp2_with fail
  have HBF : (((w2.setCell ⟨w.heap.size + 1, 0, none⟩ (.int .i64 k)).setCell ⟨w.heap.size + 1, 1, none⟩ (.int .i64 n)).setCell ⟨w.heap.size + 1, 2, none⟩ (.slice A1 f.len f.len)).heap[w.heap.size + 1]? = some (.cells #[(.int .i64 k), (.int .i64 n), .slice A1 f.len f.len] 46 (0, 0)) := by
    rw [Fo.block_setCell (Fo.block_setCell (Fo.block_setCell HB2 _) _) _]; rfl
  obtain ⟨d0, d1, d2, _⟩ := cells3 HBF
  refine bodyPost_ret (v := .agg #[(.int .i64 k), (.int .i64 n), .slice A1 f.len f.len]) (by simp [results, Try.results68, go_sem, d0, d1, d2]) rfl ?_
  refine ⟨A1, rfl, ?_, Below.setCell (Below.setCell (Below.setCell S2 (by show w.heap.size ≤ w.heap.size + 1; omega) _) (by show w.heap.size ≤ w.heap.size + 1; omega) _) (by show w.heap.size ≤ w.heap.size + 1; omega) _⟩
  exact (HX.out.agree (Fo.Agree.setCell (Fo.Agree.setCell (Fo.Agree.setCell (Fo.Agree.refl _ _ _) _ (Or.inl zr) _) _ (Or.inl zr) _) _ (Or.inl zr) _)).mono (by omega) (by simp)

end Go.Proofs.Ytmblgkpgfofceaa

namespace Go.Proofs.Ytmblgkpgfofceaa
open Go.RowKit
set_option linter.unusedVariables false

set_option maxHeartbeats 20000000 in
set_option maxRecDepth 100000 in
theorem implPremiseExpr_any (t a : Int) (x : Pm) (hm : x.pf.nodes + x.qf.nodes ≤ 1048576) (hf : (x.pf.len ≤ 9223372036854775807 ∧ x.pf.Fits) ∧ (x.qf.len ≤ 9223372036854775807 ∧ x.qf.Fits)) (A B : Option Addr) (C D : Nat) (w : World) (hA : x.pf.Lies w A) (hB : x.qf.Lies w B) :
    Calls Try.prog 22 #[.agg #[.int .i64 t, .int .i64 a], .agg #[.int .i64 x.pk, .int .i64 x.pn, .slice A x.pf.len C, .int .i64 x.act, .int .i64 x.qk, .int .i64 x.qn, .slice B x.qf.len D]] w (XEnd (pxK t a x) 0 (pxG t a x) (pxC t a x) w) := by
  obtain ⟨q1, hq1⟩ : ∃ q : Bool, q = premB t a x := ⟨_, rfl⟩
  have K1 : Hid (∀ W : World, St w [(w.heap.size, 0, .int .i64 t), (w.heap.size, 1, .int .i64 a), (w.heap.size + 1, 0, .int .i64 x.pk), (w.heap.size + 1, 1, .int .i64 x.pn), (w.heap.size + 1, 2, .slice A x.pf.len C), (w.heap.size + 1, 3, .int .i64 x.act), (w.heap.size + 1, 4, .int .i64 x.qk), (w.heap.size + 1, 5, .int .i64 x.qn), (w.heap.size + 1, 6, .slice B x.qf.len D)] W → Calls Try.prog 64 #[.agg #[.int .i64 t, .int .i64 a], .agg #[.int .i64 x.pk, .int .i64 x.pn, .slice A x.pf.len C, .int .i64 x.act, .int .i64 x.qk, .int .i64 x.qn, .slice B x.qf.len D]] W fun e w' => e = .returned (.bool q1) ∧ Below W.heap.size W w') := fun W h => by
    rw [hq1]; exact validPremise_any t a x hm hf.1.2 hf.2.2 A B C D W (hA.sees h.1) (hB.sees h.1)
  obtain ⟨W0, hW0⟩ : ∃ W0, W0 = (((w.alloc (.cells #[.int .i64 t, .int .i64 a] 29)).alloc (.cells #[.int .i64 x.pk, .int .i64 x.pn, .slice A x.pf.len C, .int .i64 x.act, .int .i64 x.qk, .int .i64 x.qn, .slice B x.qf.len D] 50)).alloc (.cells #[.int .i64 0, .int .i64 0, .slice none 0 0] 46)) := ⟨_, rfl⟩
  have HS0 : Hid (St w [(w.heap.size, 0, .int .i64 t), (w.heap.size, 1, .int .i64 a), (w.heap.size + 1, 0, .int .i64 x.pk), (w.heap.size + 1, 1, .int .i64 x.pn), (w.heap.size + 1, 2, .slice A x.pf.len C), (w.heap.size + 1, 3, .int .i64 x.act), (w.heap.size + 1, 4, .int .i64 x.qk), (w.heap.size + 1, 5, .int .i64 x.qn), (w.heap.size + 1, 6, .slice B x.qf.len D)] W0) := by
    rw [hW0]; exact ⟨((((Sees.refl w).alloc _).alloc _).alloc _), (by simp [go_sem]), (by simp [go_sem]), (by simp [go_sem]), (by simp [go_sem]), (by simp [go_sem]), (by simp [go_sem]), (by simp [go_sem]), (by simp [go_sem]), (by simp [go_sem]), trivial⟩
  have HR0 : Hid (W0.heap[w.heap.size + 1 + 1]? = some (.cells #[.int .i64 0, .int .i64 0, .slice none 0 0] 46 (0, 0))) := by show _ = _; rw [hW0]; exact heap_new _ _ _ (by simp)
  have HZ0 : Hid (w.heap.size + 3 ≤ W0.heap.size) := by show _ ≤ _; rw [hW0]; simp
  cases q1
  · obtain ⟨d1, d2, d3⟩ := px_1 hq1.symm
    rw [d1, d2, d3]
    clear hq1 d1 d2 d3 hA hB hm hf
    go_enter Try.func22, Try.ntmps22
    go_wp2_with fail
    rw [← hW0]
    clear hW0
    refine (K1.out _ HS0.out).mono ?_
    rintro e w1 ⟨rfl, hb⟩
    have HS1 := Lib.hid (St.below HS0.out hb)
    have HR1 : Hid (w1.heap[w.heap.size + 1 + 1]? = some (.cells #[.int .i64 0, .int .i64 0, .slice none 0 0] 46 (0, 0))) := blk_below HR0.out hb
    have HZ1 : Hid (w.heap.size + 3 ≤ w1.heap.size) := Nat.le_trans HZ0.out hb.size
    clear hb HS0 HR0 HZ0 K1
    obtain ⟨sS, y0, y1, y2, y3, y4, y5, y6, y7, y8, _⟩ := HS1.out
    obtain ⟨c0, c1, c2, f0, f1, f2⟩ := cells3 HR1.out
    go_wp2_with fail
    have Bf : Below w.heap.size w (((w1.setCell ⟨w.heap.size + 1 + 1, 0, none⟩ (.int .i64 0)).setCell ⟨w.heap.size + 1 + 1, 1, none⟩ (.int .i64 0)).setCell ⟨w.heap.size + 1 + 1, 2, none⟩ (.slice none 0 0)) := (Below.setCell (p := ⟨w.heap.size + 1 + 1, 2, none⟩) (Below.setCell (p := ⟨w.heap.size + 1 + 1, 1, none⟩) (Below.setCell (p := ⟨w.heap.size + 1 + 1, 0, none⟩) HS1.out.1 (show w.heap.size ≤ w.heap.size + 1 + 1 by omega) _) (show w.heap.size ≤ w.heap.size + 1 + 1 by omega) _) (show w.heap.size ≤ w.heap.size + 1 + 1 by omega) _)
    have HBF : (((w1.setCell ⟨w.heap.size + 1 + 1, 0, none⟩ (.int .i64 0)).setCell ⟨w.heap.size + 1 + 1, 1, none⟩ (.int .i64 0)).setCell ⟨w.heap.size + 1 + 1, 2, none⟩ (.slice none 0 0)).heap[w.heap.size + 1 + 1]? = some (.cells #[.int .i64 0, .int .i64 0, .slice none 0 0] 46 (0, 0)) := by
      rw [Fo.block_setCell (Fo.block_setCell (Fo.block_setCell HR1.out _) _) _]; rfl
    generalize (((w1.setCell ⟨w.heap.size + 1 + 1, 0, none⟩ (.int .i64 0)).setCell ⟨w.heap.size + 1 + 1, 1, none⟩ (.int .i64 0)).setCell ⟨w.heap.size + 1 + 1, 2, none⟩ (.slice none 0 0)) = wj at Bf HBF ⊢
    obtain ⟨p0, p1, p2, _⟩ := cells3 HBF
    refine bodyPost_ret (v := .tuple #[.agg #[.int .i64 0, .int .i64 0, .slice none 0 0], .int .i64 1]) (by simp [results, Try.results22, go_sem, p0, p1, p2]) rfl ?_
    exact ⟨_, _, rfl, Fo.XIn.nil (by have := Bf.size; omega) _, Bf⟩
  obtain ⟨cc, hcc⟩ : ∃ c, c = pxC t a x := ⟨_, rfl⟩
  obtain ⟨gg, hgg⟩ : ∃ c, c = pxG t a x := ⟨_, rfl⟩
  obtain ⟨kk, hkk⟩ : ∃ c, c = pxK t a x := ⟨_, rfl⟩
  rw [← hcc, ← hgg, ← hkk]
  have hpb := hq1.symm
  obtain ⟨q2, hq2⟩ : ∃ q : Bool, q = validE t a 7 0 (pxF x) := ⟨_, rfl⟩
  have hsm : (pxF x).nodes ≤ 1048576 := by have := pm_small hpb; rw [pxF_nodes]; omega
  have K2 : Hid (∀ (W : World) (Z : Option Addr) (n : Nat), (pxF x).Lies W Z → Calls Try.prog 67 #[.agg #[.int .i64 t, .int .i64 a], .agg #[.int .i64 7, .int .i64 0, .slice Z 2 n]] W fun e w' => e = .returned (.bool q2) ∧ Below W.heap.size W w') := fun W Z n h => by rw [hq2]; exact implValidExpr_any t a 7 0 (pxF x) hsm Z n W h
  have K3 : Hid (q2 = true → ∀ (W : World) (Z : Option Addr) (n : Nat), (pxF x).Lies W Z → Calls Try.prog 68 #[.agg #[.int .i64 7, .int .i64 0, .slice Z 2 n]] W fun e w' => ∃ A', e = .returned (.agg #[.int .i64 7, .int .i64 0, .slice A' 2 2]) ∧ (pxF x).XIn w' W.heap.size w'.heap.size A' ∧ Below W.heap.size W w') := fun hq W Z n h => copyExpr_any t a false 7 0 (pxF x) hsm (validE_parts0 (by rw [← hq2]; exact hq)) Z n W h
  have HLI : Hid (x.pf.Lies w A ∧ x.qf.Lies w B) := ⟨hA, hB⟩
  have HE3 : Hid (q2 = false → cc = 3 ∧ gg = .nil ∧ kk = 0) := fun h => by rw [hcc, hgg, hkk]; exact px_3 hpb (by rw [← hq2]; exact h)
  have HE0 : Hid (q2 = true → cc = 0 ∧ gg = pxF x ∧ kk = 7) := fun h => by rw [hcc, hgg, hkk]; exact px_0 hpb (by rw [← hq2]; exact h)
  clear hq1 hpb hq2 hsm hm hf hA hB hcc hgg hkk
  go_enter Try.func22, Try.ntmps22
  go_wp2_with fail
  rw [← hW0]
  clear hW0
  refine (K1.out _ HS0.out).mono ?_
  rintro e w1 ⟨rfl, hb⟩
  have HS1 := Lib.hid (St.below HS0.out hb)
  have HR1 : Hid (w1.heap[w.heap.size + 1 + 1]? = some (.cells #[.int .i64 0, .int .i64 0, .slice none 0 0] 46 (0, 0))) := blk_below HR0.out hb
  have HZ1 : Hid (w.heap.size + 3 ≤ w1.heap.size) := Nat.le_trans HZ0.out hb.size
  clear hb HS0 HR0 HZ0 K1
  obtain ⟨sS, y0, y1, y2, y3, y4, y5, y6, y7, y8, _⟩ := HS1.out
  go_wp2_with fail
  clear sS y0 y1 y2 y3 y4 y5 y6 y7 y8
  go_cut [6] (fun sp wx => ∃ bA s1 s2 s3 : Nat, sp = .pointer (some ⟨bA, 0, none⟩) ∧ St w [(w.heap.size, 0, .int .i64 t), (w.heap.size, 1, .int .i64 a), (w.heap.size + 1, 0, .int .i64 x.pk), (w.heap.size + 1, 1, .int .i64 x.pn), (w.heap.size + 1, 2, .slice A x.pf.len C), (w.heap.size + 1, 3, .int .i64 x.act), (w.heap.size + 1, 4, .int .i64 x.qk), (w.heap.size + 1, 5, .int .i64 x.qn), (w.heap.size + 1, 6, .slice B x.qf.len D)] wx ∧ wx.heap[w.heap.size + 1 + 1]? = some (.cells #[.int .i64 0, .int .i64 0, .slice none 0 0] 46 (0, 0)) ∧ wx.heap[s1]? = some (.cells #[.int .i64 x.qk, .int .i64 x.qn, .slice B x.qf.len D] 46 (0, 0)) ∧ wx.heap[s2]? = some (.cells #[.int .i64 4, .int .i64 x.act, .slice none 0 0, .int .i64 5, .int .i64 0, .slice (some ⟨s1, 0, none⟩) 1 1] 46 (0, 0)) ∧ wx.heap[s3]? = some (.cells #[.int .i64 x.pk, .int .i64 x.pn, .slice A x.pf.len C, .int .i64 7, .int .i64 0, .slice (some ⟨s2, 0, none⟩) 2 2] 46 (0, 0)) ∧ wx.heap[bA]? = some (.cells #[.int .i64 7, .int .i64 0, .slice (some ⟨s3, 0, none⟩) 2 2] 46 (0, 0)) ∧ w.heap.size + 3 ≤ bA)
  case first =>
    clear K2 K3 HLI HE3 HE0
    refine wp_region_held_drew (S := fun w' => St w [(w.heap.size, 0, .int .i64 t), (w.heap.size, 1, .int .i64 a), (w.heap.size + 1, 0, .int .i64 x.pk), (w.heap.size + 1, 1, .int .i64 x.pn), (w.heap.size + 1, 2, .slice A x.pf.len C), (w.heap.size + 1, 3, .int .i64 x.act), (w.heap.size + 1, 4, .int .i64 x.qk), (w.heap.size + 1, 5, .int .i64 x.qn), (w.heap.size + 1, 6, .slice B x.qf.len D)] w') (by kernel_rfl) HS1.out.drew (fun HS => ?_)
    obtain ⟨w20, ew20⟩ : ∃ wn, wn = w1.drew := ⟨_, rfl⟩
    have HR : Hid (w20.heap[w.heap.size + 1 + 1]? = some (.cells #[.int .i64 0, .int .i64 0, .slice none 0 0] 46 (0, 0))) := by show _ = _; rw [ew20]; exact HR1.out
    have HZ : Hid (w.heap.size + 3 ≤ w20.heap.size) := by show _ ≤ _; rw [ew20]; exact HZ1.out
    rw [← ew20] at HS ⊢
    clear ew20 HR1 HZ1 HS1
    refine wpAnyH_take (i := 0) (oi := { dst := some 12, op := Op.fieldAddr 50 (Operand.tmp 3) 0, type := 0, pos := "l07_conditions.go:93", after := #[], guard := none }) (v := .pointer (some ⟨w.heap.size + 1, 0, none⟩)) rfl (by kernel_rfl) (by kernel_rfl) (by kernel_rfl) (fun _ _ _ h => h) (Or.inl ⟨rfl, fun W hW => by (obtain ⟨_, y0, y1, y2, y3, y4, y5, y6, y7, y8, _⟩ := hW; go_simp; try rfl)⟩) HS ?_
    try simp only [Act.put, List.setIfInBounds_toArray, List.set_cons_zero, List.set_cons_succ]
    refine wpAnyH_take (i := 1) (oi := { dst := some 13, op := Op.load 46 (Operand.tmp 12), type := 46, pos := "l07_conditions.go:93", after := #[{ on := 0, ground := Ground.data }], guard := none }) (v := .agg #[.int .i64 x.pk, .int .i64 x.pn, .slice A x.pf.len C]) rfl (by kernel_rfl) (by kernel_rfl) (by kernel_rfl) (fun _ _ _ h => h) (Or.inl ⟨rfl, fun W hW => by (obtain ⟨_, y0, y1, y2, y3, y4, y5, y6, y7, y8, _⟩ := hW; go_simp; try rfl)⟩) HS ?_
    try simp only [Act.put, List.setIfInBounds_toArray, List.set_cons_zero, List.set_cons_succ]
    refine wpAnyH_take (i := 2) (oi := { dst := some 14, op := Op.fieldAddr 50 (Operand.tmp 3) 1, type := 0, pos := "l07_conditions.go:93", after := #[], guard := none }) (v := .pointer (some ⟨w.heap.size + 1, 3, none⟩)) rfl (by kernel_rfl) (by kernel_rfl) (by kernel_rfl) (fun _ _ _ h => h) (Or.inl ⟨rfl, fun W hW => by (obtain ⟨_, y0, y1, y2, y3, y4, y5, y6, y7, y8, _⟩ := hW; go_simp; try rfl)⟩) HS ?_
    try simp only [Act.put, List.setIfInBounds_toArray, List.set_cons_zero, List.set_cons_succ]
    refine wpAnyH_take (i := 3) (oi := { dst := some 15, op := Op.load 2 (Operand.tmp 14), type := 2, pos := "l07_conditions.go:93", after := #[{ on := 2, ground := Ground.data }], guard := none }) (v := .int .i64 x.act) rfl (by kernel_rfl) (by kernel_rfl) (by kernel_rfl) (fun _ _ _ h => h) (Or.inl ⟨rfl, fun W hW => by (obtain ⟨_, y0, y1, y2, y3, y4, y5, y6, y7, y8, _⟩ := hW; go_simp; try rfl)⟩) HS ?_
    try simp only [Act.put, List.setIfInBounds_toArray, List.set_cons_zero, List.set_cons_succ]
    refine wpAnyH_take (i := 4) (oi := { dst := some 16, op := Op.build 46 #[(0, Operand.const (Value.int IntKind.i64 4)), (1, Operand.tmp 15)], type := 46, pos := "l07_conditions.go:93", after := #[{ on := 3, ground := Ground.data }], guard := none }) (v := .agg #[.int .i64 4, .int .i64 x.act, .slice none 0 0]) rfl (by kernel_rfl) (by kernel_rfl) (by kernel_rfl) (fun _ _ _ h => h) (Or.inl ⟨rfl, fun W hW => by (obtain ⟨_, y0, y1, y2, y3, y4, y5, y6, y7, y8, _⟩ := hW; go_simp; try rfl)⟩) HS ?_
    try simp only [Act.put, List.setIfInBounds_toArray, List.set_cons_zero, List.set_cons_succ]
    refine wpAnyH_take (i := 5) (oi := { dst := some 17, op := Op.fieldAddr 50 (Operand.tmp 3) 2, type := 0, pos := "l07_conditions.go:93", after := #[], guard := none }) (v := .pointer (some ⟨w.heap.size + 1, 4, none⟩)) rfl (by kernel_rfl) (by kernel_rfl) (by kernel_rfl) (fun _ _ _ h => h) (Or.inl ⟨rfl, fun W hW => by (obtain ⟨_, y0, y1, y2, y3, y4, y5, y6, y7, y8, _⟩ := hW; go_simp; try rfl)⟩) HS ?_
    try simp only [Act.put, List.setIfInBounds_toArray, List.set_cons_zero, List.set_cons_succ]
    refine wpAnyH_take (i := 6) (oi := { dst := some 18, op := Op.load 46 (Operand.tmp 17), type := 46, pos := "l07_conditions.go:93", after := #[{ on := 5, ground := Ground.data }], guard := none }) (v := .agg #[.int .i64 x.qk, .int .i64 x.qn, .slice B x.qf.len D]) rfl (by kernel_rfl) (by kernel_rfl) (by kernel_rfl) (fun _ _ _ h => h) (Or.inl ⟨rfl, fun W hW => by (obtain ⟨_, y0, y1, y2, y3, y4, y5, y6, y7, y8, _⟩ := hW; go_simp; try rfl)⟩) HS ?_
    try simp only [Act.put, List.setIfInBounds_toArray, List.set_cons_zero, List.set_cons_succ]
    refine wpAnyH_ready (rs := [7, 12]) (by kernel_rfl) (by simp) ?_
    refine (AllReadyH.cons (o := { dst := some 19, op := Op.buildSlice 44 1 #[(0, Operand.tmp 18)], type := 44, pos := "l07_conditions.go:93", after := #[{ on := 6, ground := Ground.data }], guard := none }) rfl (fun K hK => ?_) (AllReadyH.cons (o := { dst := some 6, op := Op.alloc 46, type := 0, pos := "l07_conditions.go:93", after := #[], guard := none }) rfl (fun K hK => ?_) AllReadyH.nil))
    · go_simp
      obtain ⟨w21, ewn⟩ : ∃ wn, wn = w20.alloc (.cells #[.int .i64 x.qk, .int .i64 x.qn, .slice B x.qf.len D] 46) := ⟨_, rfl⟩
      obtain ⟨s1, es1⟩ : ∃ n, n = w20.heap.size := ⟨_, rfl⟩
      rw [← ewn, ← es1]
      have H1 : Hid (w21.heap[s1]? = some (.cells #[.int .i64 x.qk, .int .i64 x.qn, .slice B x.qf.len D] 46 (0, 0))) := by show _ = _; rw [ewn]; exact heap_new _ _ _ es1
      have HS' : St w [(w.heap.size, 0, .int .i64 t), (w.heap.size, 1, .int .i64 a), (w.heap.size + 1, 0, .int .i64 x.pk), (w.heap.size + 1, 1, .int .i64 x.pn), (w.heap.size + 1, 2, .slice A x.pf.len C), (w.heap.size + 1, 3, .int .i64 x.act), (w.heap.size + 1, 4, .int .i64 x.qk), (w.heap.size + 1, 5, .int .i64 x.qn), (w.heap.size + 1, 6, .slice B x.qf.len D)] w21 := by rw [ewn]; exact HS.alloc _
      have zz := HZ.out
      have HZ' : Hid (w.heap.size + 3 ≤ w21.heap.size) := by show _ ≤ _; rw [ewn]; simp; omega
      have lHR := blk_lt HR.out
      have HR' : Hid (w21.heap[w.heap.size + 1 + 1]? = some (.cells #[.int .i64 0, .int .i64 0, .slice none 0 0] 46 (0, 0))) := by show _ = _; rw [ewn]; exact blk_alloc HR.out _
      clear HS HZ zz ewn es1 lHR
      have HS := HS'; clear HS'; have HZ := HZ'; clear HZ'
      clear HR; have HR := HR'; clear HR'
      refine hK.out _ _ HS (fun _ => ?_)
      clear hK K
      try simp only [Act.put, List.setIfInBounds_toArray, List.set_cons_zero, List.set_cons_succ]
      refine wpAnyH_ready (rs := [8, 12]) (by kernel_rfl) (by simp) ?_
      refine (AllReadyH.cons (o := { dst := some 20, op := Op.call { callee := Callee.value (Operand.func 66), args := #[Operand.const (Value.int IntKind.i64 5), Operand.tmp 19], argTypes := #[2, 44] }, type := 46, pos := "l07_conditions.go:93", after := #[{ on := 7, ground := Ground.data }], guard := none }) rfl (fun K hK => ?_) (AllReadyH.cons (o := { dst := some 6, op := Op.alloc 46, type := 0, pos := "l07_conditions.go:93", after := #[], guard := none }) rfl (fun K hK => ?_) AllReadyH.nil))
      · go_simp
        refine (exprWith_any 5 _ _ _ w21).mono ?_
        rintro e w22 ⟨rfl, hb⟩
        have HS' := St.below HS hb
        have zz := HZ.out
        have zb := hb.size
        have HZ' : Hid (w.heap.size + 3 ≤ w22.heap.size) := Nat.le_trans zz zb
        have lHR := blk_lt HR.out
        have lH1 := blk_lt H1.out
        have HR' : Hid (w22.heap[w.heap.size + 1 + 1]? = some (.cells #[.int .i64 0, .int .i64 0, .slice none 0 0] 46 (0, 0))) := blk_below HR.out hb
        have H1' : Hid (w22.heap[s1]? = some (.cells #[.int .i64 x.qk, .int .i64 x.qn, .slice B x.qf.len D] 46 (0, 0))) := blk_below H1.out hb
        clear HS HZ zz zb hb lHR lH1
        have HS := HS'; clear HS'; have HZ := HZ'; clear HZ'
        clear HR; have HR := HR'; clear HR'
        clear H1; have H1 := H1'; clear H1'
        go_wp2_with fail
        refine hK.out _ _ HS (fun _ => ?_)
        clear hK K
        try simp only [Act.put, List.setIfInBounds_toArray, List.set_cons_zero, List.set_cons_succ]
        refine wpAnyH_ready (rs := [9, 12]) (by kernel_rfl) (by simp) ?_
        refine (AllReadyH.cons (o := { dst := some 21, op := Op.buildSlice 44 2 #[(0, Operand.tmp 16), (1, Operand.tmp 20)], type := 44, pos := "l07_conditions.go:93", after := #[{ on := 4, ground := Ground.data }, { on := 8, ground := Ground.data }], guard := none }) rfl (fun K hK => ?_) (AllReadyH.cons (o := { dst := some 6, op := Op.alloc 46, type := 0, pos := "l07_conditions.go:93", after := #[], guard := none }) rfl (fun K hK => ?_) AllReadyH.nil))
        · go_simp
          obtain ⟨w23, ewn⟩ : ∃ wn, wn = w22.alloc (.cells #[.int .i64 4, .int .i64 x.act, .slice none 0 0, .int .i64 5, .int .i64 0, .slice (some ⟨s1, 0, none⟩) 1 1] 46) := ⟨_, rfl⟩
          obtain ⟨s2, es2⟩ : ∃ n, n = w22.heap.size := ⟨_, rfl⟩
          rw [← ewn, ← es2]
          have H2 : Hid (w23.heap[s2]? = some (.cells #[.int .i64 4, .int .i64 x.act, .slice none 0 0, .int .i64 5, .int .i64 0, .slice (some ⟨s1, 0, none⟩) 1 1] 46 (0, 0))) := by show _ = _; rw [ewn]; exact heap_new _ _ _ es2
          have HS' : St w [(w.heap.size, 0, .int .i64 t), (w.heap.size, 1, .int .i64 a), (w.heap.size + 1, 0, .int .i64 x.pk), (w.heap.size + 1, 1, .int .i64 x.pn), (w.heap.size + 1, 2, .slice A x.pf.len C), (w.heap.size + 1, 3, .int .i64 x.act), (w.heap.size + 1, 4, .int .i64 x.qk), (w.heap.size + 1, 5, .int .i64 x.qn), (w.heap.size + 1, 6, .slice B x.qf.len D)] w23 := by rw [ewn]; exact HS.alloc _
          have zz := HZ.out
          have HZ' : Hid (w.heap.size + 3 ≤ w23.heap.size) := by show _ ≤ _; rw [ewn]; simp; omega
          have lHR := blk_lt HR.out
          have lH1 := blk_lt H1.out
          have HR' : Hid (w23.heap[w.heap.size + 1 + 1]? = some (.cells #[.int .i64 0, .int .i64 0, .slice none 0 0] 46 (0, 0))) := by show _ = _; rw [ewn]; exact blk_alloc HR.out _
          have H1' : Hid (w23.heap[s1]? = some (.cells #[.int .i64 x.qk, .int .i64 x.qn, .slice B x.qf.len D] 46 (0, 0))) := by show _ = _; rw [ewn]; exact blk_alloc H1.out _
          clear HS HZ zz ewn es2 lHR lH1
          have HS := HS'; clear HS'; have HZ := HZ'; clear HZ'
          clear HR; have HR := HR'; clear HR'
          clear H1; have H1 := H1'; clear H1'
          refine hK.out _ _ HS (fun _ => ?_)
          clear hK K
          try simp only [Act.put, List.setIfInBounds_toArray, List.set_cons_zero, List.set_cons_succ]
          refine wpAnyH_ready (rs := [10, 12]) (by kernel_rfl) (by simp) ?_
          refine (AllReadyH.cons (o := { dst := some 22, op := Op.call { callee := Callee.value (Operand.func 66), args := #[Operand.const (Value.int IntKind.i64 7), Operand.tmp 21], argTypes := #[2, 44] }, type := 46, pos := "l07_conditions.go:93", after := #[{ on := 9, ground := Ground.data }, { on := 8, ground := Ground.chain }], guard := none }) rfl (fun K hK => ?_) (AllReadyH.cons (o := { dst := some 6, op := Op.alloc 46, type := 0, pos := "l07_conditions.go:93", after := #[], guard := none }) rfl (fun K hK => ?_) AllReadyH.nil))
          · go_simp
            refine (exprWith_any 7 _ _ _ w23).mono ?_
            rintro e w24 ⟨rfl, hb⟩
            have HS' := St.below HS hb
            have zz := HZ.out
            have zb := hb.size
            have HZ' : Hid (w.heap.size + 3 ≤ w24.heap.size) := Nat.le_trans zz zb
            have lHR := blk_lt HR.out
            have lH1 := blk_lt H1.out
            have lH2 := blk_lt H2.out
            have HR' : Hid (w24.heap[w.heap.size + 1 + 1]? = some (.cells #[.int .i64 0, .int .i64 0, .slice none 0 0] 46 (0, 0))) := blk_below HR.out hb
            have H1' : Hid (w24.heap[s1]? = some (.cells #[.int .i64 x.qk, .int .i64 x.qn, .slice B x.qf.len D] 46 (0, 0))) := blk_below H1.out hb
            have H2' : Hid (w24.heap[s2]? = some (.cells #[.int .i64 4, .int .i64 x.act, .slice none 0 0, .int .i64 5, .int .i64 0, .slice (some ⟨s1, 0, none⟩) 1 1] 46 (0, 0))) := blk_below H2.out hb
            clear HS HZ zz zb hb lHR lH1 lH2
            have HS := HS'; clear HS'; have HZ := HZ'; clear HZ'
            clear HR; have HR := HR'; clear HR'
            clear H1; have H1 := H1'; clear H1'
            clear H2; have H2 := H2'; clear H2'
            go_wp2_with fail
            refine hK.out _ _ HS (fun _ => ?_)
            clear hK K
            try simp only [Act.put, List.setIfInBounds_toArray, List.set_cons_zero, List.set_cons_succ]
            refine wpAnyH_ready (rs := [11, 12]) (by kernel_rfl) (by simp) ?_
            refine (AllReadyH.cons (o := { dst := some 23, op := Op.call { callee := Callee.value (Operand.func 65), args := #[Operand.tmp 13, Operand.tmp 22], argTypes := #[46, 46] }, type := 46, pos := "l07_conditions.go:93", after := #[{ on := 1, ground := Ground.data }, { on := 10, ground := Ground.data }, { on := 10, ground := Ground.chain }], guard := none }) rfl (fun K hK => ?_) (AllReadyH.cons (o := { dst := some 6, op := Op.alloc 46, type := 0, pos := "l07_conditions.go:93", after := #[], guard := none }) rfl (fun K hK => ?_) AllReadyH.nil))
            · go_simp
              refine (where_blk _ _ _ _ _ _ _ _ _ _ _ _ _ _ _ _ w24 rfl rfl rfl rfl rfl rfl).mono ?_
              rintro e w25 ⟨s3, rfl, hz3, hk3, hb⟩
              have HS' := St.below HS hb
              have zz := HZ.out
              have zb := hb.size
              have HZ' : Hid (w.heap.size + 3 ≤ w25.heap.size) := Nat.le_trans zz zb
              have lHR := blk_lt HR.out
              have lH1 := blk_lt H1.out
              have lH2 := blk_lt H2.out
              have H3 : Hid (w25.heap[s3]? = some (.cells #[.int .i64 x.pk, .int .i64 x.pn, .slice A x.pf.len C, .int .i64 7, .int .i64 0, .slice (some ⟨s2, 0, none⟩) 2 2] 46 (0, 0))) := hk3
              have HR' : Hid (w25.heap[w.heap.size + 1 + 1]? = some (.cells #[.int .i64 0, .int .i64 0, .slice none 0 0] 46 (0, 0))) := blk_below HR.out hb
              have H1' : Hid (w25.heap[s1]? = some (.cells #[.int .i64 x.qk, .int .i64 x.qn, .slice B x.qf.len D] 46 (0, 0))) := blk_below H1.out hb
              have H2' : Hid (w25.heap[s2]? = some (.cells #[.int .i64 4, .int .i64 x.act, .slice none 0 0, .int .i64 5, .int .i64 0, .slice (some ⟨s1, 0, none⟩) 1 1] 46 (0, 0))) := blk_below H2.out hb
              clear HS HZ zz zb hb lHR lH1 lH2
              have HS := HS'; clear HS'; have HZ := HZ'; clear HZ'
              clear HR; have HR := HR'; clear HR'
              clear H1; have H1 := H1'; clear H1'
              clear H2; have H2 := H2'; clear H2'
              go_wp2_with fail
              refine hK.out _ _ HS (fun _ => ?_)
              clear hK K
              try simp only [Act.put, List.setIfInBounds_toArray, List.set_cons_zero, List.set_cons_succ]
              refine wpAnyH_ready (rs := [12]) (by kernel_rfl) (by simp) ?_
              refine (AllReadyH.cons (o := { dst := some 6, op := Op.alloc 46, type := 0, pos := "l07_conditions.go:93", after := #[], guard := none }) rfl (fun K hK => ?_) AllReadyH.nil)
              · go_simp
                obtain ⟨w26, ewn⟩ : ∃ wn, wn = w25.alloc (.cells #[.int .i64 0, .int .i64 0, .slice none 0 0] 46) := ⟨_, rfl⟩
                obtain ⟨bA, ebA⟩ : ∃ n, n = w25.heap.size := ⟨_, rfl⟩
                rw [← ewn, ← ebA]
                have HA : Hid (w26.heap[bA]? = some (.cells #[.int .i64 0, .int .i64 0, .slice none 0 0] 46 (0, 0))) := by show _ = _; rw [ewn]; exact heap_new _ _ _ ebA
                have HS' : St w [(w.heap.size, 0, .int .i64 t), (w.heap.size, 1, .int .i64 a), (w.heap.size + 1, 0, .int .i64 x.pk), (w.heap.size + 1, 1, .int .i64 x.pn), (w.heap.size + 1, 2, .slice A x.pf.len C), (w.heap.size + 1, 3, .int .i64 x.act), (w.heap.size + 1, 4, .int .i64 x.qk), (w.heap.size + 1, 5, .int .i64 x.qn), (w.heap.size + 1, 6, .slice B x.qf.len D)] w26 := by rw [ewn]; exact HS.alloc _
                have zz := HZ.out
                have HZ' : Hid (w.heap.size + 3 ≤ w26.heap.size) := by show _ ≤ _; rw [ewn]; simp; omega
                have lHR := blk_lt HR.out
                have lH1 := blk_lt H1.out
                have lH2 := blk_lt H2.out
                have lH3 := blk_lt H3.out
                have nHR : w.heap.size + 1 + 1 ≠ bA := by omega
                have nH1 : s1 ≠ bA := by omega
                have nH2 : s2 ≠ bA := by omega
                have nH3 : s3 ≠ bA := by omega
                have nL : w.heap.size + 3 ≤ bA := by omega
                have HR' : Hid (w26.heap[w.heap.size + 1 + 1]? = some (.cells #[.int .i64 0, .int .i64 0, .slice none 0 0] 46 (0, 0))) := by show _ = _; rw [ewn]; exact blk_alloc HR.out _
                have H1' : Hid (w26.heap[s1]? = some (.cells #[.int .i64 x.qk, .int .i64 x.qn, .slice B x.qf.len D] 46 (0, 0))) := by show _ = _; rw [ewn]; exact blk_alloc H1.out _
                have H2' : Hid (w26.heap[s2]? = some (.cells #[.int .i64 4, .int .i64 x.act, .slice none 0 0, .int .i64 5, .int .i64 0, .slice (some ⟨s1, 0, none⟩) 1 1] 46 (0, 0))) := by show _ = _; rw [ewn]; exact blk_alloc H2.out _
                have H3' : Hid (w26.heap[s3]? = some (.cells #[.int .i64 x.pk, .int .i64 x.pn, .slice A x.pf.len C, .int .i64 7, .int .i64 0, .slice (some ⟨s2, 0, none⟩) 2 2] 46 (0, 0))) := by show _ = _; rw [ewn]; exact blk_alloc H3.out _
                clear HS HZ zz ewn ebA lHR lH1 lH2 lH3
                have HS := HS'; clear HS'; have HZ := HZ'; clear HZ'
                clear HR; have HR := HR'; clear HR'
                clear H1; have H1 := H1'; clear H1'
                clear H2; have H2 := H2'; clear H2'
                clear H3; have H3 := H3'; clear H3'
                refine hK.out _ _ HS (fun _ => ?_)
                clear hK K
                try simp only [Act.put, List.setIfInBounds_toArray, List.set_cons_zero, List.set_cons_succ]
                refine wpAnyH_ready (rs := [13]) (by kernel_rfl) (by simp) ?_
                refine AllReadyH.cons (o := { dst := none, op := Op.store 46 (Operand.tmp 6) (Operand.tmp 23), type := 0, pos := "l07_conditions.go:93", after := #[{ on := 12, ground := Ground.data }, { on := 11, ground := Ground.data }, { on := 11, ground := Ground.chain }, { on := 0, ground := Ground.phase }, { on := 1, ground := Ground.phase }, { on := 2, ground := Ground.phase }, { on := 3, ground := Ground.phase }, { on := 4, ground := Ground.phase }, { on := 5, ground := Ground.phase }, { on := 6, ground := Ground.phase }, { on := 7, ground := Ground.phase }, { on := 8, ground := Ground.phase }, { on := 9, ground := Ground.phase }, { on := 10, ground := Ground.phase }, { on := 11, ground := Ground.phase }, { on := 12, ground := Ground.phase }], guard := none }) rfl (fun K hK => ?_) AllReadyH.nil
                obtain ⟨d0, d1, d2, g0, g1, g2⟩ := cells3 HA.out
                go_simp
                obtain ⟨w27, ewn⟩ : ∃ wn, wn = (((w26.setCell ⟨bA, 0, none⟩ (.int .i64 7)).setCell ⟨bA, 1, none⟩ (.int .i64 0)).setCell ⟨bA, 2, none⟩ (.slice (some ⟨s3, 0, none⟩) 2 2)) := ⟨_, rfl⟩
                rw [← ewn]
                have HS' : St w [(w.heap.size, 0, .int .i64 t), (w.heap.size, 1, .int .i64 a), (w.heap.size + 1, 0, .int .i64 x.pk), (w.heap.size + 1, 1, .int .i64 x.pn), (w.heap.size + 1, 2, .slice A x.pf.len C), (w.heap.size + 1, 3, .int .i64 x.act), (w.heap.size + 1, 4, .int .i64 x.qk), (w.heap.size + 1, 5, .int .i64 x.qn), (w.heap.size + 1, 6, .slice B x.qf.len D)] w27 := by rw [ewn]; exact (St.put (b := bA) (St.put (b := bA) (St.put (b := bA) HS (by simp; omega) (by omega) 0 (.int .i64 7)) (by simp; omega) (by omega) 1 (.int .i64 0)) (by simp; omega) (by omega) 2 (.slice (some ⟨s3, 0, none⟩) 2 2))
                have HR' : Hid (w27.heap[w.heap.size + 1 + 1]? = some (.cells #[.int .i64 0, .int .i64 0, .slice none 0 0] 46 (0, 0))) := by show _ = _; rw [ewn]; exact (blk_set (c := bA) (blk_set (c := bA) (blk_set (c := bA) HR.out nHR 0 (.int .i64 7)) nHR 1 (.int .i64 0)) nHR 2 (.slice (some ⟨s3, 0, none⟩) 2 2))
                have H1' : Hid (w27.heap[s1]? = some (.cells #[.int .i64 x.qk, .int .i64 x.qn, .slice B x.qf.len D] 46 (0, 0))) := by show _ = _; rw [ewn]; exact (blk_set (c := bA) (blk_set (c := bA) (blk_set (c := bA) H1.out nH1 0 (.int .i64 7)) nH1 1 (.int .i64 0)) nH1 2 (.slice (some ⟨s3, 0, none⟩) 2 2))
                have H2' : Hid (w27.heap[s2]? = some (.cells #[.int .i64 4, .int .i64 x.act, .slice none 0 0, .int .i64 5, .int .i64 0, .slice (some ⟨s1, 0, none⟩) 1 1] 46 (0, 0))) := by show _ = _; rw [ewn]; exact (blk_set (c := bA) (blk_set (c := bA) (blk_set (c := bA) H2.out nH2 0 (.int .i64 7)) nH2 1 (.int .i64 0)) nH2 2 (.slice (some ⟨s3, 0, none⟩) 2 2))
                have H3' : Hid (w27.heap[s3]? = some (.cells #[.int .i64 x.pk, .int .i64 x.pn, .slice A x.pf.len C, .int .i64 7, .int .i64 0, .slice (some ⟨s2, 0, none⟩) 2 2] 46 (0, 0))) := by show _ = _; rw [ewn]; exact (blk_set (c := bA) (blk_set (c := bA) (blk_set (c := bA) H3.out nH3 0 (.int .i64 7)) nH3 1 (.int .i64 0)) nH3 2 (.slice (some ⟨s3, 0, none⟩) 2 2))
                have HA' : Hid (w27.heap[bA]? = some (.cells #[.int .i64 7, .int .i64 0, .slice (some ⟨s3, 0, none⟩) 2 2] 46 (0, 0))) := by show _ = _; rw [ewn, Fo.block_setCell (Fo.block_setCell (Fo.block_setCell HA.out _) _) _]; rfl
                clear HS ewn d0 d1 d2 g0 g1 g2
                have HS := HS'; clear HS'
                clear HR; have HR := HR'; clear HR'
                clear H1; have H1 := H1'; clear H1'
                clear H2; have H2 := H2'; clear H2'
                clear H3; have H3 := H3'; clear H3'
                clear HA; have HA := HA'; clear HA'
                refine hK.out _ _ HS (fun _ => ?_)
                clear hK K
                try simp only [Act.put]
                refine wpAnyH_done (by kernel_rfl) ?_ _
                go_wp2_with fail
                go_meet
                exact ⟨bA, s1, s2, s3, rfl, HS, HR.out, H1.out, H2.out, H3.out, HA.out, nL⟩
            · go_simp
              obtain ⟨w28, ewn⟩ : ∃ wn, wn = w24.alloc (.cells #[.int .i64 0, .int .i64 0, .slice none 0 0] 46) := ⟨_, rfl⟩
              obtain ⟨bA, ebA⟩ : ∃ n, n = w24.heap.size := ⟨_, rfl⟩
              rw [← ewn, ← ebA]
              have HA : Hid (w28.heap[bA]? = some (.cells #[.int .i64 0, .int .i64 0, .slice none 0 0] 46 (0, 0))) := by show _ = _; rw [ewn]; exact heap_new _ _ _ ebA
              have HS' : St w [(w.heap.size, 0, .int .i64 t), (w.heap.size, 1, .int .i64 a), (w.heap.size + 1, 0, .int .i64 x.pk), (w.heap.size + 1, 1, .int .i64 x.pn), (w.heap.size + 1, 2, .slice A x.pf.len C), (w.heap.size + 1, 3, .int .i64 x.act), (w.heap.size + 1, 4, .int .i64 x.qk), (w.heap.size + 1, 5, .int .i64 x.qn), (w.heap.size + 1, 6, .slice B x.qf.len D)] w28 := by rw [ewn]; exact HS.alloc _
              have zz := HZ.out
              have HZ' : Hid (w.heap.size + 3 ≤ w28.heap.size) := by show _ ≤ _; rw [ewn]; simp; omega
              have lHR := blk_lt HR.out
              have lH1 := blk_lt H1.out
              have lH2 := blk_lt H2.out
              have nHR : w.heap.size + 1 + 1 ≠ bA := by omega
              have nH1 : s1 ≠ bA := by omega
              have nH2 : s2 ≠ bA := by omega
              have nL : w.heap.size + 3 ≤ bA := by omega
              have HR' : Hid (w28.heap[w.heap.size + 1 + 1]? = some (.cells #[.int .i64 0, .int .i64 0, .slice none 0 0] 46 (0, 0))) := by show _ = _; rw [ewn]; exact blk_alloc HR.out _
              have H1' : Hid (w28.heap[s1]? = some (.cells #[.int .i64 x.qk, .int .i64 x.qn, .slice B x.qf.len D] 46 (0, 0))) := by show _ = _; rw [ewn]; exact blk_alloc H1.out _
              have H2' : Hid (w28.heap[s2]? = some (.cells #[.int .i64 4, .int .i64 x.act, .slice none 0 0, .int .i64 5, .int .i64 0, .slice (some ⟨s1, 0, none⟩) 1 1] 46 (0, 0))) := by show _ = _; rw [ewn]; exact blk_alloc H2.out _
              clear HS HZ zz ewn ebA lHR lH1 lH2
              have HS := HS'; clear HS'; have HZ := HZ'; clear HZ'
              clear HR; have HR := HR'; clear HR'
              clear H1; have H1 := H1'; clear H1'
              clear H2; have H2 := H2'; clear H2'
              refine hK.out _ _ HS (fun _ => ?_)
              clear hK K
              try simp only [Act.put, List.setIfInBounds_toArray, List.set_cons_zero, List.set_cons_succ]
              refine wpAnyH_ready (rs := [11]) (by kernel_rfl) (by simp) ?_
              refine (AllReadyH.cons (o := { dst := some 23, op := Op.call { callee := Callee.value (Operand.func 65), args := #[Operand.tmp 13, Operand.tmp 22], argTypes := #[46, 46] }, type := 46, pos := "l07_conditions.go:93", after := #[{ on := 1, ground := Ground.data }, { on := 10, ground := Ground.data }, { on := 10, ground := Ground.chain }], guard := none }) rfl (fun K hK => ?_) AllReadyH.nil)
              · go_simp
                refine (where_blk _ _ _ _ _ _ _ _ _ _ _ _ _ _ _ _ w28 rfl rfl rfl rfl rfl rfl).mono ?_
                rintro e w29 ⟨s3, rfl, hz3, hk3, hb⟩
                have HS' := St.below HS hb
                have zz := HZ.out
                have zb := hb.size
                have HZ' : Hid (w.heap.size + 3 ≤ w29.heap.size) := Nat.le_trans zz zb
                have lHR := blk_lt HR.out
                have lH1 := blk_lt H1.out
                have lH2 := blk_lt H2.out
                have lHA := blk_lt HA.out
                have H3 : Hid (w29.heap[s3]? = some (.cells #[.int .i64 x.pk, .int .i64 x.pn, .slice A x.pf.len C, .int .i64 7, .int .i64 0, .slice (some ⟨s2, 0, none⟩) 2 2] 46 (0, 0))) := hk3
                have nH3 : s3 ≠ bA := by omega
                have HR' : Hid (w29.heap[w.heap.size + 1 + 1]? = some (.cells #[.int .i64 0, .int .i64 0, .slice none 0 0] 46 (0, 0))) := blk_below HR.out hb
                have H1' : Hid (w29.heap[s1]? = some (.cells #[.int .i64 x.qk, .int .i64 x.qn, .slice B x.qf.len D] 46 (0, 0))) := blk_below H1.out hb
                have H2' : Hid (w29.heap[s2]? = some (.cells #[.int .i64 4, .int .i64 x.act, .slice none 0 0, .int .i64 5, .int .i64 0, .slice (some ⟨s1, 0, none⟩) 1 1] 46 (0, 0))) := blk_below H2.out hb
                have HA' : Hid (w29.heap[bA]? = some (.cells #[.int .i64 0, .int .i64 0, .slice none 0 0] 46 (0, 0))) := blk_below HA.out hb
                clear HS HZ zz zb hb lHR lH1 lH2 lHA
                have HS := HS'; clear HS'; have HZ := HZ'; clear HZ'
                clear HR; have HR := HR'; clear HR'
                clear H1; have H1 := H1'; clear H1'
                clear H2; have H2 := H2'; clear H2'
                clear HA; have HA := HA'; clear HA'
                go_wp2_with fail
                refine hK.out _ _ HS (fun _ => ?_)
                clear hK K
                try simp only [Act.put, List.setIfInBounds_toArray, List.set_cons_zero, List.set_cons_succ]
                refine wpAnyH_ready (rs := [13]) (by kernel_rfl) (by simp) ?_
                refine AllReadyH.cons (o := { dst := none, op := Op.store 46 (Operand.tmp 6) (Operand.tmp 23), type := 0, pos := "l07_conditions.go:93", after := #[{ on := 12, ground := Ground.data }, { on := 11, ground := Ground.data }, { on := 11, ground := Ground.chain }, { on := 0, ground := Ground.phase }, { on := 1, ground := Ground.phase }, { on := 2, ground := Ground.phase }, { on := 3, ground := Ground.phase }, { on := 4, ground := Ground.phase }, { on := 5, ground := Ground.phase }, { on := 6, ground := Ground.phase }, { on := 7, ground := Ground.phase }, { on := 8, ground := Ground.phase }, { on := 9, ground := Ground.phase }, { on := 10, ground := Ground.phase }, { on := 11, ground := Ground.phase }, { on := 12, ground := Ground.phase }], guard := none }) rfl (fun K hK => ?_) AllReadyH.nil
                obtain ⟨d0, d1, d2, g0, g1, g2⟩ := cells3 HA.out
                go_simp
                obtain ⟨w30, ewn⟩ : ∃ wn, wn = (((w29.setCell ⟨bA, 0, none⟩ (.int .i64 7)).setCell ⟨bA, 1, none⟩ (.int .i64 0)).setCell ⟨bA, 2, none⟩ (.slice (some ⟨s3, 0, none⟩) 2 2)) := ⟨_, rfl⟩
                rw [← ewn]
                have HS' : St w [(w.heap.size, 0, .int .i64 t), (w.heap.size, 1, .int .i64 a), (w.heap.size + 1, 0, .int .i64 x.pk), (w.heap.size + 1, 1, .int .i64 x.pn), (w.heap.size + 1, 2, .slice A x.pf.len C), (w.heap.size + 1, 3, .int .i64 x.act), (w.heap.size + 1, 4, .int .i64 x.qk), (w.heap.size + 1, 5, .int .i64 x.qn), (w.heap.size + 1, 6, .slice B x.qf.len D)] w30 := by rw [ewn]; exact (St.put (b := bA) (St.put (b := bA) (St.put (b := bA) HS (by simp; omega) (by omega) 0 (.int .i64 7)) (by simp; omega) (by omega) 1 (.int .i64 0)) (by simp; omega) (by omega) 2 (.slice (some ⟨s3, 0, none⟩) 2 2))
                have HR' : Hid (w30.heap[w.heap.size + 1 + 1]? = some (.cells #[.int .i64 0, .int .i64 0, .slice none 0 0] 46 (0, 0))) := by show _ = _; rw [ewn]; exact (blk_set (c := bA) (blk_set (c := bA) (blk_set (c := bA) HR.out nHR 0 (.int .i64 7)) nHR 1 (.int .i64 0)) nHR 2 (.slice (some ⟨s3, 0, none⟩) 2 2))
                have H1' : Hid (w30.heap[s1]? = some (.cells #[.int .i64 x.qk, .int .i64 x.qn, .slice B x.qf.len D] 46 (0, 0))) := by show _ = _; rw [ewn]; exact (blk_set (c := bA) (blk_set (c := bA) (blk_set (c := bA) H1.out nH1 0 (.int .i64 7)) nH1 1 (.int .i64 0)) nH1 2 (.slice (some ⟨s3, 0, none⟩) 2 2))
                have H2' : Hid (w30.heap[s2]? = some (.cells #[.int .i64 4, .int .i64 x.act, .slice none 0 0, .int .i64 5, .int .i64 0, .slice (some ⟨s1, 0, none⟩) 1 1] 46 (0, 0))) := by show _ = _; rw [ewn]; exact (blk_set (c := bA) (blk_set (c := bA) (blk_set (c := bA) H2.out nH2 0 (.int .i64 7)) nH2 1 (.int .i64 0)) nH2 2 (.slice (some ⟨s3, 0, none⟩) 2 2))
                have HA' : Hid (w30.heap[bA]? = some (.cells #[.int .i64 7, .int .i64 0, .slice (some ⟨s3, 0, none⟩) 2 2] 46 (0, 0))) := by show _ = _; rw [ewn, Fo.block_setCell (Fo.block_setCell (Fo.block_setCell HA.out _) _) _]; rfl
                have H3' : Hid (w30.heap[s3]? = some (.cells #[.int .i64 x.pk, .int .i64 x.pn, .slice A x.pf.len C, .int .i64 7, .int .i64 0, .slice (some ⟨s2, 0, none⟩) 2 2] 46 (0, 0))) := by show _ = _; rw [ewn]; exact (blk_set (c := bA) (blk_set (c := bA) (blk_set (c := bA) H3.out nH3 0 (.int .i64 7)) nH3 1 (.int .i64 0)) nH3 2 (.slice (some ⟨s3, 0, none⟩) 2 2))
                clear HS ewn d0 d1 d2 g0 g1 g2
                have HS := HS'; clear HS'
                clear HR; have HR := HR'; clear HR'
                clear H1; have H1 := H1'; clear H1'
                clear H2; have H2 := H2'; clear H2'
                clear HA; have HA := HA'; clear HA'
                clear H3; have H3 := H3'; clear H3'
                refine hK.out _ _ HS (fun _ => ?_)
                clear hK K
                try simp only [Act.put]
                refine wpAnyH_done (by kernel_rfl) ?_ _
                go_wp2_with fail
                go_meet
                exact ⟨bA, s1, s2, s3, rfl, HS, HR.out, H1.out, H2.out, H3.out, HA.out, nL⟩
          · go_simp
            obtain ⟨w31, ewn⟩ : ∃ wn, wn = w23.alloc (.cells #[.int .i64 0, .int .i64 0, .slice none 0 0] 46) := ⟨_, rfl⟩
            obtain ⟨bA, ebA⟩ : ∃ n, n = w23.heap.size := ⟨_, rfl⟩
            rw [← ewn, ← ebA]
            have HA : Hid (w31.heap[bA]? = some (.cells #[.int .i64 0, .int .i64 0, .slice none 0 0] 46 (0, 0))) := by show _ = _; rw [ewn]; exact heap_new _ _ _ ebA
            have HS' : St w [(w.heap.size, 0, .int .i64 t), (w.heap.size, 1, .int .i64 a), (w.heap.size + 1, 0, .int .i64 x.pk), (w.heap.size + 1, 1, .int .i64 x.pn), (w.heap.size + 1, 2, .slice A x.pf.len C), (w.heap.size + 1, 3, .int .i64 x.act), (w.heap.size + 1, 4, .int .i64 x.qk), (w.heap.size + 1, 5, .int .i64 x.qn), (w.heap.size + 1, 6, .slice B x.qf.len D)] w31 := by rw [ewn]; exact HS.alloc _
            have zz := HZ.out
            have HZ' : Hid (w.heap.size + 3 ≤ w31.heap.size) := by show _ ≤ _; rw [ewn]; simp; omega
            have lHR := blk_lt HR.out
            have lH1 := blk_lt H1.out
            have lH2 := blk_lt H2.out
            have nHR : w.heap.size + 1 + 1 ≠ bA := by omega
            have nH1 : s1 ≠ bA := by omega
            have nH2 : s2 ≠ bA := by omega
            have nL : w.heap.size + 3 ≤ bA := by omega
            have HR' : Hid (w31.heap[w.heap.size + 1 + 1]? = some (.cells #[.int .i64 0, .int .i64 0, .slice none 0 0] 46 (0, 0))) := by show _ = _; rw [ewn]; exact blk_alloc HR.out _
            have H1' : Hid (w31.heap[s1]? = some (.cells #[.int .i64 x.qk, .int .i64 x.qn, .slice B x.qf.len D] 46 (0, 0))) := by show _ = _; rw [ewn]; exact blk_alloc H1.out _
            have H2' : Hid (w31.heap[s2]? = some (.cells #[.int .i64 4, .int .i64 x.act, .slice none 0 0, .int .i64 5, .int .i64 0, .slice (some ⟨s1, 0, none⟩) 1 1] 46 (0, 0))) := by show _ = _; rw [ewn]; exact blk_alloc H2.out _
            clear HS HZ zz ewn ebA lHR lH1 lH2
            have HS := HS'; clear HS'; have HZ := HZ'; clear HZ'
            clear HR; have HR := HR'; clear HR'
            clear H1; have H1 := H1'; clear H1'
            clear H2; have H2 := H2'; clear H2'
            refine hK.out _ _ HS (fun _ => ?_)
            clear hK K
            try simp only [Act.put, List.setIfInBounds_toArray, List.set_cons_zero, List.set_cons_succ]
            refine wpAnyH_ready (rs := [10]) (by kernel_rfl) (by simp) ?_
            refine (AllReadyH.cons (o := { dst := some 22, op := Op.call { callee := Callee.value (Operand.func 66), args := #[Operand.const (Value.int IntKind.i64 7), Operand.tmp 21], argTypes := #[2, 44] }, type := 46, pos := "l07_conditions.go:93", after := #[{ on := 9, ground := Ground.data }, { on := 8, ground := Ground.chain }], guard := none }) rfl (fun K hK => ?_) AllReadyH.nil)
            · go_simp
              refine (exprWith_any 7 _ _ _ w31).mono ?_
              rintro e w32 ⟨rfl, hb⟩
              have HS' := St.below HS hb
              have zz := HZ.out
              have zb := hb.size
              have HZ' : Hid (w.heap.size + 3 ≤ w32.heap.size) := Nat.le_trans zz zb
              have lHR := blk_lt HR.out
              have lH1 := blk_lt H1.out
              have lH2 := blk_lt H2.out
              have lHA := blk_lt HA.out
              have HR' : Hid (w32.heap[w.heap.size + 1 + 1]? = some (.cells #[.int .i64 0, .int .i64 0, .slice none 0 0] 46 (0, 0))) := blk_below HR.out hb
              have H1' : Hid (w32.heap[s1]? = some (.cells #[.int .i64 x.qk, .int .i64 x.qn, .slice B x.qf.len D] 46 (0, 0))) := blk_below H1.out hb
              have H2' : Hid (w32.heap[s2]? = some (.cells #[.int .i64 4, .int .i64 x.act, .slice none 0 0, .int .i64 5, .int .i64 0, .slice (some ⟨s1, 0, none⟩) 1 1] 46 (0, 0))) := blk_below H2.out hb
              have HA' : Hid (w32.heap[bA]? = some (.cells #[.int .i64 0, .int .i64 0, .slice none 0 0] 46 (0, 0))) := blk_below HA.out hb
              clear HS HZ zz zb hb lHR lH1 lH2 lHA
              have HS := HS'; clear HS'; have HZ := HZ'; clear HZ'
              clear HR; have HR := HR'; clear HR'
              clear H1; have H1 := H1'; clear H1'
              clear H2; have H2 := H2'; clear H2'
              clear HA; have HA := HA'; clear HA'
              go_wp2_with fail
              refine hK.out _ _ HS (fun _ => ?_)
              clear hK K
              try simp only [Act.put, List.setIfInBounds_toArray, List.set_cons_zero, List.set_cons_succ]
              refine wpAnyH_ready (rs := [11]) (by kernel_rfl) (by simp) ?_
              refine (AllReadyH.cons (o := { dst := some 23, op := Op.call { callee := Callee.value (Operand.func 65), args := #[Operand.tmp 13, Operand.tmp 22], argTypes := #[46, 46] }, type := 46, pos := "l07_conditions.go:93", after := #[{ on := 1, ground := Ground.data }, { on := 10, ground := Ground.data }, { on := 10, ground := Ground.chain }], guard := none }) rfl (fun K hK => ?_) AllReadyH.nil)
              · go_simp
                refine (where_blk _ _ _ _ _ _ _ _ _ _ _ _ _ _ _ _ w32 rfl rfl rfl rfl rfl rfl).mono ?_
                rintro e w33 ⟨s3, rfl, hz3, hk3, hb⟩
                have HS' := St.below HS hb
                have zz := HZ.out
                have zb := hb.size
                have HZ' : Hid (w.heap.size + 3 ≤ w33.heap.size) := Nat.le_trans zz zb
                have lHR := blk_lt HR.out
                have lH1 := blk_lt H1.out
                have lH2 := blk_lt H2.out
                have lHA := blk_lt HA.out
                have H3 : Hid (w33.heap[s3]? = some (.cells #[.int .i64 x.pk, .int .i64 x.pn, .slice A x.pf.len C, .int .i64 7, .int .i64 0, .slice (some ⟨s2, 0, none⟩) 2 2] 46 (0, 0))) := hk3
                have nH3 : s3 ≠ bA := by omega
                have HR' : Hid (w33.heap[w.heap.size + 1 + 1]? = some (.cells #[.int .i64 0, .int .i64 0, .slice none 0 0] 46 (0, 0))) := blk_below HR.out hb
                have H1' : Hid (w33.heap[s1]? = some (.cells #[.int .i64 x.qk, .int .i64 x.qn, .slice B x.qf.len D] 46 (0, 0))) := blk_below H1.out hb
                have H2' : Hid (w33.heap[s2]? = some (.cells #[.int .i64 4, .int .i64 x.act, .slice none 0 0, .int .i64 5, .int .i64 0, .slice (some ⟨s1, 0, none⟩) 1 1] 46 (0, 0))) := blk_below H2.out hb
                have HA' : Hid (w33.heap[bA]? = some (.cells #[.int .i64 0, .int .i64 0, .slice none 0 0] 46 (0, 0))) := blk_below HA.out hb
                clear HS HZ zz zb hb lHR lH1 lH2 lHA
                have HS := HS'; clear HS'; have HZ := HZ'; clear HZ'
                clear HR; have HR := HR'; clear HR'
                clear H1; have H1 := H1'; clear H1'
                clear H2; have H2 := H2'; clear H2'
                clear HA; have HA := HA'; clear HA'
                go_wp2_with fail
                refine hK.out _ _ HS (fun _ => ?_)
                clear hK K
                try simp only [Act.put, List.setIfInBounds_toArray, List.set_cons_zero, List.set_cons_succ]
                refine wpAnyH_ready (rs := [13]) (by kernel_rfl) (by simp) ?_
                refine AllReadyH.cons (o := { dst := none, op := Op.store 46 (Operand.tmp 6) (Operand.tmp 23), type := 0, pos := "l07_conditions.go:93", after := #[{ on := 12, ground := Ground.data }, { on := 11, ground := Ground.data }, { on := 11, ground := Ground.chain }, { on := 0, ground := Ground.phase }, { on := 1, ground := Ground.phase }, { on := 2, ground := Ground.phase }, { on := 3, ground := Ground.phase }, { on := 4, ground := Ground.phase }, { on := 5, ground := Ground.phase }, { on := 6, ground := Ground.phase }, { on := 7, ground := Ground.phase }, { on := 8, ground := Ground.phase }, { on := 9, ground := Ground.phase }, { on := 10, ground := Ground.phase }, { on := 11, ground := Ground.phase }, { on := 12, ground := Ground.phase }], guard := none }) rfl (fun K hK => ?_) AllReadyH.nil
                obtain ⟨d0, d1, d2, g0, g1, g2⟩ := cells3 HA.out
                go_simp
                obtain ⟨w34, ewn⟩ : ∃ wn, wn = (((w33.setCell ⟨bA, 0, none⟩ (.int .i64 7)).setCell ⟨bA, 1, none⟩ (.int .i64 0)).setCell ⟨bA, 2, none⟩ (.slice (some ⟨s3, 0, none⟩) 2 2)) := ⟨_, rfl⟩
                rw [← ewn]
                have HS' : St w [(w.heap.size, 0, .int .i64 t), (w.heap.size, 1, .int .i64 a), (w.heap.size + 1, 0, .int .i64 x.pk), (w.heap.size + 1, 1, .int .i64 x.pn), (w.heap.size + 1, 2, .slice A x.pf.len C), (w.heap.size + 1, 3, .int .i64 x.act), (w.heap.size + 1, 4, .int .i64 x.qk), (w.heap.size + 1, 5, .int .i64 x.qn), (w.heap.size + 1, 6, .slice B x.qf.len D)] w34 := by rw [ewn]; exact (St.put (b := bA) (St.put (b := bA) (St.put (b := bA) HS (by simp; omega) (by omega) 0 (.int .i64 7)) (by simp; omega) (by omega) 1 (.int .i64 0)) (by simp; omega) (by omega) 2 (.slice (some ⟨s3, 0, none⟩) 2 2))
                have HR' : Hid (w34.heap[w.heap.size + 1 + 1]? = some (.cells #[.int .i64 0, .int .i64 0, .slice none 0 0] 46 (0, 0))) := by show _ = _; rw [ewn]; exact (blk_set (c := bA) (blk_set (c := bA) (blk_set (c := bA) HR.out nHR 0 (.int .i64 7)) nHR 1 (.int .i64 0)) nHR 2 (.slice (some ⟨s3, 0, none⟩) 2 2))
                have H1' : Hid (w34.heap[s1]? = some (.cells #[.int .i64 x.qk, .int .i64 x.qn, .slice B x.qf.len D] 46 (0, 0))) := by show _ = _; rw [ewn]; exact (blk_set (c := bA) (blk_set (c := bA) (blk_set (c := bA) H1.out nH1 0 (.int .i64 7)) nH1 1 (.int .i64 0)) nH1 2 (.slice (some ⟨s3, 0, none⟩) 2 2))
                have H2' : Hid (w34.heap[s2]? = some (.cells #[.int .i64 4, .int .i64 x.act, .slice none 0 0, .int .i64 5, .int .i64 0, .slice (some ⟨s1, 0, none⟩) 1 1] 46 (0, 0))) := by show _ = _; rw [ewn]; exact (blk_set (c := bA) (blk_set (c := bA) (blk_set (c := bA) H2.out nH2 0 (.int .i64 7)) nH2 1 (.int .i64 0)) nH2 2 (.slice (some ⟨s3, 0, none⟩) 2 2))
                have HA' : Hid (w34.heap[bA]? = some (.cells #[.int .i64 7, .int .i64 0, .slice (some ⟨s3, 0, none⟩) 2 2] 46 (0, 0))) := by show _ = _; rw [ewn, Fo.block_setCell (Fo.block_setCell (Fo.block_setCell HA.out _) _) _]; rfl
                have H3' : Hid (w34.heap[s3]? = some (.cells #[.int .i64 x.pk, .int .i64 x.pn, .slice A x.pf.len C, .int .i64 7, .int .i64 0, .slice (some ⟨s2, 0, none⟩) 2 2] 46 (0, 0))) := by show _ = _; rw [ewn]; exact (blk_set (c := bA) (blk_set (c := bA) (blk_set (c := bA) H3.out nH3 0 (.int .i64 7)) nH3 1 (.int .i64 0)) nH3 2 (.slice (some ⟨s3, 0, none⟩) 2 2))
                clear HS ewn d0 d1 d2 g0 g1 g2
                have HS := HS'; clear HS'
                clear HR; have HR := HR'; clear HR'
                clear H1; have H1 := H1'; clear H1'
                clear H2; have H2 := H2'; clear H2'
                clear HA; have HA := HA'; clear HA'
                clear H3; have H3 := H3'; clear H3'
                refine hK.out _ _ HS (fun _ => ?_)
                clear hK K
                try simp only [Act.put]
                refine wpAnyH_done (by kernel_rfl) ?_ _
                go_wp2_with fail
                go_meet
                exact ⟨bA, s1, s2, s3, rfl, HS, HR.out, H1.out, H2.out, H3.out, HA.out, nL⟩
        · go_simp
          obtain ⟨w35, ewn⟩ : ∃ wn, wn = w22.alloc (.cells #[.int .i64 0, .int .i64 0, .slice none 0 0] 46) := ⟨_, rfl⟩
          obtain ⟨bA, ebA⟩ : ∃ n, n = w22.heap.size := ⟨_, rfl⟩
          rw [← ewn, ← ebA]
          have HA : Hid (w35.heap[bA]? = some (.cells #[.int .i64 0, .int .i64 0, .slice none 0 0] 46 (0, 0))) := by show _ = _; rw [ewn]; exact heap_new _ _ _ ebA
          have HS' : St w [(w.heap.size, 0, .int .i64 t), (w.heap.size, 1, .int .i64 a), (w.heap.size + 1, 0, .int .i64 x.pk), (w.heap.size + 1, 1, .int .i64 x.pn), (w.heap.size + 1, 2, .slice A x.pf.len C), (w.heap.size + 1, 3, .int .i64 x.act), (w.heap.size + 1, 4, .int .i64 x.qk), (w.heap.size + 1, 5, .int .i64 x.qn), (w.heap.size + 1, 6, .slice B x.qf.len D)] w35 := by rw [ewn]; exact HS.alloc _
          have zz := HZ.out
          have HZ' : Hid (w.heap.size + 3 ≤ w35.heap.size) := by show _ ≤ _; rw [ewn]; simp; omega
          have lHR := blk_lt HR.out
          have lH1 := blk_lt H1.out
          have nHR : w.heap.size + 1 + 1 ≠ bA := by omega
          have nH1 : s1 ≠ bA := by omega
          have nL : w.heap.size + 3 ≤ bA := by omega
          have HR' : Hid (w35.heap[w.heap.size + 1 + 1]? = some (.cells #[.int .i64 0, .int .i64 0, .slice none 0 0] 46 (0, 0))) := by show _ = _; rw [ewn]; exact blk_alloc HR.out _
          have H1' : Hid (w35.heap[s1]? = some (.cells #[.int .i64 x.qk, .int .i64 x.qn, .slice B x.qf.len D] 46 (0, 0))) := by show _ = _; rw [ewn]; exact blk_alloc H1.out _
          clear HS HZ zz ewn ebA lHR lH1
          have HS := HS'; clear HS'; have HZ := HZ'; clear HZ'
          clear HR; have HR := HR'; clear HR'
          clear H1; have H1 := H1'; clear H1'
          refine hK.out _ _ HS (fun _ => ?_)
          clear hK K
          try simp only [Act.put, List.setIfInBounds_toArray, List.set_cons_zero, List.set_cons_succ]
          refine wpAnyH_ready (rs := [9]) (by kernel_rfl) (by simp) ?_
          refine (AllReadyH.cons (o := { dst := some 21, op := Op.buildSlice 44 2 #[(0, Operand.tmp 16), (1, Operand.tmp 20)], type := 44, pos := "l07_conditions.go:93", after := #[{ on := 4, ground := Ground.data }, { on := 8, ground := Ground.data }], guard := none }) rfl (fun K hK => ?_) AllReadyH.nil)
          · go_simp
            obtain ⟨w36, ewn⟩ : ∃ wn, wn = w35.alloc (.cells #[.int .i64 4, .int .i64 x.act, .slice none 0 0, .int .i64 5, .int .i64 0, .slice (some ⟨s1, 0, none⟩) 1 1] 46) := ⟨_, rfl⟩
            obtain ⟨s2, es2⟩ : ∃ n, n = w35.heap.size := ⟨_, rfl⟩
            rw [← ewn, ← es2]
            have H2 : Hid (w36.heap[s2]? = some (.cells #[.int .i64 4, .int .i64 x.act, .slice none 0 0, .int .i64 5, .int .i64 0, .slice (some ⟨s1, 0, none⟩) 1 1] 46 (0, 0))) := by show _ = _; rw [ewn]; exact heap_new _ _ _ es2
            have HS' : St w [(w.heap.size, 0, .int .i64 t), (w.heap.size, 1, .int .i64 a), (w.heap.size + 1, 0, .int .i64 x.pk), (w.heap.size + 1, 1, .int .i64 x.pn), (w.heap.size + 1, 2, .slice A x.pf.len C), (w.heap.size + 1, 3, .int .i64 x.act), (w.heap.size + 1, 4, .int .i64 x.qk), (w.heap.size + 1, 5, .int .i64 x.qn), (w.heap.size + 1, 6, .slice B x.qf.len D)] w36 := by rw [ewn]; exact HS.alloc _
            have zz := HZ.out
            have HZ' : Hid (w.heap.size + 3 ≤ w36.heap.size) := by show _ ≤ _; rw [ewn]; simp; omega
            have lHR := blk_lt HR.out
            have lH1 := blk_lt H1.out
            have lHA := blk_lt HA.out
            have nH2 : s2 ≠ bA := by omega
            have HR' : Hid (w36.heap[w.heap.size + 1 + 1]? = some (.cells #[.int .i64 0, .int .i64 0, .slice none 0 0] 46 (0, 0))) := by show _ = _; rw [ewn]; exact blk_alloc HR.out _
            have H1' : Hid (w36.heap[s1]? = some (.cells #[.int .i64 x.qk, .int .i64 x.qn, .slice B x.qf.len D] 46 (0, 0))) := by show _ = _; rw [ewn]; exact blk_alloc H1.out _
            have HA' : Hid (w36.heap[bA]? = some (.cells #[.int .i64 0, .int .i64 0, .slice none 0 0] 46 (0, 0))) := by show _ = _; rw [ewn]; exact blk_alloc HA.out _
            clear HS HZ zz ewn es2 lHR lH1 lHA
            have HS := HS'; clear HS'; have HZ := HZ'; clear HZ'
            clear HR; have HR := HR'; clear HR'
            clear H1; have H1 := H1'; clear H1'
            clear HA; have HA := HA'; clear HA'
            refine hK.out _ _ HS (fun _ => ?_)
            clear hK K
            try simp only [Act.put, List.setIfInBounds_toArray, List.set_cons_zero, List.set_cons_succ]
            refine wpAnyH_ready (rs := [10]) (by kernel_rfl) (by simp) ?_
            refine (AllReadyH.cons (o := { dst := some 22, op := Op.call { callee := Callee.value (Operand.func 66), args := #[Operand.const (Value.int IntKind.i64 7), Operand.tmp 21], argTypes := #[2, 44] }, type := 46, pos := "l07_conditions.go:93", after := #[{ on := 9, ground := Ground.data }, { on := 8, ground := Ground.chain }], guard := none }) rfl (fun K hK => ?_) AllReadyH.nil)
            · go_simp
              refine (exprWith_any 7 _ _ _ w36).mono ?_
              rintro e w37 ⟨rfl, hb⟩
              have HS' := St.below HS hb
              have zz := HZ.out
              have zb := hb.size
              have HZ' : Hid (w.heap.size + 3 ≤ w37.heap.size) := Nat.le_trans zz zb
              have lHR := blk_lt HR.out
              have lH1 := blk_lt H1.out
              have lHA := blk_lt HA.out
              have lH2 := blk_lt H2.out
              have HR' : Hid (w37.heap[w.heap.size + 1 + 1]? = some (.cells #[.int .i64 0, .int .i64 0, .slice none 0 0] 46 (0, 0))) := blk_below HR.out hb
              have H1' : Hid (w37.heap[s1]? = some (.cells #[.int .i64 x.qk, .int .i64 x.qn, .slice B x.qf.len D] 46 (0, 0))) := blk_below H1.out hb
              have HA' : Hid (w37.heap[bA]? = some (.cells #[.int .i64 0, .int .i64 0, .slice none 0 0] 46 (0, 0))) := blk_below HA.out hb
              have H2' : Hid (w37.heap[s2]? = some (.cells #[.int .i64 4, .int .i64 x.act, .slice none 0 0, .int .i64 5, .int .i64 0, .slice (some ⟨s1, 0, none⟩) 1 1] 46 (0, 0))) := blk_below H2.out hb
              clear HS HZ zz zb hb lHR lH1 lHA lH2
              have HS := HS'; clear HS'; have HZ := HZ'; clear HZ'
              clear HR; have HR := HR'; clear HR'
              clear H1; have H1 := H1'; clear H1'
              clear HA; have HA := HA'; clear HA'
              clear H2; have H2 := H2'; clear H2'
              go_wp2_with fail
              refine hK.out _ _ HS (fun _ => ?_)
              clear hK K
              try simp only [Act.put, List.setIfInBounds_toArray, List.set_cons_zero, List.set_cons_succ]
              refine wpAnyH_ready (rs := [11]) (by kernel_rfl) (by simp) ?_
              refine (AllReadyH.cons (o := { dst := some 23, op := Op.call { callee := Callee.value (Operand.func 65), args := #[Operand.tmp 13, Operand.tmp 22], argTypes := #[46, 46] }, type := 46, pos := "l07_conditions.go:93", after := #[{ on := 1, ground := Ground.data }, { on := 10, ground := Ground.data }, { on := 10, ground := Ground.chain }], guard := none }) rfl (fun K hK => ?_) AllReadyH.nil)
              · go_simp
                refine (where_blk _ _ _ _ _ _ _ _ _ _ _ _ _ _ _ _ w37 rfl rfl rfl rfl rfl rfl).mono ?_
                rintro e w38 ⟨s3, rfl, hz3, hk3, hb⟩
                have HS' := St.below HS hb
                have zz := HZ.out
                have zb := hb.size
                have HZ' : Hid (w.heap.size + 3 ≤ w38.heap.size) := Nat.le_trans zz zb
                have lHR := blk_lt HR.out
                have lH1 := blk_lt H1.out
                have lHA := blk_lt HA.out
                have lH2 := blk_lt H2.out
                have H3 : Hid (w38.heap[s3]? = some (.cells #[.int .i64 x.pk, .int .i64 x.pn, .slice A x.pf.len C, .int .i64 7, .int .i64 0, .slice (some ⟨s2, 0, none⟩) 2 2] 46 (0, 0))) := hk3
                have nH3 : s3 ≠ bA := by omega
                have HR' : Hid (w38.heap[w.heap.size + 1 + 1]? = some (.cells #[.int .i64 0, .int .i64 0, .slice none 0 0] 46 (0, 0))) := blk_below HR.out hb
                have H1' : Hid (w38.heap[s1]? = some (.cells #[.int .i64 x.qk, .int .i64 x.qn, .slice B x.qf.len D] 46 (0, 0))) := blk_below H1.out hb
                have HA' : Hid (w38.heap[bA]? = some (.cells #[.int .i64 0, .int .i64 0, .slice none 0 0] 46 (0, 0))) := blk_below HA.out hb
                have H2' : Hid (w38.heap[s2]? = some (.cells #[.int .i64 4, .int .i64 x.act, .slice none 0 0, .int .i64 5, .int .i64 0, .slice (some ⟨s1, 0, none⟩) 1 1] 46 (0, 0))) := blk_below H2.out hb
                clear HS HZ zz zb hb lHR lH1 lHA lH2
                have HS := HS'; clear HS'; have HZ := HZ'; clear HZ'
                clear HR; have HR := HR'; clear HR'
                clear H1; have H1 := H1'; clear H1'
                clear HA; have HA := HA'; clear HA'
                clear H2; have H2 := H2'; clear H2'
                go_wp2_with fail
                refine hK.out _ _ HS (fun _ => ?_)
                clear hK K
                try simp only [Act.put, List.setIfInBounds_toArray, List.set_cons_zero, List.set_cons_succ]
                refine wpAnyH_ready (rs := [13]) (by kernel_rfl) (by simp) ?_
                refine AllReadyH.cons (o := { dst := none, op := Op.store 46 (Operand.tmp 6) (Operand.tmp 23), type := 0, pos := "l07_conditions.go:93", after := #[{ on := 12, ground := Ground.data }, { on := 11, ground := Ground.data }, { on := 11, ground := Ground.chain }, { on := 0, ground := Ground.phase }, { on := 1, ground := Ground.phase }, { on := 2, ground := Ground.phase }, { on := 3, ground := Ground.phase }, { on := 4, ground := Ground.phase }, { on := 5, ground := Ground.phase }, { on := 6, ground := Ground.phase }, { on := 7, ground := Ground.phase }, { on := 8, ground := Ground.phase }, { on := 9, ground := Ground.phase }, { on := 10, ground := Ground.phase }, { on := 11, ground := Ground.phase }, { on := 12, ground := Ground.phase }], guard := none }) rfl (fun K hK => ?_) AllReadyH.nil
                obtain ⟨d0, d1, d2, g0, g1, g2⟩ := cells3 HA.out
                go_simp
                obtain ⟨w39, ewn⟩ : ∃ wn, wn = (((w38.setCell ⟨bA, 0, none⟩ (.int .i64 7)).setCell ⟨bA, 1, none⟩ (.int .i64 0)).setCell ⟨bA, 2, none⟩ (.slice (some ⟨s3, 0, none⟩) 2 2)) := ⟨_, rfl⟩
                rw [← ewn]
                have HS' : St w [(w.heap.size, 0, .int .i64 t), (w.heap.size, 1, .int .i64 a), (w.heap.size + 1, 0, .int .i64 x.pk), (w.heap.size + 1, 1, .int .i64 x.pn), (w.heap.size + 1, 2, .slice A x.pf.len C), (w.heap.size + 1, 3, .int .i64 x.act), (w.heap.size + 1, 4, .int .i64 x.qk), (w.heap.size + 1, 5, .int .i64 x.qn), (w.heap.size + 1, 6, .slice B x.qf.len D)] w39 := by rw [ewn]; exact (St.put (b := bA) (St.put (b := bA) (St.put (b := bA) HS (by simp; omega) (by omega) 0 (.int .i64 7)) (by simp; omega) (by omega) 1 (.int .i64 0)) (by simp; omega) (by omega) 2 (.slice (some ⟨s3, 0, none⟩) 2 2))
                have HR' : Hid (w39.heap[w.heap.size + 1 + 1]? = some (.cells #[.int .i64 0, .int .i64 0, .slice none 0 0] 46 (0, 0))) := by show _ = _; rw [ewn]; exact (blk_set (c := bA) (blk_set (c := bA) (blk_set (c := bA) HR.out nHR 0 (.int .i64 7)) nHR 1 (.int .i64 0)) nHR 2 (.slice (some ⟨s3, 0, none⟩) 2 2))
                have H1' : Hid (w39.heap[s1]? = some (.cells #[.int .i64 x.qk, .int .i64 x.qn, .slice B x.qf.len D] 46 (0, 0))) := by show _ = _; rw [ewn]; exact (blk_set (c := bA) (blk_set (c := bA) (blk_set (c := bA) H1.out nH1 0 (.int .i64 7)) nH1 1 (.int .i64 0)) nH1 2 (.slice (some ⟨s3, 0, none⟩) 2 2))
                have HA' : Hid (w39.heap[bA]? = some (.cells #[.int .i64 7, .int .i64 0, .slice (some ⟨s3, 0, none⟩) 2 2] 46 (0, 0))) := by show _ = _; rw [ewn, Fo.block_setCell (Fo.block_setCell (Fo.block_setCell HA.out _) _) _]; rfl
                have H2' : Hid (w39.heap[s2]? = some (.cells #[.int .i64 4, .int .i64 x.act, .slice none 0 0, .int .i64 5, .int .i64 0, .slice (some ⟨s1, 0, none⟩) 1 1] 46 (0, 0))) := by show _ = _; rw [ewn]; exact (blk_set (c := bA) (blk_set (c := bA) (blk_set (c := bA) H2.out nH2 0 (.int .i64 7)) nH2 1 (.int .i64 0)) nH2 2 (.slice (some ⟨s3, 0, none⟩) 2 2))
                have H3' : Hid (w39.heap[s3]? = some (.cells #[.int .i64 x.pk, .int .i64 x.pn, .slice A x.pf.len C, .int .i64 7, .int .i64 0, .slice (some ⟨s2, 0, none⟩) 2 2] 46 (0, 0))) := by show _ = _; rw [ewn]; exact (blk_set (c := bA) (blk_set (c := bA) (blk_set (c := bA) H3.out nH3 0 (.int .i64 7)) nH3 1 (.int .i64 0)) nH3 2 (.slice (some ⟨s3, 0, none⟩) 2 2))
                clear HS ewn d0 d1 d2 g0 g1 g2
                have HS := HS'; clear HS'
                clear HR; have HR := HR'; clear HR'
                clear H1; have H1 := H1'; clear H1'
                clear HA; have HA := HA'; clear HA'
                clear H2; have H2 := H2'; clear H2'
                clear H3; have H3 := H3'; clear H3'
                refine hK.out _ _ HS (fun _ => ?_)
                clear hK K
                try simp only [Act.put]
                refine wpAnyH_done (by kernel_rfl) ?_ _
                go_wp2_with fail
                go_meet
                exact ⟨bA, s1, s2, s3, rfl, HS, HR.out, H1.out, H2.out, H3.out, HA.out, nL⟩
      · go_simp
        obtain ⟨w40, ewn⟩ : ∃ wn, wn = w21.alloc (.cells #[.int .i64 0, .int .i64 0, .slice none 0 0] 46) := ⟨_, rfl⟩
        obtain ⟨bA, ebA⟩ : ∃ n, n = w21.heap.size := ⟨_, rfl⟩
        rw [← ewn, ← ebA]
        have HA : Hid (w40.heap[bA]? = some (.cells #[.int .i64 0, .int .i64 0, .slice none 0 0] 46 (0, 0))) := by show _ = _; rw [ewn]; exact heap_new _ _ _ ebA
        have HS' : St w [(w.heap.size, 0, .int .i64 t), (w.heap.size, 1, .int .i64 a), (w.heap.size + 1, 0, .int .i64 x.pk), (w.heap.size + 1, 1, .int .i64 x.pn), (w.heap.size + 1, 2, .slice A x.pf.len C), (w.heap.size + 1, 3, .int .i64 x.act), (w.heap.size + 1, 4, .int .i64 x.qk), (w.heap.size + 1, 5, .int .i64 x.qn), (w.heap.size + 1, 6, .slice B x.qf.len D)] w40 := by rw [ewn]; exact HS.alloc _
        have zz := HZ.out
        have HZ' : Hid (w.heap.size + 3 ≤ w40.heap.size) := by show _ ≤ _; rw [ewn]; simp; omega
        have lHR := blk_lt HR.out
        have lH1 := blk_lt H1.out
        have nHR : w.heap.size + 1 + 1 ≠ bA := by omega
        have nH1 : s1 ≠ bA := by omega
        have nL : w.heap.size + 3 ≤ bA := by omega
        have HR' : Hid (w40.heap[w.heap.size + 1 + 1]? = some (.cells #[.int .i64 0, .int .i64 0, .slice none 0 0] 46 (0, 0))) := by show _ = _; rw [ewn]; exact blk_alloc HR.out _
        have H1' : Hid (w40.heap[s1]? = some (.cells #[.int .i64 x.qk, .int .i64 x.qn, .slice B x.qf.len D] 46 (0, 0))) := by show _ = _; rw [ewn]; exact blk_alloc H1.out _
        clear HS HZ zz ewn ebA lHR lH1
        have HS := HS'; clear HS'; have HZ := HZ'; clear HZ'
        clear HR; have HR := HR'; clear HR'
        clear H1; have H1 := H1'; clear H1'
        refine hK.out _ _ HS (fun _ => ?_)
        clear hK K
        try simp only [Act.put, List.setIfInBounds_toArray, List.set_cons_zero, List.set_cons_succ]
        refine wpAnyH_ready (rs := [8]) (by kernel_rfl) (by simp) ?_
        refine (AllReadyH.cons (o := { dst := some 20, op := Op.call { callee := Callee.value (Operand.func 66), args := #[Operand.const (Value.int IntKind.i64 5), Operand.tmp 19], argTypes := #[2, 44] }, type := 46, pos := "l07_conditions.go:93", after := #[{ on := 7, ground := Ground.data }], guard := none }) rfl (fun K hK => ?_) AllReadyH.nil)
        · go_simp
          refine (exprWith_any 5 _ _ _ w40).mono ?_
          rintro e w41 ⟨rfl, hb⟩
          have HS' := St.below HS hb
          have zz := HZ.out
          have zb := hb.size
          have HZ' : Hid (w.heap.size + 3 ≤ w41.heap.size) := Nat.le_trans zz zb
          have lHR := blk_lt HR.out
          have lH1 := blk_lt H1.out
          have lHA := blk_lt HA.out
          have HR' : Hid (w41.heap[w.heap.size + 1 + 1]? = some (.cells #[.int .i64 0, .int .i64 0, .slice none 0 0] 46 (0, 0))) := blk_below HR.out hb
          have H1' : Hid (w41.heap[s1]? = some (.cells #[.int .i64 x.qk, .int .i64 x.qn, .slice B x.qf.len D] 46 (0, 0))) := blk_below H1.out hb
          have HA' : Hid (w41.heap[bA]? = some (.cells #[.int .i64 0, .int .i64 0, .slice none 0 0] 46 (0, 0))) := blk_below HA.out hb
          clear HS HZ zz zb hb lHR lH1 lHA
          have HS := HS'; clear HS'; have HZ := HZ'; clear HZ'
          clear HR; have HR := HR'; clear HR'
          clear H1; have H1 := H1'; clear H1'
          clear HA; have HA := HA'; clear HA'
          go_wp2_with fail
          refine hK.out _ _ HS (fun _ => ?_)
          clear hK K
          try simp only [Act.put, List.setIfInBounds_toArray, List.set_cons_zero, List.set_cons_succ]
          refine wpAnyH_ready (rs := [9]) (by kernel_rfl) (by simp) ?_
          refine (AllReadyH.cons (o := { dst := some 21, op := Op.buildSlice 44 2 #[(0, Operand.tmp 16), (1, Operand.tmp 20)], type := 44, pos := "l07_conditions.go:93", after := #[{ on := 4, ground := Ground.data }, { on := 8, ground := Ground.data }], guard := none }) rfl (fun K hK => ?_) AllReadyH.nil)
          · go_simp
            obtain ⟨w42, ewn⟩ : ∃ wn, wn = w41.alloc (.cells #[.int .i64 4, .int .i64 x.act, .slice none 0 0, .int .i64 5, .int .i64 0, .slice (some ⟨s1, 0, none⟩) 1 1] 46) := ⟨_, rfl⟩
            obtain ⟨s2, es2⟩ : ∃ n, n = w41.heap.size := ⟨_, rfl⟩
            rw [← ewn, ← es2]
            have H2 : Hid (w42.heap[s2]? = some (.cells #[.int .i64 4, .int .i64 x.act, .slice none 0 0, .int .i64 5, .int .i64 0, .slice (some ⟨s1, 0, none⟩) 1 1] 46 (0, 0))) := by show _ = _; rw [ewn]; exact heap_new _ _ _ es2
            have HS' : St w [(w.heap.size, 0, .int .i64 t), (w.heap.size, 1, .int .i64 a), (w.heap.size + 1, 0, .int .i64 x.pk), (w.heap.size + 1, 1, .int .i64 x.pn), (w.heap.size + 1, 2, .slice A x.pf.len C), (w.heap.size + 1, 3, .int .i64 x.act), (w.heap.size + 1, 4, .int .i64 x.qk), (w.heap.size + 1, 5, .int .i64 x.qn), (w.heap.size + 1, 6, .slice B x.qf.len D)] w42 := by rw [ewn]; exact HS.alloc _
            have zz := HZ.out
            have HZ' : Hid (w.heap.size + 3 ≤ w42.heap.size) := by show _ ≤ _; rw [ewn]; simp; omega
            have lHR := blk_lt HR.out
            have lH1 := blk_lt H1.out
            have lHA := blk_lt HA.out
            have nH2 : s2 ≠ bA := by omega
            have HR' : Hid (w42.heap[w.heap.size + 1 + 1]? = some (.cells #[.int .i64 0, .int .i64 0, .slice none 0 0] 46 (0, 0))) := by show _ = _; rw [ewn]; exact blk_alloc HR.out _
            have H1' : Hid (w42.heap[s1]? = some (.cells #[.int .i64 x.qk, .int .i64 x.qn, .slice B x.qf.len D] 46 (0, 0))) := by show _ = _; rw [ewn]; exact blk_alloc H1.out _
            have HA' : Hid (w42.heap[bA]? = some (.cells #[.int .i64 0, .int .i64 0, .slice none 0 0] 46 (0, 0))) := by show _ = _; rw [ewn]; exact blk_alloc HA.out _
            clear HS HZ zz ewn es2 lHR lH1 lHA
            have HS := HS'; clear HS'; have HZ := HZ'; clear HZ'
            clear HR; have HR := HR'; clear HR'
            clear H1; have H1 := H1'; clear H1'
            clear HA; have HA := HA'; clear HA'
            refine hK.out _ _ HS (fun _ => ?_)
            clear hK K
            try simp only [Act.put, List.setIfInBounds_toArray, List.set_cons_zero, List.set_cons_succ]
            refine wpAnyH_ready (rs := [10]) (by kernel_rfl) (by simp) ?_
            refine (AllReadyH.cons (o := { dst := some 22, op := Op.call { callee := Callee.value (Operand.func 66), args := #[Operand.const (Value.int IntKind.i64 7), Operand.tmp 21], argTypes := #[2, 44] }, type := 46, pos := "l07_conditions.go:93", after := #[{ on := 9, ground := Ground.data }, { on := 8, ground := Ground.chain }], guard := none }) rfl (fun K hK => ?_) AllReadyH.nil)
            · go_simp
              refine (exprWith_any 7 _ _ _ w42).mono ?_
              rintro e w43 ⟨rfl, hb⟩
              have HS' := St.below HS hb
              have zz := HZ.out
              have zb := hb.size
              have HZ' : Hid (w.heap.size + 3 ≤ w43.heap.size) := Nat.le_trans zz zb
              have lHR := blk_lt HR.out
              have lH1 := blk_lt H1.out
              have lHA := blk_lt HA.out
              have lH2 := blk_lt H2.out
              have HR' : Hid (w43.heap[w.heap.size + 1 + 1]? = some (.cells #[.int .i64 0, .int .i64 0, .slice none 0 0] 46 (0, 0))) := blk_below HR.out hb
              have H1' : Hid (w43.heap[s1]? = some (.cells #[.int .i64 x.qk, .int .i64 x.qn, .slice B x.qf.len D] 46 (0, 0))) := blk_below H1.out hb
              have HA' : Hid (w43.heap[bA]? = some (.cells #[.int .i64 0, .int .i64 0, .slice none 0 0] 46 (0, 0))) := blk_below HA.out hb
              have H2' : Hid (w43.heap[s2]? = some (.cells #[.int .i64 4, .int .i64 x.act, .slice none 0 0, .int .i64 5, .int .i64 0, .slice (some ⟨s1, 0, none⟩) 1 1] 46 (0, 0))) := blk_below H2.out hb
              clear HS HZ zz zb hb lHR lH1 lHA lH2
              have HS := HS'; clear HS'; have HZ := HZ'; clear HZ'
              clear HR; have HR := HR'; clear HR'
              clear H1; have H1 := H1'; clear H1'
              clear HA; have HA := HA'; clear HA'
              clear H2; have H2 := H2'; clear H2'
              go_wp2_with fail
              refine hK.out _ _ HS (fun _ => ?_)
              clear hK K
              try simp only [Act.put, List.setIfInBounds_toArray, List.set_cons_zero, List.set_cons_succ]
              refine wpAnyH_ready (rs := [11]) (by kernel_rfl) (by simp) ?_
              refine (AllReadyH.cons (o := { dst := some 23, op := Op.call { callee := Callee.value (Operand.func 65), args := #[Operand.tmp 13, Operand.tmp 22], argTypes := #[46, 46] }, type := 46, pos := "l07_conditions.go:93", after := #[{ on := 1, ground := Ground.data }, { on := 10, ground := Ground.data }, { on := 10, ground := Ground.chain }], guard := none }) rfl (fun K hK => ?_) AllReadyH.nil)
              · go_simp
                refine (where_blk _ _ _ _ _ _ _ _ _ _ _ _ _ _ _ _ w43 rfl rfl rfl rfl rfl rfl).mono ?_
                rintro e w44 ⟨s3, rfl, hz3, hk3, hb⟩
                have HS' := St.below HS hb
                have zz := HZ.out
                have zb := hb.size
                have HZ' : Hid (w.heap.size + 3 ≤ w44.heap.size) := Nat.le_trans zz zb
                have lHR := blk_lt HR.out
                have lH1 := blk_lt H1.out
                have lHA := blk_lt HA.out
                have lH2 := blk_lt H2.out
                have H3 : Hid (w44.heap[s3]? = some (.cells #[.int .i64 x.pk, .int .i64 x.pn, .slice A x.pf.len C, .int .i64 7, .int .i64 0, .slice (some ⟨s2, 0, none⟩) 2 2] 46 (0, 0))) := hk3
                have nH3 : s3 ≠ bA := by omega
                have HR' : Hid (w44.heap[w.heap.size + 1 + 1]? = some (.cells #[.int .i64 0, .int .i64 0, .slice none 0 0] 46 (0, 0))) := blk_below HR.out hb
                have H1' : Hid (w44.heap[s1]? = some (.cells #[.int .i64 x.qk, .int .i64 x.qn, .slice B x.qf.len D] 46 (0, 0))) := blk_below H1.out hb
                have HA' : Hid (w44.heap[bA]? = some (.cells #[.int .i64 0, .int .i64 0, .slice none 0 0] 46 (0, 0))) := blk_below HA.out hb
                have H2' : Hid (w44.heap[s2]? = some (.cells #[.int .i64 4, .int .i64 x.act, .slice none 0 0, .int .i64 5, .int .i64 0, .slice (some ⟨s1, 0, none⟩) 1 1] 46 (0, 0))) := blk_below H2.out hb
                clear HS HZ zz zb hb lHR lH1 lHA lH2
                have HS := HS'; clear HS'; have HZ := HZ'; clear HZ'
                clear HR; have HR := HR'; clear HR'
                clear H1; have H1 := H1'; clear H1'
                clear HA; have HA := HA'; clear HA'
                clear H2; have H2 := H2'; clear H2'
                go_wp2_with fail
                refine hK.out _ _ HS (fun _ => ?_)
                clear hK K
                try simp only [Act.put, List.setIfInBounds_toArray, List.set_cons_zero, List.set_cons_succ]
                refine wpAnyH_ready (rs := [13]) (by kernel_rfl) (by simp) ?_
                refine AllReadyH.cons (o := { dst := none, op := Op.store 46 (Operand.tmp 6) (Operand.tmp 23), type := 0, pos := "l07_conditions.go:93", after := #[{ on := 12, ground := Ground.data }, { on := 11, ground := Ground.data }, { on := 11, ground := Ground.chain }, { on := 0, ground := Ground.phase }, { on := 1, ground := Ground.phase }, { on := 2, ground := Ground.phase }, { on := 3, ground := Ground.phase }, { on := 4, ground := Ground.phase }, { on := 5, ground := Ground.phase }, { on := 6, ground := Ground.phase }, { on := 7, ground := Ground.phase }, { on := 8, ground := Ground.phase }, { on := 9, ground := Ground.phase }, { on := 10, ground := Ground.phase }, { on := 11, ground := Ground.phase }, { on := 12, ground := Ground.phase }], guard := none }) rfl (fun K hK => ?_) AllReadyH.nil
                obtain ⟨d0, d1, d2, g0, g1, g2⟩ := cells3 HA.out
                go_simp
                obtain ⟨w45, ewn⟩ : ∃ wn, wn = (((w44.setCell ⟨bA, 0, none⟩ (.int .i64 7)).setCell ⟨bA, 1, none⟩ (.int .i64 0)).setCell ⟨bA, 2, none⟩ (.slice (some ⟨s3, 0, none⟩) 2 2)) := ⟨_, rfl⟩
                rw [← ewn]
                have HS' : St w [(w.heap.size, 0, .int .i64 t), (w.heap.size, 1, .int .i64 a), (w.heap.size + 1, 0, .int .i64 x.pk), (w.heap.size + 1, 1, .int .i64 x.pn), (w.heap.size + 1, 2, .slice A x.pf.len C), (w.heap.size + 1, 3, .int .i64 x.act), (w.heap.size + 1, 4, .int .i64 x.qk), (w.heap.size + 1, 5, .int .i64 x.qn), (w.heap.size + 1, 6, .slice B x.qf.len D)] w45 := by rw [ewn]; exact (St.put (b := bA) (St.put (b := bA) (St.put (b := bA) HS (by simp; omega) (by omega) 0 (.int .i64 7)) (by simp; omega) (by omega) 1 (.int .i64 0)) (by simp; omega) (by omega) 2 (.slice (some ⟨s3, 0, none⟩) 2 2))
                have HR' : Hid (w45.heap[w.heap.size + 1 + 1]? = some (.cells #[.int .i64 0, .int .i64 0, .slice none 0 0] 46 (0, 0))) := by show _ = _; rw [ewn]; exact (blk_set (c := bA) (blk_set (c := bA) (blk_set (c := bA) HR.out nHR 0 (.int .i64 7)) nHR 1 (.int .i64 0)) nHR 2 (.slice (some ⟨s3, 0, none⟩) 2 2))
                have H1' : Hid (w45.heap[s1]? = some (.cells #[.int .i64 x.qk, .int .i64 x.qn, .slice B x.qf.len D] 46 (0, 0))) := by show _ = _; rw [ewn]; exact (blk_set (c := bA) (blk_set (c := bA) (blk_set (c := bA) H1.out nH1 0 (.int .i64 7)) nH1 1 (.int .i64 0)) nH1 2 (.slice (some ⟨s3, 0, none⟩) 2 2))
                have HA' : Hid (w45.heap[bA]? = some (.cells #[.int .i64 7, .int .i64 0, .slice (some ⟨s3, 0, none⟩) 2 2] 46 (0, 0))) := by show _ = _; rw [ewn, Fo.block_setCell (Fo.block_setCell (Fo.block_setCell HA.out _) _) _]; rfl
                have H2' : Hid (w45.heap[s2]? = some (.cells #[.int .i64 4, .int .i64 x.act, .slice none 0 0, .int .i64 5, .int .i64 0, .slice (some ⟨s1, 0, none⟩) 1 1] 46 (0, 0))) := by show _ = _; rw [ewn]; exact (blk_set (c := bA) (blk_set (c := bA) (blk_set (c := bA) H2.out nH2 0 (.int .i64 7)) nH2 1 (.int .i64 0)) nH2 2 (.slice (some ⟨s3, 0, none⟩) 2 2))
                have H3' : Hid (w45.heap[s3]? = some (.cells #[.int .i64 x.pk, .int .i64 x.pn, .slice A x.pf.len C, .int .i64 7, .int .i64 0, .slice (some ⟨s2, 0, none⟩) 2 2] 46 (0, 0))) := by show _ = _; rw [ewn]; exact (blk_set (c := bA) (blk_set (c := bA) (blk_set (c := bA) H3.out nH3 0 (.int .i64 7)) nH3 1 (.int .i64 0)) nH3 2 (.slice (some ⟨s3, 0, none⟩) 2 2))
                clear HS ewn d0 d1 d2 g0 g1 g2
                have HS := HS'; clear HS'
                clear HR; have HR := HR'; clear HR'
                clear H1; have H1 := H1'; clear H1'
                clear HA; have HA := HA'; clear HA'
                clear H2; have H2 := H2'; clear H2'
                clear H3; have H3 := H3'; clear H3'
                refine hK.out _ _ HS (fun _ => ?_)
                clear hK K
                try simp only [Act.put]
                refine wpAnyH_done (by kernel_rfl) ?_ _
                go_wp2_with fail
                go_meet
                exact ⟨bA, s1, s2, s3, rfl, HS, HR.out, H1.out, H2.out, H3.out, HA.out, nL⟩
    · go_simp
      obtain ⟨w46, ewn⟩ : ∃ wn, wn = w20.alloc (.cells #[.int .i64 0, .int .i64 0, .slice none 0 0] 46) := ⟨_, rfl⟩
      obtain ⟨bA, ebA⟩ : ∃ n, n = w20.heap.size := ⟨_, rfl⟩
      rw [← ewn, ← ebA]
      have HA : Hid (w46.heap[bA]? = some (.cells #[.int .i64 0, .int .i64 0, .slice none 0 0] 46 (0, 0))) := by show _ = _; rw [ewn]; exact heap_new _ _ _ ebA
      have HS' : St w [(w.heap.size, 0, .int .i64 t), (w.heap.size, 1, .int .i64 a), (w.heap.size + 1, 0, .int .i64 x.pk), (w.heap.size + 1, 1, .int .i64 x.pn), (w.heap.size + 1, 2, .slice A x.pf.len C), (w.heap.size + 1, 3, .int .i64 x.act), (w.heap.size + 1, 4, .int .i64 x.qk), (w.heap.size + 1, 5, .int .i64 x.qn), (w.heap.size + 1, 6, .slice B x.qf.len D)] w46 := by rw [ewn]; exact HS.alloc _
      have zz := HZ.out
      have HZ' : Hid (w.heap.size + 3 ≤ w46.heap.size) := by show _ ≤ _; rw [ewn]; simp; omega
      have lHR := blk_lt HR.out
      have nHR : w.heap.size + 1 + 1 ≠ bA := by omega
      have nL : w.heap.size + 3 ≤ bA := by omega
      have HR' : Hid (w46.heap[w.heap.size + 1 + 1]? = some (.cells #[.int .i64 0, .int .i64 0, .slice none 0 0] 46 (0, 0))) := by show _ = _; rw [ewn]; exact blk_alloc HR.out _
      clear HS HZ zz ewn ebA lHR
      have HS := HS'; clear HS'; have HZ := HZ'; clear HZ'
      clear HR; have HR := HR'; clear HR'
      refine hK.out _ _ HS (fun _ => ?_)
      clear hK K
      try simp only [Act.put, List.setIfInBounds_toArray, List.set_cons_zero, List.set_cons_succ]
      refine wpAnyH_ready (rs := [7]) (by kernel_rfl) (by simp) ?_
      refine (AllReadyH.cons (o := { dst := some 19, op := Op.buildSlice 44 1 #[(0, Operand.tmp 18)], type := 44, pos := "l07_conditions.go:93", after := #[{ on := 6, ground := Ground.data }], guard := none }) rfl (fun K hK => ?_) AllReadyH.nil)
      · go_simp
        obtain ⟨w47, ewn⟩ : ∃ wn, wn = w46.alloc (.cells #[.int .i64 x.qk, .int .i64 x.qn, .slice B x.qf.len D] 46) := ⟨_, rfl⟩
        obtain ⟨s1, es1⟩ : ∃ n, n = w46.heap.size := ⟨_, rfl⟩
        rw [← ewn, ← es1]
        have H1 : Hid (w47.heap[s1]? = some (.cells #[.int .i64 x.qk, .int .i64 x.qn, .slice B x.qf.len D] 46 (0, 0))) := by show _ = _; rw [ewn]; exact heap_new _ _ _ es1
        have HS' : St w [(w.heap.size, 0, .int .i64 t), (w.heap.size, 1, .int .i64 a), (w.heap.size + 1, 0, .int .i64 x.pk), (w.heap.size + 1, 1, .int .i64 x.pn), (w.heap.size + 1, 2, .slice A x.pf.len C), (w.heap.size + 1, 3, .int .i64 x.act), (w.heap.size + 1, 4, .int .i64 x.qk), (w.heap.size + 1, 5, .int .i64 x.qn), (w.heap.size + 1, 6, .slice B x.qf.len D)] w47 := by rw [ewn]; exact HS.alloc _
        have zz := HZ.out
        have HZ' : Hid (w.heap.size + 3 ≤ w47.heap.size) := by show _ ≤ _; rw [ewn]; simp; omega
        have lHR := blk_lt HR.out
        have lHA := blk_lt HA.out
        have nH1 : s1 ≠ bA := by omega
        have HR' : Hid (w47.heap[w.heap.size + 1 + 1]? = some (.cells #[.int .i64 0, .int .i64 0, .slice none 0 0] 46 (0, 0))) := by show _ = _; rw [ewn]; exact blk_alloc HR.out _
        have HA' : Hid (w47.heap[bA]? = some (.cells #[.int .i64 0, .int .i64 0, .slice none 0 0] 46 (0, 0))) := by show _ = _; rw [ewn]; exact blk_alloc HA.out _
        clear HS HZ zz ewn es1 lHR lHA
        have HS := HS'; clear HS'; have HZ := HZ'; clear HZ'
        clear HR; have HR := HR'; clear HR'
        clear HA; have HA := HA'; clear HA'
        refine hK.out _ _ HS (fun _ => ?_)
        clear hK K
        try simp only [Act.put, List.setIfInBounds_toArray, List.set_cons_zero, List.set_cons_succ]
        refine wpAnyH_ready (rs := [8]) (by kernel_rfl) (by simp) ?_
        refine (AllReadyH.cons (o := { dst := some 20, op := Op.call { callee := Callee.value (Operand.func 66), args := #[Operand.const (Value.int IntKind.i64 5), Operand.tmp 19], argTypes := #[2, 44] }, type := 46, pos := "l07_conditions.go:93", after := #[{ on := 7, ground := Ground.data }], guard := none }) rfl (fun K hK => ?_) AllReadyH.nil)
        · go_simp
          refine (exprWith_any 5 _ _ _ w47).mono ?_
          rintro e w48 ⟨rfl, hb⟩
          have HS' := St.below HS hb
          have zz := HZ.out
          have zb := hb.size
          have HZ' : Hid (w.heap.size + 3 ≤ w48.heap.size) := Nat.le_trans zz zb
          have lHR := blk_lt HR.out
          have lHA := blk_lt HA.out
          have lH1 := blk_lt H1.out
          have HR' : Hid (w48.heap[w.heap.size + 1 + 1]? = some (.cells #[.int .i64 0, .int .i64 0, .slice none 0 0] 46 (0, 0))) := blk_below HR.out hb
          have HA' : Hid (w48.heap[bA]? = some (.cells #[.int .i64 0, .int .i64 0, .slice none 0 0] 46 (0, 0))) := blk_below HA.out hb
          have H1' : Hid (w48.heap[s1]? = some (.cells #[.int .i64 x.qk, .int .i64 x.qn, .slice B x.qf.len D] 46 (0, 0))) := blk_below H1.out hb
          clear HS HZ zz zb hb lHR lHA lH1
          have HS := HS'; clear HS'; have HZ := HZ'; clear HZ'
          clear HR; have HR := HR'; clear HR'
          clear HA; have HA := HA'; clear HA'
          clear H1; have H1 := H1'; clear H1'
          go_wp2_with fail
          refine hK.out _ _ HS (fun _ => ?_)
          clear hK K
          try simp only [Act.put, List.setIfInBounds_toArray, List.set_cons_zero, List.set_cons_succ]
          refine wpAnyH_ready (rs := [9]) (by kernel_rfl) (by simp) ?_
          refine (AllReadyH.cons (o := { dst := some 21, op := Op.buildSlice 44 2 #[(0, Operand.tmp 16), (1, Operand.tmp 20)], type := 44, pos := "l07_conditions.go:93", after := #[{ on := 4, ground := Ground.data }, { on := 8, ground := Ground.data }], guard := none }) rfl (fun K hK => ?_) AllReadyH.nil)
          · go_simp
            obtain ⟨w49, ewn⟩ : ∃ wn, wn = w48.alloc (.cells #[.int .i64 4, .int .i64 x.act, .slice none 0 0, .int .i64 5, .int .i64 0, .slice (some ⟨s1, 0, none⟩) 1 1] 46) := ⟨_, rfl⟩
            obtain ⟨s2, es2⟩ : ∃ n, n = w48.heap.size := ⟨_, rfl⟩
            rw [← ewn, ← es2]
            have H2 : Hid (w49.heap[s2]? = some (.cells #[.int .i64 4, .int .i64 x.act, .slice none 0 0, .int .i64 5, .int .i64 0, .slice (some ⟨s1, 0, none⟩) 1 1] 46 (0, 0))) := by show _ = _; rw [ewn]; exact heap_new _ _ _ es2
            have HS' : St w [(w.heap.size, 0, .int .i64 t), (w.heap.size, 1, .int .i64 a), (w.heap.size + 1, 0, .int .i64 x.pk), (w.heap.size + 1, 1, .int .i64 x.pn), (w.heap.size + 1, 2, .slice A x.pf.len C), (w.heap.size + 1, 3, .int .i64 x.act), (w.heap.size + 1, 4, .int .i64 x.qk), (w.heap.size + 1, 5, .int .i64 x.qn), (w.heap.size + 1, 6, .slice B x.qf.len D)] w49 := by rw [ewn]; exact HS.alloc _
            have zz := HZ.out
            have HZ' : Hid (w.heap.size + 3 ≤ w49.heap.size) := by show _ ≤ _; rw [ewn]; simp; omega
            have lHR := blk_lt HR.out
            have lHA := blk_lt HA.out
            have lH1 := blk_lt H1.out
            have nH2 : s2 ≠ bA := by omega
            have HR' : Hid (w49.heap[w.heap.size + 1 + 1]? = some (.cells #[.int .i64 0, .int .i64 0, .slice none 0 0] 46 (0, 0))) := by show _ = _; rw [ewn]; exact blk_alloc HR.out _
            have HA' : Hid (w49.heap[bA]? = some (.cells #[.int .i64 0, .int .i64 0, .slice none 0 0] 46 (0, 0))) := by show _ = _; rw [ewn]; exact blk_alloc HA.out _
            have H1' : Hid (w49.heap[s1]? = some (.cells #[.int .i64 x.qk, .int .i64 x.qn, .slice B x.qf.len D] 46 (0, 0))) := by show _ = _; rw [ewn]; exact blk_alloc H1.out _
            clear HS HZ zz ewn es2 lHR lHA lH1
            have HS := HS'; clear HS'; have HZ := HZ'; clear HZ'
            clear HR; have HR := HR'; clear HR'
            clear HA; have HA := HA'; clear HA'
            clear H1; have H1 := H1'; clear H1'
            refine hK.out _ _ HS (fun _ => ?_)
            clear hK K
            try simp only [Act.put, List.setIfInBounds_toArray, List.set_cons_zero, List.set_cons_succ]
            refine wpAnyH_ready (rs := [10]) (by kernel_rfl) (by simp) ?_
            refine (AllReadyH.cons (o := { dst := some 22, op := Op.call { callee := Callee.value (Operand.func 66), args := #[Operand.const (Value.int IntKind.i64 7), Operand.tmp 21], argTypes := #[2, 44] }, type := 46, pos := "l07_conditions.go:93", after := #[{ on := 9, ground := Ground.data }, { on := 8, ground := Ground.chain }], guard := none }) rfl (fun K hK => ?_) AllReadyH.nil)
            · go_simp
              refine (exprWith_any 7 _ _ _ w49).mono ?_
              rintro e w50 ⟨rfl, hb⟩
              have HS' := St.below HS hb
              have zz := HZ.out
              have zb := hb.size
              have HZ' : Hid (w.heap.size + 3 ≤ w50.heap.size) := Nat.le_trans zz zb
              have lHR := blk_lt HR.out
              have lHA := blk_lt HA.out
              have lH1 := blk_lt H1.out
              have lH2 := blk_lt H2.out
              have HR' : Hid (w50.heap[w.heap.size + 1 + 1]? = some (.cells #[.int .i64 0, .int .i64 0, .slice none 0 0] 46 (0, 0))) := blk_below HR.out hb
              have HA' : Hid (w50.heap[bA]? = some (.cells #[.int .i64 0, .int .i64 0, .slice none 0 0] 46 (0, 0))) := blk_below HA.out hb
              have H1' : Hid (w50.heap[s1]? = some (.cells #[.int .i64 x.qk, .int .i64 x.qn, .slice B x.qf.len D] 46 (0, 0))) := blk_below H1.out hb
              have H2' : Hid (w50.heap[s2]? = some (.cells #[.int .i64 4, .int .i64 x.act, .slice none 0 0, .int .i64 5, .int .i64 0, .slice (some ⟨s1, 0, none⟩) 1 1] 46 (0, 0))) := blk_below H2.out hb
              clear HS HZ zz zb hb lHR lHA lH1 lH2
              have HS := HS'; clear HS'; have HZ := HZ'; clear HZ'
              clear HR; have HR := HR'; clear HR'
              clear HA; have HA := HA'; clear HA'
              clear H1; have H1 := H1'; clear H1'
              clear H2; have H2 := H2'; clear H2'
              go_wp2_with fail
              refine hK.out _ _ HS (fun _ => ?_)
              clear hK K
              try simp only [Act.put, List.setIfInBounds_toArray, List.set_cons_zero, List.set_cons_succ]
              refine wpAnyH_ready (rs := [11]) (by kernel_rfl) (by simp) ?_
              refine (AllReadyH.cons (o := { dst := some 23, op := Op.call { callee := Callee.value (Operand.func 65), args := #[Operand.tmp 13, Operand.tmp 22], argTypes := #[46, 46] }, type := 46, pos := "l07_conditions.go:93", after := #[{ on := 1, ground := Ground.data }, { on := 10, ground := Ground.data }, { on := 10, ground := Ground.chain }], guard := none }) rfl (fun K hK => ?_) AllReadyH.nil)
              · go_simp
                refine (where_blk _ _ _ _ _ _ _ _ _ _ _ _ _ _ _ _ w50 rfl rfl rfl rfl rfl rfl).mono ?_
                rintro e w51 ⟨s3, rfl, hz3, hk3, hb⟩
                have HS' := St.below HS hb
                have zz := HZ.out
                have zb := hb.size
                have HZ' : Hid (w.heap.size + 3 ≤ w51.heap.size) := Nat.le_trans zz zb
                have lHR := blk_lt HR.out
                have lHA := blk_lt HA.out
                have lH1 := blk_lt H1.out
                have lH2 := blk_lt H2.out
                have H3 : Hid (w51.heap[s3]? = some (.cells #[.int .i64 x.pk, .int .i64 x.pn, .slice A x.pf.len C, .int .i64 7, .int .i64 0, .slice (some ⟨s2, 0, none⟩) 2 2] 46 (0, 0))) := hk3
                have nH3 : s3 ≠ bA := by omega
                have HR' : Hid (w51.heap[w.heap.size + 1 + 1]? = some (.cells #[.int .i64 0, .int .i64 0, .slice none 0 0] 46 (0, 0))) := blk_below HR.out hb
                have HA' : Hid (w51.heap[bA]? = some (.cells #[.int .i64 0, .int .i64 0, .slice none 0 0] 46 (0, 0))) := blk_below HA.out hb
                have H1' : Hid (w51.heap[s1]? = some (.cells #[.int .i64 x.qk, .int .i64 x.qn, .slice B x.qf.len D] 46 (0, 0))) := blk_below H1.out hb
                have H2' : Hid (w51.heap[s2]? = some (.cells #[.int .i64 4, .int .i64 x.act, .slice none 0 0, .int .i64 5, .int .i64 0, .slice (some ⟨s1, 0, none⟩) 1 1] 46 (0, 0))) := blk_below H2.out hb
                clear HS HZ zz zb hb lHR lHA lH1 lH2
                have HS := HS'; clear HS'; have HZ := HZ'; clear HZ'
                clear HR; have HR := HR'; clear HR'
                clear HA; have HA := HA'; clear HA'
                clear H1; have H1 := H1'; clear H1'
                clear H2; have H2 := H2'; clear H2'
                go_wp2_with fail
                refine hK.out _ _ HS (fun _ => ?_)
                clear hK K
                try simp only [Act.put, List.setIfInBounds_toArray, List.set_cons_zero, List.set_cons_succ]
                refine wpAnyH_ready (rs := [13]) (by kernel_rfl) (by simp) ?_
                refine AllReadyH.cons (o := { dst := none, op := Op.store 46 (Operand.tmp 6) (Operand.tmp 23), type := 0, pos := "l07_conditions.go:93", after := #[{ on := 12, ground := Ground.data }, { on := 11, ground := Ground.data }, { on := 11, ground := Ground.chain }, { on := 0, ground := Ground.phase }, { on := 1, ground := Ground.phase }, { on := 2, ground := Ground.phase }, { on := 3, ground := Ground.phase }, { on := 4, ground := Ground.phase }, { on := 5, ground := Ground.phase }, { on := 6, ground := Ground.phase }, { on := 7, ground := Ground.phase }, { on := 8, ground := Ground.phase }, { on := 9, ground := Ground.phase }, { on := 10, ground := Ground.phase }, { on := 11, ground := Ground.phase }, { on := 12, ground := Ground.phase }], guard := none }) rfl (fun K hK => ?_) AllReadyH.nil
                obtain ⟨d0, d1, d2, g0, g1, g2⟩ := cells3 HA.out
                go_simp
                obtain ⟨w52, ewn⟩ : ∃ wn, wn = (((w51.setCell ⟨bA, 0, none⟩ (.int .i64 7)).setCell ⟨bA, 1, none⟩ (.int .i64 0)).setCell ⟨bA, 2, none⟩ (.slice (some ⟨s3, 0, none⟩) 2 2)) := ⟨_, rfl⟩
                rw [← ewn]
                have HS' : St w [(w.heap.size, 0, .int .i64 t), (w.heap.size, 1, .int .i64 a), (w.heap.size + 1, 0, .int .i64 x.pk), (w.heap.size + 1, 1, .int .i64 x.pn), (w.heap.size + 1, 2, .slice A x.pf.len C), (w.heap.size + 1, 3, .int .i64 x.act), (w.heap.size + 1, 4, .int .i64 x.qk), (w.heap.size + 1, 5, .int .i64 x.qn), (w.heap.size + 1, 6, .slice B x.qf.len D)] w52 := by rw [ewn]; exact (St.put (b := bA) (St.put (b := bA) (St.put (b := bA) HS (by simp; omega) (by omega) 0 (.int .i64 7)) (by simp; omega) (by omega) 1 (.int .i64 0)) (by simp; omega) (by omega) 2 (.slice (some ⟨s3, 0, none⟩) 2 2))
                have HR' : Hid (w52.heap[w.heap.size + 1 + 1]? = some (.cells #[.int .i64 0, .int .i64 0, .slice none 0 0] 46 (0, 0))) := by show _ = _; rw [ewn]; exact (blk_set (c := bA) (blk_set (c := bA) (blk_set (c := bA) HR.out nHR 0 (.int .i64 7)) nHR 1 (.int .i64 0)) nHR 2 (.slice (some ⟨s3, 0, none⟩) 2 2))
                have HA' : Hid (w52.heap[bA]? = some (.cells #[.int .i64 7, .int .i64 0, .slice (some ⟨s3, 0, none⟩) 2 2] 46 (0, 0))) := by show _ = _; rw [ewn, Fo.block_setCell (Fo.block_setCell (Fo.block_setCell HA.out _) _) _]; rfl
                have H1' : Hid (w52.heap[s1]? = some (.cells #[.int .i64 x.qk, .int .i64 x.qn, .slice B x.qf.len D] 46 (0, 0))) := by show _ = _; rw [ewn]; exact (blk_set (c := bA) (blk_set (c := bA) (blk_set (c := bA) H1.out nH1 0 (.int .i64 7)) nH1 1 (.int .i64 0)) nH1 2 (.slice (some ⟨s3, 0, none⟩) 2 2))
                have H2' : Hid (w52.heap[s2]? = some (.cells #[.int .i64 4, .int .i64 x.act, .slice none 0 0, .int .i64 5, .int .i64 0, .slice (some ⟨s1, 0, none⟩) 1 1] 46 (0, 0))) := by show _ = _; rw [ewn]; exact (blk_set (c := bA) (blk_set (c := bA) (blk_set (c := bA) H2.out nH2 0 (.int .i64 7)) nH2 1 (.int .i64 0)) nH2 2 (.slice (some ⟨s3, 0, none⟩) 2 2))
                have H3' : Hid (w52.heap[s3]? = some (.cells #[.int .i64 x.pk, .int .i64 x.pn, .slice A x.pf.len C, .int .i64 7, .int .i64 0, .slice (some ⟨s2, 0, none⟩) 2 2] 46 (0, 0))) := by show _ = _; rw [ewn]; exact (blk_set (c := bA) (blk_set (c := bA) (blk_set (c := bA) H3.out nH3 0 (.int .i64 7)) nH3 1 (.int .i64 0)) nH3 2 (.slice (some ⟨s3, 0, none⟩) 2 2))
                clear HS ewn d0 d1 d2 g0 g1 g2
                have HS := HS'; clear HS'
                clear HR; have HR := HR'; clear HR'
                clear HA; have HA := HA'; clear HA'
                clear H1; have H1 := H1'; clear H1'
                clear H2; have H2 := H2'; clear H2'
                clear H3; have H3 := H3'; clear H3'
                refine hK.out _ _ HS (fun _ => ?_)
                clear hK K
                try simp only [Act.put]
                refine wpAnyH_done (by kernel_rfl) ?_ _
                go_wp2_with fail
                go_meet
                exact ⟨bA, s1, s2, s3, rfl, HS, HR.out, H1.out, H2.out, H3.out, HA.out, nL⟩
  case rest =>
    obtain ⟨bA, s1, s2, s3, rfl, hS, hR, h1, h2, h3, hA, nL⟩ := hcut
    have HLi := Lib.hid (px_lies hS.1 h1 h2 h3 HLI.out.1 HLI.out.2)
    have HS := Lib.hid hS; have HR := Lib.hid hR; have H1 := Lib.hid h1; have H2 := Lib.hid h2; have H3 := Lib.hid h3; have HA := Lib.hid hA
    clear hS hR h1 h2 h3 hA HS1 HR1 HZ1
    obtain ⟨sS, y0, y1, y2, y3, y4, y5, y6, y7, y8, _⟩ := HS.out
    obtain ⟨d0, d1, d2, _, _, _⟩ := cells3 HA.out
    go_wp2_with fail
    refine (K2.out _ _ _ HLi.out).mono ?_
    rintro e w5 ⟨rfl, hb⟩
    have HR' : Hid (w5.heap[w.heap.size + 1 + 1]? = some (.cells #[.int .i64 0, .int .i64 0, .slice none 0 0] 46 (0, 0))) := blk_below HR.out hb
    have H1' : Hid (w5.heap[s1]? = some (.cells #[.int .i64 x.qk, .int .i64 x.qn, .slice B x.qf.len D] 46 (0, 0))) := blk_below H1.out hb
    have H2' : Hid (w5.heap[s2]? = some (.cells #[.int .i64 4, .int .i64 x.act, .slice none 0 0, .int .i64 5, .int .i64 0, .slice (some ⟨s1, 0, none⟩) 1 1] 46 (0, 0))) := blk_below H2.out hb
    have H3' : Hid (w5.heap[s3]? = some (.cells #[.int .i64 x.pk, .int .i64 x.pn, .slice A x.pf.len C, .int .i64 7, .int .i64 0, .slice (some ⟨s2, 0, none⟩) 2 2] 46 (0, 0))) := blk_below H3.out hb
    have HA' : Hid (w5.heap[bA]? = some (.cells #[.int .i64 7, .int .i64 0, .slice (some ⟨s3, 0, none⟩) 2 2] 46 (0, 0))) := blk_below HA.out hb
    have HS' := Lib.hid (St.below HS.out hb)
    have HLi' := Lib.hid (HLi.out.below hb)
    clear hb sS y0 y1 y2 y3 y4 y5 y6 y7 y8 d0 d1 d2 HLi HS HR H1 H2 H3 HA
    obtain ⟨d0, d1, d2, _, _, _⟩ := cells3 HA'.out
    obtain ⟨c0, c1, c2, f0, f1, f2⟩ := cells3 HR'.out
    cases q2
    · obtain ⟨rfl, rfl, rfl⟩ := HE3.out rfl
      go_wp2_with fail
      have Bf : Below w.heap.size w (((w5.setCell ⟨w.heap.size + 1 + 1, 0, none⟩ (.int .i64 0)).setCell ⟨w.heap.size + 1 + 1, 1, none⟩ (.int .i64 0)).setCell ⟨w.heap.size + 1 + 1, 2, none⟩ (.slice none 0 0)) := (Below.setCell (p := ⟨w.heap.size + 1 + 1, 2, none⟩) (Below.setCell (p := ⟨w.heap.size + 1 + 1, 1, none⟩) (Below.setCell (p := ⟨w.heap.size + 1 + 1, 0, none⟩) HS'.out.1 (show w.heap.size ≤ w.heap.size + 1 + 1 by omega) _) (show w.heap.size ≤ w.heap.size + 1 + 1 by omega) _) (show w.heap.size ≤ w.heap.size + 1 + 1 by omega) _)
      have HBF : (((w5.setCell ⟨w.heap.size + 1 + 1, 0, none⟩ (.int .i64 0)).setCell ⟨w.heap.size + 1 + 1, 1, none⟩ (.int .i64 0)).setCell ⟨w.heap.size + 1 + 1, 2, none⟩ (.slice none 0 0)).heap[w.heap.size + 1 + 1]? = some (.cells #[.int .i64 0, .int .i64 0, .slice none 0 0] 46 (0, 0)) := by
        rw [Fo.block_setCell (Fo.block_setCell (Fo.block_setCell HR'.out _) _) _]; rfl
      generalize (((w5.setCell ⟨w.heap.size + 1 + 1, 0, none⟩ (.int .i64 0)).setCell ⟨w.heap.size + 1 + 1, 1, none⟩ (.int .i64 0)).setCell ⟨w.heap.size + 1 + 1, 2, none⟩ (.slice none 0 0)) = wj at Bf HBF ⊢
      obtain ⟨p0, p1, p2, _⟩ := cells3 HBF
      refine bodyPost_ret (v := .tuple #[.agg #[.int .i64 0, .int .i64 0, .slice none 0 0], .int .i64 3]) (by simp [results, Try.results22, go_sem, p0, p1, p2]) rfl ?_
      exact ⟨_, _, rfl, Fo.XIn.nil (by have := Bf.size; omega) _, Bf⟩
    · obtain ⟨rfl, rfl, rfl⟩ := HE0.out rfl
      go_wp2_with fail
      refine (K3.out trivial _ _ _ HLi'.out).mono ?_
      rintro e w6 ⟨A', rfl, hX, hb⟩
      have HR6 : Hid (w6.heap[w.heap.size + 1 + 1]? = some (.cells #[.int .i64 0, .int .i64 0, .slice none 0 0] 46 (0, 0))) := blk_below HR'.out hb
      have HS6 := Lib.hid (St.below HS'.out hb)
      have hz5 := blk_lt HR'.out
      have hz6 := hb.size
      have HX := Lib.hid (And.intro hX (And.intro hz5 hz6))
      clear hX hb c0 c1 c2 f0 f1 f2 d0 d1 d2 hz5 hz6
      obtain ⟨c0, c1, c2, f0, f1, f2⟩ := cells3 HR6.out
      go_wp2_with fail
      have Bf : Below w.heap.size w (((w6.setCell ⟨w.heap.size + 1 + 1, 0, none⟩ (.int .i64 7)).setCell ⟨w.heap.size + 1 + 1, 1, none⟩ (.int .i64 0)).setCell ⟨w.heap.size + 1 + 1, 2, none⟩ (.slice A' 2 2)) := (Below.setCell (p := ⟨w.heap.size + 1 + 1, 2, none⟩) (Below.setCell (p := ⟨w.heap.size + 1 + 1, 1, none⟩) (Below.setCell (p := ⟨w.heap.size + 1 + 1, 0, none⟩) HS6.out.1 (show w.heap.size ≤ w.heap.size + 1 + 1 by omega) _) (show w.heap.size ≤ w.heap.size + 1 + 1 by omega) _) (show w.heap.size ≤ w.heap.size + 1 + 1 by omega) _)
      obtain ⟨hX, hz5, hz6⟩ := HX.out
      have hs6 := HS6.out.1.size
      have hw5 := HS'.out.1.size
      have Xf : (pxF x).XIn (((w6.setCell ⟨w.heap.size + 1 + 1, 0, none⟩ (.int .i64 7)).setCell ⟨w.heap.size + 1 + 1, 1, none⟩ (.int .i64 0)).setCell ⟨w.heap.size + 1 + 1, 2, none⟩ (.slice A' 2 2)) w5.heap.size w6.heap.size A' := hX.agree (Fo.Agree.setCell (Fo.Agree.setCell (Fo.Agree.setCell (Fo.Agree.refl _ _ _) ⟨w.heap.size + 1 + 1, 0, none⟩ (Or.inl (show w.heap.size + 1 + 1 < _ by omega)) (.int .i64 7)) ⟨w.heap.size + 1 + 1, 1, none⟩ (Or.inl (show w.heap.size + 1 + 1 < _ by omega)) (.int .i64 0)) ⟨w.heap.size + 1 + 1, 2, none⟩ (Or.inl (show w.heap.size + 1 + 1 < _ by omega)) (.slice A' 2 2))
      have zf : (((w6.setCell ⟨w.heap.size + 1 + 1, 0, none⟩ (.int .i64 7)).setCell ⟨w.heap.size + 1 + 1, 1, none⟩ (.int .i64 0)).setCell ⟨w.heap.size + 1 + 1, 2, none⟩ (.slice A' 2 2)).heap.size = w6.heap.size := by simp
      have HBF : (((w6.setCell ⟨w.heap.size + 1 + 1, 0, none⟩ (.int .i64 7)).setCell ⟨w.heap.size + 1 + 1, 1, none⟩ (.int .i64 0)).setCell ⟨w.heap.size + 1 + 1, 2, none⟩ (.slice A' 2 2)).heap[w.heap.size + 1 + 1]? = some (.cells #[.int .i64 7, .int .i64 0, .slice A' 2 2] 46 (0, 0)) := by
        rw [Fo.block_setCell (Fo.block_setCell (Fo.block_setCell HR6.out _) _) _]; rfl
      generalize (((w6.setCell ⟨w.heap.size + 1 + 1, 0, none⟩ (.int .i64 7)).setCell ⟨w.heap.size + 1 + 1, 1, none⟩ (.int .i64 0)).setCell ⟨w.heap.size + 1 + 1, 2, none⟩ (.slice A' 2 2)) = wj at Bf HBF Xf zf ⊢
      obtain ⟨p0, p1, p2, _⟩ := cells3 HBF
      refine bodyPost_ret (v := .tuple #[.agg #[.int .i64 7, .int .i64 0, .slice A' 2 2], .int .i64 0]) (by simp [results, Try.results22, go_sem, p0, p1, p2]) rfl ?_
      exact ⟨A', 2, rfl, Xf.mono hw5 (by omega), Bf⟩
end Go.Proofs.Ytmblgkpgfofceaa
