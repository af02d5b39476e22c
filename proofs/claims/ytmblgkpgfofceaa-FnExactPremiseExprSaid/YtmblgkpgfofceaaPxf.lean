/- Contracts of spec.l00Rises, l07Of, ConditionOf. Contracts of spec.l00Rises, l07Of, ConditionOf. Contract of spec.ConditionOf. Contract of spec.PremiseExpr. -/
import Derived.Test.YtmblgkpgfofceaaPxe
import Derived.Test.YtmblgkpgfofceaaSpD0
import Derived.Test.YtmblgkpgfofceaaPxa
import Derived.Test.YtmblgkpgfofceaaEndE
import Derived.Deep.RegionHeld3
import Derived.Deep.DrawnRows
import Derived.Deep.RegionLaw
import Derived.Test.YtmblgkpgfofceaaValidI
import Derived.Test.YtmblgkpgfofceaaOk
import Derived.Deep.DeepCutAuto
namespace Go.Proofs.Ytmblgkpgfofceaa
open Go.RowKit
attribute [local go_sem ↓] Go.wp_at_zero Go.wp_at_succ

end Go.Proofs.Ytmblgkpgfofceaa

namespace Go.Proofs.Ytmblgkpgfofceaa
open Go.RowKit
attribute [local go_sem ↓] Go.wp_at_zero Go.wp_at_succ


end Go.Proofs.Ytmblgkpgfofceaa

namespace Go.Proofs.Ytmblgkpgfofceaa
open Go.RowKit

/-- A box of a signature, and behind it a box of an expression with nothing in it. -/
def Bk (w : World) (t a : Int) (W : World) : Prop := Sees w W ∧ W.heap[w.heap.size]? = some (.cells #[.int .i64 t, .int .i64 a] 29 (0, 0)) ∧ W.heap[w.heap.size + 1]? = some (.cells #[.int .i64 0, .int .i64 0, .slice none 0 0] 46 (0, 0)) ∧ w.heap.size + 1 < W.heap.size
theorem Bk.below {w W W' : World} {t a : Int} (h : Bk w t a W) (hb : Below W.heap.size W W') : Bk w t a W' := by
  obtain ⟨h1, h2, h3, h4⟩ := h
  have := hb.size
  exact ⟨Sees.below h1 hb, (hb.block _ (by omega)).trans h2, (hb.block _ h4).trans h3, by omega⟩
theorem Bk.start (w : World) (t a : Int) : Bk w t a ((w.alloc (.cells #[.int .i64 t, .int .i64 a] 29)).alloc (.cells #[.int .i64 0, .int .i64 0, .slice none 0 0] 46)) :=
  ⟨((Sees.refl w).alloc _).alloc _, (Below.heap_alloc _ _ _ (by simp)).trans (heap_new _ _ _ (by simp)), heap_new _ _ _ (by simp), by simp⟩

end Go.Proofs.Ytmblgkpgfofceaa

namespace Go.Proofs.Ytmblgkpgfofceaa
open Go.RowKit
set_option linter.unusedVariables false

set_option maxHeartbeats 20000000 in
set_option maxRecDepth 100000 in
theorem specPremiseExpr_any (t a : Int) (x : Pm) (hm : x.pf.nodes + x.qf.nodes ≤ 1048576) (hf : (x.pf.len ≤ 9223372036854775807 ∧ x.pf.Fits) ∧ (x.qf.len ≤ 9223372036854775807 ∧ x.qf.Fits)) (A B : Option Addr) (C D : Nat) (w : World) (hA : x.pf.Lies w A) (hB : x.qf.Lies w B) :
    Calls Try.prog 20 #[.agg #[.int .i64 t, .int .i64 a], .agg #[.int .i64 x.pk, .int .i64 x.pn, .slice A x.pf.len C, .int .i64 x.act, .int .i64 x.qk, .int .i64 x.qn, .slice B x.qf.len D]] w (LEnd (pxK t a x) 0 (pxG t a x) (pxC t a x) w) := by
  obtain ⟨q1, hq1⟩ : ∃ q : Bool, q = premB t a x := ⟨_, rfl⟩
  have K1 : Hid (∀ W : World, St w [(w.heap.size, 0, .int .i64 t), (w.heap.size, 1, .int .i64 a), (w.heap.size + 1, 0, .int .i64 x.pk), (w.heap.size + 1, 1, .int .i64 x.pn), (w.heap.size + 1, 2, .slice A x.pf.len C), (w.heap.size + 1, 3, .int .i64 x.act), (w.heap.size + 1, 4, .int .i64 x.qk), (w.heap.size + 1, 5, .int .i64 x.qn), (w.heap.size + 1, 6, .slice B x.qf.len D)] W → Calls Try.prog 58 #[.agg #[.int .i64 t, .int .i64 a], .pointer (some ⟨w.heap.size + 1, 0, none⟩)] W fun e w' => e = .returned (.bool q1) ∧ Below W.heap.size W w') := fun W h => by
    rw [hq1]; exact l07Premise_any t a x hm hf.1.2 hf.2.2 A B C D (w.heap.size + 1) 0 W (hA.sees h.1) (hB.sees h.1) ⟨h.2.2.2.1, h.2.2.2.2.1, h.2.2.2.2.2.1, h.2.2.2.2.2.2.1, h.2.2.2.2.2.2.2.1, h.2.2.2.2.2.2.2.2.1, h.2.2.2.2.2.2.2.2.2.1⟩
  obtain ⟨W0, hW0⟩ : ∃ W0, W0 = (((w.alloc (.cells #[.int .i64 t, .int .i64 a] 29)).alloc (.cells #[.int .i64 x.pk, .int .i64 x.pn, .slice A x.pf.len C, .int .i64 x.act, .int .i64 x.qk, .int .i64 x.qn, .slice B x.qf.len D] 50)).alloc (.cells #[.int .i64 0, .int .i64 0, .slice none 0 0] 46)) := ⟨_, rfl⟩
  have HS0 : Hid (St w [(w.heap.size, 0, .int .i64 t), (w.heap.size, 1, .int .i64 a), (w.heap.size + 1, 0, .int .i64 x.pk), (w.heap.size + 1, 1, .int .i64 x.pn), (w.heap.size + 1, 2, .slice A x.pf.len C), (w.heap.size + 1, 3, .int .i64 x.act), (w.heap.size + 1, 4, .int .i64 x.qk), (w.heap.size + 1, 5, .int .i64 x.qn), (w.heap.size + 1, 6, .slice B x.qf.len D)] W0) := by
    rw [hW0]; exact ⟨((((Sees.refl w).alloc _).alloc _).alloc _), (by simp [go_sem]), (by simp [go_sem]), (by simp [go_sem]), (by simp [go_sem]), (by simp [go_sem]), (by simp [go_sem]), (by simp [go_sem]), (by simp [go_sem]), (by simp [go_sem]), trivial⟩
  have HR0 : Hid (W0.heap[w.heap.size + 1 + 1]? = some (.cells #[.int .i64 0, .int .i64 0, .slice none 0 0] 46 (0, 0))) := by show _ = _; rw [hW0]; exact heap_new _ _ _ (by simp)
  have HZ0 : Hid (w.heap.size + 3 ≤ W0.heap.size) := by show _ ≤ _; rw [hW0]; simp
  cases q1
  · obtain ⟨d1, d2, d3⟩ := px_1 hq1.symm
    rw [d1, d2, d3]
    clear hq1 d1 d2 d3 hA hB hm hf
    go_enter Try.func20, Try.ntmps20
    go_wp2_with fail
    rw [← hW0]
    clear hW0
    refine (K1.out _ HS0.out).mono ?_
    rintro e w1 ⟨rfl, hb⟩
    have HS1 := Lib.hid (St.below HS0.out hb)
    have HR1 : Hid (w1.heap[w.heap.size + 1 + 1]? = some (.cells #[.int .i64 0, .int .i64 0, .slice none 0 0] 46 (0, 0))) := blk_below HR0.out hb
    have HZ1 : Hid (w.heap.size + 3 ≤ w1.heap.size) := Nat.le_trans HZ0.out hb.size
    clear hb HS0 HR0 HZ0 K1
    obtain ⟨sS, y0, y1, y2, y3, y4, y5, y6, y7, y8, _⟩ := HS1.out
    obtain ⟨c0, c1, c2, f0, f1, f2⟩ := cells3 HR1.out
    go_wp2_with fail
    have Bf : Below w.heap.size w (((w1.setCell ⟨w.heap.size + 1 + 1, 0, none⟩ (.int .i64 0)).setCell ⟨w.heap.size + 1 + 1, 1, none⟩ (.int .i64 0)).setCell ⟨w.heap.size + 1 + 1, 2, none⟩ (.slice none 0 0)) := (Below.setCell (p := ⟨w.heap.size + 1 + 1, 2, none⟩) (Below.setCell (p := ⟨w.heap.size + 1 + 1, 1, none⟩) (Below.setCell (p := ⟨w.heap.size + 1 + 1, 0, none⟩) HS1.out.1 (show w.heap.size ≤ w.heap.size + 1 + 1 by omega) _) (show w.heap.size ≤ w.heap.size + 1 + 1 by omega) _) (show w.heap.size ≤ w.heap.size + 1 + 1 by omega) _)
    have HBF : (((w1.setCell ⟨w.heap.size + 1 + 1, 0, none⟩ (.int .i64 0)).setCell ⟨w.heap.size + 1 + 1, 1, none⟩ (.int .i64 0)).setCell ⟨w.heap.size + 1 + 1, 2, none⟩ (.slice none 0 0)).heap[w.heap.size + 1 + 1]? = some (.cells #[.int .i64 0, .int .i64 0, .slice none 0 0] 46 (0, 0)) := by
      rw [Fo.block_setCell (Fo.block_setCell (Fo.block_setCell HR1.out _) _) _]; rfl
    generalize (((w1.setCell ⟨w.heap.size + 1 + 1, 0, none⟩ (.int .i64 0)).setCell ⟨w.heap.size + 1 + 1, 1, none⟩ (.int .i64 0)).setCell ⟨w.heap.size + 1 + 1, 2, none⟩ (.slice none 0 0)) = wj at Bf HBF ⊢
    obtain ⟨p0, p1, p2, _⟩ := cells3 HBF
    refine bodyPost_ret (v := .tuple #[.agg #[.int .i64 0, .int .i64 0, .slice none 0 0], .int .i64 1]) (by simp [results, Try.results20, go_sem, p0, p1, p2]) rfl ?_
    exact ⟨_, _, rfl, Fo.LiesIn.nil _ _ _, Bf⟩
  obtain ⟨cc, hcc⟩ : ∃ c, c = pxC t a x := ⟨_, rfl⟩
  obtain ⟨gg, hgg⟩ : ∃ c, c = pxG t a x := ⟨_, rfl⟩
  obtain ⟨kk, hkk⟩ : ∃ c, c = pxK t a x := ⟨_, rfl⟩
  rw [← hcc, ← hgg, ← hkk]
  have hpb := hq1.symm
  obtain ⟨q2, hq2⟩ : ∃ q : Bool, q = validE t a 7 0 (pxF x) := ⟨_, rfl⟩
  have hsm : (pxF x).nodes ≤ 1048576 := by have := pm_small hpb; rw [pxF_nodes]; omega
  have K2 : Hid (∀ (W : World) (Z : Option Addr) (b : Nat), (pxF x).Lies W Z → W.cell? ⟨b, 0, none⟩ = some (.int .i64 7) → W.cell? ⟨b, 1, none⟩ = some (.int .i64 0) → W.cell? ⟨b, 2, none⟩ = some (.slice Z 2 2) → Calls Try.prog 62 #[.agg #[.int .i64 t, .int .i64 a], .pointer (some ⟨b, 0, none⟩)] W fun e w' => e = .returned (.bool q2) ∧ Below W.heap.size W w') := fun W Z b h c0 c1 c2 => by rw [hq2]; exact l01Ok_any (pxF x) hsm (px_fits hf) t a 7 0 Z 2 b 0 W h c0 c1 c2
  have HE3 : Hid (q2 = false → cc = 3 ∧ gg = .nil ∧ kk = 0) := fun h => by rw [hcc, hgg, hkk]; exact px_3 hpb (by rw [← hq2]; exact h)
  have HE0 : Hid (q2 = true → cc = 0 ∧ gg = pxF x ∧ kk = 7) := fun h => by rw [hcc, hgg, hkk]; exact px_0 hpb (by rw [← hq2]; exact h)
  have HLI : Hid (x.pf.Lies w A ∧ x.qf.Lies w B) := ⟨hA, hB⟩
  have HM : Hid (x.pf.nodes ≤ 1048576 ∧ x.qf.nodes ≤ 1048576) := ⟨by omega, by omega⟩
  clear hq1 hpb hq2 hsm hm hf hA hB hcc hgg hkk
  go_enter Try.func20, Try.ntmps20
  go_wp2_with fail
  rw [← hW0]
  clear hW0
  refine (K1.out _ HS0.out).mono ?_
  rintro e w1 ⟨rfl, hb⟩
  have HS1 := Lib.hid (St.below HS0.out hb)
  have HR1 : Hid (w1.heap[w.heap.size + 1 + 1]? = some (.cells #[.int .i64 0, .int .i64 0, .slice none 0 0] 46 (0, 0))) := blk_below HR0.out hb
  have HZ1 : Hid (w.heap.size + 3 ≤ w1.heap.size) := Nat.le_trans HZ0.out hb.size
  clear hb HS0 HR0 HZ0 K1
  obtain ⟨sS, y0, y1, y2, y3, y4, y5, y6, y7, y8, _⟩ := HS1.out
  go_wp2_with fail
  clear sS y0 y1 y2 y3 y4 y5 y6 y7 y8
  obtain ⟨w2, hw2⟩ : ∃ w2, w2 = w1.alloc (.cells #[.int .i64 4, .int .i64 x.act, .slice none 0 0] 46) := ⟨_, rfl⟩
  obtain ⟨bX, hX⟩ : ∃ n, n = w1.heap.size := ⟨_, rfl⟩
  rw [← hw2, ← hX]
  have hbX : w.heap.size + 3 ≤ bX := by rw [hX]; exact HZ1.out
  have hk : w2.heap[bX]? = some (.cells #[.int .i64 4, .int .i64 x.act, .slice none 0 0] 46 (0, 0)) := by rw [hw2]; exact heap_new _ _ _ hX
  have HS2 : Hid (St w [(w.heap.size, 0, .int .i64 t), (w.heap.size, 1, .int .i64 a), (w.heap.size + 1, 0, .int .i64 x.pk), (w.heap.size + 1, 1, .int .i64 x.pn), (w.heap.size + 1, 2, .slice A x.pf.len C), (w.heap.size + 1, 3, .int .i64 x.act), (w.heap.size + 1, 4, .int .i64 x.qk), (w.heap.size + 1, 5, .int .i64 x.qn), (w.heap.size + 1, 6, .slice B x.qf.len D), (bX, 0, .int .i64 4), (bX, 1, .int .i64 x.act), (bX, 2, .slice none 0 0)] w2) := ⟨by rw [hw2]; exact HS1.out.1.alloc _, by rw [hw2]; exact ka _ HS1.out.2.1, by rw [hw2]; exact ka _ HS1.out.2.2.1, by rw [hw2]; exact ka _ HS1.out.2.2.2.1, by rw [hw2]; exact ka _ HS1.out.2.2.2.2.1, by rw [hw2]; exact ka _ HS1.out.2.2.2.2.2.1, by rw [hw2]; exact ka _ HS1.out.2.2.2.2.2.2.1, by rw [hw2]; exact ka _ HS1.out.2.2.2.2.2.2.2.1, by rw [hw2]; exact ka _ HS1.out.2.2.2.2.2.2.2.2.1, by rw [hw2]; exact ka _ HS1.out.2.2.2.2.2.2.2.2.2.1, Fo.cell_of_block hk 0, Fo.cell_of_block hk 1, Fo.cell_of_block hk 2, trivial⟩
  have HR2 : Hid (w2.heap[w.heap.size + 1 + 1]? = some (.cells #[.int .i64 0, .int .i64 0, .slice none 0 0] 46 (0, 0))) := by show _ = _; rw [hw2]; exact blk_alloc HR1.out _
  have HZ2 : Hid (bX + 1 ≤ w2.heap.size) := by show _ ≤ _; rw [hw2, hX]; simp
  clear hk hw2 hX HS1 HR1 HZ1
  have KO : Hid (∀ W : World, St w [(w.heap.size, 0, .int .i64 t), (w.heap.size, 1, .int .i64 a), (w.heap.size + 1, 0, .int .i64 x.pk), (w.heap.size + 1, 1, .int .i64 x.pn), (w.heap.size + 1, 2, .slice A x.pf.len C), (w.heap.size + 1, 3, .int .i64 x.act), (w.heap.size + 1, 4, .int .i64 x.qk), (w.heap.size + 1, 5, .int .i64 x.qn), (w.heap.size + 1, 6, .slice B x.qf.len D), (bX, 0, .int .i64 4), (bX, 1, .int .i64 x.act), (bX, 2, .slice none 0 0)] W → Calls Try.prog 60 #[.pointer (some ⟨w.heap.size + 1, 0, none⟩)] W fun e w' => ∃ A' C', e = .returned (.agg #[.int .i64 x.pk, .int .i64 x.pn, .slice A' x.pf.len C']) ∧ x.pf.LiesIn w' W.heap.size w'.heap.size A' ∧ Below W.heap.size W w') := fun W h => l01Own_any (x.pf.nodes + 1) x.pf (Nat.lt_succ_self _) HM.out.1 x.pk x.pn A C (w.heap.size + 1) 0 W (HLI.out.1.sees h.1) h.2.2.2.1 h.2.2.2.2.1 h.2.2.2.2.2.1
  have KN : Hid (∀ W : World, St w [(w.heap.size, 0, .int .i64 t), (w.heap.size, 1, .int .i64 a), (w.heap.size + 1, 0, .int .i64 x.pk), (w.heap.size + 1, 1, .int .i64 x.pn), (w.heap.size + 1, 2, .slice A x.pf.len C), (w.heap.size + 1, 3, .int .i64 x.act), (w.heap.size + 1, 4, .int .i64 x.qk), (w.heap.size + 1, 5, .int .i64 x.qn), (w.heap.size + 1, 6, .slice B x.qf.len D), (bX, 0, .int .i64 4), (bX, 1, .int .i64 x.act), (bX, 2, .slice none 0 0)] W → Calls Try.prog 61 #[.agg #[.int .i64 x.qk, .int .i64 x.qn, .slice B x.qf.len D]] W fun e w' => ∃ Z, e = .returned (.agg #[.int .i64 5, .int .i64 0, .slice Z 1 1]) ∧ (Fo.cons x.qk x.qn x.qf .nil).LiesIn w' W.heap.size w'.heap.size Z ∧ Below W.heap.size W w') := fun W h => l06Not_any x.qk x.qn x.qf HM.out.2 B D W (HLI.out.2.sees h.1)
  clear HLI HM
  go_cut [7] (fun sp wx => ∃ bA s3 : Nat, sp = .pointer (some ⟨bA, 0, none⟩) ∧ St w [(w.heap.size, 0, .int .i64 t), (w.heap.size, 1, .int .i64 a), (w.heap.size + 1, 0, .int .i64 x.pk), (w.heap.size + 1, 1, .int .i64 x.pn), (w.heap.size + 1, 2, .slice A x.pf.len C), (w.heap.size + 1, 3, .int .i64 x.act), (w.heap.size + 1, 4, .int .i64 x.qk), (w.heap.size + 1, 5, .int .i64 x.qn), (w.heap.size + 1, 6, .slice B x.qf.len D), (bX, 0, .int .i64 4), (bX, 1, .int .i64 x.act), (bX, 2, .slice none 0 0)] wx ∧ wx.heap[w.heap.size + 1 + 1]? = some (.cells #[.int .i64 0, .int .i64 0, .slice none 0 0] 46 (0, 0)) ∧ (pxF x).LiesIn wx (w.heap.size + 3) wx.heap.size (some ⟨s3, 0, none⟩) ∧ wx.heap[bA]? = some (.cells #[.int .i64 7, .int .i64 0, .slice (some ⟨s3, 0, none⟩) 2 2] 46 (0, 0)) ∧ bX + 1 ≤ bA)
  case first =>
    clear K2 HE3 HE0
    refine wp_region_held_drew (S := fun w' => St w [(w.heap.size, 0, .int .i64 t), (w.heap.size, 1, .int .i64 a), (w.heap.size + 1, 0, .int .i64 x.pk), (w.heap.size + 1, 1, .int .i64 x.pn), (w.heap.size + 1, 2, .slice A x.pf.len C), (w.heap.size + 1, 3, .int .i64 x.act), (w.heap.size + 1, 4, .int .i64 x.qk), (w.heap.size + 1, 5, .int .i64 x.qn), (w.heap.size + 1, 6, .slice B x.qf.len D), (bX, 0, .int .i64 4), (bX, 1, .int .i64 x.act), (bX, 2, .slice none 0 0)] w') (by kernel_rfl) HS2.out.drew (fun HS => ?_)
    obtain ⟨w20, ew20⟩ : ∃ wn, wn = w2.drew := ⟨_, rfl⟩
    have HR : Hid (w20.heap[w.heap.size + 1 + 1]? = some (.cells #[.int .i64 0, .int .i64 0, .slice none 0 0] 46 (0, 0))) := by show _ = _; rw [ew20]; exact HR2.out
    have HZ : Hid (bX + 1 ≤ w20.heap.size) := by show _ ≤ _; rw [ew20]; exact HZ2.out
    rw [← ew20] at HS ⊢
    clear ew20 HR2 HZ2 HS2
    refine wpAnyH_take (i := 0) (oi := { dst := some 15, op := Op.fieldAddr 50 (Operand.tmp 3) 0, type := 0, pos := "l07_conditions.go:39", after := #[], guard := none }) (v := .pointer (some ⟨w.heap.size + 1, 0, none⟩)) rfl (by kernel_rfl) (by kernel_rfl) (by kernel_rfl) (fun _ _ _ h => h) (Or.inl ⟨rfl, fun W hW => by (obtain ⟨_, y0, y1, y2, y3, y4, y5, y6, y7, y8, y9, y10, y11, _⟩ := hW; go_simp; try rfl)⟩) HS ?_
    try simp only [Act.put, List.setIfInBounds_toArray, List.set_cons_zero, List.set_cons_succ]
    refine wpAnyH_take (i := 2) (oi := { dst := some 17, op := Op.load 46 (Operand.tmp 6), type := 46, pos := "l07_conditions.go:39", after := #[], guard := none }) (v := .agg #[.int .i64 4, .int .i64 x.act, .slice none 0 0]) rfl (by kernel_rfl) (by kernel_rfl) (by kernel_rfl) (fun _ _ _ h => h) (Or.inl ⟨rfl, fun W hW => by (obtain ⟨_, y0, y1, y2, y3, y4, y5, y6, y7, y8, y9, y10, y11, _⟩ := hW; go_simp; try rfl)⟩) HS ?_
    try simp only [Act.put, List.setIfInBounds_toArray, List.set_cons_zero, List.set_cons_succ]
    refine wpAnyH_take (i := 3) (oi := { dst := some 18, op := Op.fieldAddr 50 (Operand.tmp 3) 2, type := 0, pos := "l07_conditions.go:39", after := #[], guard := none }) (v := .pointer (some ⟨w.heap.size + 1, 4, none⟩)) rfl (by kernel_rfl) (by kernel_rfl) (by kernel_rfl) (fun _ _ _ h => h) (Or.inl ⟨rfl, fun W hW => by (obtain ⟨_, y0, y1, y2, y3, y4, y5, y6, y7, y8, y9, y10, y11, _⟩ := hW; go_simp; try rfl)⟩) HS ?_
    try simp only [Act.put, List.setIfInBounds_toArray, List.set_cons_zero, List.set_cons_succ]
    refine wpAnyH_take (i := 4) (oi := { dst := some 19, op := Op.load 46 (Operand.tmp 18), type := 46, pos := "l07_conditions.go:39", after := #[{ on := 3, ground := Ground.data }], guard := none }) (v := .agg #[.int .i64 x.qk, .int .i64 x.qn, .slice B x.qf.len D]) rfl (by kernel_rfl) (by kernel_rfl) (by kernel_rfl) (fun _ _ _ h => h) (Or.inl ⟨rfl, fun W hW => by (obtain ⟨_, y0, y1, y2, y3, y4, y5, y6, y7, y8, y9, y10, y11, _⟩ := hW; go_simp; try rfl)⟩) HS ?_
    try simp only [Act.put, List.setIfInBounds_toArray, List.set_cons_zero, List.set_cons_succ]
    refine wpAnyH_ready (rs := [1, 8]) (by kernel_rfl) (by simp) ?_
    refine (AllReadyH.cons (o := { dst := some 16, op := Op.call { callee := Callee.value (Operand.func 60), args := #[Operand.tmp 15], argTypes := #[99] }, type := 46, pos := "l07_conditions.go:39", after := #[{ on := 0, ground := Ground.data }], guard := none }) rfl (fun K hK => ?_) (AllReadyH.cons (o := { dst := some 7, op := Op.alloc 46, type := 0, pos := "l07_conditions.go:39", after := #[], guard := none }) rfl (fun K hK => ?_) AllReadyH.nil))
    · go_simp
      refine (KO.out w20 HS).mono ?_
      rintro e w21 ⟨A1, C1, rfl, hX1, hb⟩
      have HS' := St.below HS hb
      have zz := HZ.out
      have zb := hb.size
      have HZ' : Hid (bX + 1 ≤ w21.heap.size) := Nat.le_trans zz zb
      have lHR := blk_lt HR.out
      have F1 : Hid (x.pf.LiesIn w21 w20.heap.size w21.heap.size A1 ∧ w21.heap.size ≤ w21.heap.size) := ⟨hX1, Nat.le_refl _⟩
      have gF1 : w.heap.size + 3 ≤ w20.heap.size := by omega
      have HR' : Hid (w21.heap[w.heap.size + 1 + 1]? = some (.cells #[.int .i64 0, .int .i64 0, .slice none 0 0] 46 (0, 0))) := blk_below HR.out hb
      clear HS HZ zz zb hb lHR
      have HS := HS'; clear HS'; have HZ := HZ'; clear HZ'
      clear HR; have HR := HR'; clear HR'
      go_wp2_with fail
      refine hK.out _ _ HS (fun _ => ?_)
      clear hK K
      try simp only [Act.put, List.setIfInBounds_toArray, List.set_cons_zero, List.set_cons_succ]
      refine wpAnyH_ready (rs := [5, 8]) (by kernel_rfl) (by simp) ?_
      refine (AllReadyH.cons (o := { dst := some 20, op := Op.call { callee := Callee.value (Operand.func 61), args := #[Operand.tmp 19], argTypes := #[46] }, type := 46, pos := "l07_conditions.go:39", after := #[{ on := 4, ground := Ground.data }, { on := 1, ground := Ground.chain }], guard := none }) rfl (fun K hK => ?_) (AllReadyH.cons (o := { dst := some 7, op := Op.alloc 46, type := 0, pos := "l07_conditions.go:39", after := #[], guard := none }) rfl (fun K hK => ?_) AllReadyH.nil))
      · go_simp
        refine (KN.out w21 HS).mono ?_
        rintro e w22 ⟨A2, rfl, hX2, hb⟩
        have HS' := St.below HS hb
        have zz := HZ.out
        have zb := hb.size
        have HZ' : Hid (bX + 1 ≤ w22.heap.size) := Nat.le_trans zz zb
        have lHR := blk_lt HR.out
        have lF1 := F1.out.2
        have F2 : Hid ((Fo.cons x.qk x.qn x.qf .nil).LiesIn w22 w21.heap.size w22.heap.size A2 ∧ w22.heap.size ≤ w22.heap.size) := ⟨hX2, Nat.le_refl _⟩
        have gF2 : w.heap.size + 3 ≤ w21.heap.size := by omega
        have HR' : Hid (w22.heap[w.heap.size + 1 + 1]? = some (.cells #[.int .i64 0, .int .i64 0, .slice none 0 0] 46 (0, 0))) := blk_below HR.out hb
        have F1' : Hid (x.pf.LiesIn w22 w20.heap.size w21.heap.size A1 ∧ w21.heap.size ≤ w22.heap.size) := rng_below F1.out hb
        clear HS HZ zz zb hb lHR lF1
        have HS := HS'; clear HS'; have HZ := HZ'; clear HZ'
        clear HR; have HR := HR'; clear HR'
        clear F1; have F1 := F1'; clear F1'
        go_wp2_with fail
        refine hK.out _ _ HS (fun _ => ?_)
        clear hK K
        try simp only [Act.put, List.setIfInBounds_toArray, List.set_cons_zero, List.set_cons_succ]
        refine wpAnyH_ready (rs := [6, 8]) (by kernel_rfl) (by simp) ?_
        refine (AllReadyH.cons (o := { dst := some 21, op := Op.call { callee := Callee.value (Operand.func 59), args := #[Operand.const (Value.int IntKind.i64 7), Operand.tmp 17, Operand.tmp 20], argTypes := #[2, 46, 46] }, type := 46, pos := "l07_conditions.go:39", after := #[{ on := 2, ground := Ground.data }, { on := 5, ground := Ground.data }, { on := 5, ground := Ground.chain }], guard := none }) rfl (fun K hK => ?_) (AllReadyH.cons (o := { dst := some 7, op := Op.alloc 46, type := 0, pos := "l07_conditions.go:39", after := #[], guard := none }) rfl (fun K hK => ?_) AllReadyH.nil))
        · go_simp
          refine (pair_blk 7 _ _ _ _ _ _ _ _ _ _ _ _ _ _ _ _ w22 rfl rfl rfl rfl rfl rfl).mono ?_
          rintro e w23 ⟨s2, rfl, hz2, hk2, hb⟩
          have HS' := St.below HS hb
          have zz := HZ.out
          have zb := hb.size
          have HZ' : Hid (bX + 1 ≤ w23.heap.size) := Nat.le_trans zz zb
          have lHR := blk_lt HR.out
          have lF1 := F1.out.2
          have lF2 := F2.out.2
          have H2 : Hid (w23.heap[s2]? = some (.cells #[.int .i64 4, .int .i64 x.act, .slice none 0 0, .int .i64 5, .int .i64 0, .slice A2 1 1] 46 (0, 0))) := hk2
          have gH2 : w.heap.size + 3 ≤ s2 := by omega
          have HR' : Hid (w23.heap[w.heap.size + 1 + 1]? = some (.cells #[.int .i64 0, .int .i64 0, .slice none 0 0] 46 (0, 0))) := blk_below HR.out hb
          have F1' : Hid (x.pf.LiesIn w23 w20.heap.size w21.heap.size A1 ∧ w21.heap.size ≤ w23.heap.size) := rng_below F1.out hb
          have F2' : Hid ((Fo.cons x.qk x.qn x.qf .nil).LiesIn w23 w21.heap.size w22.heap.size A2 ∧ w22.heap.size ≤ w23.heap.size) := rng_below F2.out hb
          clear HS HZ zz zb hb lHR lF1 lF2
          have HS := HS'; clear HS'; have HZ := HZ'; clear HZ'
          clear HR; have HR := HR'; clear HR'
          clear F1; have F1 := F1'; clear F1'
          clear F2; have F2 := F2'; clear F2'
          go_wp2_with fail
          refine hK.out _ _ HS (fun _ => ?_)
          clear hK K
          try simp only [Act.put, List.setIfInBounds_toArray, List.set_cons_zero, List.set_cons_succ]
          refine wpAnyH_ready (rs := [7, 8]) (by kernel_rfl) (by simp) ?_
          refine (AllReadyH.cons (o := { dst := some 22, op := Op.call { callee := Callee.value (Operand.func 59), args := #[Operand.const (Value.int IntKind.i64 7), Operand.tmp 16, Operand.tmp 21], argTypes := #[2, 46, 46] }, type := 46, pos := "l07_conditions.go:39", after := #[{ on := 1, ground := Ground.data }, { on := 6, ground := Ground.data }, { on := 6, ground := Ground.chain }], guard := none }) rfl (fun K hK => ?_) (AllReadyH.cons (o := { dst := some 7, op := Op.alloc 46, type := 0, pos := "l07_conditions.go:39", after := #[], guard := none }) rfl (fun K hK => ?_) AllReadyH.nil))
          · go_simp
            refine (pair_blk 7 _ _ _ _ _ _ _ _ _ _ _ _ _ _ _ _ w23 rfl rfl rfl rfl rfl rfl).mono ?_
            rintro e w24 ⟨s3, rfl, hz3, hk3, hb⟩
            have HS' := St.below HS hb
            have zz := HZ.out
            have zb := hb.size
            have HZ' : Hid (bX + 1 ≤ w24.heap.size) := Nat.le_trans zz zb
            have lHR := blk_lt HR.out
            have lF1 := F1.out.2
            have lF2 := F2.out.2
            have lH2 := blk_lt H2.out
            have H3 : Hid (w24.heap[s3]? = some (.cells #[.int .i64 x.pk, .int .i64 x.pn, .slice A1 x.pf.len C1, .int .i64 7, .int .i64 0, .slice (some ⟨s2, 0, none⟩) 2 2] 46 (0, 0))) := hk3
            have gH3 : w.heap.size + 3 ≤ s3 := by omega
            have HR' : Hid (w24.heap[w.heap.size + 1 + 1]? = some (.cells #[.int .i64 0, .int .i64 0, .slice none 0 0] 46 (0, 0))) := blk_below HR.out hb
            have F1' : Hid (x.pf.LiesIn w24 w20.heap.size w21.heap.size A1 ∧ w21.heap.size ≤ w24.heap.size) := rng_below F1.out hb
            have F2' : Hid ((Fo.cons x.qk x.qn x.qf .nil).LiesIn w24 w21.heap.size w22.heap.size A2 ∧ w22.heap.size ≤ w24.heap.size) := rng_below F2.out hb
            have H2' : Hid (w24.heap[s2]? = some (.cells #[.int .i64 4, .int .i64 x.act, .slice none 0 0, .int .i64 5, .int .i64 0, .slice A2 1 1] 46 (0, 0))) := blk_below H2.out hb
            clear HS HZ zz zb hb lHR lF1 lF2 lH2
            have HS := HS'; clear HS'; have HZ := HZ'; clear HZ'
            clear HR; have HR := HR'; clear HR'
            clear F1; have F1 := F1'; clear F1'
            clear F2; have F2 := F2'; clear F2'
            clear H2; have H2 := H2'; clear H2'
            go_wp2_with fail
            refine hK.out _ _ HS (fun _ => ?_)
            clear hK K
            try simp only [Act.put, List.setIfInBounds_toArray, List.set_cons_zero, List.set_cons_succ]
            refine wpAnyH_ready (rs := [8]) (by kernel_rfl) (by simp) ?_
            refine (AllReadyH.cons (o := { dst := some 7, op := Op.alloc 46, type := 0, pos := "l07_conditions.go:39", after := #[], guard := none }) rfl (fun K hK => ?_) AllReadyH.nil)
            · go_simp
              obtain ⟨w25, ewn⟩ : ∃ wn, wn = w24.alloc (.cells #[.int .i64 0, .int .i64 0, .slice none 0 0] 46) := ⟨_, rfl⟩
              obtain ⟨bA, ebA⟩ : ∃ n, n = w24.heap.size := ⟨_, rfl⟩
              rw [← ewn, ← ebA]
              have HA : Hid (w25.heap[bA]? = some (.cells #[.int .i64 0, .int .i64 0, .slice none 0 0] 46 (0, 0))) := by show _ = _; rw [ewn]; exact heap_new _ _ _ ebA
              have HS' : St w [(w.heap.size, 0, .int .i64 t), (w.heap.size, 1, .int .i64 a), (w.heap.size + 1, 0, .int .i64 x.pk), (w.heap.size + 1, 1, .int .i64 x.pn), (w.heap.size + 1, 2, .slice A x.pf.len C), (w.heap.size + 1, 3, .int .i64 x.act), (w.heap.size + 1, 4, .int .i64 x.qk), (w.heap.size + 1, 5, .int .i64 x.qn), (w.heap.size + 1, 6, .slice B x.qf.len D), (bX, 0, .int .i64 4), (bX, 1, .int .i64 x.act), (bX, 2, .slice none 0 0)] w25 := by rw [ewn]; exact HS.alloc _
              have zz := HZ.out
              have HZ' : Hid (bX + 1 ≤ w25.heap.size) := by show _ ≤ _; rw [ewn]; simp; omega
              have lHR := blk_lt HR.out
              have lF1 := F1.out.2
              have lF2 := F2.out.2
              have lH2 := blk_lt H2.out
              have lH3 := blk_lt H3.out
              have nHR : w.heap.size + 1 + 1 ≠ bA := by omega
              have nF1 : bA < w20.heap.size ∨ w21.heap.size ≤ bA := by omega
              have nF2 : bA < w21.heap.size ∨ w22.heap.size ≤ bA := by omega
              have nH2 : s2 ≠ bA := by omega
              have nH3 : s3 ≠ bA := by omega
              have nL : bX + 1 ≤ bA := by omega
              have HR' : Hid (w25.heap[w.heap.size + 1 + 1]? = some (.cells #[.int .i64 0, .int .i64 0, .slice none 0 0] 46 (0, 0))) := by show _ = _; rw [ewn]; exact blk_alloc HR.out _
              have F1' : Hid (x.pf.LiesIn w25 w20.heap.size w21.heap.size A1 ∧ w21.heap.size ≤ w25.heap.size) := by rw [ewn]; exact rng_below F1.out ((Below.refl _ _).alloc (Nat.le_refl _) _)
              have F2' : Hid ((Fo.cons x.qk x.qn x.qf .nil).LiesIn w25 w21.heap.size w22.heap.size A2 ∧ w22.heap.size ≤ w25.heap.size) := by rw [ewn]; exact rng_below F2.out ((Below.refl _ _).alloc (Nat.le_refl _) _)
              have H2' : Hid (w25.heap[s2]? = some (.cells #[.int .i64 4, .int .i64 x.act, .slice none 0 0, .int .i64 5, .int .i64 0, .slice A2 1 1] 46 (0, 0))) := by show _ = _; rw [ewn]; exact blk_alloc H2.out _
              have H3' : Hid (w25.heap[s3]? = some (.cells #[.int .i64 x.pk, .int .i64 x.pn, .slice A1 x.pf.len C1, .int .i64 7, .int .i64 0, .slice (some ⟨s2, 0, none⟩) 2 2] 46 (0, 0))) := by show _ = _; rw [ewn]; exact blk_alloc H3.out _
              clear HS HZ zz ewn ebA lHR lF1 lF2 lH2 lH3
              have HS := HS'; clear HS'; have HZ := HZ'; clear HZ'
              clear HR; have HR := HR'; clear HR'
              clear F1; have F1 := F1'; clear F1'
              clear F2; have F2 := F2'; clear F2'
              clear H2; have H2 := H2'; clear H2'
              clear H3; have H3 := H3'; clear H3'
              refine hK.out _ _ HS (fun _ => ?_)
              clear hK K
              try simp only [Act.put, List.setIfInBounds_toArray, List.set_cons_zero, List.set_cons_succ]
              refine wpAnyH_ready (rs := [9]) (by kernel_rfl) (by simp) ?_
              refine AllReadyH.cons (o := { dst := none, op := Op.store 46 (Operand.tmp 7) (Operand.tmp 22), type := 0, pos := "l07_conditions.go:39", after := #[{ on := 8, ground := Ground.data }, { on := 7, ground := Ground.data }, { on := 7, ground := Ground.chain }, { on := 0, ground := Ground.phase }, { on := 1, ground := Ground.phase }, { on := 2, ground := Ground.phase }, { on := 3, ground := Ground.phase }, { on := 4, ground := Ground.phase }, { on := 5, ground := Ground.phase }, { on := 6, ground := Ground.phase }, { on := 7, ground := Ground.phase }, { on := 8, ground := Ground.phase }], guard := none }) rfl (fun K hK => ?_) AllReadyH.nil
              obtain ⟨d0, d1, d2, g0, g1, g2⟩ := cells3 HA.out
              go_simp
              obtain ⟨w26, ewn⟩ : ∃ wn, wn = (((w25.setCell ⟨bA, 0, none⟩ (.int .i64 7)).setCell ⟨bA, 1, none⟩ (.int .i64 0)).setCell ⟨bA, 2, none⟩ (.slice (some ⟨s3, 0, none⟩) 2 2)) := ⟨_, rfl⟩
              rw [← ewn]
              have HS' : St w [(w.heap.size, 0, .int .i64 t), (w.heap.size, 1, .int .i64 a), (w.heap.size + 1, 0, .int .i64 x.pk), (w.heap.size + 1, 1, .int .i64 x.pn), (w.heap.size + 1, 2, .slice A x.pf.len C), (w.heap.size + 1, 3, .int .i64 x.act), (w.heap.size + 1, 4, .int .i64 x.qk), (w.heap.size + 1, 5, .int .i64 x.qn), (w.heap.size + 1, 6, .slice B x.qf.len D), (bX, 0, .int .i64 4), (bX, 1, .int .i64 x.act), (bX, 2, .slice none 0 0)] w26 := by rw [ewn]; exact (St.put (b := bA) (St.put (b := bA) (St.put (b := bA) HS (by simp; omega) (by omega) 0 (.int .i64 7)) (by simp; omega) (by omega) 1 (.int .i64 0)) (by simp; omega) (by omega) 2 (.slice (some ⟨s3, 0, none⟩) 2 2))
              have HR' : Hid (w26.heap[w.heap.size + 1 + 1]? = some (.cells #[.int .i64 0, .int .i64 0, .slice none 0 0] 46 (0, 0))) := by show _ = _; rw [ewn]; exact (blk_set (c := bA) (blk_set (c := bA) (blk_set (c := bA) HR.out nHR 0 (.int .i64 7)) nHR 1 (.int .i64 0)) nHR 2 (.slice (some ⟨s3, 0, none⟩) 2 2))
              have F1' : Hid (x.pf.LiesIn w26 w20.heap.size w21.heap.size A1 ∧ w21.heap.size ≤ w26.heap.size) := by rw [ewn]; exact (rng_set (c := bA) (rng_set (c := bA) (rng_set (c := bA) F1.out nF1 0 (.int .i64 7)) nF1 1 (.int .i64 0)) nF1 2 (.slice (some ⟨s3, 0, none⟩) 2 2))
              have F2' : Hid ((Fo.cons x.qk x.qn x.qf .nil).LiesIn w26 w21.heap.size w22.heap.size A2 ∧ w22.heap.size ≤ w26.heap.size) := by rw [ewn]; exact (rng_set (c := bA) (rng_set (c := bA) (rng_set (c := bA) F2.out nF2 0 (.int .i64 7)) nF2 1 (.int .i64 0)) nF2 2 (.slice (some ⟨s3, 0, none⟩) 2 2))
              have H2' : Hid (w26.heap[s2]? = some (.cells #[.int .i64 4, .int .i64 x.act, .slice none 0 0, .int .i64 5, .int .i64 0, .slice A2 1 1] 46 (0, 0))) := by show _ = _; rw [ewn]; exact (blk_set (c := bA) (blk_set (c := bA) (blk_set (c := bA) H2.out nH2 0 (.int .i64 7)) nH2 1 (.int .i64 0)) nH2 2 (.slice (some ⟨s3, 0, none⟩) 2 2))
              have H3' : Hid (w26.heap[s3]? = some (.cells #[.int .i64 x.pk, .int .i64 x.pn, .slice A1 x.pf.len C1, .int .i64 7, .int .i64 0, .slice (some ⟨s2, 0, none⟩) 2 2] 46 (0, 0))) := by show _ = _; rw [ewn]; exact (blk_set (c := bA) (blk_set (c := bA) (blk_set (c := bA) H3.out nH3 0 (.int .i64 7)) nH3 1 (.int .i64 0)) nH3 2 (.slice (some ⟨s3, 0, none⟩) 2 2))
              have HA' : Hid (w26.heap[bA]? = some (.cells #[.int .i64 7, .int .i64 0, .slice (some ⟨s3, 0, none⟩) 2 2] 46 (0, 0))) := by show _ = _; rw [ewn, Fo.block_setCell (Fo.block_setCell (Fo.block_setCell HA.out _) _) _]; rfl
              clear HS ewn d0 d1 d2 g0 g1 g2
              have HS := HS'; clear HS'
              clear HR; have HR := HR'; clear HR'
              clear F1; have F1 := F1'; clear F1'
              clear F2; have F2 := F2'; clear F2'
              clear H2; have H2 := H2'; clear H2'
              clear H3; have H3 := H3'; clear H3'
              clear HA; have HA := HA'; clear HA'
              refine hK.out _ _ HS (fun _ => ?_)
              clear hK K
              try simp only [Act.put]
              refine wpAnyH_done (by kernel_rfl) ?_ _
              go_wp2_with fail
              go_meet
              exact ⟨bA, s3, rfl, HS, HR.out, px_in (F1.out.1.mono gF1 F1.out.2) (F2.out.1.mono gF2 F2.out.2) H2.out H3.out gH2 gH3, HA.out, nL⟩
          · go_simp
            obtain ⟨w27, ewn⟩ : ∃ wn, wn = w23.alloc (.cells #[.int .i64 0, .int .i64 0, .slice none 0 0] 46) := ⟨_, rfl⟩
            obtain ⟨bA, ebA⟩ : ∃ n, n = w23.heap.size := ⟨_, rfl⟩
            rw [← ewn, ← ebA]
            have HA : Hid (w27.heap[bA]? = some (.cells #[.int .i64 0, .int .i64 0, .slice none 0 0] 46 (0, 0))) := by show _ = _; rw [ewn]; exact heap_new _ _ _ ebA
            have HS' : St w [(w.heap.size, 0, .int .i64 t), (w.heap.size, 1, .int .i64 a), (w.heap.size + 1, 0, .int .i64 x.pk), (w.heap.size + 1, 1, .int .i64 x.pn), (w.heap.size + 1, 2, .slice A x.pf.len C), (w.heap.size + 1, 3, .int .i64 x.act), (w.heap.size + 1, 4, .int .i64 x.qk), (w.heap.size + 1, 5, .int .i64 x.qn), (w.heap.size + 1, 6, .slice B x.qf.len D), (bX, 0, .int .i64 4), (bX, 1, .int .i64 x.act), (bX, 2, .slice none 0 0)] w27 := by rw [ewn]; exact HS.alloc _
            have zz := HZ.out
            have HZ' : Hid (bX + 1 ≤ w27.heap.size) := by show _ ≤ _; rw [ewn]; simp; omega
            have lHR := blk_lt HR.out
            have lF1 := F1.out.2
            have lF2 := F2.out.2
            have lH2 := blk_lt H2.out
            have nHR : w.heap.size + 1 + 1 ≠ bA := by omega
            have nF1 : bA < w20.heap.size ∨ w21.heap.size ≤ bA := by omega
            have nF2 : bA < w21.heap.size ∨ w22.heap.size ≤ bA := by omega
            have nH2 : s2 ≠ bA := by omega
            have nL : bX + 1 ≤ bA := by omega
            have HR' : Hid (w27.heap[w.heap.size + 1 + 1]? = some (.cells #[.int .i64 0, .int .i64 0, .slice none 0 0] 46 (0, 0))) := by show _ = _; rw [ewn]; exact blk_alloc HR.out _
            have F1' : Hid (x.pf.LiesIn w27 w20.heap.size w21.heap.size A1 ∧ w21.heap.size ≤ w27.heap.size) := by rw [ewn]; exact rng_below F1.out ((Below.refl _ _).alloc (Nat.le_refl _) _)
            have F2' : Hid ((Fo.cons x.qk x.qn x.qf .nil).LiesIn w27 w21.heap.size w22.heap.size A2 ∧ w22.heap.size ≤ w27.heap.size) := by rw [ewn]; exact rng_below F2.out ((Below.refl _ _).alloc (Nat.le_refl _) _)
            have H2' : Hid (w27.heap[s2]? = some (.cells #[.int .i64 4, .int .i64 x.act, .slice none 0 0, .int .i64 5, .int .i64 0, .slice A2 1 1] 46 (0, 0))) := by show _ = _; rw [ewn]; exact blk_alloc H2.out _
            clear HS HZ zz ewn ebA lHR lF1 lF2 lH2
            have HS := HS'; clear HS'; have HZ := HZ'; clear HZ'
            clear HR; have HR := HR'; clear HR'
            clear F1; have F1 := F1'; clear F1'
            clear F2; have F2 := F2'; clear F2'
            clear H2; have H2 := H2'; clear H2'
            refine hK.out _ _ HS (fun _ => ?_)
            clear hK K
            try simp only [Act.put, List.setIfInBounds_toArray, List.set_cons_zero, List.set_cons_succ]
            refine wpAnyH_ready (rs := [7]) (by kernel_rfl) (by simp) ?_
            refine (AllReadyH.cons (o := { dst := some 22, op := Op.call { callee := Callee.value (Operand.func 59), args := #[Operand.const (Value.int IntKind.i64 7), Operand.tmp 16, Operand.tmp 21], argTypes := #[2, 46, 46] }, type := 46, pos := "l07_conditions.go:39", after := #[{ on := 1, ground := Ground.data }, { on := 6, ground := Ground.data }, { on := 6, ground := Ground.chain }], guard := none }) rfl (fun K hK => ?_) AllReadyH.nil)
            · go_simp
              refine (pair_blk 7 _ _ _ _ _ _ _ _ _ _ _ _ _ _ _ _ w27 rfl rfl rfl rfl rfl rfl).mono ?_
              rintro e w28 ⟨s3, rfl, hz3, hk3, hb⟩
              have HS' := St.below HS hb
              have zz := HZ.out
              have zb := hb.size
              have HZ' : Hid (bX + 1 ≤ w28.heap.size) := Nat.le_trans zz zb
              have lHR := blk_lt HR.out
              have lF1 := F1.out.2
              have lF2 := F2.out.2
              have lH2 := blk_lt H2.out
              have lHA := blk_lt HA.out
              have H3 : Hid (w28.heap[s3]? = some (.cells #[.int .i64 x.pk, .int .i64 x.pn, .slice A1 x.pf.len C1, .int .i64 7, .int .i64 0, .slice (some ⟨s2, 0, none⟩) 2 2] 46 (0, 0))) := hk3
              have nH3 : s3 ≠ bA := by omega
              have gH3 : w.heap.size + 3 ≤ s3 := by omega
              have HR' : Hid (w28.heap[w.heap.size + 1 + 1]? = some (.cells #[.int .i64 0, .int .i64 0, .slice none 0 0] 46 (0, 0))) := blk_below HR.out hb
              have F1' : Hid (x.pf.LiesIn w28 w20.heap.size w21.heap.size A1 ∧ w21.heap.size ≤ w28.heap.size) := rng_below F1.out hb
              have F2' : Hid ((Fo.cons x.qk x.qn x.qf .nil).LiesIn w28 w21.heap.size w22.heap.size A2 ∧ w22.heap.size ≤ w28.heap.size) := rng_below F2.out hb
              have H2' : Hid (w28.heap[s2]? = some (.cells #[.int .i64 4, .int .i64 x.act, .slice none 0 0, .int .i64 5, .int .i64 0, .slice A2 1 1] 46 (0, 0))) := blk_below H2.out hb
              have HA' : Hid (w28.heap[bA]? = some (.cells #[.int .i64 0, .int .i64 0, .slice none 0 0] 46 (0, 0))) := blk_below HA.out hb
              clear HS HZ zz zb hb lHR lF1 lF2 lH2 lHA
              have HS := HS'; clear HS'; have HZ := HZ'; clear HZ'
              clear HR; have HR := HR'; clear HR'
              clear F1; have F1 := F1'; clear F1'
              clear F2; have F2 := F2'; clear F2'
              clear H2; have H2 := H2'; clear H2'
              clear HA; have HA := HA'; clear HA'
              go_wp2_with fail
              refine hK.out _ _ HS (fun _ => ?_)
              clear hK K
              try simp only [Act.put, List.setIfInBounds_toArray, List.set_cons_zero, List.set_cons_succ]
              refine wpAnyH_ready (rs := [9]) (by kernel_rfl) (by simp) ?_
              refine AllReadyH.cons (o := { dst := none, op := Op.store 46 (Operand.tmp 7) (Operand.tmp 22), type := 0, pos := "l07_conditions.go:39", after := #[{ on := 8, ground := Ground.data }, { on := 7, ground := Ground.data }, { on := 7, ground := Ground.chain }, { on := 0, ground := Ground.phase }, { on := 1, ground := Ground.phase }, { on := 2, ground := Ground.phase }, { on := 3, ground := Ground.phase }, { on := 4, ground := Ground.phase }, { on := 5, ground := Ground.phase }, { on := 6, ground := Ground.phase }, { on := 7, ground := Ground.phase }, { on := 8, ground := Ground.phase }], guard := none }) rfl (fun K hK => ?_) AllReadyH.nil
              obtain ⟨d0, d1, d2, g0, g1, g2⟩ := cells3 HA.out
              go_simp
              obtain ⟨w29, ewn⟩ : ∃ wn, wn = (((w28.setCell ⟨bA, 0, none⟩ (.int .i64 7)).setCell ⟨bA, 1, none⟩ (.int .i64 0)).setCell ⟨bA, 2, none⟩ (.slice (some ⟨s3, 0, none⟩) 2 2)) := ⟨_, rfl⟩
              rw [← ewn]
              have HS' : St w [(w.heap.size, 0, .int .i64 t), (w.heap.size, 1, .int .i64 a), (w.heap.size + 1, 0, .int .i64 x.pk), (w.heap.size + 1, 1, .int .i64 x.pn), (w.heap.size + 1, 2, .slice A x.pf.len C), (w.heap.size + 1, 3, .int .i64 x.act), (w.heap.size + 1, 4, .int .i64 x.qk), (w.heap.size + 1, 5, .int .i64 x.qn), (w.heap.size + 1, 6, .slice B x.qf.len D), (bX, 0, .int .i64 4), (bX, 1, .int .i64 x.act), (bX, 2, .slice none 0 0)] w29 := by rw [ewn]; exact (St.put (b := bA) (St.put (b := bA) (St.put (b := bA) HS (by simp; omega) (by omega) 0 (.int .i64 7)) (by simp; omega) (by omega) 1 (.int .i64 0)) (by simp; omega) (by omega) 2 (.slice (some ⟨s3, 0, none⟩) 2 2))
              have HR' : Hid (w29.heap[w.heap.size + 1 + 1]? = some (.cells #[.int .i64 0, .int .i64 0, .slice none 0 0] 46 (0, 0))) := by show _ = _; rw [ewn]; exact (blk_set (c := bA) (blk_set (c := bA) (blk_set (c := bA) HR.out nHR 0 (.int .i64 7)) nHR 1 (.int .i64 0)) nHR 2 (.slice (some ⟨s3, 0, none⟩) 2 2))
              have F1' : Hid (x.pf.LiesIn w29 w20.heap.size w21.heap.size A1 ∧ w21.heap.size ≤ w29.heap.size) := by rw [ewn]; exact (rng_set (c := bA) (rng_set (c := bA) (rng_set (c := bA) F1.out nF1 0 (.int .i64 7)) nF1 1 (.int .i64 0)) nF1 2 (.slice (some ⟨s3, 0, none⟩) 2 2))
              have F2' : Hid ((Fo.cons x.qk x.qn x.qf .nil).LiesIn w29 w21.heap.size w22.heap.size A2 ∧ w22.heap.size ≤ w29.heap.size) := by rw [ewn]; exact (rng_set (c := bA) (rng_set (c := bA) (rng_set (c := bA) F2.out nF2 0 (.int .i64 7)) nF2 1 (.int .i64 0)) nF2 2 (.slice (some ⟨s3, 0, none⟩) 2 2))
              have H2' : Hid (w29.heap[s2]? = some (.cells #[.int .i64 4, .int .i64 x.act, .slice none 0 0, .int .i64 5, .int .i64 0, .slice A2 1 1] 46 (0, 0))) := by show _ = _; rw [ewn]; exact (blk_set (c := bA) (blk_set (c := bA) (blk_set (c := bA) H2.out nH2 0 (.int .i64 7)) nH2 1 (.int .i64 0)) nH2 2 (.slice (some ⟨s3, 0, none⟩) 2 2))
              have HA' : Hid (w29.heap[bA]? = some (.cells #[.int .i64 7, .int .i64 0, .slice (some ⟨s3, 0, none⟩) 2 2] 46 (0, 0))) := by show _ = _; rw [ewn, Fo.block_setCell (Fo.block_setCell (Fo.block_setCell HA.out _) _) _]; rfl
              have H3' : Hid (w29.heap[s3]? = some (.cells #[.int .i64 x.pk, .int .i64 x.pn, .slice A1 x.pf.len C1, .int .i64 7, .int .i64 0, .slice (some ⟨s2, 0, none⟩) 2 2] 46 (0, 0))) := by show _ = _; rw [ewn]; exact (blk_set (c := bA) (blk_set (c := bA) (blk_set (c := bA) H3.out nH3 0 (.int .i64 7)) nH3 1 (.int .i64 0)) nH3 2 (.slice (some ⟨s3, 0, none⟩) 2 2))
              clear HS ewn d0 d1 d2 g0 g1 g2
              have HS := HS'; clear HS'
              clear HR; have HR := HR'; clear HR'
              clear F1; have F1 := F1'; clear F1'
              clear F2; have F2 := F2'; clear F2'
              clear H2; have H2 := H2'; clear H2'
              clear HA; have HA := HA'; clear HA'
              clear H3; have H3 := H3'; clear H3'
              refine hK.out _ _ HS (fun _ => ?_)
              clear hK K
              try simp only [Act.put]
              refine wpAnyH_done (by kernel_rfl) ?_ _
              go_wp2_with fail
              go_meet
              exact ⟨bA, s3, rfl, HS, HR.out, px_in (F1.out.1.mono gF1 F1.out.2) (F2.out.1.mono gF2 F2.out.2) H2.out H3.out gH2 gH3, HA.out, nL⟩
        · go_simp
          obtain ⟨w30, ewn⟩ : ∃ wn, wn = w22.alloc (.cells #[.int .i64 0, .int .i64 0, .slice none 0 0] 46) := ⟨_, rfl⟩
          obtain ⟨bA, ebA⟩ : ∃ n, n = w22.heap.size := ⟨_, rfl⟩
          rw [← ewn, ← ebA]
          have HA : Hid (w30.heap[bA]? = some (.cells #[.int .i64 0, .int .i64 0, .slice none 0 0] 46 (0, 0))) := by show _ = _; rw [ewn]; exact heap_new _ _ _ ebA
          have HS' : St w [(w.heap.size, 0, .int .i64 t), (w.heap.size, 1, .int .i64 a), (w.heap.size + 1, 0, .int .i64 x.pk), (w.heap.size + 1, 1, .int .i64 x.pn), (w.heap.size + 1, 2, .slice A x.pf.len C), (w.heap.size + 1, 3, .int .i64 x.act), (w.heap.size + 1, 4, .int .i64 x.qk), (w.heap.size + 1, 5, .int .i64 x.qn), (w.heap.size + 1, 6, .slice B x.qf.len D), (bX, 0, .int .i64 4), (bX, 1, .int .i64 x.act), (bX, 2, .slice none 0 0)] w30 := by rw [ewn]; exact HS.alloc _
          have zz := HZ.out
          have HZ' : Hid (bX + 1 ≤ w30.heap.size) := by show _ ≤ _; rw [ewn]; simp; omega
          have lHR := blk_lt HR.out
          have lF1 := F1.out.2
          have lF2 := F2.out.2
          have nHR : w.heap.size + 1 + 1 ≠ bA := by omega
          have nF1 : bA < w20.heap.size ∨ w21.heap.size ≤ bA := by omega
          have nF2 : bA < w21.heap.size ∨ w22.heap.size ≤ bA := by omega
          have nL : bX + 1 ≤ bA := by omega
          have HR' : Hid (w30.heap[w.heap.size + 1 + 1]? = some (.cells #[.int .i64 0, .int .i64 0, .slice none 0 0] 46 (0, 0))) := by show _ = _; rw [ewn]; exact blk_alloc HR.out _
          have F1' : Hid (x.pf.LiesIn w30 w20.heap.size w21.heap.size A1 ∧ w21.heap.size ≤ w30.heap.size) := by rw [ewn]; exact rng_below F1.out ((Below.refl _ _).alloc (Nat.le_refl _) _)
          have F2' : Hid ((Fo.cons x.qk x.qn x.qf .nil).LiesIn w30 w21.heap.size w22.heap.size A2 ∧ w22.heap.size ≤ w30.heap.size) := by rw [ewn]; exact rng_below F2.out ((Below.refl _ _).alloc (Nat.le_refl _) _)
          clear HS HZ zz ewn ebA lHR lF1 lF2
          have HS := HS'; clear HS'; have HZ := HZ'; clear HZ'
          clear HR; have HR := HR'; clear HR'
          clear F1; have F1 := F1'; clear F1'
          clear F2; have F2 := F2'; clear F2'
          refine hK.out _ _ HS (fun _ => ?_)
          clear hK K
          try simp only [Act.put, List.setIfInBounds_toArray, List.set_cons_zero, List.set_cons_succ]
          refine wpAnyH_ready (rs := [6]) (by kernel_rfl) (by simp) ?_
          refine (AllReadyH.cons (o := { dst := some 21, op := Op.call { callee := Callee.value (Operand.func 59), args := #[Operand.const (Value.int IntKind.i64 7), Operand.tmp 17, Operand.tmp 20], argTypes := #[2, 46, 46] }, type := 46, pos := "l07_conditions.go:39", after := #[{ on := 2, ground := Ground.data }, { on := 5, ground := Ground.data }, { on := 5, ground := Ground.chain }], guard := none }) rfl (fun K hK => ?_) AllReadyH.nil)
          · go_simp
            refine (pair_blk 7 _ _ _ _ _ _ _ _ _ _ _ _ _ _ _ _ w30 rfl rfl rfl rfl rfl rfl).mono ?_
            rintro e w31 ⟨s2, rfl, hz2, hk2, hb⟩
            have HS' := St.below HS hb
            have zz := HZ.out
            have zb := hb.size
            have HZ' : Hid (bX + 1 ≤ w31.heap.size) := Nat.le_trans zz zb
            have lHR := blk_lt HR.out
            have lF1 := F1.out.2
            have lF2 := F2.out.2
            have lHA := blk_lt HA.out
            have H2 : Hid (w31.heap[s2]? = some (.cells #[.int .i64 4, .int .i64 x.act, .slice none 0 0, .int .i64 5, .int .i64 0, .slice A2 1 1] 46 (0, 0))) := hk2
            have nH2 : s2 ≠ bA := by omega
            have gH2 : w.heap.size + 3 ≤ s2 := by omega
            have HR' : Hid (w31.heap[w.heap.size + 1 + 1]? = some (.cells #[.int .i64 0, .int .i64 0, .slice none 0 0] 46 (0, 0))) := blk_below HR.out hb
            have F1' : Hid (x.pf.LiesIn w31 w20.heap.size w21.heap.size A1 ∧ w21.heap.size ≤ w31.heap.size) := rng_below F1.out hb
            have F2' : Hid ((Fo.cons x.qk x.qn x.qf .nil).LiesIn w31 w21.heap.size w22.heap.size A2 ∧ w22.heap.size ≤ w31.heap.size) := rng_below F2.out hb
            have HA' : Hid (w31.heap[bA]? = some (.cells #[.int .i64 0, .int .i64 0, .slice none 0 0] 46 (0, 0))) := blk_below HA.out hb
            clear HS HZ zz zb hb lHR lF1 lF2 lHA
            have HS := HS'; clear HS'; have HZ := HZ'; clear HZ'
            clear HR; have HR := HR'; clear HR'
            clear F1; have F1 := F1'; clear F1'
            clear F2; have F2 := F2'; clear F2'
            clear HA; have HA := HA'; clear HA'
            go_wp2_with fail
            refine hK.out _ _ HS (fun _ => ?_)
            clear hK K
            try simp only [Act.put, List.setIfInBounds_toArray, List.set_cons_zero, List.set_cons_succ]
            refine wpAnyH_ready (rs := [7]) (by kernel_rfl) (by simp) ?_
            refine (AllReadyH.cons (o := { dst := some 22, op := Op.call { callee := Callee.value (Operand.func 59), args := #[Operand.const (Value.int IntKind.i64 7), Operand.tmp 16, Operand.tmp 21], argTypes := #[2, 46, 46] }, type := 46, pos := "l07_conditions.go:39", after := #[{ on := 1, ground := Ground.data }, { on := 6, ground := Ground.data }, { on := 6, ground := Ground.chain }], guard := none }) rfl (fun K hK => ?_) AllReadyH.nil)
            · go_simp
              refine (pair_blk 7 _ _ _ _ _ _ _ _ _ _ _ _ _ _ _ _ w31 rfl rfl rfl rfl rfl rfl).mono ?_
              rintro e w32 ⟨s3, rfl, hz3, hk3, hb⟩
              have HS' := St.below HS hb
              have zz := HZ.out
              have zb := hb.size
              have HZ' : Hid (bX + 1 ≤ w32.heap.size) := Nat.le_trans zz zb
              have lHR := blk_lt HR.out
              have lF1 := F1.out.2
              have lF2 := F2.out.2
              have lHA := blk_lt HA.out
              have lH2 := blk_lt H2.out
              have H3 : Hid (w32.heap[s3]? = some (.cells #[.int .i64 x.pk, .int .i64 x.pn, .slice A1 x.pf.len C1, .int .i64 7, .int .i64 0, .slice (some ⟨s2, 0, none⟩) 2 2] 46 (0, 0))) := hk3
              have nH3 : s3 ≠ bA := by omega
              have gH3 : w.heap.size + 3 ≤ s3 := by omega
              have HR' : Hid (w32.heap[w.heap.size + 1 + 1]? = some (.cells #[.int .i64 0, .int .i64 0, .slice none 0 0] 46 (0, 0))) := blk_below HR.out hb
              have F1' : Hid (x.pf.LiesIn w32 w20.heap.size w21.heap.size A1 ∧ w21.heap.size ≤ w32.heap.size) := rng_below F1.out hb
              have F2' : Hid ((Fo.cons x.qk x.qn x.qf .nil).LiesIn w32 w21.heap.size w22.heap.size A2 ∧ w22.heap.size ≤ w32.heap.size) := rng_below F2.out hb
              have HA' : Hid (w32.heap[bA]? = some (.cells #[.int .i64 0, .int .i64 0, .slice none 0 0] 46 (0, 0))) := blk_below HA.out hb
              have H2' : Hid (w32.heap[s2]? = some (.cells #[.int .i64 4, .int .i64 x.act, .slice none 0 0, .int .i64 5, .int .i64 0, .slice A2 1 1] 46 (0, 0))) := blk_below H2.out hb
              clear HS HZ zz zb hb lHR lF1 lF2 lHA lH2
              have HS := HS'; clear HS'; have HZ := HZ'; clear HZ'
              clear HR; have HR := HR'; clear HR'
              clear F1; have F1 := F1'; clear F1'
              clear F2; have F2 := F2'; clear F2'
              clear HA; have HA := HA'; clear HA'
              clear H2; have H2 := H2'; clear H2'
              go_wp2_with fail
              refine hK.out _ _ HS (fun _ => ?_)
              clear hK K
              try simp only [Act.put, List.setIfInBounds_toArray, List.set_cons_zero, List.set_cons_succ]
              refine wpAnyH_ready (rs := [9]) (by kernel_rfl) (by simp) ?_
              refine AllReadyH.cons (o := { dst := none, op := Op.store 46 (Operand.tmp 7) (Operand.tmp 22), type := 0, pos := "l07_conditions.go:39", after := #[{ on := 8, ground := Ground.data }, { on := 7, ground := Ground.data }, { on := 7, ground := Ground.chain }, { on := 0, ground := Ground.phase }, { on := 1, ground := Ground.phase }, { on := 2, ground := Ground.phase }, { on := 3, ground := Ground.phase }, { on := 4, ground := Ground.phase }, { on := 5, ground := Ground.phase }, { on := 6, ground := Ground.phase }, { on := 7, ground := Ground.phase }, { on := 8, ground := Ground.phase }], guard := none }) rfl (fun K hK => ?_) AllReadyH.nil
              obtain ⟨d0, d1, d2, g0, g1, g2⟩ := cells3 HA.out
              go_simp
              obtain ⟨w33, ewn⟩ : ∃ wn, wn = (((w32.setCell ⟨bA, 0, none⟩ (.int .i64 7)).setCell ⟨bA, 1, none⟩ (.int .i64 0)).setCell ⟨bA, 2, none⟩ (.slice (some ⟨s3, 0, none⟩) 2 2)) := ⟨_, rfl⟩
              rw [← ewn]
              have HS' : St w [(w.heap.size, 0, .int .i64 t), (w.heap.size, 1, .int .i64 a), (w.heap.size + 1, 0, .int .i64 x.pk), (w.heap.size + 1, 1, .int .i64 x.pn), (w.heap.size + 1, 2, .slice A x.pf.len C), (w.heap.size + 1, 3, .int .i64 x.act), (w.heap.size + 1, 4, .int .i64 x.qk), (w.heap.size + 1, 5, .int .i64 x.qn), (w.heap.size + 1, 6, .slice B x.qf.len D), (bX, 0, .int .i64 4), (bX, 1, .int .i64 x.act), (bX, 2, .slice none 0 0)] w33 := by rw [ewn]; exact (St.put (b := bA) (St.put (b := bA) (St.put (b := bA) HS (by simp; omega) (by omega) 0 (.int .i64 7)) (by simp; omega) (by omega) 1 (.int .i64 0)) (by simp; omega) (by omega) 2 (.slice (some ⟨s3, 0, none⟩) 2 2))
              have HR' : Hid (w33.heap[w.heap.size + 1 + 1]? = some (.cells #[.int .i64 0, .int .i64 0, .slice none 0 0] 46 (0, 0))) := by show _ = _; rw [ewn]; exact (blk_set (c := bA) (blk_set (c := bA) (blk_set (c := bA) HR.out nHR 0 (.int .i64 7)) nHR 1 (.int .i64 0)) nHR 2 (.slice (some ⟨s3, 0, none⟩) 2 2))
              have F1' : Hid (x.pf.LiesIn w33 w20.heap.size w21.heap.size A1 ∧ w21.heap.size ≤ w33.heap.size) := by rw [ewn]; exact (rng_set (c := bA) (rng_set (c := bA) (rng_set (c := bA) F1.out nF1 0 (.int .i64 7)) nF1 1 (.int .i64 0)) nF1 2 (.slice (some ⟨s3, 0, none⟩) 2 2))
              have F2' : Hid ((Fo.cons x.qk x.qn x.qf .nil).LiesIn w33 w21.heap.size w22.heap.size A2 ∧ w22.heap.size ≤ w33.heap.size) := by rw [ewn]; exact (rng_set (c := bA) (rng_set (c := bA) (rng_set (c := bA) F2.out nF2 0 (.int .i64 7)) nF2 1 (.int .i64 0)) nF2 2 (.slice (some ⟨s3, 0, none⟩) 2 2))
              have HA' : Hid (w33.heap[bA]? = some (.cells #[.int .i64 7, .int .i64 0, .slice (some ⟨s3, 0, none⟩) 2 2] 46 (0, 0))) := by show _ = _; rw [ewn, Fo.block_setCell (Fo.block_setCell (Fo.block_setCell HA.out _) _) _]; rfl
              have H2' : Hid (w33.heap[s2]? = some (.cells #[.int .i64 4, .int .i64 x.act, .slice none 0 0, .int .i64 5, .int .i64 0, .slice A2 1 1] 46 (0, 0))) := by show _ = _; rw [ewn]; exact (blk_set (c := bA) (blk_set (c := bA) (blk_set (c := bA) H2.out nH2 0 (.int .i64 7)) nH2 1 (.int .i64 0)) nH2 2 (.slice (some ⟨s3, 0, none⟩) 2 2))
              have H3' : Hid (w33.heap[s3]? = some (.cells #[.int .i64 x.pk, .int .i64 x.pn, .slice A1 x.pf.len C1, .int .i64 7, .int .i64 0, .slice (some ⟨s2, 0, none⟩) 2 2] 46 (0, 0))) := by show _ = _; rw [ewn]; exact (blk_set (c := bA) (blk_set (c := bA) (blk_set (c := bA) H3.out nH3 0 (.int .i64 7)) nH3 1 (.int .i64 0)) nH3 2 (.slice (some ⟨s3, 0, none⟩) 2 2))
              clear HS ewn d0 d1 d2 g0 g1 g2
              have HS := HS'; clear HS'
              clear HR; have HR := HR'; clear HR'
              clear F1; have F1 := F1'; clear F1'
              clear F2; have F2 := F2'; clear F2'
              clear HA; have HA := HA'; clear HA'
              clear H2; have H2 := H2'; clear H2'
              clear H3; have H3 := H3'; clear H3'
              refine hK.out _ _ HS (fun _ => ?_)
              clear hK K
              try simp only [Act.put]
              refine wpAnyH_done (by kernel_rfl) ?_ _
              go_wp2_with fail
              go_meet
              exact ⟨bA, s3, rfl, HS, HR.out, px_in (F1.out.1.mono gF1 F1.out.2) (F2.out.1.mono gF2 F2.out.2) H2.out H3.out gH2 gH3, HA.out, nL⟩
      · go_simp
        obtain ⟨w34, ewn⟩ : ∃ wn, wn = w21.alloc (.cells #[.int .i64 0, .int .i64 0, .slice none 0 0] 46) := ⟨_, rfl⟩
        obtain ⟨bA, ebA⟩ : ∃ n, n = w21.heap.size := ⟨_, rfl⟩
        rw [← ewn, ← ebA]
        have HA : Hid (w34.heap[bA]? = some (.cells #[.int .i64 0, .int .i64 0, .slice none 0 0] 46 (0, 0))) := by show _ = _; rw [ewn]; exact heap_new _ _ _ ebA
        have HS' : St w [(w.heap.size, 0, .int .i64 t), (w.heap.size, 1, .int .i64 a), (w.heap.size + 1, 0, .int .i64 x.pk), (w.heap.size + 1, 1, .int .i64 x.pn), (w.heap.size + 1, 2, .slice A x.pf.len C), (w.heap.size + 1, 3, .int .i64 x.act), (w.heap.size + 1, 4, .int .i64 x.qk), (w.heap.size + 1, 5, .int .i64 x.qn), (w.heap.size + 1, 6, .slice B x.qf.len D), (bX, 0, .int .i64 4), (bX, 1, .int .i64 x.act), (bX, 2, .slice none 0 0)] w34 := by rw [ewn]; exact HS.alloc _
        have zz := HZ.out
        have HZ' : Hid (bX + 1 ≤ w34.heap.size) := by show _ ≤ _; rw [ewn]; simp; omega
        have lHR := blk_lt HR.out
        have lF1 := F1.out.2
        have nHR : w.heap.size + 1 + 1 ≠ bA := by omega
        have nF1 : bA < w20.heap.size ∨ w21.heap.size ≤ bA := by omega
        have nL : bX + 1 ≤ bA := by omega
        have HR' : Hid (w34.heap[w.heap.size + 1 + 1]? = some (.cells #[.int .i64 0, .int .i64 0, .slice none 0 0] 46 (0, 0))) := by show _ = _; rw [ewn]; exact blk_alloc HR.out _
        have F1' : Hid (x.pf.LiesIn w34 w20.heap.size w21.heap.size A1 ∧ w21.heap.size ≤ w34.heap.size) := by rw [ewn]; exact rng_below F1.out ((Below.refl _ _).alloc (Nat.le_refl _) _)
        clear HS HZ zz ewn ebA lHR lF1
        have HS := HS'; clear HS'; have HZ := HZ'; clear HZ'
        clear HR; have HR := HR'; clear HR'
        clear F1; have F1 := F1'; clear F1'
        refine hK.out _ _ HS (fun _ => ?_)
        clear hK K
        try simp only [Act.put, List.setIfInBounds_toArray, List.set_cons_zero, List.set_cons_succ]
        refine wpAnyH_ready (rs := [5]) (by kernel_rfl) (by simp) ?_
        refine (AllReadyH.cons (o := { dst := some 20, op := Op.call { callee := Callee.value (Operand.func 61), args := #[Operand.tmp 19], argTypes := #[46] }, type := 46, pos := "l07_conditions.go:39", after := #[{ on := 4, ground := Ground.data }, { on := 1, ground := Ground.chain }], guard := none }) rfl (fun K hK => ?_) AllReadyH.nil)
        · go_simp
          refine (KN.out w34 HS).mono ?_
          rintro e w35 ⟨A2, rfl, hX2, hb⟩
          have HS' := St.below HS hb
          have zz := HZ.out
          have zb := hb.size
          have HZ' : Hid (bX + 1 ≤ w35.heap.size) := Nat.le_trans zz zb
          have lHR := blk_lt HR.out
          have lF1 := F1.out.2
          have lHA := blk_lt HA.out
          have F2 : Hid ((Fo.cons x.qk x.qn x.qf .nil).LiesIn w35 w34.heap.size w35.heap.size A2 ∧ w35.heap.size ≤ w35.heap.size) := ⟨hX2, Nat.le_refl _⟩
          have nF2 : bA < w34.heap.size ∨ w35.heap.size ≤ bA := by omega
          have gF2 : w.heap.size + 3 ≤ w34.heap.size := by omega
          have HR' : Hid (w35.heap[w.heap.size + 1 + 1]? = some (.cells #[.int .i64 0, .int .i64 0, .slice none 0 0] 46 (0, 0))) := blk_below HR.out hb
          have F1' : Hid (x.pf.LiesIn w35 w20.heap.size w21.heap.size A1 ∧ w21.heap.size ≤ w35.heap.size) := rng_below F1.out hb
          have HA' : Hid (w35.heap[bA]? = some (.cells #[.int .i64 0, .int .i64 0, .slice none 0 0] 46 (0, 0))) := blk_below HA.out hb
          clear HS HZ zz zb hb lHR lF1 lHA
          have HS := HS'; clear HS'; have HZ := HZ'; clear HZ'
          clear HR; have HR := HR'; clear HR'
          clear F1; have F1 := F1'; clear F1'
          clear HA; have HA := HA'; clear HA'
          go_wp2_with fail
          refine hK.out _ _ HS (fun _ => ?_)
          clear hK K
          try simp only [Act.put, List.setIfInBounds_toArray, List.set_cons_zero, List.set_cons_succ]
          refine wpAnyH_ready (rs := [6]) (by kernel_rfl) (by simp) ?_
          refine (AllReadyH.cons (o := { dst := some 21, op := Op.call { callee := Callee.value (Operand.func 59), args := #[Operand.const (Value.int IntKind.i64 7), Operand.tmp 17, Operand.tmp 20], argTypes := #[2, 46, 46] }, type := 46, pos := "l07_conditions.go:39", after := #[{ on := 2, ground := Ground.data }, { on := 5, ground := Ground.data }, { on := 5, ground := Ground.chain }], guard := none }) rfl (fun K hK => ?_) AllReadyH.nil)
          · go_simp
            refine (pair_blk 7 _ _ _ _ _ _ _ _ _ _ _ _ _ _ _ _ w35 rfl rfl rfl rfl rfl rfl).mono ?_
            rintro e w36 ⟨s2, rfl, hz2, hk2, hb⟩
            have HS' := St.below HS hb
            have zz := HZ.out
            have zb := hb.size
            have HZ' : Hid (bX + 1 ≤ w36.heap.size) := Nat.le_trans zz zb
            have lHR := blk_lt HR.out
            have lF1 := F1.out.2
            have lHA := blk_lt HA.out
            have lF2 := F2.out.2
            have H2 : Hid (w36.heap[s2]? = some (.cells #[.int .i64 4, .int .i64 x.act, .slice none 0 0, .int .i64 5, .int .i64 0, .slice A2 1 1] 46 (0, 0))) := hk2
            have nH2 : s2 ≠ bA := by omega
            have gH2 : w.heap.size + 3 ≤ s2 := by omega
            have HR' : Hid (w36.heap[w.heap.size + 1 + 1]? = some (.cells #[.int .i64 0, .int .i64 0, .slice none 0 0] 46 (0, 0))) := blk_below HR.out hb
            have F1' : Hid (x.pf.LiesIn w36 w20.heap.size w21.heap.size A1 ∧ w21.heap.size ≤ w36.heap.size) := rng_below F1.out hb
            have HA' : Hid (w36.heap[bA]? = some (.cells #[.int .i64 0, .int .i64 0, .slice none 0 0] 46 (0, 0))) := blk_below HA.out hb
            have F2' : Hid ((Fo.cons x.qk x.qn x.qf .nil).LiesIn w36 w34.heap.size w35.heap.size A2 ∧ w35.heap.size ≤ w36.heap.size) := rng_below F2.out hb
            clear HS HZ zz zb hb lHR lF1 lHA lF2
            have HS := HS'; clear HS'; have HZ := HZ'; clear HZ'
            clear HR; have HR := HR'; clear HR'
            clear F1; have F1 := F1'; clear F1'
            clear HA; have HA := HA'; clear HA'
            clear F2; have F2 := F2'; clear F2'
            go_wp2_with fail
            refine hK.out _ _ HS (fun _ => ?_)
            clear hK K
            try simp only [Act.put, List.setIfInBounds_toArray, List.set_cons_zero, List.set_cons_succ]
            refine wpAnyH_ready (rs := [7]) (by kernel_rfl) (by simp) ?_
            refine (AllReadyH.cons (o := { dst := some 22, op := Op.call { callee := Callee.value (Operand.func 59), args := #[Operand.const (Value.int IntKind.i64 7), Operand.tmp 16, Operand.tmp 21], argTypes := #[2, 46, 46] }, type := 46, pos := "l07_conditions.go:39", after := #[{ on := 1, ground := Ground.data }, { on := 6, ground := Ground.data }, { on := 6, ground := Ground.chain }], guard := none }) rfl (fun K hK => ?_) AllReadyH.nil)
            · go_simp
              refine (pair_blk 7 _ _ _ _ _ _ _ _ _ _ _ _ _ _ _ _ w36 rfl rfl rfl rfl rfl rfl).mono ?_
              rintro e w37 ⟨s3, rfl, hz3, hk3, hb⟩
              have HS' := St.below HS hb
              have zz := HZ.out
              have zb := hb.size
              have HZ' : Hid (bX + 1 ≤ w37.heap.size) := Nat.le_trans zz zb
              have lHR := blk_lt HR.out
              have lF1 := F1.out.2
              have lHA := blk_lt HA.out
              have lF2 := F2.out.2
              have lH2 := blk_lt H2.out
              have H3 : Hid (w37.heap[s3]? = some (.cells #[.int .i64 x.pk, .int .i64 x.pn, .slice A1 x.pf.len C1, .int .i64 7, .int .i64 0, .slice (some ⟨s2, 0, none⟩) 2 2] 46 (0, 0))) := hk3
              have nH3 : s3 ≠ bA := by omega
              have gH3 : w.heap.size + 3 ≤ s3 := by omega
              have HR' : Hid (w37.heap[w.heap.size + 1 + 1]? = some (.cells #[.int .i64 0, .int .i64 0, .slice none 0 0] 46 (0, 0))) := blk_below HR.out hb
              have F1' : Hid (x.pf.LiesIn w37 w20.heap.size w21.heap.size A1 ∧ w21.heap.size ≤ w37.heap.size) := rng_below F1.out hb
              have HA' : Hid (w37.heap[bA]? = some (.cells #[.int .i64 0, .int .i64 0, .slice none 0 0] 46 (0, 0))) := blk_below HA.out hb
              have F2' : Hid ((Fo.cons x.qk x.qn x.qf .nil).LiesIn w37 w34.heap.size w35.heap.size A2 ∧ w35.heap.size ≤ w37.heap.size) := rng_below F2.out hb
              have H2' : Hid (w37.heap[s2]? = some (.cells #[.int .i64 4, .int .i64 x.act, .slice none 0 0, .int .i64 5, .int .i64 0, .slice A2 1 1] 46 (0, 0))) := blk_below H2.out hb
              clear HS HZ zz zb hb lHR lF1 lHA lF2 lH2
              have HS := HS'; clear HS'; have HZ := HZ'; clear HZ'
              clear HR; have HR := HR'; clear HR'
              clear F1; have F1 := F1'; clear F1'
              clear HA; have HA := HA'; clear HA'
              clear F2; have F2 := F2'; clear F2'
              clear H2; have H2 := H2'; clear H2'
              go_wp2_with fail
              refine hK.out _ _ HS (fun _ => ?_)
              clear hK K
              try simp only [Act.put, List.setIfInBounds_toArray, List.set_cons_zero, List.set_cons_succ]
              refine wpAnyH_ready (rs := [9]) (by kernel_rfl) (by simp) ?_
              refine AllReadyH.cons (o := { dst := none, op := Op.store 46 (Operand.tmp 7) (Operand.tmp 22), type := 0, pos := "l07_conditions.go:39", after := #[{ on := 8, ground := Ground.data }, { on := 7, ground := Ground.data }, { on := 7, ground := Ground.chain }, { on := 0, ground := Ground.phase }, { on := 1, ground := Ground.phase }, { on := 2, ground := Ground.phase }, { on := 3, ground := Ground.phase }, { on := 4, ground := Ground.phase }, { on := 5, ground := Ground.phase }, { on := 6, ground := Ground.phase }, { on := 7, ground := Ground.phase }, { on := 8, ground := Ground.phase }], guard := none }) rfl (fun K hK => ?_) AllReadyH.nil
              obtain ⟨d0, d1, d2, g0, g1, g2⟩ := cells3 HA.out
              go_simp
              obtain ⟨w38, ewn⟩ : ∃ wn, wn = (((w37.setCell ⟨bA, 0, none⟩ (.int .i64 7)).setCell ⟨bA, 1, none⟩ (.int .i64 0)).setCell ⟨bA, 2, none⟩ (.slice (some ⟨s3, 0, none⟩) 2 2)) := ⟨_, rfl⟩
              rw [← ewn]
              have HS' : St w [(w.heap.size, 0, .int .i64 t), (w.heap.size, 1, .int .i64 a), (w.heap.size + 1, 0, .int .i64 x.pk), (w.heap.size + 1, 1, .int .i64 x.pn), (w.heap.size + 1, 2, .slice A x.pf.len C), (w.heap.size + 1, 3, .int .i64 x.act), (w.heap.size + 1, 4, .int .i64 x.qk), (w.heap.size + 1, 5, .int .i64 x.qn), (w.heap.size + 1, 6, .slice B x.qf.len D), (bX, 0, .int .i64 4), (bX, 1, .int .i64 x.act), (bX, 2, .slice none 0 0)] w38 := by rw [ewn]; exact (St.put (b := bA) (St.put (b := bA) (St.put (b := bA) HS (by simp; omega) (by omega) 0 (.int .i64 7)) (by simp; omega) (by omega) 1 (.int .i64 0)) (by simp; omega) (by omega) 2 (.slice (some ⟨s3, 0, none⟩) 2 2))
              have HR' : Hid (w38.heap[w.heap.size + 1 + 1]? = some (.cells #[.int .i64 0, .int .i64 0, .slice none 0 0] 46 (0, 0))) := by show _ = _; rw [ewn]; exact (blk_set (c := bA) (blk_set (c := bA) (blk_set (c := bA) HR.out nHR 0 (.int .i64 7)) nHR 1 (.int .i64 0)) nHR 2 (.slice (some ⟨s3, 0, none⟩) 2 2))
              have F1' : Hid (x.pf.LiesIn w38 w20.heap.size w21.heap.size A1 ∧ w21.heap.size ≤ w38.heap.size) := by rw [ewn]; exact (rng_set (c := bA) (rng_set (c := bA) (rng_set (c := bA) F1.out nF1 0 (.int .i64 7)) nF1 1 (.int .i64 0)) nF1 2 (.slice (some ⟨s3, 0, none⟩) 2 2))
              have HA' : Hid (w38.heap[bA]? = some (.cells #[.int .i64 7, .int .i64 0, .slice (some ⟨s3, 0, none⟩) 2 2] 46 (0, 0))) := by show _ = _; rw [ewn, Fo.block_setCell (Fo.block_setCell (Fo.block_setCell HA.out _) _) _]; rfl
              have F2' : Hid ((Fo.cons x.qk x.qn x.qf .nil).LiesIn w38 w34.heap.size w35.heap.size A2 ∧ w35.heap.size ≤ w38.heap.size) := by rw [ewn]; exact (rng_set (c := bA) (rng_set (c := bA) (rng_set (c := bA) F2.out nF2 0 (.int .i64 7)) nF2 1 (.int .i64 0)) nF2 2 (.slice (some ⟨s3, 0, none⟩) 2 2))
              have H2' : Hid (w38.heap[s2]? = some (.cells #[.int .i64 4, .int .i64 x.act, .slice none 0 0, .int .i64 5, .int .i64 0, .slice A2 1 1] 46 (0, 0))) := by show _ = _; rw [ewn]; exact (blk_set (c := bA) (blk_set (c := bA) (blk_set (c := bA) H2.out nH2 0 (.int .i64 7)) nH2 1 (.int .i64 0)) nH2 2 (.slice (some ⟨s3, 0, none⟩) 2 2))
              have H3' : Hid (w38.heap[s3]? = some (.cells #[.int .i64 x.pk, .int .i64 x.pn, .slice A1 x.pf.len C1, .int .i64 7, .int .i64 0, .slice (some ⟨s2, 0, none⟩) 2 2] 46 (0, 0))) := by show _ = _; rw [ewn]; exact (blk_set (c := bA) (blk_set (c := bA) (blk_set (c := bA) H3.out nH3 0 (.int .i64 7)) nH3 1 (.int .i64 0)) nH3 2 (.slice (some ⟨s3, 0, none⟩) 2 2))
              clear HS ewn d0 d1 d2 g0 g1 g2
              have HS := HS'; clear HS'
              clear HR; have HR := HR'; clear HR'
              clear F1; have F1 := F1'; clear F1'
              clear HA; have HA := HA'; clear HA'
              clear F2; have F2 := F2'; clear F2'
              clear H2; have H2 := H2'; clear H2'
              clear H3; have H3 := H3'; clear H3'
              refine hK.out _ _ HS (fun _ => ?_)
              clear hK K
              try simp only [Act.put]
              refine wpAnyH_done (by kernel_rfl) ?_ _
              go_wp2_with fail
              go_meet
              exact ⟨bA, s3, rfl, HS, HR.out, px_in (F1.out.1.mono gF1 F1.out.2) (F2.out.1.mono gF2 F2.out.2) H2.out H3.out gH2 gH3, HA.out, nL⟩
    · go_simp
      obtain ⟨w39, ewn⟩ : ∃ wn, wn = w20.alloc (.cells #[.int .i64 0, .int .i64 0, .slice none 0 0] 46) := ⟨_, rfl⟩
      obtain ⟨bA, ebA⟩ : ∃ n, n = w20.heap.size := ⟨_, rfl⟩
      rw [← ewn, ← ebA]
      have HA : Hid (w39.heap[bA]? = some (.cells #[.int .i64 0, .int .i64 0, .slice none 0 0] 46 (0, 0))) := by show _ = _; rw [ewn]; exact heap_new _ _ _ ebA
      have HS' : St w [(w.heap.size, 0, .int .i64 t), (w.heap.size, 1, .int .i64 a), (w.heap.size + 1, 0, .int .i64 x.pk), (w.heap.size + 1, 1, .int .i64 x.pn), (w.heap.size + 1, 2, .slice A x.pf.len C), (w.heap.size + 1, 3, .int .i64 x.act), (w.heap.size + 1, 4, .int .i64 x.qk), (w.heap.size + 1, 5, .int .i64 x.qn), (w.heap.size + 1, 6, .slice B x.qf.len D), (bX, 0, .int .i64 4), (bX, 1, .int .i64 x.act), (bX, 2, .slice none 0 0)] w39 := by rw [ewn]; exact HS.alloc _
      have zz := HZ.out
      have HZ' : Hid (bX + 1 ≤ w39.heap.size) := by show _ ≤ _; rw [ewn]; simp; omega
      have lHR := blk_lt HR.out
      have nHR : w.heap.size + 1 + 1 ≠ bA := by omega
      have nL : bX + 1 ≤ bA := by omega
      have HR' : Hid (w39.heap[w.heap.size + 1 + 1]? = some (.cells #[.int .i64 0, .int .i64 0, .slice none 0 0] 46 (0, 0))) := by show _ = _; rw [ewn]; exact blk_alloc HR.out _
      clear HS HZ zz ewn ebA lHR
      have HS := HS'; clear HS'; have HZ := HZ'; clear HZ'
      clear HR; have HR := HR'; clear HR'
      refine hK.out _ _ HS (fun _ => ?_)
      clear hK K
      try simp only [Act.put, List.setIfInBounds_toArray, List.set_cons_zero, List.set_cons_succ]
      refine wpAnyH_ready (rs := [1]) (by kernel_rfl) (by simp) ?_
      refine (AllReadyH.cons (o := { dst := some 16, op := Op.call { callee := Callee.value (Operand.func 60), args := #[Operand.tmp 15], argTypes := #[99] }, type := 46, pos := "l07_conditions.go:39", after := #[{ on := 0, ground := Ground.data }], guard := none }) rfl (fun K hK => ?_) AllReadyH.nil)
      · go_simp
        refine (KO.out w39 HS).mono ?_
        rintro e w40 ⟨A1, C1, rfl, hX1, hb⟩
        have HS' := St.below HS hb
        have zz := HZ.out
        have zb := hb.size
        have HZ' : Hid (bX + 1 ≤ w40.heap.size) := Nat.le_trans zz zb
        have lHR := blk_lt HR.out
        have lHA := blk_lt HA.out
        have F1 : Hid (x.pf.LiesIn w40 w39.heap.size w40.heap.size A1 ∧ w40.heap.size ≤ w40.heap.size) := ⟨hX1, Nat.le_refl _⟩
        have nF1 : bA < w39.heap.size ∨ w40.heap.size ≤ bA := by omega
        have gF1 : w.heap.size + 3 ≤ w39.heap.size := by omega
        have HR' : Hid (w40.heap[w.heap.size + 1 + 1]? = some (.cells #[.int .i64 0, .int .i64 0, .slice none 0 0] 46 (0, 0))) := blk_below HR.out hb
        have HA' : Hid (w40.heap[bA]? = some (.cells #[.int .i64 0, .int .i64 0, .slice none 0 0] 46 (0, 0))) := blk_below HA.out hb
        clear HS HZ zz zb hb lHR lHA
        have HS := HS'; clear HS'; have HZ := HZ'; clear HZ'
        clear HR; have HR := HR'; clear HR'
        clear HA; have HA := HA'; clear HA'
        go_wp2_with fail
        refine hK.out _ _ HS (fun _ => ?_)
        clear hK K
        try simp only [Act.put, List.setIfInBounds_toArray, List.set_cons_zero, List.set_cons_succ]
        refine wpAnyH_ready (rs := [5]) (by kernel_rfl) (by simp) ?_
        refine (AllReadyH.cons (o := { dst := some 20, op := Op.call { callee := Callee.value (Operand.func 61), args := #[Operand.tmp 19], argTypes := #[46] }, type := 46, pos := "l07_conditions.go:39", after := #[{ on := 4, ground := Ground.data }, { on := 1, ground := Ground.chain }], guard := none }) rfl (fun K hK => ?_) AllReadyH.nil)
        · go_simp
          refine (KN.out w40 HS).mono ?_
          rintro e w41 ⟨A2, rfl, hX2, hb⟩
          have HS' := St.below HS hb
          have zz := HZ.out
          have zb := hb.size
          have HZ' : Hid (bX + 1 ≤ w41.heap.size) := Nat.le_trans zz zb
          have lHR := blk_lt HR.out
          have lHA := blk_lt HA.out
          have lF1 := F1.out.2
          have F2 : Hid ((Fo.cons x.qk x.qn x.qf .nil).LiesIn w41 w40.heap.size w41.heap.size A2 ∧ w41.heap.size ≤ w41.heap.size) := ⟨hX2, Nat.le_refl _⟩
          have nF2 : bA < w40.heap.size ∨ w41.heap.size ≤ bA := by omega
          have gF2 : w.heap.size + 3 ≤ w40.heap.size := by omega
          have HR' : Hid (w41.heap[w.heap.size + 1 + 1]? = some (.cells #[.int .i64 0, .int .i64 0, .slice none 0 0] 46 (0, 0))) := blk_below HR.out hb
          have HA' : Hid (w41.heap[bA]? = some (.cells #[.int .i64 0, .int .i64 0, .slice none 0 0] 46 (0, 0))) := blk_below HA.out hb
          have F1' : Hid (x.pf.LiesIn w41 w39.heap.size w40.heap.size A1 ∧ w40.heap.size ≤ w41.heap.size) := rng_below F1.out hb
          clear HS HZ zz zb hb lHR lHA lF1
          have HS := HS'; clear HS'; have HZ := HZ'; clear HZ'
          clear HR; have HR := HR'; clear HR'
          clear HA; have HA := HA'; clear HA'
          clear F1; have F1 := F1'; clear F1'
          go_wp2_with fail
          refine hK.out _ _ HS (fun _ => ?_)
          clear hK K
          try simp only [Act.put, List.setIfInBounds_toArray, List.set_cons_zero, List.set_cons_succ]
          refine wpAnyH_ready (rs := [6]) (by kernel_rfl) (by simp) ?_
          refine (AllReadyH.cons (o := { dst := some 21, op := Op.call { callee := Callee.value (Operand.func 59), args := #[Operand.const (Value.int IntKind.i64 7), Operand.tmp 17, Operand.tmp 20], argTypes := #[2, 46, 46] }, type := 46, pos := "l07_conditions.go:39", after := #[{ on := 2, ground := Ground.data }, { on := 5, ground := Ground.data }, { on := 5, ground := Ground.chain }], guard := none }) rfl (fun K hK => ?_) AllReadyH.nil)
          · go_simp
            refine (pair_blk 7 _ _ _ _ _ _ _ _ _ _ _ _ _ _ _ _ w41 rfl rfl rfl rfl rfl rfl).mono ?_
            rintro e w42 ⟨s2, rfl, hz2, hk2, hb⟩
            have HS' := St.below HS hb
            have zz := HZ.out
            have zb := hb.size
            have HZ' : Hid (bX + 1 ≤ w42.heap.size) := Nat.le_trans zz zb
            have lHR := blk_lt HR.out
            have lHA := blk_lt HA.out
            have lF1 := F1.out.2
            have lF2 := F2.out.2
            have H2 : Hid (w42.heap[s2]? = some (.cells #[.int .i64 4, .int .i64 x.act, .slice none 0 0, .int .i64 5, .int .i64 0, .slice A2 1 1] 46 (0, 0))) := hk2
            have nH2 : s2 ≠ bA := by omega
            have gH2 : w.heap.size + 3 ≤ s2 := by omega
            have HR' : Hid (w42.heap[w.heap.size + 1 + 1]? = some (.cells #[.int .i64 0, .int .i64 0, .slice none 0 0] 46 (0, 0))) := blk_below HR.out hb
            have HA' : Hid (w42.heap[bA]? = some (.cells #[.int .i64 0, .int .i64 0, .slice none 0 0] 46 (0, 0))) := blk_below HA.out hb
            have F1' : Hid (x.pf.LiesIn w42 w39.heap.size w40.heap.size A1 ∧ w40.heap.size ≤ w42.heap.size) := rng_below F1.out hb
            have F2' : Hid ((Fo.cons x.qk x.qn x.qf .nil).LiesIn w42 w40.heap.size w41.heap.size A2 ∧ w41.heap.size ≤ w42.heap.size) := rng_below F2.out hb
            clear HS HZ zz zb hb lHR lHA lF1 lF2
            have HS := HS'; clear HS'; have HZ := HZ'; clear HZ'
            clear HR; have HR := HR'; clear HR'
            clear HA; have HA := HA'; clear HA'
            clear F1; have F1 := F1'; clear F1'
            clear F2; have F2 := F2'; clear F2'
            go_wp2_with fail
            refine hK.out _ _ HS (fun _ => ?_)
            clear hK K
            try simp only [Act.put, List.setIfInBounds_toArray, List.set_cons_zero, List.set_cons_succ]
            refine wpAnyH_ready (rs := [7]) (by kernel_rfl) (by simp) ?_
            refine (AllReadyH.cons (o := { dst := some 22, op := Op.call { callee := Callee.value (Operand.func 59), args := #[Operand.const (Value.int IntKind.i64 7), Operand.tmp 16, Operand.tmp 21], argTypes := #[2, 46, 46] }, type := 46, pos := "l07_conditions.go:39", after := #[{ on := 1, ground := Ground.data }, { on := 6, ground := Ground.data }, { on := 6, ground := Ground.chain }], guard := none }) rfl (fun K hK => ?_) AllReadyH.nil)
            · go_simp
              refine (pair_blk 7 _ _ _ _ _ _ _ _ _ _ _ _ _ _ _ _ w42 rfl rfl rfl rfl rfl rfl).mono ?_
              rintro e w43 ⟨s3, rfl, hz3, hk3, hb⟩
              have HS' := St.below HS hb
              have zz := HZ.out
              have zb := hb.size
              have HZ' : Hid (bX + 1 ≤ w43.heap.size) := Nat.le_trans zz zb
              have lHR := blk_lt HR.out
              have lHA := blk_lt HA.out
              have lF1 := F1.out.2
              have lF2 := F2.out.2
              have lH2 := blk_lt H2.out
              have H3 : Hid (w43.heap[s3]? = some (.cells #[.int .i64 x.pk, .int .i64 x.pn, .slice A1 x.pf.len C1, .int .i64 7, .int .i64 0, .slice (some ⟨s2, 0, none⟩) 2 2] 46 (0, 0))) := hk3
              have nH3 : s3 ≠ bA := by omega
              have gH3 : w.heap.size + 3 ≤ s3 := by omega
              have HR' : Hid (w43.heap[w.heap.size + 1 + 1]? = some (.cells #[.int .i64 0, .int .i64 0, .slice none 0 0] 46 (0, 0))) := blk_below HR.out hb
              have HA' : Hid (w43.heap[bA]? = some (.cells #[.int .i64 0, .int .i64 0, .slice none 0 0] 46 (0, 0))) := blk_below HA.out hb
              have F1' : Hid (x.pf.LiesIn w43 w39.heap.size w40.heap.size A1 ∧ w40.heap.size ≤ w43.heap.size) := rng_below F1.out hb
              have F2' : Hid ((Fo.cons x.qk x.qn x.qf .nil).LiesIn w43 w40.heap.size w41.heap.size A2 ∧ w41.heap.size ≤ w43.heap.size) := rng_below F2.out hb
              have H2' : Hid (w43.heap[s2]? = some (.cells #[.int .i64 4, .int .i64 x.act, .slice none 0 0, .int .i64 5, .int .i64 0, .slice A2 1 1] 46 (0, 0))) := blk_below H2.out hb
              clear HS HZ zz zb hb lHR lHA lF1 lF2 lH2
              have HS := HS'; clear HS'; have HZ := HZ'; clear HZ'
              clear HR; have HR := HR'; clear HR'
              clear HA; have HA := HA'; clear HA'
              clear F1; have F1 := F1'; clear F1'
              clear F2; have F2 := F2'; clear F2'
              clear H2; have H2 := H2'; clear H2'
              go_wp2_with fail
              refine hK.out _ _ HS (fun _ => ?_)
              clear hK K
              try simp only [Act.put, List.setIfInBounds_toArray, List.set_cons_zero, List.set_cons_succ]
              refine wpAnyH_ready (rs := [9]) (by kernel_rfl) (by simp) ?_
              refine AllReadyH.cons (o := { dst := none, op := Op.store 46 (Operand.tmp 7) (Operand.tmp 22), type := 0, pos := "l07_conditions.go:39", after := #[{ on := 8, ground := Ground.data }, { on := 7, ground := Ground.data }, { on := 7, ground := Ground.chain }, { on := 0, ground := Ground.phase }, { on := 1, ground := Ground.phase }, { on := 2, ground := Ground.phase }, { on := 3, ground := Ground.phase }, { on := 4, ground := Ground.phase }, { on := 5, ground := Ground.phase }, { on := 6, ground := Ground.phase }, { on := 7, ground := Ground.phase }, { on := 8, ground := Ground.phase }], guard := none }) rfl (fun K hK => ?_) AllReadyH.nil
              obtain ⟨d0, d1, d2, g0, g1, g2⟩ := cells3 HA.out
              go_simp
              obtain ⟨w44, ewn⟩ : ∃ wn, wn = (((w43.setCell ⟨bA, 0, none⟩ (.int .i64 7)).setCell ⟨bA, 1, none⟩ (.int .i64 0)).setCell ⟨bA, 2, none⟩ (.slice (some ⟨s3, 0, none⟩) 2 2)) := ⟨_, rfl⟩
              rw [← ewn]
              have HS' : St w [(w.heap.size, 0, .int .i64 t), (w.heap.size, 1, .int .i64 a), (w.heap.size + 1, 0, .int .i64 x.pk), (w.heap.size + 1, 1, .int .i64 x.pn), (w.heap.size + 1, 2, .slice A x.pf.len C), (w.heap.size + 1, 3, .int .i64 x.act), (w.heap.size + 1, 4, .int .i64 x.qk), (w.heap.size + 1, 5, .int .i64 x.qn), (w.heap.size + 1, 6, .slice B x.qf.len D), (bX, 0, .int .i64 4), (bX, 1, .int .i64 x.act), (bX, 2, .slice none 0 0)] w44 := by rw [ewn]; exact (St.put (b := bA) (St.put (b := bA) (St.put (b := bA) HS (by simp; omega) (by omega) 0 (.int .i64 7)) (by simp; omega) (by omega) 1 (.int .i64 0)) (by simp; omega) (by omega) 2 (.slice (some ⟨s3, 0, none⟩) 2 2))
              have HR' : Hid (w44.heap[w.heap.size + 1 + 1]? = some (.cells #[.int .i64 0, .int .i64 0, .slice none 0 0] 46 (0, 0))) := by show _ = _; rw [ewn]; exact (blk_set (c := bA) (blk_set (c := bA) (blk_set (c := bA) HR.out nHR 0 (.int .i64 7)) nHR 1 (.int .i64 0)) nHR 2 (.slice (some ⟨s3, 0, none⟩) 2 2))
              have HA' : Hid (w44.heap[bA]? = some (.cells #[.int .i64 7, .int .i64 0, .slice (some ⟨s3, 0, none⟩) 2 2] 46 (0, 0))) := by show _ = _; rw [ewn, Fo.block_setCell (Fo.block_setCell (Fo.block_setCell HA.out _) _) _]; rfl
              have F1' : Hid (x.pf.LiesIn w44 w39.heap.size w40.heap.size A1 ∧ w40.heap.size ≤ w44.heap.size) := by rw [ewn]; exact (rng_set (c := bA) (rng_set (c := bA) (rng_set (c := bA) F1.out nF1 0 (.int .i64 7)) nF1 1 (.int .i64 0)) nF1 2 (.slice (some ⟨s3, 0, none⟩) 2 2))
              have F2' : Hid ((Fo.cons x.qk x.qn x.qf .nil).LiesIn w44 w40.heap.size w41.heap.size A2 ∧ w41.heap.size ≤ w44.heap.size) := by rw [ewn]; exact (rng_set (c := bA) (rng_set (c := bA) (rng_set (c := bA) F2.out nF2 0 (.int .i64 7)) nF2 1 (.int .i64 0)) nF2 2 (.slice (some ⟨s3, 0, none⟩) 2 2))
              have H2' : Hid (w44.heap[s2]? = some (.cells #[.int .i64 4, .int .i64 x.act, .slice none 0 0, .int .i64 5, .int .i64 0, .slice A2 1 1] 46 (0, 0))) := by show _ = _; rw [ewn]; exact (blk_set (c := bA) (blk_set (c := bA) (blk_set (c := bA) H2.out nH2 0 (.int .i64 7)) nH2 1 (.int .i64 0)) nH2 2 (.slice (some ⟨s3, 0, none⟩) 2 2))
              have H3' : Hid (w44.heap[s3]? = some (.cells #[.int .i64 x.pk, .int .i64 x.pn, .slice A1 x.pf.len C1, .int .i64 7, .int .i64 0, .slice (some ⟨s2, 0, none⟩) 2 2] 46 (0, 0))) := by show _ = _; rw [ewn]; exact (blk_set (c := bA) (blk_set (c := bA) (blk_set (c := bA) H3.out nH3 0 (.int .i64 7)) nH3 1 (.int .i64 0)) nH3 2 (.slice (some ⟨s3, 0, none⟩) 2 2))
              clear HS ewn d0 d1 d2 g0 g1 g2
              have HS := HS'; clear HS'
              clear HR; have HR := HR'; clear HR'
              clear HA; have HA := HA'; clear HA'
              clear F1; have F1 := F1'; clear F1'
              clear F2; have F2 := F2'; clear F2'
              clear H2; have H2 := H2'; clear H2'
              clear H3; have H3 := H3'; clear H3'
              refine hK.out _ _ HS (fun _ => ?_)
              clear hK K
              try simp only [Act.put]
              refine wpAnyH_done (by kernel_rfl) ?_ _
              go_wp2_with fail
              go_meet
              exact ⟨bA, s3, rfl, HS, HR.out, px_in (F1.out.1.mono gF1 F1.out.2) (F2.out.1.mono gF2 F2.out.2) H2.out H3.out gH2 gH3, HA.out, nL⟩
  case rest =>
    obtain ⟨bA, s3, rfl, hS, hR, hI, hA, nL⟩ := hcut
    have HI := Lib.hid (And.intro hI (Nat.le_refl wc.heap.size))
    have HS := Lib.hid hS; have HR := Lib.hid hR; have HA := Lib.hid hA
    clear hS hR hI hA HS2 HR2 HZ2 KO KN
    obtain ⟨sS, y0, y1, y2, y3, y4, y5, y6, y7, y8, y9, y10, y11, _⟩ := HS.out
    obtain ⟨d0, d1, d2, _, _, _⟩ := cells3 HA.out
    go_wp2_with fail
    refine (K2.out _ _ _ HI.out.1.lies d0 d1 d2).mono ?_
    rintro e w5 ⟨rfl, hb⟩
    have HR' : Hid (w5.heap[w.heap.size + 1 + 1]? = some (.cells #[.int .i64 0, .int .i64 0, .slice none 0 0] 46 (0, 0))) := blk_below HR.out hb
    have HA' : Hid (w5.heap[bA]? = some (.cells #[.int .i64 7, .int .i64 0, .slice (some ⟨s3, 0, none⟩) 2 2] 46 (0, 0))) := blk_below HA.out hb
    have HS' := Lib.hid (St.below HS.out hb)
    have HI' : Hid ((pxF x).LiesIn w5 (w.heap.size + 3) w5.heap.size (some ⟨s3, 0, none⟩)) := (rng_below HI.out hb).1.mono (Nat.le_refl _) hb.size
    clear hb sS y0 y1 y2 y3 y4 y5 y6 y7 y8 y9 y10 y11 d0 d1 d2 HI HS HR HA
    obtain ⟨d0, d1, d2, _, _, _⟩ := cells3 HA'.out
    obtain ⟨c0, c1, c2, f0, f1, f2⟩ := cells3 HR'.out
    cases q2
    · obtain ⟨rfl, rfl, rfl⟩ := HE3.out rfl
      go_wp2_with fail
      have Bf : Below w.heap.size w (((w5.setCell ⟨w.heap.size + 1 + 1, 0, none⟩ (.int .i64 0)).setCell ⟨w.heap.size + 1 + 1, 1, none⟩ (.int .i64 0)).setCell ⟨w.heap.size + 1 + 1, 2, none⟩ (.slice none 0 0)) := (Below.setCell (p := ⟨w.heap.size + 1 + 1, 2, none⟩) (Below.setCell (p := ⟨w.heap.size + 1 + 1, 1, none⟩) (Below.setCell (p := ⟨w.heap.size + 1 + 1, 0, none⟩) HS'.out.1 (show w.heap.size ≤ w.heap.size + 1 + 1 by omega) _) (show w.heap.size ≤ w.heap.size + 1 + 1 by omega) _) (show w.heap.size ≤ w.heap.size + 1 + 1 by omega) _)
      have HBF : (((w5.setCell ⟨w.heap.size + 1 + 1, 0, none⟩ (.int .i64 0)).setCell ⟨w.heap.size + 1 + 1, 1, none⟩ (.int .i64 0)).setCell ⟨w.heap.size + 1 + 1, 2, none⟩ (.slice none 0 0)).heap[w.heap.size + 1 + 1]? = some (.cells #[.int .i64 0, .int .i64 0, .slice none 0 0] 46 (0, 0)) := by
        rw [Fo.block_setCell (Fo.block_setCell (Fo.block_setCell HR'.out _) _) _]; rfl
      generalize (((w5.setCell ⟨w.heap.size + 1 + 1, 0, none⟩ (.int .i64 0)).setCell ⟨w.heap.size + 1 + 1, 1, none⟩ (.int .i64 0)).setCell ⟨w.heap.size + 1 + 1, 2, none⟩ (.slice none 0 0)) = wj at Bf HBF ⊢
      obtain ⟨p0, p1, p2, _⟩ := cells3 HBF
      refine bodyPost_ret (v := .tuple #[.agg #[.int .i64 0, .int .i64 0, .slice none 0 0], .int .i64 3]) (by simp [results, Try.results20, go_sem, p0, p1, p2]) rfl ?_
      exact ⟨_, _, rfl, Fo.LiesIn.nil _ _ _, Bf⟩
    · obtain ⟨rfl, rfl, rfl⟩ := HE0.out rfl
      go_wp2_with fail
      have Bf : Below w.heap.size w (((w5.setCell ⟨w.heap.size + 1 + 1, 0, none⟩ (.int .i64 7)).setCell ⟨w.heap.size + 1 + 1, 1, none⟩ (.int .i64 0)).setCell ⟨w.heap.size + 1 + 1, 2, none⟩ (.slice (some ⟨s3, 0, none⟩) 2 2)) := (Below.setCell (p := ⟨w.heap.size + 1 + 1, 2, none⟩) (Below.setCell (p := ⟨w.heap.size + 1 + 1, 1, none⟩) (Below.setCell (p := ⟨w.heap.size + 1 + 1, 0, none⟩) HS'.out.1 (show w.heap.size ≤ w.heap.size + 1 + 1 by omega) _) (show w.heap.size ≤ w.heap.size + 1 + 1 by omega) _) (show w.heap.size ≤ w.heap.size + 1 + 1 by omega) _)
      have HBF : (((w5.setCell ⟨w.heap.size + 1 + 1, 0, none⟩ (.int .i64 7)).setCell ⟨w.heap.size + 1 + 1, 1, none⟩ (.int .i64 0)).setCell ⟨w.heap.size + 1 + 1, 2, none⟩ (.slice (some ⟨s3, 0, none⟩) 2 2)).heap[w.heap.size + 1 + 1]? = some (.cells #[.int .i64 7, .int .i64 0, .slice (some ⟨s3, 0, none⟩) 2 2] 46 (0, 0)) := by
        rw [Fo.block_setCell (Fo.block_setCell (Fo.block_setCell HR'.out _) _) _]; rfl
      have If : (pxF x).LiesIn (((w5.setCell ⟨w.heap.size + 1 + 1, 0, none⟩ (.int .i64 7)).setCell ⟨w.heap.size + 1 + 1, 1, none⟩ (.int .i64 0)).setCell ⟨w.heap.size + 1 + 1, 2, none⟩ (.slice (some ⟨s3, 0, none⟩) 2 2)) w.heap.size (((w5.setCell ⟨w.heap.size + 1 + 1, 0, none⟩ (.int .i64 7)).setCell ⟨w.heap.size + 1 + 1, 1, none⟩ (.int .i64 0)).setCell ⟨w.heap.size + 1 + 1, 2, none⟩ (.slice (some ⟨s3, 0, none⟩) 2 2)).heap.size (some ⟨s3, 0, none⟩) := (((rng_set (c := w.heap.size + 1 + 1) (rng_set (c := w.heap.size + 1 + 1) (rng_set (c := w.heap.size + 1 + 1) (And.intro HI'.out (Nat.le_refl _)) (Or.inl (by omega)) 0 (.int .i64 7)) (Or.inl (by omega)) 1 (.int .i64 0)) (Or.inl (by omega)) 2 (.slice (some ⟨s3, 0, none⟩) 2 2))).1.mono (by omega) (by simp))
      generalize (((w5.setCell ⟨w.heap.size + 1 + 1, 0, none⟩ (.int .i64 7)).setCell ⟨w.heap.size + 1 + 1, 1, none⟩ (.int .i64 0)).setCell ⟨w.heap.size + 1 + 1, 2, none⟩ (.slice (some ⟨s3, 0, none⟩) 2 2)) = wj at Bf HBF If ⊢
      obtain ⟨p0, p1, p2, _⟩ := cells3 HBF
      refine bodyPost_ret (v := .tuple #[.agg #[.int .i64 7, .int .i64 0, .slice (some ⟨s3, 0, none⟩) 2 2], .int .i64 0]) (by simp [results, Try.results20, go_sem, p0, p1, p2]) rfl ?_
      exact ⟨_, 2, rfl, If, Bf⟩
end Go.Proofs.Ytmblgkpgfofceaa
