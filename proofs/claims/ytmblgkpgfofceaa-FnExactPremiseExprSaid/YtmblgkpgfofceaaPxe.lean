/- Contracts of impl.exprWith, impl.where, spec.l06Not. Blocks that stay; impl.where with its block. Contracts of spec.l02Act, spec.l07Premise, spec.l07Premises, spec.ValidPremises. Contract of spec.l02AtomExpr. -/
import Derived.Test.YtmblgkpgfofceaaPxD
import Derived.Test.YtmblgkpgfofceaaPxc
import Derived.Test.YtmblgkpgfofceaaPxd
import Derived.Deep.RegionHeld3
import Derived.Deep.DrawnRows
import Derived.Test.YtmblgkpgfofceaaPrD
import Derived.Test.YtmblgkpgfofceaaPrC
import Derived.Test.YtmblgkpgfofceaaPxa
namespace Go.Proofs.Ytmblgkpgfofceaa
open Go.RowKit

set_option maxRecDepth 100000 in
set_option maxHeartbeats 1000000 in
theorem exprWith_any (k : Int) (A : Option Addr) (n C : Nat) (w : World) :
    Calls Try.prog 66 #[.int .i64 k, .slice A n C] w fun e w' => e = .returned (.agg #[.int .i64 k, .int .i64 0, .slice A n C]) ∧ Below w.heap.size w w' := by
  go_enter Try.func66, Try.ntmps66
  go_wp2_with fail
  refine bodyPost_ret (v := .agg #[.int .i64 k, .int .i64 0, .slice A n C]) (by simp [results, Try.results66, go_sem]) rfl ⟨rfl, by go_grown⟩

set_option maxRecDepth 100000 in
set_option maxHeartbeats 1000000 in
/-- .. in a block of its own. -/
theorem l06Not_any (k n : Int) (f : Fo) (hf : f.nodes ≤ 1048576) (A : Option Addr) (C : Nat) (w : World) (hl : f.Lies w A) :
    Calls Try.prog 61 #[.agg #[.int .i64 k, .int .i64 n, .slice A f.len C]] w fun e w' =>
      ∃ Z, e = .returned (.agg #[.int .i64 5, .int .i64 0, .slice Z 1 1]) ∧ (Fo.cons k n f .nil).LiesIn w' w.heap.size w'.heap.size Z ∧ Below w.heap.size w w' := by
  have K : Hid (∀ (W : World) (B : Nat), Sees w W → W.cell? ⟨B, 0, none⟩ = some (.int .i64 k) → W.cell? ⟨B, 1, none⟩ = some (.int .i64 n) → W.cell? ⟨B, 2, none⟩ = some (.slice A f.len C) → Calls Try.prog 60 #[.pointer (some ⟨B, 0, none⟩)] W fun e w' => ∃ A' C', e = .returned (.agg #[.int .i64 k, .int .i64 n, .slice A' f.len C']) ∧ f.LiesIn w' W.heap.size w'.heap.size A' ∧ Below W.heap.size W w') :=
    fun W B h c0 c1 c2 => l01Own_any (f.nodes + 1) f (Nat.lt_succ_self _) hf k n A C B 0 W (hl.sees h) c0 c1 c2
  clear hl
  go_enter Try.func61, Try.ntmps61
  go_wp2_with fail
  refine (K.out _ w.heap.size (by unfold Sees; go_grown) (by simp [go_sem]) (by simp [go_sem]) (by simp [go_sem])).mono ?_
  rintro e w1 ⟨A', C', rfl, hi, hb⟩
  have HI := Lib.hid hi
  have HZ : Hid (w.heap.size + 1 + 1 ≤ w1.heap.size) := by have := hb.size; simp at this; exact this
  have HB : Hid (Below w.heap.size w w1) := Sees.below (by unfold Sees; go_grown) hb
  have HR : Hid (w1.heap[w.heap.size + 1]? = some (.cells #[.int .i64 0, .int .i64 0, .slice none 0 0] 46 (0, 0))) := (hb.block _ (by simp)).trans (heap_new _ _ _ (by simp))
  clear hi hb
  obtain ⟨c0, c1, c2, f0, f1, f2⟩ := cells3 HR.out
  have hlt : w.heap.size + 1 < w1.heap.size := by have := HZ.out; omega
  go_wp2_with fail
  have HI' : Hid (f.LiesIn w1 (w.heap.size + 1 + 1) w1.heap.size A') := by have h := HI.out; simp at h; exact h
  have hB3 : Below w.heap.size w (((w1.setCell ⟨w.heap.size + 1, 0, none⟩ (.int .i64 5)).setCell ⟨w.heap.size + 1, 1, none⟩ (.int .i64 0)).setCell ⟨w.heap.size + 1, 2, none⟩ (.slice (some ⟨w1.heap.size, 0, none⟩) 1 1)) := Below.setCell (p := ⟨w.heap.size + 1, 2, none⟩) (Below.setCell (p := ⟨w.heap.size + 1, 1, none⟩) (Below.setCell (p := ⟨w.heap.size + 1, 0, none⟩) HB.out (show w.heap.size ≤ w.heap.size + 1 by omega) _) (show w.heap.size ≤ w.heap.size + 1 by omega) _) (show w.heap.size ≤ w.heap.size + 1 by omega) _
  have HBF : (((w1.setCell ⟨w.heap.size + 1, 0, none⟩ (.int .i64 5)).setCell ⟨w.heap.size + 1, 1, none⟩ (.int .i64 0)).setCell ⟨w.heap.size + 1, 2, none⟩ (.slice (some ⟨w1.heap.size, 0, none⟩) 1 1)).heap[w.heap.size + 1]? = some (.cells #[.int .i64 5, .int .i64 0, .slice (some ⟨w1.heap.size, 0, none⟩) 1 1] 46 (0, 0)) := by
    rw [Fo.block_setCell (Fo.block_setCell (Fo.block_setCell HR.out _) _) _]; rfl
  obtain ⟨p0, p1, p2, _⟩ := cells3 HBF
  have ag : Fo.Agree w1 (((w1.setCell ⟨w.heap.size + 1, 0, none⟩ (.int .i64 5)).setCell ⟨w.heap.size + 1, 1, none⟩ (.int .i64 0)).setCell ⟨w.heap.size + 1, 2, none⟩ (.slice (some ⟨w1.heap.size, 0, none⟩) 1 1)) (w.heap.size + 1 + 1) w1.heap.size := Fo.Agree.setCell (Fo.Agree.setCell (Fo.Agree.setCell (Fo.Agree.refl _ _ _) ⟨w.heap.size + 1, 0, none⟩ (Or.inl (Nat.lt_succ_self _)) _) ⟨w.heap.size + 1, 1, none⟩ (Or.inl (Nat.lt_succ_self _)) _) ⟨w.heap.size + 1, 2, none⟩ (Or.inl (Nat.lt_succ_self _)) _
  have hs3 : (((w1.setCell ⟨w.heap.size + 1, 0, none⟩ (.int .i64 5)).setCell ⟨w.heap.size + 1, 1, none⟩ (.int .i64 0)).setCell ⟨w.heap.size + 1, 2, none⟩ (.slice (some ⟨w1.heap.size, 0, none⟩) 1 1)).heap.size = w1.heap.size := by simp
  generalize (((w1.setCell ⟨w.heap.size + 1, 0, none⟩ (.int .i64 5)).setCell ⟨w.heap.size + 1, 1, none⟩ (.int .i64 0)).setCell ⟨w.heap.size + 1, 2, none⟩ (.slice (some ⟨w1.heap.size, 0, none⟩) 1 1)) = w3 at hB3 p0 p1 p2 ag hs3 ⊢
  have r0 := ka (.cells #[.int .i64 k, .int .i64 n, .slice A' f.len C'] 46) p0; have r1 := ka (.cells #[.int .i64 k, .int .i64 n, .slice A' f.len C'] 46) p1; have r2 := ka (.cells #[.int .i64 k, .int .i64 n, .slice A' f.len C'] 46) p2
  have hz := HZ.out
  refine bodyPost_ret (v := .agg #[.int .i64 5, .int .i64 0, .slice (some ⟨w1.heap.size, 0, none⟩) 1 1]) (by simp [results, Try.results61, go_sem, r0, r1, r2]) rfl ⟨_, rfl, ?_, hB3.alloc (by omega) _⟩
  exact (Fo.LiesIn.one HI'.out (Fo.Agree.trans ag ((Fo.Agree.of_below (show Below w3.heap.size w3 (w3.alloc (.cells #[.int .i64 k, .int .i64 n, .slice A' f.len C'] 46)) from (Below.refl _ _).alloc (Nat.le_refl _) _)).mono (Nat.zero_le _) (by omega))) (heap_new w3 _ w1.heap.size hs3.symm) hz (by simp [hs3]) (by simp [hs3])).mono (by omega) (Nat.le_refl _)

set_option maxRecDepth 100000 in
set_option maxHeartbeats 1000000 in
theorem where_any (k1 n1 : Int) (f1 : Fo) (k2 n2 : Int) (f2 : Fo) (A1 A2 : Option Addr) (C1 C2 : Nat) (w : World) (h1 : f1.Lies w A1) (h2 : f2.Lies w A2) :
    Calls Try.prog 65 #[.agg #[.int .i64 k1, .int .i64 n1, .slice A1 f1.len C1], .agg #[.int .i64 k2, .int .i64 n2, .slice A2 f2.len C2]] w fun e w' =>
      ∃ Z, e = .returned (.agg #[.int .i64 7, .int .i64 0, .slice Z 2 2]) ∧ (Fo.cons k1 n1 f1 (.cons k2 n2 f2 .nil)).Lies w' Z ∧ Below w.heap.size w w' := by
  have H1 := Lib.hid h1; have H2 := Lib.hid h2
  clear h1 h2
  go_enter Try.func65, Try.ntmps65
  go_wp2_with fail
  refine (exprWith_any 7 _ _ _ _).mono ?_
  rintro e w1 ⟨rfl, hb⟩
  have HB : Hid (Below w.heap.size w w1) := Sees.below (by unfold Sees; go_grown) hb
  have HR : Hid (w1.heap[w.heap.size + 1 + 1]? = some (.cells #[.int .i64 0, .int .i64 0, .slice none 0 0] 46 (0, 0))) := (hb.block _ (by simp)).trans ((Below.heap_alloc _ _ _ (by simp)).trans (heap_new _ _ _ (by simp)))
  have HS : Hid (w1.heap[w.heap.size + 1 + 1 + 1]? = some (.cells #[.int .i64 k1, .int .i64 n1, .slice A1 f1.len C1, .int .i64 k2, .int .i64 n2, .slice A2 f2.len C2] 46 (0, 0))) := (hb.block _ (by simp)).trans (heap_new _ _ _ (by simp))
  clear hb
  obtain ⟨c0, c1, c2, f0, g1, g2⟩ := cells3 HR.out
  go_wp2_with fail
  have hB3 : Below w.heap.size w (((w1.setCell ⟨w.heap.size + 1 + 1, 0, none⟩ (.int .i64 7)).setCell ⟨w.heap.size + 1 + 1, 1, none⟩ (.int .i64 0)).setCell ⟨w.heap.size + 1 + 1, 2, none⟩ (.slice (some ⟨w.heap.size + 1 + 1 + 1, 0, none⟩) 2 2)) := Below.setCell (p := ⟨w.heap.size + 1 + 1, 2, none⟩) (Below.setCell (p := ⟨w.heap.size + 1 + 1, 1, none⟩) (Below.setCell (p := ⟨w.heap.size + 1 + 1, 0, none⟩) HB.out (show w.heap.size ≤ w.heap.size + 1 + 1 by omega) _) (show w.heap.size ≤ w.heap.size + 1 + 1 by omega) _) (show w.heap.size ≤ w.heap.size + 1 + 1 by omega) _
  have HBF : (((w1.setCell ⟨w.heap.size + 1 + 1, 0, none⟩ (.int .i64 7)).setCell ⟨w.heap.size + 1 + 1, 1, none⟩ (.int .i64 0)).setCell ⟨w.heap.size + 1 + 1, 2, none⟩ (.slice (some ⟨w.heap.size + 1 + 1 + 1, 0, none⟩) 2 2)).heap[w.heap.size + 1 + 1]? = some (.cells #[.int .i64 7, .int .i64 0, .slice (some ⟨w.heap.size + 1 + 1 + 1, 0, none⟩) 2 2] 46 (0, 0)) := by
    rw [Fo.block_setCell (Fo.block_setCell (Fo.block_setCell HR.out _) _) _]; rfl
  have ag : Fo.Agree w1 (((w1.setCell ⟨w.heap.size + 1 + 1, 0, none⟩ (.int .i64 7)).setCell ⟨w.heap.size + 1 + 1, 1, none⟩ (.int .i64 0)).setCell ⟨w.heap.size + 1 + 1, 2, none⟩ (.slice (some ⟨w.heap.size + 1 + 1 + 1, 0, none⟩) 2 2)) (w.heap.size + 1 + 1 + 1) (w.heap.size + 1 + 1 + 1 + 1) := Fo.Agree.setCell (Fo.Agree.setCell (Fo.Agree.setCell (Fo.Agree.refl _ _ _) ⟨w.heap.size + 1 + 1, 0, none⟩ (Or.inl (Nat.lt_succ_self _)) _) ⟨w.heap.size + 1 + 1, 1, none⟩ (Or.inl (Nat.lt_succ_self _)) _) ⟨w.heap.size + 1 + 1, 2, none⟩ (Or.inl (Nat.lt_succ_self _)) _
  generalize (((w1.setCell ⟨w.heap.size + 1 + 1, 0, none⟩ (.int .i64 7)).setCell ⟨w.heap.size + 1 + 1, 1, none⟩ (.int .i64 0)).setCell ⟨w.heap.size + 1 + 1, 2, none⟩ (.slice (some ⟨w.heap.size + 1 + 1 + 1, 0, none⟩) 2 2)) = w3 at hB3 HBF ag ⊢
  obtain ⟨p0, p1, p2, _⟩ := cells3 HBF
  have hs : w3.heap[w.heap.size + 1 + 1 + 1]? = some (.cells #[.int .i64 k1, .int .i64 n1, .slice A1 f1.len C1, .int .i64 k2, .int .i64 n2, .slice A2 f2.len C2] 46 (0, 0)) := (ag _ (Nat.le_refl _) (Nat.lt_succ_self _)).trans HS.out
  refine bodyPost_ret (v := .agg #[.int .i64 7, .int .i64 0, .slice (some ⟨w.heap.size + 1 + 1 + 1, 0, none⟩) 2 2]) (by simp [results, Try.results65, go_sem, p0, p1, p2]) rfl ⟨_, rfl, fun _ => ⟨_, _, rfl, Fo.cell_of_block hs 0, Fo.cell_of_block hs 1, ⟨A1, C1, Fo.cell_of_block hs 2, H1.out.below hB3⟩, Fo.cell_of_block hs 3, Fo.cell_of_block hs 4, ⟨A2, C2, Fo.cell_of_block hs 5, H2.out.below hB3⟩, trivial⟩, hB3⟩
end Go.Proofs.Ytmblgkpgfofceaa

namespace Go.Proofs.Ytmblgkpgfofceaa
open Go.RowKit
set_option linter.unusedVariables false

theorem blk_below {W W' : World} {b : Nat} {o : Obj} (h : W.heap[b]? = some o) (hb : Below W.heap.size W W') : W'.heap[b]? = some o := (hb.block b (Array.getElem?_eq_some_iff.1 h).1).trans h
theorem blk_alloc {W : World} {b : Nat} {o : Obj} (h : W.heap[b]? = some o) (x : Obj) : (W.alloc x).heap[b]? = some o := blk_below h ((Below.refl _ _).alloc (Nat.le_refl _) x)
theorem blk_lt {W : World} {b : Nat} {o : Obj} (h : W.heap[b]? = some o) : b < W.heap.size := (Array.getElem?_eq_some_iff.1 h).1
theorem blk_set {W : World} {b c : Nat} {o : Obj} (h : W.heap[b]? = some o) (hn : b ≠ c) (i : Nat) (v : Value) : (W.setCell ⟨c, i, none⟩ v).heap[b]? = some o := (Below.heap_setCell _ _ _ _ hn).trans h
theorem St.put {w W : World} {L : List (Nat × Nat × Value)} {b : Nat} (h : St w L W) (hn : ∀ c ∈ L, c.1 ≠ b) (hb : w.heap.size ≤ b) (j : Nat) (v : Value) : St w L (W.setCell ⟨b, j, none⟩ v) :=
  ⟨Below.setCell h.1 hb v, h.2.set j v hn⟩
theorem rng_below {W W' : World} {f : Fo} {lo hi : Nat} {A : Option Addr} (h : f.LiesIn W lo hi A ∧ hi ≤ W.heap.size) (hb : Below W.heap.size W W') : f.LiesIn W' lo hi A ∧ hi ≤ W'.heap.size :=
  ⟨h.1.agree ((Fo.Agree.of_below hb).mono (Nat.zero_le _) h.2), Nat.le_trans h.2 hb.size⟩
theorem rng_set {W : World} {f : Fo} {lo hi c : Nat} {A : Option Addr} (h : f.LiesIn W lo hi A ∧ hi ≤ W.heap.size) (hn : c < lo ∨ hi ≤ c) (i : Nat) (v : Value) : f.LiesIn (W.setCell ⟨c, i, none⟩ v) lo hi A ∧ hi ≤ (W.setCell ⟨c, i, none⟩ v).heap.size :=
  ⟨h.1.agree (Fo.Agree.setCell (Fo.Agree.refl _ _ _) ⟨c, i, none⟩ hn v), by simp; exact h.2⟩
theorem pm_small {t a : Int} {x : Pm} (h : premB t a x = true) : x.pf.nodes + x.qf.nodes ≤ 400 := by
  unfold premB condV validE at h
  simp only [Bool.and_eq_true, decide_eq_true_eq] at h
  have h1 := h.1.1.1.1.2
  have h2 := h.2.2.1.1.1.2
  omega
theorem px_in {W : World} {x : Pm} {A1 A2 : Option Addr} {C1 lo s2 s3 : Nat} (h1 : x.pf.LiesIn W lo W.heap.size A1) (h2 : (Fo.cons x.qk x.qn x.qf .nil).LiesIn W lo W.heap.size A2) (k2 : W.heap[s2]? = some (.cells #[.int .i64 4, .int .i64 x.act, .slice none 0 0, .int .i64 5, .int .i64 0, .slice A2 1 1] 46 (0, 0))) (k3 : W.heap[s3]? = some (.cells #[.int .i64 x.pk, .int .i64 x.pn, .slice A1 x.pf.len C1, .int .i64 7, .int .i64 0, .slice (some ⟨s2, 0, none⟩) 2 2] 46 (0, 0))) (g2 : lo ≤ s2) (g3 : lo ≤ s3) : (pxF x).LiesIn W lo W.heap.size (some ⟨s3, 0, none⟩) :=
  Fo.LiesIn.two (C := C1) (C2 := 2) h1 (Fo.LiesIn.two (ks := .nil) (C := 0) (C2 := 1) (Fo.LiesIn.nil lo W.heap.size none) h2 (Fo.Agree.refl _ _ _) k2 g2 (blk_lt k2) (Nat.le_refl _)) (Fo.Agree.refl _ _ _) k3 g3 (blk_lt k3) (Nat.le_refl _)
theorem px_fits {x : Pm} (h : (x.pf.len ≤ 9223372036854775807 ∧ x.pf.Fits) ∧ (x.qf.len ≤ 9223372036854775807 ∧ x.qf.Fits)) : (pxF x).Fits :=
  ⟨h.1.1, h.1.2, ⟨by simp [Fo.len], ⟨by simp [Fo.len], trivial, ⟨by simp [Fo.len], ⟨h.2.1, h.2.2, trivial⟩, trivial⟩⟩, trivial⟩⟩
theorem px_lies {w W : World} {x : Pm} {A B : Option Addr} {C D s1 s2 s3 : Nat} (hs : Sees w W) (h1 : W.heap[s1]? = some (.cells #[.int .i64 x.qk, .int .i64 x.qn, .slice B x.qf.len D] 46 (0, 0))) (h2 : W.heap[s2]? = some (.cells #[.int .i64 4, .int .i64 x.act, .slice none 0 0, .int .i64 5, .int .i64 0, .slice (some ⟨s1, 0, none⟩) 1 1] 46 (0, 0))) (h3 : W.heap[s3]? = some (.cells #[.int .i64 x.pk, .int .i64 x.pn, .slice A x.pf.len C, .int .i64 7, .int .i64 0, .slice (some ⟨s2, 0, none⟩) 2 2] 46 (0, 0))) (hA : x.pf.Lies w A) (hB : x.qf.Lies w B) : (pxF x).Lies W (some ⟨s3, 0, none⟩) :=
  fun _ => ⟨s3, 0, rfl, Fo.cell_of_block h3 0, Fo.cell_of_block h3 1, ⟨A, C, Fo.cell_of_block h3 2, hA.sees hs⟩, Fo.cell_of_block h3 3, Fo.cell_of_block h3 4, ⟨some ⟨s2, 0, none⟩, 2, Fo.cell_of_block h3 5,
    fun _ => ⟨s2, 0, rfl, Fo.cell_of_block h2 0, Fo.cell_of_block h2 1, ⟨none, 0, Fo.cell_of_block h2 2, fun h => absurd rfl h⟩, Fo.cell_of_block h2 3, Fo.cell_of_block h2 4, ⟨some ⟨s1, 0, none⟩, 1, Fo.cell_of_block h2 5,
      fun _ => ⟨s1, 0, rfl, Fo.cell_of_block h1 0, Fo.cell_of_block h1 1, ⟨B, D, Fo.cell_of_block h1 2, hB.sees hs⟩, trivial⟩⟩, trivial⟩⟩, trivial⟩
set_option maxRecDepth 100000 in
set_option maxHeartbeats 1000000 in
theorem where_blk (v1 v2 v3 u1 u2 u3 : Value) (k1 n1 k2 n2 : Int) (A1 A2 : Option Addr) (l1 l2 C1 C2 : Nat) (w : World) (e1 : v1 = .int .i64 k1) (e2 : v2 = .int .i64 n1) (e3 : v3 = .slice A1 l1 C1) (g1 : u1 = .int .i64 k2) (g2 : u2 = .int .i64 n2) (g3 : u3 = .slice A2 l2 C2) :
    Calls Try.prog 65 #[.agg #[v1, v2, v3], .agg #[u1, u2, u3]] w fun e w' =>
      ∃ z, e = .returned (.agg #[.int .i64 7, .int .i64 0, .slice (some ⟨z, 0, none⟩) 2 2]) ∧ w.heap.size ≤ z ∧ w'.heap[z]? = some (.cells #[v1, v2, v3, u1, u2, u3] 46 (0, 0)) ∧ Below w.heap.size w w' := by
  subst e1 e2 e3 g1 g2 g3
  go_enter Try.func65, Try.ntmps65
  go_wp2_with fail
  refine (exprWith_any 7 _ _ _ _).mono ?_
  rintro e w1 ⟨rfl, hb⟩
  have HB : Hid (Below w.heap.size w w1) := Sees.below (by unfold Sees; go_grown) hb
  have HR : Hid (w1.heap[w.heap.size + 1 + 1]? = some (.cells #[.int .i64 0, .int .i64 0, .slice none 0 0] 46 (0, 0))) := (hb.block _ (by simp)).trans ((Below.heap_alloc _ _ _ (by simp)).trans (heap_new _ _ _ (by simp)))
  have HS : Hid (w1.heap[w.heap.size + 1 + 1 + 1]? = some (.cells #[.int .i64 k1, .int .i64 n1, .slice A1 l1 C1, .int .i64 k2, .int .i64 n2, .slice A2 l2 C2] 46 (0, 0))) := (hb.block _ (by simp)).trans (heap_new _ _ _ (by simp))
  clear hb
  obtain ⟨c0, c1, c2, f0, g1, g2⟩ := cells3 HR.out
  go_wp2_with fail
  have hB3 : Below w.heap.size w (((w1.setCell ⟨w.heap.size + 1 + 1, 0, none⟩ (.int .i64 7)).setCell ⟨w.heap.size + 1 + 1, 1, none⟩ (.int .i64 0)).setCell ⟨w.heap.size + 1 + 1, 2, none⟩ (.slice (some ⟨w.heap.size + 1 + 1 + 1, 0, none⟩) 2 2)) := (Below.setCell (p := ⟨w.heap.size + 1 + 1, 2, none⟩) (Below.setCell (p := ⟨w.heap.size + 1 + 1, 1, none⟩) (Below.setCell (p := ⟨w.heap.size + 1 + 1, 0, none⟩) HB.out (show w.heap.size ≤ w.heap.size + 1 + 1 by omega) _) (show w.heap.size ≤ w.heap.size + 1 + 1 by omega) _) (show w.heap.size ≤ w.heap.size + 1 + 1 by omega) _)
  have HBF : (((w1.setCell ⟨w.heap.size + 1 + 1, 0, none⟩ (.int .i64 7)).setCell ⟨w.heap.size + 1 + 1, 1, none⟩ (.int .i64 0)).setCell ⟨w.heap.size + 1 + 1, 2, none⟩ (.slice (some ⟨w.heap.size + 1 + 1 + 1, 0, none⟩) 2 2)).heap[w.heap.size + 1 + 1]? = some (.cells #[.int .i64 7, .int .i64 0, .slice (some ⟨w.heap.size + 1 + 1 + 1, 0, none⟩) 2 2] 46 (0, 0)) := by
    rw [Fo.block_setCell (Fo.block_setCell (Fo.block_setCell HR.out _) _) _]; rfl
  have hs := (blk_set (c := w.heap.size + 1 + 1) (blk_set (c := w.heap.size + 1 + 1) (blk_set (c := w.heap.size + 1 + 1) HS.out (by omega) 0 (.int .i64 7)) (by omega) 1 (.int .i64 0)) (by omega) 2 (.slice (some ⟨w.heap.size + 1 + 1 + 1, 0, none⟩) 2 2))
  generalize (((w1.setCell ⟨w.heap.size + 1 + 1, 0, none⟩ (.int .i64 7)).setCell ⟨w.heap.size + 1 + 1, 1, none⟩ (.int .i64 0)).setCell ⟨w.heap.size + 1 + 1, 2, none⟩ (.slice (some ⟨w.heap.size + 1 + 1 + 1, 0, none⟩) 2 2)) = w3 at hB3 HBF hs ⊢
  obtain ⟨p0, p1, p2, _⟩ := cells3 HBF
  refine bodyPost_ret (v := .agg #[.int .i64 7, .int .i64 0, .slice (some ⟨w.heap.size + 1 + 1 + 1, 0, none⟩) 2 2]) (by simp [results, Try.results65, go_sem, p0, p1, p2]) rfl ⟨_, rfl, (by omega), hs, hB3⟩
set_option maxRecDepth 100000 in
set_option maxHeartbeats 1000000 in
theorem pair_blk (kk : Int) (v1 v2 v3 u1 u2 u3 : Value) (k1 n1 k2 n2 : Int) (A1 A2 : Option Addr) (l1 l2 C1 C2 : Nat) (w : World) (e1 : v1 = .int .i64 k1) (e2 : v2 = .int .i64 n1) (e3 : v3 = .slice A1 l1 C1) (g1 : u1 = .int .i64 k2) (g2 : u2 = .int .i64 n2) (g3 : u3 = .slice A2 l2 C2) :
    Calls Try.prog 59 #[.int .i64 kk, .agg #[v1, v2, v3], .agg #[u1, u2, u3]] w fun e w' =>
      ∃ z, e = .returned (.agg #[.int .i64 kk, .int .i64 0, .slice (some ⟨z, 0, none⟩) 2 2]) ∧ w.heap.size ≤ z ∧ w'.heap[z]? = some (.cells #[v1, v2, v3, u1, u2, u3] 46 (0, 0)) ∧ Below w.heap.size w w' := by
  subst e1 e2 e3 g1 g2 g3
  go_enter Try.func59, Try.ntmps59
  go_wp2_with fail
  refine bodyPost_ret (v := .agg #[.int .i64 kk, .int .i64 0, .slice (some ⟨w.heap.size + 1 + 1 + 1, 0, none⟩) 2 2]) (by simp [results, Try.results59, go_sem]) rfl ⟨_, rfl, (by omega), heap_new _ _ _ (by simp), by go_grown⟩
end Go.Proofs.Ytmblgkpgfofceaa

namespace Go.Proofs.Ytmblgkpgfofceaa
open Go.RowKit
attribute [local go_sem ↓] Go.wp_at_zero Go.wp_at_succ

theorem l02Act_any (t a x : Int) (h0 : 0 ≤ a) (h1 : a ≤ 4) (w : World) : Calls Try.prog 47 #[.agg #[.int .i64 t, .int .i64 a], .int .i64 x] w fun e w' => e = .returned (.bool (belowB x a)) ∧ Below w.heap.size w w' := by
  obtain ⟨q, hq⟩ : ∃ q : Bool, q = belowB x a := ⟨_, rfl⟩
  have K3 : Hid (∀ W : World, Calls Try.prog 102 #[.int .i64 x, .int .i64 0, .int .i64 (a - 1)] W fun e w' => e = .returned (.bool q) ∧ Below W.heap.size W w') := fun W => (in_any x 0 (a - 1) W).mono fun e w' h => ⟨by rw [hq, ← in_below]; exact h.1, by rw [← h.2]; exact Below.refl _ _⟩
  have wn : IntKind.i64.wrap (a - 1) = a - 1 := IntWalk.i64_in _ (by omega)
  rw [← hq]
  clear hq h0 h1
  go_enter Try.func47, Try.ntmps47
  go_wp2_with fail
  refine (K3.out _).mono ?_
  rintro e w3 ⟨rfl, hb⟩
  have B2 : Sees w w3 := Sees.below (by unfold Sees; go_grown) hb
  clear hb
  go_wp2_with fail
  go_ret
  exact ⟨rfl, B2⟩

set_option maxHeartbeats 4000000 in
set_option maxRecDepth 100000 in
theorem l07Premise_any (t a : Int) (x : Pm) (hm : x.pf.nodes + x.qf.nodes ≤ 1048576) (hf : x.pf.Fits) (hg : x.qf.Fits) (A B : Option Addr) (C D b o : Nat) (w : World) (hA : x.pf.Lies w A) (hB : x.qf.Lies w B) (hx : x.At w b o A C B D) :
    Calls Try.prog 58 #[.agg #[.int .i64 t, .int .i64 a], .pointer (some ⟨b, o, none⟩)] w fun e w' => e = .returned (.bool (premB t a x)) ∧ Below w.heap.size w w' := by
  obtain ⟨h0, h1, h2, h3, h4, h5, h6⟩ := hx
  obtain ⟨q1, hq1⟩ : ∃ q : Bool, q = condV t a x.pk x.pn x.pf := ⟨_, rfl⟩
  obtain ⟨q2, hq2⟩ : ∃ q : Bool, q = condV t a x.qk x.qn x.qf := ⟨_, rfl⟩
  obtain ⟨q3, hq3⟩ : ∃ q : Bool, q = belowB x.act a := ⟨_, rfl⟩
  have K1 : Hid (∀ W : World, Sees w W → Calls Try.prog 115 #[.agg #[.int .i64 t, .int .i64 a], .pointer (some ⟨b, o, none⟩)] W fun e w' => e = .returned (.bool q1) ∧ Below W.heap.size W w') := fun W h => by
    rw [hq1]
    exact l06Cond_any t a x.pk x.pn x.pf (by omega) hf A C b o W (hA.sees h) (kc h h0) (kc h h1) (kc h h2)
  have K2 : Hid (∀ W : World, Sees w W → Calls Try.prog 115 #[.agg #[.int .i64 t, .int .i64 a], .pointer (some ⟨b, o + 4, none⟩)] W fun e w' => e = .returned (.bool q2) ∧ Below W.heap.size W w') := fun W h => by
    rw [hq2]
    exact l06Cond_any t a x.qk x.qn x.qf (by omega) hg B D b (o + 4) W (hB.sees h) (kc h h4) (kc h (by rw [Nat.add_assoc]; exact h5)) (kc h (by rw [Nat.add_assoc]; exact h6))
  have K3 : Hid (q1 = true → ∀ W : World, Calls Try.prog 47 #[.agg #[.int .i64 t, .int .i64 a], .int .i64 x.act] W fun e w' => e = .returned (.bool q3) ∧ Below W.heap.size W w') := fun hq W => by
    have h := condV_sig (hq1.symm.trans hq)
    rw [hq3]
    exact l02Act_any t a x.act h.1 h.2 W
  have HD : Hid (premB t a x = (q1 && (q2 && q3))) := by show _ = _; unfold premB; rw [hq1, hq2, hq3]; cases condV t a x.pk x.pn x.pf <;> cases condV t a x.qk x.qn x.qf <;> cases belowB x.act a <;> rfl
  have H3 := Lib.hid h3
  clear hq1 hq2 hq3 hA hB hf hg hm h0 h1 h2 h4 h5 h6 h3
  have S1 : Sees w (w.alloc (.cells #[.int .i64 t, .int .i64 a] 29)) := (Sees.refl w).alloc _
  obtain ⟨w1, hw1⟩ : ∃ w1, w1 = w.alloc (.cells #[.int .i64 t, .int .i64 a] 29) := ⟨_, rfl⟩
  have s0 : w1.cell? ⟨w.heap.size, 0, none⟩ = some (.int .i64 t) := by rw [hw1]; simp [go_sem]
  have s1 : w1.cell? ⟨w.heap.size, 1, none⟩ = some (.int .i64 a) := by rw [hw1]; simp [go_sem]
  rw [← hw1] at S1
  have h3 := kc S1 H3.out
  clear H3
  cases q1
  · clear K2 K3
    go_enter Try.func58, Try.ntmps58
    go_wp2_with fail
    rw [← hw1]
    clear hw1
    refine wp_region_quietC w1 [(w.heap.size, 0, .int .i64 t), (w.heap.size, 1, .int .i64 a), (b, o + 3, .int .i64 x.act)] (by kernel_rfl) (by kernel_rfl) ⟨Below.refl _ _, s0, s1, h3, trivial⟩ ?_
    repeat (first | go_big_quiet_skip | (go_big_quiet_want; apply Exists.intro; refine ⟨fun W hW => ?_, ?_⟩; focus (have hK := Lib.hid hW; obtain ⟨hs, hc⟩ := hW; simp only [Has, and_true] at hc; go_simp; (first | rfl | exact ⟨rfl, rfl⟩ | exact quietC_call hK.out (K1.out _ (Sees.below S1 hs))))) | (go_simp; go_big_quiet_on))
    refine wpQuiet_nil ?_
    intro w2 H1
    have hb : Sees w w2 := Sees.below S1 H1.1
    clear H1
    go_wp2_with fail
    go_ret
    exact ⟨ret_bool HD.out.symm, hb⟩
  have K3' := Lib.hid (K3.out rfl)
  clear K3
  cases q2
  · go_enter Try.func58, Try.ntmps58
    go_wp2_with fail
    rw [← hw1]
    clear hw1
    refine wp_region_quietC w1 [(w.heap.size, 0, .int .i64 t), (w.heap.size, 1, .int .i64 a), (b, o + 3, .int .i64 x.act)] (by kernel_rfl) (by kernel_rfl) ⟨Below.refl _ _, s0, s1, h3, trivial⟩ ?_
    repeat (first | go_big_quiet_skip | (go_big_quiet_want; apply Exists.intro; refine ⟨fun W hW => ?_, ?_⟩; focus (have hK := Lib.hid hW; obtain ⟨hs, hc⟩ := hW; simp only [Has, and_true] at hc; go_simp; (first | rfl | exact ⟨rfl, rfl⟩ | ((with_reducible refine quietC_call hK.out (K1.out _ ?_)); exact Sees.below S1 hs) | ((with_reducible refine quietC_call hK.out (K2.out _ ?_)); exact Sees.below S1 hs)))) | (go_simp; go_big_quiet_on))
    refine wpQuiet_nil ?_
    intro w2 H1
    have hb : Sees w w2 := Sees.below S1 H1.1
    clear H1
    go_wp2_with fail
    go_ret
    exact ⟨ret_bool HD.out.symm, hb⟩
  cases q3
  · go_enter Try.func58, Try.ntmps58
    go_wp2_with fail
    rw [← hw1]
    clear hw1
    refine wp_region_quietC w1 [(w.heap.size, 0, .int .i64 t), (w.heap.size, 1, .int .i64 a), (b, o + 3, .int .i64 x.act)] (by kernel_rfl) (by kernel_rfl) ⟨Below.refl _ _, s0, s1, h3, trivial⟩ ?_
    repeat (first | go_big_quiet_skip | (go_big_quiet_want; apply Exists.intro; refine ⟨fun W hW => ?_, ?_⟩; focus (have hK := Lib.hid hW; obtain ⟨hs, hc⟩ := hW; simp only [Has, and_true] at hc; go_simp; (first | rfl | exact ⟨rfl, rfl⟩ | ((with_reducible refine quietC_call hK.out (K1.out _ ?_)); exact Sees.below S1 hs) | ((with_reducible refine quietC_call hK.out (K2.out _ ?_)); exact Sees.below S1 hs) | (with_reducible exact quietC_call hK.out (K3'.out _))))) | (go_simp; go_big_quiet_on))
    refine wpQuiet_nil ?_
    intro w2 H1
    have hb : Sees w w2 := Sees.below S1 H1.1
    clear H1
    go_wp2_with fail
    go_ret
    exact ⟨ret_bool HD.out.symm, hb⟩
  · go_enter Try.func58, Try.ntmps58
    go_wp2_with fail
    rw [← hw1]
    clear hw1
    refine wp_region_quietC w1 [(w.heap.size, 0, .int .i64 t), (w.heap.size, 1, .int .i64 a), (b, o + 3, .int .i64 x.act)] (by kernel_rfl) (by kernel_rfl) ⟨Below.refl _ _, s0, s1, h3, trivial⟩ ?_
    repeat (first | go_big_quiet_skip | (go_big_quiet_want; apply Exists.intro; refine ⟨fun W hW => ?_, ?_⟩; focus (have hK := Lib.hid hW; obtain ⟨hs, hc⟩ := hW; simp only [Has, and_true] at hc; go_simp; (first | rfl | exact ⟨rfl, rfl⟩ | ((with_reducible refine quietC_call hK.out (K1.out _ ?_)); exact Sees.below S1 hs) | ((with_reducible refine quietC_call hK.out (K2.out _ ?_)); exact Sees.below S1 hs) | (with_reducible exact quietC_call hK.out (K3'.out _))))) | (go_simp; go_big_quiet_on))
    refine wpQuiet_nil ?_
    intro w2 H1
    have hb : Sees w w2 := Sees.below S1 H1.1
    clear H1
    go_wp2_with fail
    go_ret
    exact ⟨ret_bool HD.out.symm, hb⟩

set_option maxHeartbeats 4000000 in
set_option maxRecDepth 100000 in
theorem l07Premises_any (t a : Int) (xs : List Pm) (hf : FitPm xs) (hm : tot Pm.cnt xs ≤ 1048576) (A : Option Addr) (C : Nat) (w : World) (hA : PmL w xs A) :
    Calls Try.prog 46 #[.agg #[.int .i64 t, .int .i64 a], .slice A xs.length C] w fun e w' => e = .returned (.bool (premsB t a xs)) ∧ Below w.heap.size w w' := by
  have hlen := pm_len xs
  obtain ⟨q0, hq0⟩ : ∃ q : Bool, q = sigOk t a := ⟨_, rfl⟩
  have K0 : Hid (∀ W : World, Calls Try.prog 101 #[.agg #[.int .i64 t, .int .i64 a]] W fun e w' => e = .returned (.bool q0) ∧ Below W.heap.size W w') := fun W => by rw [hq0]; exact l01Sig_any t a W
  have HD : Hid (premsB t a xs = (q0 && (decide ((xs.length : Int) ≤ 12) && allS (premB t a) xs 0))) := by show _ = _; unfold premsB; rw [← hq0, allS_zero]
  have HA := Lib.hid hA; have HF := Lib.hid hf
  have HS0 : Hid (St w [(w.heap.size, 0, .int .i64 t), (w.heap.size, 1, .int .i64 a)] (w.alloc (.cells #[.int .i64 t, .int .i64 a] 29))) := ⟨(by unfold Sees; go_grown), (by simp [go_sem]), (by simp [go_sem]), trivial⟩
  clear hA hf hq0
  go_enter Try.func46, Try.ntmps46
  go_wp2_with fail
  go_loopw [5] (fun i wr => ∃ j : Nat, j ≤ xs.length ∧ i = .int .i64 j ∧ Hid (premsB t a xs = (q0 && (decide ((xs.length : Int) ≤ 12) && allS (premB t a) xs j))) ∧ Hid (St w [(w.heap.size, 0, .int .i64 t), (w.heap.size, 1, .int .i64 a)] wr)) (fun i _ => xs.length - (intOf i).toNat)
  case atStart => exact ⟨0, Nat.zero_le _, rfl, HD, HS0⟩
  case round =>
    obtain ⟨j, hj, rfl, hq, hS⟩ := hrel
    clear HD HS0
    obtain ⟨hb, y0, y1, _⟩ := hS.out
    by_cases hjl : j < xs.length
    · obtain ⟨c, p, rfl, hat⟩ := HA.out (by rintro rfl; simp at hjl)
      obtain ⟨A1, C1, B1, D1, hx1, hQ, hR⟩ := hat j xs[j] (List.getElem?_eq_getElem hjl)
      have hst := allS_step (premB t a) xs hjl
      have hfx := HF.out.2 xs[j] (List.getElem_mem hjl)
      have hge := pm_ge (List.getElem_mem hjl)
      obtain ⟨x, hx⟩ : ∃ x, x = xs[j] := ⟨_, rfl⟩
      rw [← hx] at hx1 hQ hR hst hfx hge
      obtain ⟨q, hqe⟩ : ∃ q : Bool, q = premB t a x := ⟨_, rfl⟩
      have KV : Hid (∀ W : World, Sees w W → Calls Try.prog 58 #[.agg #[.int .i64 t, .int .i64 a], .pointer (some ⟨c, p + j * 7, none⟩)] W fun e w' => e = .returned (.bool q) ∧ Below W.heap.size W w') := fun W h => by
        rw [hqe]
        exact l07Premise_any t a x (by omega) hfx.1.2 hfx.2.2 A1 B1 C1 D1 c (p + j * 7) W (hQ.sees h) (hR.sees h) (hx1.below h)
      have HST : Hid (premsB t a xs = (q0 && (decide ((xs.length : Int) ≤ 12) && (q && allS (premB t a) xs (j + 1))))) := by
        show _ = _
        rw [hq.out, hst, hqe]
      have HAT := Lib.hid hat
      have j0 : (0 : Int) ≤ (j : Int) := Int.natCast_nonneg _
      have j1 : (j : Int) < (xs.length : Int) := by omega
      clear hat hx1 hQ hR hst hfx hge hx hqe hq
      cases q
      · have HE : Hid (premsB t a xs = false) := by show _ = _; rw [HST.out]; cases q0 <;> cases decide ((xs.length : Int) ≤ 12) <;> rfl
        clear HST
        go_wp2_with fail
        refine wp_region_quietC wr [(w.heap.size, 0, .int .i64 t), (w.heap.size, 1, .int .i64 a)] (by kernel_rfl) (by kernel_rfl) ⟨Below.refl _ _, y0, y1, trivial⟩ ?_
        repeat (first | go_big_quiet_skip | (go_big_quiet_want; apply Exists.intro; refine ⟨fun W hW => ?_, ?_⟩; focus (have hK := Lib.hid hW; obtain ⟨hs, hc⟩ := hW; simp only [Has, and_true] at hc; go_simp; (first | rfl | exact ⟨rfl, rfl⟩ | ((with_reducible refine quietC_call hK.out (KV.out _ ?_)); exact Sees.below hb hs)))) | (go_simp; go_big_quiet_on))
        refine wpQuiet_nil ?_
        intro w2 H1
        have hb2 : Hid (St w [(w.heap.size, 0, .int .i64 t), (w.heap.size, 1, .int .i64 a)] w2) := ⟨Sees.below hb H1.1, H1.2⟩
        clear H1 hb y0 y1 KV hS
        go_wp2_with fail
        go_ret
        exact ⟨ret_bool HE.out.symm, hb2.out.1⟩
      · have HE : Hid (premsB t a xs = (q0 && (decide ((xs.length : Int) ≤ 12) && allS (premB t a) xs (j + 1)))) := by show _ = _; rw [HST.out]; rfl
        clear HST
        go_wp2_with fail
        refine wp_region_quietC wr [(w.heap.size, 0, .int .i64 t), (w.heap.size, 1, .int .i64 a)] (by kernel_rfl) (by kernel_rfl) ⟨Below.refl _ _, y0, y1, trivial⟩ ?_
        repeat (first | go_big_quiet_skip | (go_big_quiet_want; apply Exists.intro; refine ⟨fun W hW => ?_, ?_⟩; focus (have hK := Lib.hid hW; obtain ⟨hs, hc⟩ := hW; simp only [Has, and_true] at hc; go_simp; (first | rfl | exact ⟨rfl, rfl⟩ | ((with_reducible refine quietC_call hK.out (KV.out _ ?_)); exact Sees.below hb hs)))) | (go_simp; go_big_quiet_on))
        refine wpQuiet_nil ?_
        intro w2 H1
        have hb2 : Hid (St w [(w.heap.size, 0, .int .i64 t), (w.heap.size, 1, .int .i64 a)] w2) := ⟨Sees.below hb H1.1, H1.2⟩
        clear H1 hb y0 y1 KV hS
        go_wp2_with fail
        go_roundw
        case rel => exact ⟨j + 1, by omega, by go_num, HE, hb2⟩
        case measure => simp [intOf]; omega
    · obtain rfl : j = xs.length := by omega
      obtain ⟨d, hd⟩ : ∃ d : Bool, d = decide ((xs.length : Int) ≤ 12) := ⟨_, rfl⟩
      have HE : Hid (premsB t a xs = (q0 && d)) := by show _ = _; rw [hq.out, allS_end, hd, Bool.and_true]
      clear hq
      cases q0
      · clear hd
        go_wp2_with fail
        refine (K0.out _).mono ?_
        rintro e w1 ⟨rfl, hb1⟩
        have B1 := Sees.below hb hb1
        clear hb1
        go_wp2_with fail
        go_ret
        exact ⟨ret_bool HE.out.symm, B1⟩
      · have hd' := hd.symm
        clear hd
        go_wp2_with fail
        refine (K0.out _).mono ?_
        rintro e w1 ⟨rfl, hb1⟩
        have B1 := Sees.below hb hb1
        clear hb1
        go_wp2_with fail
        go_ret
        exact ⟨ret_bool HE.out.symm, B1⟩

end Go.Proofs.Ytmblgkpgfofceaa

namespace Go.Proofs.Ytmblgkpgfofceaa
open Go.RowKit

theorem cells2 {W : World} {b : Nat} {x y : Value} {T : TypeId} (h : W.heap[b]? = some (.cells #[x, y] T (0, 0))) : W.cell? ⟨b, 0, none⟩ = some x ∧ W.cell? ⟨b, 1, none⟩ = some y := ⟨Fo.cell_of_block h 0, Fo.cell_of_block h 1⟩
/-- The state of the loop, behind the stores into the expression that is being made. -/
def AtSt (w : World) (B : Nat) (m a : Int) (k n : Int) (F : Fo) (Z : Option Addr) (C : Nat) (W : World) : Prop :=
  Sees w W ∧ B < W.heap.size ∧ W.heap[w.heap.size]? = some (.cells #[.int .i64 m, .int .i64 a] 29 (0, 0)) ∧ W.heap[w.heap.size + 1]? = some (.cells #[.int .i64 0, .int .i64 0, .slice none 0 0] 46 (0, 0)) ∧ W.heap[B]? = some (.cells #[.int .i64 k, .int .i64 n, .slice Z F.len C] 46 (0, 0)) ∧ F.LiesIn W (B + 1) W.heap.size Z
theorem AtSt.below {w : World} {B : Nat} {m a k n : Int} {F : Fo} {Z : Option Addr} {C : Nat} {W W' : World} (h : AtSt w B m a k n F Z C W) (hB : w.heap.size + 1 + 1 ≤ B) (hb : Below W.heap.size W W') : AtSt w B m a k n F Z C W' := by
  obtain ⟨h1, h2, h3, h4, h5, h6⟩ := h
  have hz := hb.size
  exact ⟨Sees.below h1 hb, by omega, (hb.block _ (by omega)).trans h3, (hb.block _ (by omega)).trans h4, (hb.block _ h2).trans h5, (h6.agree ((Fo.Agree.of_below hb).mono (Nat.zero_le _) (Nat.le_refl _))).mono (Nat.le_refl _) hz⟩
theorem AtSt.put {w : World} {B : Nat} {m a k n : Int} {F : Fo} {Z : Option Addr} {C : Nat} {W : World} (h : AtSt w B m a k n F Z C W) (hB : w.heap.size + 1 + 1 ≤ B) (k' n' : Int) (F' : Fo) (Z' : Option Addr) (C' : Nat) (hF : F'.LiesIn W (B + 1) W.heap.size Z') :
    AtSt w B m a k' n' F' Z' C' (((W.setCell ⟨B, 0, none⟩ (.int .i64 k')).setCell ⟨B, 1, none⟩ (.int .i64 n')).setCell ⟨B, 2, none⟩ (.slice Z' F'.len C')) := by
  obtain ⟨h1, h2, h3, h4, h5, h6⟩ := h
  have ag : Fo.Agree W (((W.setCell ⟨B, 0, none⟩ (.int .i64 k')).setCell ⟨B, 1, none⟩ (.int .i64 n')).setCell ⟨B, 2, none⟩ (.slice Z' F'.len C')) (B + 1) W.heap.size :=
    Fo.Agree.setCell (Fo.Agree.setCell (Fo.Agree.setCell (Fo.Agree.refl _ _ _) ⟨B, 0, none⟩ (Or.inl (Nat.lt_succ_self B)) _) ⟨B, 1, none⟩ (Or.inl (Nat.lt_succ_self B)) _) ⟨B, 2, none⟩ (Or.inl (Nat.lt_succ_self B)) _
  have hs : (((W.setCell ⟨B, 0, none⟩ (.int .i64 k')).setCell ⟨B, 1, none⟩ (.int .i64 n')).setCell ⟨B, 2, none⟩ (.slice Z' F'.len C')).heap.size = W.heap.size := by simp
  have hw : w.heap.size ≤ B := by omega
  have he : Sees w (((W.setCell ⟨B, 0, none⟩ (.int .i64 k')).setCell ⟨B, 1, none⟩ (.int .i64 n')).setCell ⟨B, 2, none⟩ (.slice Z' F'.len C')) := Below.setCell (p := ⟨B, 2, none⟩) (Below.setCell (p := ⟨B, 1, none⟩) (Below.setCell (p := ⟨B, 0, none⟩) h1 hw _) hw _) hw _
  have hk : ∀ x, x ≠ B → (((W.setCell ⟨B, 0, none⟩ (.int .i64 k')).setCell ⟨B, 1, none⟩ (.int .i64 n')).setCell ⟨B, 2, none⟩ (.slice Z' F'.len C')).heap[x]? = W.heap[x]? := fun x hx =>
    (Below.heap_setCell _ ⟨B, 2, none⟩ _ _ hx).trans ((Below.heap_setCell _ ⟨B, 1, none⟩ _ _ hx).trans (Below.heap_setCell _ ⟨B, 0, none⟩ _ _ hx))
  have hb : (((W.setCell ⟨B, 0, none⟩ (.int .i64 k')).setCell ⟨B, 1, none⟩ (.int .i64 n')).setCell ⟨B, 2, none⟩ (.slice Z' F'.len C')).heap[B]? = some (.cells #[.int .i64 k', .int .i64 n', .slice Z' F'.len C'] 46 (0, 0)) := by
    rw [Fo.block_setCell (Fo.block_setCell (Fo.block_setCell h5 _) _) _]; rfl
  generalize ((W.setCell ⟨B, 0, none⟩ (.int .i64 k')).setCell ⟨B, 1, none⟩ (.int .i64 n')).setCell ⟨B, 2, none⟩ (.slice Z' F'.len C') = W' at ag hs he hk hb ⊢
  exact ⟨he, by omega, (hk _ (by omega)).trans h3, (hk _ (by omega)).trans h4, hb, (hF.agree ag).mono (Nat.le_refl _) (by omega)⟩
/-- The same, where the kids are made behind the stores. -/
theorem AtSt.make {w : World} {B : Nat} {m a k n : Int} {F : Fo} {Z : Option Addr} {C : Nat} {W : World} (h : AtSt w B m a k n F Z C W) (hB : w.heap.size + 1 + 1 ≤ B) (k' n' : Int) (F' : Fo) (Z' : Option Addr) (C' : Nat) {W' : World}
    (hb : Below W.heap.size (((W.setCell ⟨B, 0, none⟩ (.int .i64 k')).setCell ⟨B, 1, none⟩ (.int .i64 n')).setCell ⟨B, 2, none⟩ (.slice Z' F'.len C')) W') (hF : F'.LiesIn W' (B + 1) W'.heap.size Z') : AtSt w B m a k' n' F' Z' C' W' := by
  have h2 := h.put hB k' n' .nil Z' C' (Fo.LiesIn.nil _ _ _)
  have hs : (((W.setCell ⟨B, 0, none⟩ (.int .i64 k')).setCell ⟨B, 1, none⟩ (.int .i64 n')).setCell ⟨B, 2, none⟩ (.slice Z' F'.len C')).heap.size = W.heap.size := by simp
  have h5 : (((W.setCell ⟨B, 0, none⟩ (.int .i64 k')).setCell ⟨B, 1, none⟩ (.int .i64 n')).setCell ⟨B, 2, none⟩ (.slice Z' F'.len C')).heap[B]? = some (.cells #[.int .i64 k', .int .i64 n', .slice Z' F'.len C'] 46 (0, 0)) := by
    rw [Fo.block_setCell (Fo.block_setCell (Fo.block_setCell h.2.2.2.2.1 _) _) _]; rfl
  have hz := hb.size
  have hlt := h.2.1
  have hw : w.heap.size ≤ B := by omega
  have he : Sees w (((W.setCell ⟨B, 0, none⟩ (.int .i64 k')).setCell ⟨B, 1, none⟩ (.int .i64 n')).setCell ⟨B, 2, none⟩ (.slice Z' F'.len C')) := Below.setCell (p := ⟨B, 2, none⟩) (Below.setCell (p := ⟨B, 1, none⟩) (Below.setCell (p := ⟨B, 0, none⟩) h.1 hw _) hw _) hw _
  have hk : ∀ x, x ≠ B → (((W.setCell ⟨B, 0, none⟩ (.int .i64 k')).setCell ⟨B, 1, none⟩ (.int .i64 n')).setCell ⟨B, 2, none⟩ (.slice Z' F'.len C')).heap[x]? = W.heap[x]? := fun x hx =>
    (Below.heap_setCell _ ⟨B, 2, none⟩ _ _ hx).trans ((Below.heap_setCell _ ⟨B, 1, none⟩ _ _ hx).trans (Below.heap_setCell _ ⟨B, 0, none⟩ _ _ hx))
  rw [← hs] at hb hlt
  generalize ((W.setCell ⟨B, 0, none⟩ (.int .i64 k')).setCell ⟨B, 1, none⟩ (.int .i64 n')).setCell ⟨B, 2, none⟩ (.slice Z' F'.len C') = V at *
  exact ⟨Sees.below he hb, by omega, (hb.block _ (by omega)).trans ((hk _ (by omega)).trans h.2.2.1), (hb.block _ (by omega)).trans ((hk _ (by omega)).trans h.2.2.2.1), (hb.block _ hlt).trans h5, hF⟩
theorem bit0_fact (x : Int) (h0 : 0 ≤ x) (h1 : x ≤ 7) : (bits BinOp.and IntKind.i64 x 1 == 0) = !(bitB x (0 : Nat)) := by
  have hx : x = 0 ∨ x = 1 ∨ x = 2 ∨ x = 3 ∨ x = 4 ∨ x = 5 ∨ x = 6 ∨ x = 7 := by omega
  rcases hx with rfl | rfl | rfl | rfl | rfl | rfl | rfl | rfl <;> decide
theorem bit1_fact (x : Int) (h0 : 0 ≤ x) (h1 : x ≤ 7) : (bits BinOp.and IntKind.i64 (x / 2) 1 == 0) = !(bitB x (1 : Nat)) := by
  have hx : x = 0 ∨ x = 1 ∨ x = 2 ∨ x = 3 ∨ x = 4 ∨ x = 5 ∨ x = 6 ∨ x = 7 := by omega
  rcases hx with rfl | rfl | rfl | rfl | rfl | rfl | rfl | rfl <;> decide
theorem bit2_fact (x : Int) (h0 : 0 ≤ x) (h1 : x ≤ 7) : (bits BinOp.and IntKind.i64 (x / 4) 1 == 0) = !(bitB x (2 : Nat)) := by
  have hx : x = 0 ∨ x = 1 ∨ x = 2 ∨ x = 3 ∨ x = 4 ∨ x = 5 ∨ x = 6 ∨ x = 7 := by omega
  rcases hx with rfl | rfl | rfl | rfl | rfl | rfl | rfl | rfl <;> decide

end Go.Proofs.Ytmblgkpgfofceaa
