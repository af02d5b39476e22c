/- Contracts of spec.SubtermAt, impl.SubtermAt. -/
import Derived.Test.YtdcaelgojjnglaaAtS
import Derived.Test.YtdcaelgojjnglaaNodeAt
import Derived.Test.YtdcaelgojjnglaaOwnE
import Derived.Test.YtdcaelgojjnglaaOk
import Derived.Test.YtdcaelgojjnglaaValidI
import Derived.Test.YtdcaelgojjnglaaNodeOf
import Derived.Test.YtdcaelgojjnglaaEndE
namespace Go.Proofs.Ytdcaelgojjnglaa
open Go.RowKit

/-- What SubtermAt answers. -/
def sbO (t a k n : Int) (f : Fo) (xs : List Int) : Int × Int × Fo × Int :=
  if validE t a k n f = true then (match walkP xs k n f false with | some (k', n', f', _) => (k', n', f', 0) | none => (0, 0, .nil, 2)) else (0, 0, .nil, 1)
def sbK (t a k n : Int) (f : Fo) (xs : List Int) : Int := (sbO t a k n f xs).1
def sbN (t a k n : Int) (f : Fo) (xs : List Int) : Int := (sbO t a k n f xs).2.1
def sbF (t a k n : Int) (f : Fo) (xs : List Int) : Fo := (sbO t a k n f xs).2.2.1
def sbC (t a k n : Int) (f : Fo) (xs : List Int) : Int := (sbO t a k n f xs).2.2.2
theorem sb_no {t a k n : Int} {f : Fo} (xs : List Int) (h : validE t a k n f = false) : sbO t a k n f xs = (0, 0, .nil, 1) := by unfold sbO; simp [h]
theorem sb_yes {t a k n : Int} {f : Fo} (xs : List Int) (h : validE t a k n f = true) : sbO t a k n f xs = (match walkP xs k n f false with | some (k', n', f', _) => (k', n', f', 0) | none => (0, 0, .nil, 2)) := by unfold sbO; simp [h]
theorem sbF_nodes (t a k n : Int) (f : Fo) (xs : List Int) (h : f.nodes ≤ 1048576) : (sbF t a k n f xs).nodes ≤ 1048576 := by
  unfold sbF sbO
  split
  · cases e : walkP xs k n f false with
    | none => exact Nat.zero_le _
    | some x => obtain ⟨k', n', f', b'⟩ := x; exact Nat.le_trans (walkP_nodes xs e) h
  · exact Nat.zero_le _

set_option maxRecDepth 100000 in
set_option maxHeartbeats 2000000 in
theorem specSubtermAt_any (t a k n : Int) (f : Fo) (hf : f.Fits) (h0 : f.nodes ≤ 1048576) (xs : List Int) (hx : xs.length ≤ 1048576) (A : Option Addr) (C : Nat) (P : Option Addr) (D : Nat) (w : World) (hl : f.Lies w A) (hp : Ints w xs P) :
    Calls Try.prog 20 #[.agg #[.int .i64 t, .int .i64 a], .agg #[.int .i64 k, .int .i64 n, .slice A f.len C], .slice P xs.length D] w (LEnd (sbK t a k n f xs) (sbN t a k n f xs) (sbF t a k n f xs) (sbC t a k n f xs) w) := by
  unfold sbK sbN sbF sbC
  obtain ⟨q1, hq1⟩ : ∃ q1 : Bool, q1 = validE t a k n f := ⟨_, rfl⟩
  have K1 : Hid (∀ W : World, St w [(w.heap.size, 0, .int .i64 t), (w.heap.size, 1, .int .i64 a), (w.heap.size + 1, 0, .int .i64 k), (w.heap.size + 1, 1, .int .i64 n), (w.heap.size + 1, 2, .slice A f.len C)] W → Calls Try.prog 54 #[.agg #[.int .i64 t, .int .i64 a], .pointer (some ⟨w.heap.size + 1, 0, none⟩)] W fun e w' => e = .returned (.bool q1) ∧ Below W.heap.size W w') :=
    fun W h => by rw [hq1]; exact l01Ok_any f h0 hf t a k n A C (w.heap.size + 1) 0 W (hl.sees h.1) h.2.2.2.1 h.2.2.2.2.1 h.2.2.2.2.2.1
  have K2 : Hid (∀ W : World, St w [(w.heap.size, 0, .int .i64 t), (w.heap.size, 1, .int .i64 a), (w.heap.size + 1, 0, .int .i64 k), (w.heap.size + 1, 1, .int .i64 n), (w.heap.size + 1, 2, .slice A f.len C)] W → Calls Try.prog 55 #[.pointer (some ⟨w.heap.size + 1, 0, none⟩), .slice P xs.length D] W (SAEnd (walkP xs k n f false) (AtPath W xs (w.heap.size + 1) 0 f A) W)) :=
    fun W h => l04At_any xs (by omega) k n f h0 A C (w.heap.size + 1) 0 P D W (hl.sees h.1) (hp.sees h.1) h.2.2.2.1 h.2.2.2.2.1 h.2.2.2.2.2.1
  cases q1
  · rw [sb_no xs hq1.symm]
    clear hq1 K2
    have HP := Lib.hid hp
    clear hp
    go_enter Try.func20, Try.ntmps20
    go_wp2_with fail
    refine (K1.out _ ⟨(by unfold Sees; go_grown), (by simp [go_sem]), (by simp [go_sem]), (by simp [go_sem]), (by simp [go_sem]), (by simp [go_sem]), trivial⟩).mono ?_
    rintro e w1 ⟨rfl, hb⟩
    have H1 : Hid (St w [(w.heap.size, 0, .int .i64 t), (w.heap.size, 1, .int .i64 a), (w.heap.size + 1, 0, .int .i64 k), (w.heap.size + 1, 1, .int .i64 n), (w.heap.size + 1, 2, .slice A f.len C)] w1) := St.below (l := [(w.heap.size, 0, .int .i64 t), (w.heap.size, 1, .int .i64 a), (w.heap.size + 1, 0, .int .i64 k), (w.heap.size + 1, 1, .int .i64 n), (w.heap.size + 1, 2, .slice A f.len C)]) ⟨(by unfold Sees; go_grown), (by simp [go_sem]), (by simp [go_sem]), (by simp [go_sem]), (by simp [go_sem]), (by simp [go_sem]), trivial⟩ hb
    have HBr : w1.heap[w.heap.size + 2]? = some (.cells #[.int .i64 0, .int .i64 0, .slice none 0 0] 35 (0, 0)) := (hb.block _ (by simp)).trans (heap_new _ _ _ (by simp))
    clear hb
    obtain ⟨r0, r1, r2, g0, g1, g2⟩ := cells3 HBr
    have zr : w.heap.size + 2 < w1.heap.size := (Array.getElem?_eq_some_iff.1 HBr).1
    obtain ⟨sS, s0, s1, s2, s3, s4, _⟩ := H1.out
    go_wp2_with fail
    have HBF : (((w1.setCell ⟨w.heap.size + 2, 0, none⟩ (.int .i64 0)).setCell ⟨w.heap.size + 2, 1, none⟩ (.int .i64 0)).setCell ⟨w.heap.size + 2, 2, none⟩ (.slice none 0 0)).heap[w.heap.size + 2]? = some (.cells #[(.int .i64 0), (.int .i64 0), .slice none 0 0] 35 (0, 0)) := by
      rw [Fo.block_setCell (Fo.block_setCell (Fo.block_setCell HBr _) _) _]; rfl
    obtain ⟨d0, d1, d2, _⟩ := cells3 HBF
    refine bodyPost_ret (v := .tuple #[.agg #[(.int .i64 0), (.int .i64 0), .slice none 0 0], .int .i64 1]) (by simp [results, Try.results20, go_sem, d0, d1, d2]) rfl ?_
    exact ⟨none, 0, rfl, Fo.LiesIn.nil _ _ _, Below.setCell (Below.setCell (Below.setCell sS (by show w.heap.size ≤ w.heap.size + 1 + 1; omega) _) (by show w.heap.size ≤ w.heap.size + 1 + 1; omega) _) (by show w.heap.size ≤ w.heap.size + 1 + 1; omega) _⟩
  · obtain ⟨O, hO⟩ : ∃ O, O = walkP xs k n f false := ⟨_, rfl⟩
    have hv := hq1.symm
    rw [← hO] at K2
    have hn : ∀ k' n' f' b', O = some (k', n', f', b') → f'.nodes ≤ 1048576 := fun k' n' f' b' h => Nat.le_trans (walkP_nodes xs (hO.symm.trans h)) h0
    have HN := Lib.hid hn
    rw [sb_yes xs hv, ← hO]
    clear hq1 hv hO hn
    have HP := Lib.hid hp
    clear hp
    go_enter Try.func20, Try.ntmps20
    go_wp2_with fail
    refine (K1.out _ ⟨(by unfold Sees; go_grown), (by simp [go_sem]), (by simp [go_sem]), (by simp [go_sem]), (by simp [go_sem]), (by simp [go_sem]), trivial⟩).mono ?_
    rintro e w1 ⟨rfl, hb⟩
    have H1 : Hid (St w [(w.heap.size, 0, .int .i64 t), (w.heap.size, 1, .int .i64 a), (w.heap.size + 1, 0, .int .i64 k), (w.heap.size + 1, 1, .int .i64 n), (w.heap.size + 1, 2, .slice A f.len C)] w1) := St.below (l := [(w.heap.size, 0, .int .i64 t), (w.heap.size, 1, .int .i64 a), (w.heap.size + 1, 0, .int .i64 k), (w.heap.size + 1, 1, .int .i64 n), (w.heap.size + 1, 2, .slice A f.len C)]) ⟨(by unfold Sees; go_grown), (by simp [go_sem]), (by simp [go_sem]), (by simp [go_sem]), (by simp [go_sem]), (by simp [go_sem]), trivial⟩ hb
    have HBr : w1.heap[w.heap.size + 2]? = some (.cells #[.int .i64 0, .int .i64 0, .slice none 0 0] 35 (0, 0)) := (hb.block _ (by simp)).trans (heap_new _ _ _ (by simp))
    clear hb
    obtain ⟨r0, r1, r2, g0, g1, g2⟩ := cells3 HBr
    have zr : w.heap.size + 2 < w1.heap.size := (Array.getElem?_eq_some_iff.1 HBr).1
    obtain ⟨sS, s0, s1, s2, s3, s4, _⟩ := H1.out
    go_wp2_with fail
    refine (K2.out _ H1.out).mono ?_
    rintro e w2 (⟨k', n', f', b', A', C', B', o', rfl, rfl, c0, c1, c2, hl2, _, m, rfl⟩ | ⟨rfl, p, b', rfl, m, rfl⟩)
    · have KO : Hid (∀ W : World, Sees w1 W → Calls Try.prog 56 #[.pointer (some ⟨B', o', none⟩)] W fun e w' => ∃ A1 C1, e = .returned (.agg #[.int .i64 k', .int .i64 n', .slice A1 f'.len C1]) ∧ f'.LiesIn w' W.heap.size w'.heap.size A1 ∧ Below W.heap.size W w') := fun W h =>
        l01Own_any (f'.nodes + 1) f' (Nat.lt_succ_self _) (HN.out _ _ _ _ rfl) k' n' A' C' B' o' W (hl2.sees h) (kc h c0) (kc h c1) (kc h c2)
      clear c0 c1 c2 hl2
      go_wp2_with fail
      refine (KO.out _ (below_drewN _ _ _)).mono ?_
      rintro e w3 ⟨A1, C1, rfl, hL, hb⟩
      have HB3 := (hb.block (w.heap.size + 2) zr).trans HBr
      have S3 : Sees w w3 := Sees.below (Sees.below sS (below_drewN _ _ _)) hb
      have z3 : w1.heap.size ≤ w3.heap.size := hb.size
      have HL := Lib.hid hL
      clear hL hb r0 r1 r2 g0 g1 g2
      obtain ⟨r0, r1, r2, g0, g1, g2⟩ := cells3 HB3
      go_wp2_with fail
      have HBF : (((w3.setCell ⟨w.heap.size + 2, 0, none⟩ (.int .i64 k')).setCell ⟨w.heap.size + 2, 1, none⟩ (.int .i64 n')).setCell ⟨w.heap.size + 2, 2, none⟩ (.slice A1 f'.len C1)).heap[w.heap.size + 2]? = some (.cells #[(.int .i64 k'), (.int .i64 n'), .slice A1 f'.len C1] 35 (0, 0)) := by
        rw [Fo.block_setCell (Fo.block_setCell (Fo.block_setCell HB3 _) _) _]; rfl
      obtain ⟨d0, d1, d2, _⟩ := cells3 HBF
      refine bodyPost_ret (v := .tuple #[.agg #[(.int .i64 k'), (.int .i64 n'), .slice A1 f'.len C1], .int .i64 0]) (by simp [results, Try.results20, go_sem, d0, d1, d2]) rfl ?_
      refine ⟨A1, C1, rfl, ?_, Below.setCell (Below.setCell (Below.setCell S3 (by show w.heap.size ≤ w.heap.size + 1 + 1; omega) _) (by show w.heap.size ≤ w.heap.size + 1 + 1; omega) _) (by show w.heap.size ≤ w.heap.size + 1 + 1; omega) _⟩
      exact (HL.out.agree (Fo.Agree.setCell (Fo.Agree.setCell (Fo.Agree.setCell (Fo.Agree.refl _ _ _) _ (Or.inl zr) _) _ (Or.inl zr) _) _ (Or.inl zr) _)).mono (by simp; omega) (by simp)
    · go_wp2_with fail
      have HB2 : (w1.drewN m).heap[w.heap.size + 2]? = some (.cells #[.int .i64 0, .int .i64 0, .slice none 0 0] 35 (0, 0)) := HBr
      have S2 : Sees w (w1.drewN m) := Sees.below sS (below_drewN _ _ _)
      have HBF : ((((w1.drewN m).setCell ⟨w.heap.size + 2, 0, none⟩ (.int .i64 0)).setCell ⟨w.heap.size + 2, 1, none⟩ (.int .i64 0)).setCell ⟨w.heap.size + 2, 2, none⟩ (.slice none 0 0)).heap[w.heap.size + 2]? = some (.cells #[(.int .i64 0), (.int .i64 0), .slice none 0 0] 35 (0, 0)) := by
        rw [Fo.block_setCell (Fo.block_setCell (Fo.block_setCell HB2 _) _) _]; rfl
      obtain ⟨d0, d1, d2, _⟩ := cells3 HBF
      refine bodyPost_ret (v := .tuple #[.agg #[(.int .i64 0), (.int .i64 0), .slice none 0 0], .int .i64 2]) (by simp [results, Try.results20, go_sem, d0, d1, d2]) rfl ?_
      exact ⟨none, 0, rfl, Fo.LiesIn.nil _ _ _, Below.setCell (Below.setCell (Below.setCell S2 (by show w.heap.size ≤ w.heap.size + 1 + 1; omega) _) (by show w.heap.size ≤ w.heap.size + 1 + 1; omega) _) (by show w.heap.size ≤ w.heap.size + 1 + 1; omega) _⟩

set_option maxRecDepth 100000 in
set_option maxHeartbeats 2000000 in
theorem copyExpr_any (t a : Int) (b : Bool) (k n : Int) (f : Fo) (h0 : f.nodes ≤ 1048576) (ht : treeE t a b k n f = true) (A : Option Addr) (C : Nat) (w : World) (hl : f.Lies w A) :
    Calls Try.prog 58 #[.agg #[.int .i64 k, .int .i64 n, .slice A f.len C]] w (ExEnd k n f w) := by
  have hz := ndE_size f k n
  obtain ⟨e1, e2, e3⟩ := ndE_all ht
  obtain ⟨v1, hv1⟩ : ∃ v : Value, v = (ndE f k n).val := ⟨_, rfl⟩
  have K4 : Hid (∀ W : World, Sees w W → Calls Try.prog 62 #[.agg #[.int .i64 k, .int .i64 n, .slice A f.len C]] W fun e w' => e = .returned v1 ∧ Below W.heap.size W w') :=
    fun W h => by rw [hv1]; exact nodeOf_any (f.nodes + 1) f (Nat.lt_succ_self _) h0 t a b k n A C W (hl.sees h) ht
  have K6 : Hid (∀ W : World, Calls Try.prog 63 #[v1] W (ExEnd k n f W)) := fun W => by
    have h := exprOf_any (ndE f k n) W (by omega)
    rw [e1, e2, e3, ← hv1] at h
    exact h
  clear hz e1 e2 e3 ht hv1
  have HL := Lib.hid hl
  clear hl
  go_enter Try.func58, Try.ntmps58
  go_wp2_with fail
  refine (K4.out _ (by unfold Sees; go_grown)).mono ?_
  rintro e w1 ⟨rfl, hb⟩
  have HBr : w1.heap[w.heap.size + 1]? = some (.cells #[.int .i64 0, .int .i64 0, .slice none 0 0] 35 (0, 0)) := (hb.block _ (by simp)).trans (heap_new _ _ _ (by simp))
  have S1 : Sees w w1 := Sees.below (by unfold Sees; go_grown) hb
  have zr : w.heap.size + 1 < w1.heap.size := (Array.getElem?_eq_some_iff.1 HBr).1
  clear hb
  go_wp2_with fail
  refine (K6.out _).mono ?_
  rintro e w2 ⟨A1, rfl, hX, hb⟩
  have HB2 := (hb.block _ zr).trans HBr
  have S2 := S1.below hb
  have z2 := hb.size
  have HX := Lib.hid hX
  clear hX hb
  obtain ⟨r0, r1, r2, g0, g1, g2⟩ := cells3 HB2
  go_wp2_with fail
  have HBF : (((w2.setCell ⟨w.heap.size + 1, 0, none⟩ (.int .i64 k)).setCell ⟨w.heap.size + 1, 1, none⟩ (.int .i64 n)).setCell ⟨w.heap.size + 1, 2, none⟩ (.slice A1 f.len f.len)).heap[w.heap.size + 1]? = some (.cells #[(.int .i64 k), (.int .i64 n), .slice A1 f.len f.len] 35 (0, 0)) := by
    rw [Fo.block_setCell (Fo.block_setCell (Fo.block_setCell HB2 _) _) _]; rfl
  obtain ⟨d0, d1, d2, _⟩ := cells3 HBF
  refine bodyPost_ret (v := .agg #[(.int .i64 k), (.int .i64 n), .slice A1 f.len f.len]) (by simp [results, Try.results58, go_sem, d0, d1, d2]) rfl ?_
  refine ⟨A1, rfl, ?_, Below.setCell (Below.setCell (Below.setCell S2 (by show w.heap.size ≤ w.heap.size + 1; omega) _) (by show w.heap.size ≤ w.heap.size + 1; omega) _) (by show w.heap.size ≤ w.heap.size + 1; omega) _⟩
  exact (HX.out.agree (Fo.Agree.setCell (Fo.Agree.setCell (Fo.Agree.setCell (Fo.Agree.refl _ _ _) _ (Or.inl zr) _) _ (Or.inl zr) _) _ (Or.inl zr) _)).mono (by omega) (by simp)

set_option maxRecDepth 100000 in
set_option maxHeartbeats 2000000 in
theorem implSubtermAt_any (t a k n : Int) (f : Fo) (h0 : f.nodes ≤ 1048576) (xs : List Int) (hx : xs.length ≤ 1048576) (A : Option Addr) (C : Nat) (P : Option Addr) (D : Nat) (w : World) (hl : f.Lies w A) (hp : Ints w xs P) :
    Calls Try.prog 23 #[.agg #[.int .i64 t, .int .i64 a], .agg #[.int .i64 k, .int .i64 n, .slice A f.len C], .slice P xs.length D] w (XEnd (sbK t a k n f xs) (sbN t a k n f xs) (sbF t a k n f xs) (sbC t a k n f xs) w) := by
  unfold sbK sbN sbF sbC
  obtain ⟨q1, hq1⟩ : ∃ q1 : Bool, q1 = validE t a k n f := ⟨_, rfl⟩
  have K1 : Hid (∀ W : World, St w [(w.heap.size, 0, .int .i64 t), (w.heap.size, 1, .int .i64 a), (w.heap.size + 1, 0, .int .i64 k), (w.heap.size + 1, 1, .int .i64 n), (w.heap.size + 1, 2, .slice A f.len C)] W → Calls Try.prog 52 #[.agg #[.int .i64 t, .int .i64 a], .agg #[.int .i64 k, .int .i64 n, .slice A f.len C]] W fun e w' => e = .returned (.bool q1) ∧ Below W.heap.size W w') :=
    fun W h => by rw [hq1]; exact implValidExpr_any t a k n f h0 A C W (hl.sees h.1)
  have K2 : Hid (∀ W : World, Sees w W → Calls Try.prog 57 #[.agg #[.int .i64 k, .int .i64 n, .slice A f.len C], .slice P xs.length D] W (NAEnd (walkP xs k n f false) W)) :=
    fun W h => nodeAt_any xs (by omega) k n f h0 A C P D W (hl.sees h) (hp.sees h)
  cases q1
  · rw [sb_no xs hq1.symm]
    clear hq1 K2
    have HP := Lib.hid hp
    clear hp
    go_enter Try.func23, Try.ntmps23
    go_wp2_with fail
    refine (K1.out _ ⟨(by unfold Sees; go_grown), (by simp [go_sem]), (by simp [go_sem]), (by simp [go_sem]), (by simp [go_sem]), (by simp [go_sem]), trivial⟩).mono ?_
    rintro e w1 ⟨rfl, hb⟩
    have H1 : Hid (St w [(w.heap.size, 0, .int .i64 t), (w.heap.size, 1, .int .i64 a), (w.heap.size + 1, 0, .int .i64 k), (w.heap.size + 1, 1, .int .i64 n), (w.heap.size + 1, 2, .slice A f.len C)] w1) := St.below (l := [(w.heap.size, 0, .int .i64 t), (w.heap.size, 1, .int .i64 a), (w.heap.size + 1, 0, .int .i64 k), (w.heap.size + 1, 1, .int .i64 n), (w.heap.size + 1, 2, .slice A f.len C)]) ⟨(by unfold Sees; go_grown), (by simp [go_sem]), (by simp [go_sem]), (by simp [go_sem]), (by simp [go_sem]), (by simp [go_sem]), trivial⟩ hb
    have HBr : w1.heap[w.heap.size + 2]? = some (.cells #[.int .i64 0, .int .i64 0, .slice none 0 0] 35 (0, 0)) := (hb.block _ (by simp)).trans (heap_new _ _ _ (by simp))
    clear hb
    obtain ⟨r0, r1, r2, g0, g1, g2⟩ := cells3 HBr
    have zr : w.heap.size + 2 < w1.heap.size := (Array.getElem?_eq_some_iff.1 HBr).1
    obtain ⟨sS, s0, s1, s2, s3, s4, _⟩ := H1.out
    go_wp2_with fail
    have HBF : (((w1.setCell ⟨w.heap.size + 2, 0, none⟩ (.int .i64 0)).setCell ⟨w.heap.size + 2, 1, none⟩ (.int .i64 0)).setCell ⟨w.heap.size + 2, 2, none⟩ (.slice none 0 0)).heap[w.heap.size + 2]? = some (.cells #[(.int .i64 0), (.int .i64 0), .slice none 0 0] 35 (0, 0)) := by
      rw [Fo.block_setCell (Fo.block_setCell (Fo.block_setCell HBr _) _) _]; rfl
    obtain ⟨d0, d1, d2, _⟩ := cells3 HBF
    refine bodyPost_ret (v := .tuple #[.agg #[(.int .i64 0), (.int .i64 0), .slice none 0 0], .int .i64 1]) (by simp [results, Try.results23, go_sem, d0, d1, d2]) rfl ?_
    exact ⟨none, 0, rfl, Fo.XIn.nil (by simp; omega) _, Below.setCell (Below.setCell (Below.setCell sS (by show w.heap.size ≤ w.heap.size + 1 + 1; omega) _) (by show w.heap.size ≤ w.heap.size + 1 + 1; omega) _) (by show w.heap.size ≤ w.heap.size + 1 + 1; omega) _⟩
  · obtain ⟨O, hO⟩ : ∃ O, O = walkP xs k n f false := ⟨_, rfl⟩
    have hv := hq1.symm
    rw [← hO] at K2
    have hn : ∀ k' n' f' b', O = some (k', n', f', b') → f'.nodes ≤ 1048576 ∧ ∃ c', treeE t a c' k' n' f' = true := fun k' n' f' b' h => ⟨Nat.le_trans (walkP_nodes xs (hO.symm.trans h)) h0, walkP_tree xs (validE_parts0 hv) (hO.symm.trans h)⟩
    have HN := Lib.hid hn
    rw [sb_yes xs hv, ← hO]
    clear hq1 hv hO hn
    have HP := Lib.hid hp
    clear hp
    go_enter Try.func23, Try.ntmps23
    go_wp2_with fail
    refine (K1.out _ ⟨(by unfold Sees; go_grown), (by simp [go_sem]), (by simp [go_sem]), (by simp [go_sem]), (by simp [go_sem]), (by simp [go_sem]), trivial⟩).mono ?_
    rintro e w1 ⟨rfl, hb⟩
    have H1 : Hid (St w [(w.heap.size, 0, .int .i64 t), (w.heap.size, 1, .int .i64 a), (w.heap.size + 1, 0, .int .i64 k), (w.heap.size + 1, 1, .int .i64 n), (w.heap.size + 1, 2, .slice A f.len C)] w1) := St.below (l := [(w.heap.size, 0, .int .i64 t), (w.heap.size, 1, .int .i64 a), (w.heap.size + 1, 0, .int .i64 k), (w.heap.size + 1, 1, .int .i64 n), (w.heap.size + 1, 2, .slice A f.len C)]) ⟨(by unfold Sees; go_grown), (by simp [go_sem]), (by simp [go_sem]), (by simp [go_sem]), (by simp [go_sem]), (by simp [go_sem]), trivial⟩ hb
    have HBr : w1.heap[w.heap.size + 2]? = some (.cells #[.int .i64 0, .int .i64 0, .slice none 0 0] 35 (0, 0)) := (hb.block _ (by simp)).trans (heap_new _ _ _ (by simp))
    clear hb
    obtain ⟨r0, r1, r2, g0, g1, g2⟩ := cells3 HBr
    have zr : w.heap.size + 2 < w1.heap.size := (Array.getElem?_eq_some_iff.1 HBr).1
    obtain ⟨sS, s0, s1, s2, s3, s4, _⟩ := H1.out
    go_wp2_with fail
    refine (K2.out _ sS).mono ?_
    rintro e w2 (⟨k', n', f', b', A', C', rfl, rfl, hl2, hb⟩ | ⟨rfl, rfl, hb⟩)
    · obtain ⟨hn1, c', ht'⟩ := HN.out _ _ _ _ rfl
      have KO : Hid (∀ W : World, Sees w1 W → Calls Try.prog 58 #[.agg #[.int .i64 k', .int .i64 n', .slice A' f'.len C']] W (ExEnd k' n' f' W)) := fun W h =>
        copyExpr_any t a c' k' n' f' hn1 ht' A' C' W (hl2.sees h)
      clear hn1 ht' hl2
      have HB2 := (hb.block _ zr).trans HBr
      have S2 := sS.below hb
      have z2 := hb.size
      have T2 : Sees w1 w2 := hb
      clear hb r0 r1 r2 g0 g1 g2
      go_wp2_with fail
      refine (KO.out _ (T2.alloc _)).mono ?_
      rintro e w3 ⟨A1, rfl, hX, hb⟩
      have HB3 := (hb.block (w.heap.size + 2) (by simp; omega)).trans ((Below.heap_alloc _ _ _ (by omega)).trans HB2)
      have S3 : Sees w w3 := Sees.below (S2.alloc _) hb
      have z3 := hb.size
      simp only [World.size_alloc] at z3
      have HX := Lib.hid hX
      clear hX hb
      obtain ⟨r0, r1, r2, g0, g1, g2⟩ := cells3 HB3
      go_wp2_with fail
      have HBF : (((w3.setCell ⟨w.heap.size + 2, 0, none⟩ (.int .i64 k')).setCell ⟨w.heap.size + 2, 1, none⟩ (.int .i64 n')).setCell ⟨w.heap.size + 2, 2, none⟩ (.slice A1 f'.len f'.len)).heap[w.heap.size + 2]? = some (.cells #[(.int .i64 k'), (.int .i64 n'), .slice A1 f'.len f'.len] 35 (0, 0)) := by
        rw [Fo.block_setCell (Fo.block_setCell (Fo.block_setCell HB3 _) _) _]; rfl
      obtain ⟨d0, d1, d2, _⟩ := cells3 HBF
      refine bodyPost_ret (v := .tuple #[.agg #[(.int .i64 k'), (.int .i64 n'), .slice A1 f'.len f'.len], .int .i64 0]) (by simp [results, Try.results23, go_sem, d0, d1, d2]) rfl ?_
      refine ⟨A1, f'.len, rfl, ?_, Below.setCell (Below.setCell (Below.setCell S3 (by show w.heap.size ≤ w.heap.size + 1 + 1; omega) _) (by show w.heap.size ≤ w.heap.size + 1 + 1; omega) _) (by show w.heap.size ≤ w.heap.size + 1 + 1; omega) _⟩
      have zz : w.heap.size + 2 < w2.heap.size + 1 := by omega
      exact (HX.out.agree (Fo.Agree.setCell (Fo.Agree.setCell (Fo.Agree.setCell (Fo.Agree.refl _ _ _) _ (Or.inl (by simp; omega)) _) _ (Or.inl (by simp; omega)) _) _ (Or.inl (by simp; omega)) _)).mono (by simp; omega) (by simp)
    · have HB2 := (hb.block _ zr).trans HBr
      have S2 := sS.below hb
      have z2 := hb.size
      clear hb r0 r1 r2 g0 g1 g2
      obtain ⟨r0, r1, r2, g0, g1, g2⟩ := cells3 HB2
      have zr2 : w.heap.size + 1 + 1 < w2.heap.size := by omega
      go_wp2_with fail
      have HB3 : (((w2.setCell ⟨w.heap.size + 2, 0, none⟩ (.int .i64 0)).setCell ⟨w.heap.size + 2, 1, none⟩ (.int .i64 0)).setCell ⟨w.heap.size + 2, 2, none⟩ (.slice none 0 0)).heap[w.heap.size + 2]? = some (.cells #[(.int .i64 0), (.int .i64 0), .slice none 0 0] 35 (0, 0)) := by
        rw [Fo.block_setCell (Fo.block_setCell (Fo.block_setCell HB2 _) _) _]; rfl
      have HBF : ((((w2.setCell ⟨w.heap.size + 2, 0, none⟩ (.int .i64 0)).setCell ⟨w.heap.size + 2, 1, none⟩ (.int .i64 0)).setCell ⟨w.heap.size + 2, 2, none⟩ (.slice none 0 0)).alloc (.cells #[.int .i64 0, .int .i64 0, .slice none 0 0] 35)).heap[w.heap.size + 2]? = some (.cells #[(.int .i64 0), (.int .i64 0), .slice none 0 0] 35 (0, 0)) :=
        (Below.heap_alloc _ _ _ (by simp; omega)).trans HB3
      obtain ⟨d0, d1, d2, _⟩ := cells3 HBF
      refine bodyPost_ret (v := .tuple #[.agg #[(.int .i64 0), (.int .i64 0), .slice none 0 0], .int .i64 2]) (by simp [results, Try.results23, go_sem, d0, d1, d2]) rfl ?_
      exact ⟨none, 0, rfl, Fo.XIn.nil (by simp; omega) _, Sees.alloc (Below.setCell (Below.setCell (Below.setCell S2 (by show w.heap.size ≤ w.heap.size + 1 + 1; omega) _) (by show w.heap.size ≤ w.heap.size + 1 + 1; omega) _) (by show w.heap.size ≤ w.heap.size + 1 + 1; omega) _) _⟩
end Go.Proofs.Ytdcaelgojjnglaa
