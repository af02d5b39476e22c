/- Contracts of spec.ReverseExpr, impl.ReverseExpr. -/
import Derived.Test.YtbfmipajbmlllaaTurn
import Derived.Test.YtbfmipajbmlllaaRevN
import Derived.Test.YtbfmipajbmlllaaOk
import Derived.Test.YtbfmipajbmlllaaValidI
import Derived.Test.YtbfmipajbmlllaaNodeOf
import Derived.Test.YtbfmipajbmlllaaEndE
namespace Go.Proofs.Ytbfmipajbmlllaa
open Go.RowKit

/-- What ReverseExpr answers. -/
def rvK (t a k n : Int) (f : Fo) : Int := if validE t a k n f = true then k else 0
def rvN (t a k n : Int) (f : Fo) : Int := if validE t a k n f = true then n else 0
def rvF (t a k n : Int) (f : Fo) : Fo := if validE t a k n f = true then (ndE f k n).rev.ks else .nil
def rvC (t a k n : Int) (f : Fo) : Int := if validE t a k n f = true then 0 else 1
theorem rv_no {t a k n : Int} {f : Fo} (h : validE t a k n f = false) : rvK t a k n f = 0 ∧ rvN t a k n f = 0 ∧ rvF t a k n f = .nil ∧ rvC t a k n f = 1 := by
  unfold rvK rvN rvF rvC; simp [h]
theorem rv_yes {t a k n : Int} {f : Fo} (h : validE t a k n f = true) : rvK t a k n f = k ∧ rvN t a k n f = n ∧ rvF t a k n f = (ndE f k n).rev.ks ∧ rvC t a k n f = 0 := by
  unfold rvK rvN rvF rvC; simp [h]

set_option maxRecDepth 100000 in
set_option maxHeartbeats 2000000 in
theorem specReverseExpr_any (t a k n : Int) (f : Fo) (_hm : f.len ≤ 9223372036854775807) (hf : f.Fits) (h0 : f.nodes ≤ 1048576) (A : Option Addr) (C : Nat) (w : World) (hl : f.Lies w A) :
    Calls Try.prog 23 #[.agg #[.int .i64 t, .int .i64 a], .agg #[.int .i64 k, .int .i64 n, .slice A f.len C]] w (LEnd (rvK t a k n f) (rvN t a k n f) (rvF t a k n f) (rvC t a k n f) w) := by
  obtain ⟨q1, hq1⟩ : ∃ q1 : Bool, q1 = validE t a k n f := ⟨_, rfl⟩
  have K1 : Hid (∀ W : World, St w [(w.heap.size, 0, .int .i64 t), (w.heap.size, 1, .int .i64 a), (w.heap.size + 1, 0, .int .i64 k), (w.heap.size + 1, 1, .int .i64 n), (w.heap.size + 1, 2, .slice A f.len C)] W → Calls Try.prog 49 #[.agg #[.int .i64 t, .int .i64 a], .pointer (some ⟨w.heap.size + 1, 0, none⟩)] W fun e w' => e = .returned (.bool q1) ∧ Below W.heap.size W w') :=
    fun W h => by rw [hq1]; exact l01Ok_any f h0 hf t a k n A C (w.heap.size + 1) 0 W (hl.sees h.1) h.2.2.2.1 h.2.2.2.2.1 h.2.2.2.2.2.1
  cases q1
  · obtain ⟨d1, d2, d3, d4⟩ := rv_no hq1.symm
    rw [d1, d2, d3, d4]
    clear hq1 d1 d2 d3 d4
    go_enter Try.func23, Try.ntmps23
    go_wp2_with fail
    refine (K1.out _ ⟨(by unfold Sees; go_grown), (by simp [go_sem]), (by simp [go_sem]), (by simp [go_sem]), (by simp [go_sem]), (by simp [go_sem]), trivial⟩).mono ?_
    rintro e w1 ⟨rfl, hb⟩
    have H1 : Hid (St w [(w.heap.size, 0, .int .i64 t), (w.heap.size, 1, .int .i64 a), (w.heap.size + 1, 0, .int .i64 k), (w.heap.size + 1, 1, .int .i64 n), (w.heap.size + 1, 2, .slice A f.len C)] w1) := St.below (l := [(w.heap.size, 0, .int .i64 t), (w.heap.size, 1, .int .i64 a), (w.heap.size + 1, 0, .int .i64 k), (w.heap.size + 1, 1, .int .i64 n), (w.heap.size + 1, 2, .slice A f.len C)]) ⟨(by unfold Sees; go_grown), (by simp [go_sem]), (by simp [go_sem]), (by simp [go_sem]), (by simp [go_sem]), (by simp [go_sem]), trivial⟩ hb
    have HBr : w1.heap[w.heap.size + 2]? = some (.cells #[.int .i64 0, .int .i64 0, .slice none 0 0] 33 (0, 0)) := (hb.block _ (by simp)).trans (heap_new _ _ _ (by simp))
    clear hb
    obtain ⟨r0, r1, r2, g0, g1, g2⟩ := cells3 HBr
    have zr : w.heap.size + 2 < w1.heap.size := (Array.getElem?_eq_some_iff.1 HBr).1
    obtain ⟨sS, s0, s1, s2, s3, s4, _⟩ := H1.out
    go_wp2_with fail
    have HBF : (((w1.setCell ⟨w.heap.size + 2, 0, none⟩ (.int .i64 0)).setCell ⟨w.heap.size + 2, 1, none⟩ (.int .i64 0)).setCell ⟨w.heap.size + 2, 2, none⟩ (.slice none 0 0)).heap[w.heap.size + 2]? = some (.cells #[(.int .i64 0), (.int .i64 0), .slice none 0 0] 33 (0, 0)) := by
      rw [Fo.block_setCell (Fo.block_setCell (Fo.block_setCell HBr _) _) _]; rfl
    obtain ⟨d0, d1, d2, _⟩ := cells3 HBF
    refine bodyPost_ret (v := .tuple #[.agg #[(.int .i64 0), (.int .i64 0), .slice none 0 0], .int .i64 1]) (by simp [results, Try.results23, go_sem, d0, d1, d2]) rfl ?_
    exact ⟨none, 0, rfl, Fo.LiesIn.nil _ _ _, Below.setCell (Below.setCell (Below.setCell sS (by show w.heap.size ≤ w.heap.size + 1 + 1; omega) _) (by show w.heap.size ≤ w.heap.size + 1 + 1; omega) _) (by show w.heap.size ≤ w.heap.size + 1 + 1; omega) _⟩
  · obtain ⟨d1, d2, d3, d4⟩ := rv_yes hq1.symm
    rw [d1, d2, d3, d4]
    have hv := validE_parts0 hq1.symm
    have hrl := rev_len_of hv
    obtain ⟨R, hR⟩ : ∃ R : Fo, R = (ndE f k n).rev.ks := ⟨_, rfl⟩
    have KT : Hid (∀ W : World, St w [(w.heap.size, 0, .int .i64 t), (w.heap.size, 1, .int .i64 a), (w.heap.size + 1, 0, .int .i64 k), (w.heap.size + 1, 1, .int .i64 n), (w.heap.size + 1, 2, .slice A f.len C)] W → Calls Try.prog 58 #[.pointer (some ⟨w.heap.size + 1, 0, none⟩)] W fun e w' => ∃ A1 C1, e = .returned (.agg #[.int .i64 k, .int .i64 n, .slice A1 f.len C1]) ∧ R.LiesIn w' W.heap.size w'.heap.size A1 ∧ Below W.heap.size W w') := fun W h => by
      rw [hR]; exact l01Turn_any (f.nodes + 1) f (Nat.lt_succ_self _) h0 t a false k n A C (w.heap.size + 1) 0 W (hl.sees h.1) hv h.2.2.2.1 h.2.2.2.2.1 h.2.2.2.2.2.1
    rw [← hR] at hrl ⊢
    clear hq1 d1 d2 d3 d4 hv hR
    go_enter Try.func23, Try.ntmps23
    go_wp2_with fail
    refine (K1.out _ ⟨(by unfold Sees; go_grown), (by simp [go_sem]), (by simp [go_sem]), (by simp [go_sem]), (by simp [go_sem]), (by simp [go_sem]), trivial⟩).mono ?_
    rintro e w1 ⟨rfl, hb⟩
    have H1 : Hid (St w [(w.heap.size, 0, .int .i64 t), (w.heap.size, 1, .int .i64 a), (w.heap.size + 1, 0, .int .i64 k), (w.heap.size + 1, 1, .int .i64 n), (w.heap.size + 1, 2, .slice A f.len C)] w1) := St.below (l := [(w.heap.size, 0, .int .i64 t), (w.heap.size, 1, .int .i64 a), (w.heap.size + 1, 0, .int .i64 k), (w.heap.size + 1, 1, .int .i64 n), (w.heap.size + 1, 2, .slice A f.len C)]) ⟨(by unfold Sees; go_grown), (by simp [go_sem]), (by simp [go_sem]), (by simp [go_sem]), (by simp [go_sem]), (by simp [go_sem]), trivial⟩ hb
    have HBr : w1.heap[w.heap.size + 2]? = some (.cells #[.int .i64 0, .int .i64 0, .slice none 0 0] 33 (0, 0)) := (hb.block _ (by simp)).trans (heap_new _ _ _ (by simp))
    clear hb
    obtain ⟨r0, r1, r2, g0, g1, g2⟩ := cells3 HBr
    have zr : w.heap.size + 2 < w1.heap.size := (Array.getElem?_eq_some_iff.1 HBr).1
    obtain ⟨sS, s0, s1, s2, s3, s4, _⟩ := H1.out
    go_wp2_with fail
    refine (KT.out _ H1.out).mono ?_
    rintro e w2 ⟨A1, C1, rfl, hL, hb⟩
    have HB2 := (hb.block _ zr).trans HBr
    have S2 := sS.below hb
    have z2 := hb.size
    have HL := Lib.hid hL
    clear hL hb r0 r1 r2 g0 g1 g2
    obtain ⟨r0, r1, r2, g0, g1, g2⟩ := cells3 HB2
    go_wp2_with fail
    have HBF : (((w2.setCell ⟨w.heap.size + 2, 0, none⟩ (.int .i64 k)).setCell ⟨w.heap.size + 2, 1, none⟩ (.int .i64 n)).setCell ⟨w.heap.size + 2, 2, none⟩ (.slice A1 f.len C1)).heap[w.heap.size + 2]? = some (.cells #[(.int .i64 k), (.int .i64 n), .slice A1 f.len C1] 33 (0, 0)) := by
      rw [Fo.block_setCell (Fo.block_setCell (Fo.block_setCell HB2 _) _) _]; rfl
    obtain ⟨d0, d1, d2, _⟩ := cells3 HBF
    refine bodyPost_ret (v := .tuple #[.agg #[(.int .i64 k), (.int .i64 n), .slice A1 f.len C1], .int .i64 0]) (by simp [results, Try.results23, go_sem, d0, d1, d2]) rfl ?_
    rw [← hrl]
    refine ⟨A1, C1, rfl, ?_, Below.setCell (Below.setCell (Below.setCell S2 (by show w.heap.size ≤ w.heap.size + 1 + 1; omega) _) (by show w.heap.size ≤ w.heap.size + 1 + 1; omega) _) (by show w.heap.size ≤ w.heap.size + 1 + 1; omega) _⟩
    exact (HL.out.agree (Fo.Agree.setCell (Fo.Agree.setCell (Fo.Agree.setCell (Fo.Agree.refl _ _ _) _ (Or.inl zr) _) _ (Or.inl zr) _) _ (Or.inl zr) _)).mono (by omega) (by simp)

set_option maxRecDepth 100000 in
set_option maxHeartbeats 2000000 in
theorem implReverseExpr_any (t a k n : Int) (f : Fo) (_hm : f.len ≤ 9223372036854775807) (_hf : f.Fits) (h0 : f.nodes ≤ 1048576) (A : Option Addr) (C : Nat) (w : World) (hl : f.Lies w A) :
    Calls Try.prog 24 #[.agg #[.int .i64 t, .int .i64 a], .agg #[.int .i64 k, .int .i64 n, .slice A f.len C]] w (XEnd (rvK t a k n f) (rvN t a k n f) (rvF t a k n f) (rvC t a k n f) w) := by
  obtain ⟨q1, hq1⟩ : ∃ q1 : Bool, q1 = validE t a k n f := ⟨_, rfl⟩
  have K1 : Hid (∀ W : World, St w [(w.heap.size, 0, .int .i64 t), (w.heap.size, 1, .int .i64 a), (w.heap.size + 1, 0, .int .i64 k), (w.heap.size + 1, 1, .int .i64 n), (w.heap.size + 1, 2, .slice A f.len C)] W → Calls Try.prog 16 #[.agg #[.int .i64 t, .int .i64 a], .agg #[.int .i64 k, .int .i64 n, .slice A f.len C]] W fun e w' => e = .returned (.bool q1) ∧ Below W.heap.size W w') :=
    fun W h => by rw [hq1]; exact implValidExpr_any t a k n f h0 A C W (hl.sees h.1)
  cases q1
  · obtain ⟨d1, d2, d3, d4⟩ := rv_no hq1.symm
    rw [d1, d2, d3, d4]
    clear hq1 d1 d2 d3 d4
    go_enter Try.func24, Try.ntmps24
    go_wp2_with fail
    refine (K1.out _ ⟨(by unfold Sees; go_grown), (by simp [go_sem]), (by simp [go_sem]), (by simp [go_sem]), (by simp [go_sem]), (by simp [go_sem]), trivial⟩).mono ?_
    rintro e w1 ⟨rfl, hb⟩
    have H1 : Hid (St w [(w.heap.size, 0, .int .i64 t), (w.heap.size, 1, .int .i64 a), (w.heap.size + 1, 0, .int .i64 k), (w.heap.size + 1, 1, .int .i64 n), (w.heap.size + 1, 2, .slice A f.len C)] w1) := St.below (l := [(w.heap.size, 0, .int .i64 t), (w.heap.size, 1, .int .i64 a), (w.heap.size + 1, 0, .int .i64 k), (w.heap.size + 1, 1, .int .i64 n), (w.heap.size + 1, 2, .slice A f.len C)]) ⟨(by unfold Sees; go_grown), (by simp [go_sem]), (by simp [go_sem]), (by simp [go_sem]), (by simp [go_sem]), (by simp [go_sem]), trivial⟩ hb
    have HBr : w1.heap[w.heap.size + 2]? = some (.cells #[.int .i64 0, .int .i64 0, .slice none 0 0] 33 (0, 0)) := (hb.block _ (by simp)).trans (heap_new _ _ _ (by simp))
    clear hb
    obtain ⟨r0, r1, r2, g0, g1, g2⟩ := cells3 HBr
    have zr : w.heap.size + 2 < w1.heap.size := (Array.getElem?_eq_some_iff.1 HBr).1
    obtain ⟨sS, s0, s1, s2, s3, s4, _⟩ := H1.out
    go_wp2_with fail
    have HBF : (((w1.setCell ⟨w.heap.size + 2, 0, none⟩ (.int .i64 0)).setCell ⟨w.heap.size + 2, 1, none⟩ (.int .i64 0)).setCell ⟨w.heap.size + 2, 2, none⟩ (.slice none 0 0)).heap[w.heap.size + 2]? = some (.cells #[(.int .i64 0), (.int .i64 0), .slice none 0 0] 33 (0, 0)) := by
      rw [Fo.block_setCell (Fo.block_setCell (Fo.block_setCell HBr _) _) _]; rfl
    obtain ⟨d0, d1, d2, _⟩ := cells3 HBF
    refine bodyPost_ret (v := .tuple #[.agg #[(.int .i64 0), (.int .i64 0), .slice none 0 0], .int .i64 1]) (by simp [results, Try.results24, go_sem, d0, d1, d2]) rfl ?_
    exact ⟨none, 0, rfl, Fo.XIn.nil (by simp; omega) _, Below.setCell (Below.setCell (Below.setCell sS (by show w.heap.size ≤ w.heap.size + 1 + 1; omega) _) (by show w.heap.size ≤ w.heap.size + 1 + 1; omega) _) (by show w.heap.size ≤ w.heap.size + 1 + 1; omega) _⟩
  · obtain ⟨d1, d2, d3, d4⟩ := rv_yes hq1.symm
    rw [d1, d2, d3, d4]
    have hv := validE_parts0 hq1.symm
    have hz := ndE_size f k n
    obtain ⟨e1, e2, _⟩ := ndE_all hv
    obtain ⟨R, hR⟩ : ∃ R : Fo, R = (ndE f k n).rev.ks := ⟨_, rfl⟩
    obtain ⟨v1, hv1⟩ : ∃ v : Value, v = (ndE f k n).val := ⟨_, rfl⟩
    obtain ⟨v2, hv2⟩ : ∃ v : Value, v = (ndE f k n).rev.val := ⟨_, rfl⟩
    have K4 : Hid (∀ W : World, Sees w W → Calls Try.prog 61 #[.agg #[.int .i64 k, .int .i64 n, .slice A f.len C]] W fun e w' => e = .returned v1 ∧ Below W.heap.size W w') :=
      fun W h => by rw [hv1]; exact nodeOf_any (f.nodes + 1) f (Nat.lt_succ_self _) h0 t a false k n A C W (hl.sees h) hv
    have K5 : Hid (∀ W : World, Calls Try.prog 60 #[v1] W fun e w' => e = .returned v2 ∧ Below W.heap.size W w') := fun W => by rw [hv1, hv2]; exact reversed_any _ W (by omega)
    have K6 : Hid (∀ W : World, Calls Try.prog 59 #[v2] W (ExEnd k n R W)) := fun W => by
      have h := exprOf_any (ndE f k n).rev W (by rw [Nd.rev_size]; omega)
      rw [Nd.rev_kd, Nd.rev_nm, e1, e2, ← hR, ← hv2] at h
      exact h
    rw [← hR]
    clear hq1 d1 d2 d3 d4 hv hR hv1 hv2 hz e1 e2
    go_enter Try.func24, Try.ntmps24
    go_wp2_with fail
    refine (K1.out _ ⟨(by unfold Sees; go_grown), (by simp [go_sem]), (by simp [go_sem]), (by simp [go_sem]), (by simp [go_sem]), (by simp [go_sem]), trivial⟩).mono ?_
    rintro e w1 ⟨rfl, hb⟩
    have H1 : Hid (St w [(w.heap.size, 0, .int .i64 t), (w.heap.size, 1, .int .i64 a), (w.heap.size + 1, 0, .int .i64 k), (w.heap.size + 1, 1, .int .i64 n), (w.heap.size + 1, 2, .slice A f.len C)] w1) := St.below (l := [(w.heap.size, 0, .int .i64 t), (w.heap.size, 1, .int .i64 a), (w.heap.size + 1, 0, .int .i64 k), (w.heap.size + 1, 1, .int .i64 n), (w.heap.size + 1, 2, .slice A f.len C)]) ⟨(by unfold Sees; go_grown), (by simp [go_sem]), (by simp [go_sem]), (by simp [go_sem]), (by simp [go_sem]), (by simp [go_sem]), trivial⟩ hb
    have HBr : w1.heap[w.heap.size + 2]? = some (.cells #[.int .i64 0, .int .i64 0, .slice none 0 0] 33 (0, 0)) := (hb.block _ (by simp)).trans (heap_new _ _ _ (by simp))
    clear hb
    obtain ⟨r0, r1, r2, g0, g1, g2⟩ := cells3 HBr
    have zr : w.heap.size + 2 < w1.heap.size := (Array.getElem?_eq_some_iff.1 HBr).1
    obtain ⟨sS, s0, s1, s2, s3, s4, _⟩ := H1.out
    go_wp2_with fail
    refine (K4.out _ sS).mono ?_
    rintro e w2 ⟨rfl, hb⟩
    have HB2 := (hb.block _ zr).trans HBr
    have S2 := sS.below hb
    have z2 := hb.size
    clear hb r0 r1 r2 g0 g1 g2
    go_wp2_with fail
    refine (K5.out _).mono ?_
    rintro e w3 ⟨rfl, hb⟩
    have HB3 := (hb.block _ (by omega)).trans HB2
    have S3 := S2.below hb
    have z3 := hb.size
    clear hb
    go_wp2_with fail
    refine (K6.out _).mono ?_
    rintro e w4 ⟨A1, rfl, hX, hb⟩
    have HB4 := (hb.block _ (by omega)).trans HB3
    have S4 := S3.below hb
    have z4 := hb.size
    have HX := Lib.hid hX
    clear hX hb
    obtain ⟨r0, r1, r2, g0, g1, g2⟩ := cells3 HB4
    go_wp2_with fail
    have HBF : (((w4.setCell ⟨w.heap.size + 2, 0, none⟩ (.int .i64 k)).setCell ⟨w.heap.size + 2, 1, none⟩ (.int .i64 n)).setCell ⟨w.heap.size + 2, 2, none⟩ (.slice A1 R.len R.len)).heap[w.heap.size + 2]? = some (.cells #[(.int .i64 k), (.int .i64 n), .slice A1 R.len R.len] 33 (0, 0)) := by
      rw [Fo.block_setCell (Fo.block_setCell (Fo.block_setCell HB4 _) _) _]; rfl
    obtain ⟨d0, d1, d2, _⟩ := cells3 HBF
    refine bodyPost_ret (v := .tuple #[.agg #[(.int .i64 k), (.int .i64 n), .slice A1 R.len R.len], .int .i64 0]) (by simp [results, Try.results24, go_sem, d0, d1, d2]) rfl ?_
    refine ⟨A1, R.len, rfl, ?_, Below.setCell (Below.setCell (Below.setCell S4 (by show w.heap.size ≤ w.heap.size + 1 + 1; omega) _) (by show w.heap.size ≤ w.heap.size + 1 + 1; omega) _) (by show w.heap.size ≤ w.heap.size + 1 + 1; omega) _⟩
    have zz : w.heap.size + 2 < w3.heap.size := by omega
    exact (HX.out.agree (Fo.Agree.setCell (Fo.Agree.setCell (Fo.Agree.setCell (Fo.Agree.refl _ _ _) _ (Or.inl zz) _) _ (Or.inl zz) _) _ (Or.inl zz) _)).mono (by omega) (by simp)
end Go.Proofs.Ytbfmipajbmlllaa
