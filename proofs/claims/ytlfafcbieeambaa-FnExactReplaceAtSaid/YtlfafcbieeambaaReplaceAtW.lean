/- FnExactReplaceAt, whole: both sides' last contracts and the row. -/
import Derived.Test.YtlfafcbieeambaaPutK
import Derived.Test.YtlfafcbieeambaaOwnX
import Derived.Test.YtlfafcbieeambaaOk
import Derived.Test.YtlfafcbieeambaaWtO
import Derived.Test.YtlfafcbieeambaaWtT
import Derived.Test.YtlfafcbieeambaaWtN
import Derived.Test.YtlfafcbieeambaaNodeAt
import Derived.Test.YtlfafcbieeambaaCondI
import Derived.Test.YtlfafcbieeambaaValidI
import Derived.Test.YtlfafcbieeambaaSubt
import Derived.Test.YtlfafcbieeambaaLReplaceAt
import Derived.Test.YtlfafcbieeambaaLawL
import Derived.Test.YtlfafcbieeambaaLaw
import Derived.Carry
/- Contracts of spec.l04Replace, spec.ReplaceAt. -/
namespace Go.Proofs.Ytlfafcbieeambaa
open Go.RowKit

def CondOk (b : Bool) (j : Int) (g : Fo) : Prop := ¬ (b = true ∧ (condK j && g.cond) = false)

set_option maxRecDepth 100000 in
set_option maxHeartbeats 2000000 in
theorem l04Replace_any (t a k n : Int) (f : Fo) (xs : List Int) (hx : xs.length ≤ 1048576) (j o : Int) (g : Fo) (h0 : f.nodes + g.nodes ≤ 1048576) (A A3 : Option Addr) (C C3 B p B3 p3 : Nat) (P : Option Addr) (D : Nat) (w : World) (hl : f.Lies w A) (hl3 : g.Lies w A3) (hp : Ints w xs P)
    (c0 : w.cell? ⟨B, p, none⟩ = some (.int .i64 k)) (c1 : w.cell? ⟨B, p + 1, none⟩ = some (.int .i64 n)) (c2 : w.cell? ⟨B, p + 2, none⟩ = some (.slice A f.len C)) (e0 : w.cell? ⟨B3, p3, none⟩ = some (.int .i64 j)) (e1 : w.cell? ⟨B3, p3 + 1, none⟩ = some (.int .i64 o)) (e2 : w.cell? ⟨B3, p3 + 2, none⟩ = some (.slice A3 g.len C3)) :
    Calls Try.prog 46 #[.agg #[.int .i64 t, .int .i64 a], .pointer (some ⟨B, p, none⟩), .slice P xs.length D, .pointer (some ⟨B3, p3, none⟩)] w (LEnd (rp1 t a k n f xs j o g).1 (rp1 t a k n f xs j o g).2.1 (rp1 t a k n f xs j o g).2.2.1 (rp1 t a k n f xs j o g).2.2.2 w) := by
  have KO1 : Hid (∀ W : World, Sees w W → Calls Try.prog 104 #[.pointer (some ⟨B, p, none⟩)] W fun e w' => ∃ A' C', e = .returned (.agg #[.int .i64 k, .int .i64 n, .slice A' f.len C']) ∧ f.XIn w' W.heap.size w'.heap.size A' ∧ Below W.heap.size W w') := fun W h =>
    l01Own_x (f.nodes + 1) f (Nat.lt_succ_self _) (by omega) k n A C B p W (hl.sees h) (kc h c0) (kc h c1) (kc h c2)
  have KO3 : Hid (∀ W : World, Sees w W → Calls Try.prog 104 #[.pointer (some ⟨B3, p3, none⟩)] W fun e w' => ∃ A' C', e = .returned (.agg #[.int .i64 j, .int .i64 o, .slice A' g.len C']) ∧ g.XIn w' W.heap.size w'.heap.size A' ∧ Below W.heap.size W w') := fun W h =>
    l01Own_x (g.nodes + 1) g (Nat.lt_succ_self _) (by omega) j o A3 C3 B3 p3 W (hl3.sees h) (kc h e0) (kc h e1) (kc h e2)
  obtain ⟨qc, hqc⟩ : ∃ q : Bool, q = (condK j && g.cond) := ⟨_, rfl⟩
  have hgl := g.len_le_nodes
  have KC : Hid (∀ W : World, Sees w W → Calls Try.prog 106 #[.pointer (some ⟨B3, p3, none⟩)] W fun e w' => e = .returned (.bool qc) ∧ W = w') := fun W h => by
    rw [hqc]; exact l01Condition_any (g.nodes + 1) g (Nat.lt_succ_self _) (by omega) (Fo.fits_of (by omega)) j A3 C3 B3 p3 W (hl3.sees h) (kc h e0) (kc h e2)
  obtain ⟨O, hO⟩ : ∃ O, O = walkP xs k n f false := ⟨_, rfl⟩
  have KA : Hid (∀ (W : World) (X : Nat) (A1 : Option Addr) (C1 : Nat), Sees w W → f.Lies W A1 → W.cell? ⟨X, 0, none⟩ = some (.int .i64 k) → W.cell? ⟨X, 1, none⟩ = some (.int .i64 n) → W.cell? ⟨X, 2, none⟩ = some (.slice A1 f.len C1) → Calls Try.prog 105 #[.pointer (some ⟨X, 0, none⟩), .slice P xs.length D] W (SAEnd O (AtPath W xs X 0 f A1) W)) := fun W X A1 C1 h g0 g1 g2 g3 => by
    rw [hO]; exact l04At_any xs (by omega) k n f (by omega) A1 C1 X 0 P D W g0 (hp.sees h) g1 g2 g3
  obtain ⟨R, hR⟩ : ∃ R, R = rp1 t a k n f xs j o g := ⟨_, rfl⟩
  rw [← hR]
  have HRD := Lib.hid hR
  clear c0 c1 c2 e0 e1 e2 hl hl3 hR
  have HP := Lib.hid hp
  clear hp
  go_enter Try.func46, Try.ntmps46
  go_wp2_with fail
  refine (KO1.out _ (by unfold Sees; go_grown)).mono ?_
  rintro e w1 ⟨A1, C1, rfl, hX1, hb⟩
  have HBs : w1.heap[w.heap.size]? = some (.cells #[.int .i64 t, .int .i64 a] 34 (0, 0)) := (hb.block _ (by simp <;> omega)).trans ((Below.heap_alloc _ _ _ (by simp)).trans (heap_new _ _ _ rfl))
  have HBr : w1.heap[w.heap.size + 1]? = some (.cells #[.int .i64 0, .int .i64 0, .slice none 0 0] 31 (0, 0)) := (hb.block _ (by simp)).trans (heap_new _ _ _ (by simp))
  have S1 : Sees w w1 := Sees.below (by unfold Sees; go_grown) hb
  have z1 : w.heap.size + 1 < w1.heap.size := (Array.getElem?_eq_some_iff.1 HBr).1
  have HX1 := Lib.hid hX1
  clear hX1 hb
  go_wp2_with fail
  obtain ⟨W2, hW2⟩ : ∃ W2, W2 = w1.alloc (.cells #[.int .i64 k, .int .i64 n, .slice A1 f.len C1] 31) := ⟨_, rfl⟩
  rw [← hW2]
  have HBx : W2.heap[w1.heap.size]? = some (.cells #[.int .i64 k, .int .i64 n, .slice A1 f.len C1] 31 (0, 0)) := by rw [hW2]; exact heap_new _ _ _ rfl
  have S12 : Sees w1 W2 := by rw [hW2]; exact (Sees.refl w1).alloc _
  have S2 : Sees w W2 := S1.below S12
  have zx : w1.heap.size < W2.heap.size := by rw [hW2]; simp
  have zr2 : w.heap.size + 1 < W2.heap.size := by omega
  have zs2 : w.heap.size < W2.heap.size := by omega
  have HBs2 := (S12.block _ (by omega)).trans HBs
  have HBr2 := (S12.block _ z1).trans HBr
  have hX2 : f.XIn W2 (w.heap.size + 2) w1.heap.size A1 := (HX1.out.agree (Fo.Agree.of_below S12)).mono (by simp) (Nat.le_refl _)
  clear HBs HBr hW2 HX1
  obtain ⟨x0, x1, x2, _⟩ := cells3 HBx
  refine (KA.out W2 w1.heap.size A1 C1 S2 hX2.lies x0 x1 x2).mono ?_
  clear x0 x1 x2
  rintro e w2 (⟨k', n', f', b', A', C', B', o', hOs, rfl, d0, d1, d2, hl2, hQ, m, rfl⟩ | ⟨hOn, pv, b', rfl, m, rfl⟩)
  · cases b'
    · have HNS : Hid (CondOk false j g) := fun h => by cases h.1
      clear KC KA
      go_wp2_with fail
      refine (KO3.out _ (S2.below (below_drewN _ _ _))).mono ?_
      rintro e w4 ⟨A4, C4, rfl, hX4, hb4⟩
      have S24 : Below W2.heap.size W2 w4 := Below.trans (below_drewN _ _ _) (hb4.mono (by simp))
      have S4 : Sees w w4 := S2.below S24
      have HBx4 := (S24.block _ zx).trans HBx
      have HBr4 := (S24.block _ zr2).trans HBr2
      have HBs4 := (S24.block _ zs2).trans HBs2
      have z24 : W2.heap.size ≤ w4.heap.size := S24.size
      have hX24 : f.XIn w4 (w.heap.size + 2) w1.heap.size A1 := hX2.agree (Fo.Agree.of_below (S24.mono (by omega)))
      have t0 := kc S24 d0
      have t1 := kc S24 d1
      have t2 := kc S24 d2
      obtain ⟨⟨hB1, hB2⟩, hfr, A5, C5, hK5, hL5⟩ := put_store (j := j) (o := o) (C4 := C4) HBx4 hX24 hX4 (by simp; omega) (AtPath.below S24 hQ) t0 t1 t2
      have hf0 := hfr o'
      have hf1 := hfr (o' + 1)
      have hf2 := hfr (o' + 2)
      obtain ⟨s0, s1, _⟩ : w4.cell? ⟨w.heap.size, 0, none⟩ = some (.int .i64 t) ∧ w4.cell? ⟨w.heap.size, 1, none⟩ = some (.int .i64 a) ∧ True := ⟨Fo.cell_of_block HBs4 0, Fo.cell_of_block HBs4 1, trivial⟩
      have nb1 : B' ≠ w.heap.size := by omega
      have nb2 : w.heap.size ≠ B' := by omega
      have HL5 := Lib.hid hL5; have HK5 := Lib.hid hK5
      have HR4 := Lib.hid HBr4; have HSW := Lib.hid S4
      obtain ⟨x, hx5⟩ : ∃ x, x = putP xs (j, o, g) k n f := ⟨_, rfl⟩
      have hxn : x.2.2.nodes ≤ 1048576 := by rw [hx5]; exact Nat.le_trans (putP_nodes (j, o, g) xs k n f) h0
      obtain ⟨qv, hqv⟩ : ∃ q : Bool, q = validE t a x.1 x.2.1 x.2.2 := ⟨_, rfl⟩
      have HRP : Hid (R = if qv = true then (x.1, x.2.1, x.2.2, 0) else (0, 0, .nil, 3)) := by
        show _ = _
        rw [HRD.out, hqv, hx5]
        by_cases hv : validE t a (putP xs (j, o, g) k n f).1 (putP xs (j, o, g) k n f).2.1 (putP xs (j, o, g) k n f).2.2 = true
        · rw [if_pos hv]; exact rp1_yes (hO.symm.trans hOs) HNS.out hv
        · rw [if_neg hv]; exact rp1_limit (hO.symm.trans hOs) HNS.out (by simpa using hv)
      rw [← hx5] at HL5 HK5
      clear hK5 hL5 hX4 hb4 HBr4 hfr hX24 HBx4 HBs4 hQ hl2 d0 d1 d2 hOs HNS hx5 S4 hO
      go_wp2_with fail
      obtain ⟨W5, hW5⟩ : ∃ W5, W5 = (((w4.setCell ⟨B', o', none⟩ (.int .i64 j)).setCell ⟨B', o' + 1, none⟩ (.int .i64 o)).setCell ⟨B', o' + 2, none⟩ (.slice A4 g.len C4)) := ⟨_, rfl⟩
      rw [← hW5]
      rw [← hW5] at HL5 HK5
      have S5 : Sees w W5 := by rw [hW5]; exact Below.setCell (Below.setCell (Below.setCell HSW.out (by show w.heap.size ≤ B'; omega) _) (by show w.heap.size ≤ B'; omega) _) (by show w.heap.size ≤ B'; omega) _
      have z5 : W5.heap.size = w4.heap.size := by rw [hW5]; simp
      have HR5 : W5.heap[w.heap.size + 1]? = some (.cells #[.int .i64 0, .int .i64 0, .slice none 0 0] 31 (0, 0)) := by rw [hW5]; exact (put3_heap _ (by omega)).trans HR4.out
      have zx5 : w1.heap.size < W5.heap.size := by omega
      have zr5 : w.heap.size + 1 < W5.heap.size := by omega
      have KV : Hid (Calls Try.prog 45 #[.agg #[.int .i64 t, .int .i64 a], .pointer (some ⟨w1.heap.size, 0, none⟩)] W5 fun e w' => e = .returned (.bool qv) ∧ Below W5.heap.size W5 w') := by
        obtain ⟨y0, y1, y2, _⟩ := cells3 HK5.out
        rw [hqv]; exact l01Ok_any x.2.2 hxn (Fo.fits_of (by omega)) t a x.1 x.2.1 A5 C5 w1.heap.size 0 W5 HL5.out.lies y0 y1 y2
      refine KV.out.mono ?_
      rintro e w6 ⟨rfl, hb6⟩
      have HR6 := (hb6.block _ zr5).trans HR5
      have HX6 := (hb6.block _ zx5).trans HK5.out
      have S6 : Sees w w6 := S5.below hb6
      have z6 : W5.heap.size ≤ w6.heap.size := hb6.size
      have HL6 : Hid (x.2.2.LiesIn w6 (w.heap.size + 2) w4.heap.size A5) := HL5.out.agree (Fo.Agree.of_below (hb6.mono (by omega)))
      have zr6 : w.heap.size + 1 < w6.heap.size := by omega
      have zx6 : w1.heap.size < w6.heap.size := by omega
      obtain ⟨r0, r1, r2, g0, g1, g2⟩ := cells3 HR6
      obtain ⟨y0, y1, y2, _⟩ := cells3 HX6
      clear KV hqv hW5 hb6 t0 t1 t2 s0 s1 hf0 hf1 hf2
      cases qv
      · have HRF : Hid (R = (0, 0, .nil, 3)) := HRP.out.trans (if_neg (by decide))
        clear HRP
        go_wp2_with fail
        have HBF : (((w6.setCell ⟨w.heap.size + 1, 0, none⟩ (.int .i64 0)).setCell ⟨w.heap.size + 1, 1, none⟩ (.int .i64 0)).setCell ⟨w.heap.size + 1, 2, none⟩ (.slice none 0 0)).heap[w.heap.size + 1]? = some (.cells #[(.int .i64 0), (.int .i64 0), .slice none 0 0] 31 (0, 0)) := by
          rw [Fo.block_setCell (Fo.block_setCell (Fo.block_setCell HR6 _) _) _]; rfl
        obtain ⟨d0, d1, d2, _⟩ := cells3 HBF
        refine bodyPost_ret (v := .tuple #[.agg #[(.int .i64 0), (.int .i64 0), .slice none 0 0], .int .i64 3]) (by simp [results, Try.results46, go_sem, d0, d1, d2]) rfl ?_
        rw [HRF.out]
        exact ⟨none, 0, rfl, Fo.LiesIn.nil _ _ _, Below.setCell (Below.setCell (Below.setCell S6 (by show w.heap.size ≤ w.heap.size + 1; omega) _) (by show w.heap.size ≤ w.heap.size + 1; omega) _) (by show w.heap.size ≤ w.heap.size + 1; omega) _⟩
      · have HRF : Hid (R = (x.1, x.2.1, x.2.2, 0)) := HRP.out.trans (if_pos rfl)
        clear HRP
        go_wp2_with fail
        have HBF : (((w6.setCell ⟨w.heap.size + 1, 0, none⟩ (.int .i64 x.1)).setCell ⟨w.heap.size + 1, 1, none⟩ (.int .i64 x.2.1)).setCell ⟨w.heap.size + 1, 2, none⟩ (.slice A5 x.2.2.len C5)).heap[w.heap.size + 1]? = some (.cells #[(.int .i64 x.1), (.int .i64 x.2.1), .slice A5 x.2.2.len C5] 31 (0, 0)) := by
          rw [Fo.block_setCell (Fo.block_setCell (Fo.block_setCell HR6 _) _) _]; rfl
        obtain ⟨d0, d1, d2, _⟩ := cells3 HBF
        refine bodyPost_ret (v := .tuple #[.agg #[(.int .i64 x.1), (.int .i64 x.2.1), .slice A5 x.2.2.len C5], .int .i64 0]) (by simp [results, Try.results46, go_sem, d0, d1, d2]) rfl ?_
        rw [HRF.out]
        refine ⟨A5, C5, rfl, ?_, Below.setCell (Below.setCell (Below.setCell S6 (by show w.heap.size ≤ w.heap.size + 1; omega) _) (by show w.heap.size ≤ w.heap.size + 1; omega) _) (by show w.heap.size ≤ w.heap.size + 1; omega) _⟩
        have hag : Fo.Agree w6 (((w6.setCell ⟨w.heap.size + 1, 0, none⟩ (.int .i64 x.1)).setCell ⟨w.heap.size + 1, 1, none⟩ (.int .i64 x.2.1)).setCell ⟨w.heap.size + 1, 2, none⟩ (.slice A5 x.2.2.len C5)) (w.heap.size + 2) w4.heap.size := fun y a c => put3_heap (b := w.heap.size + 1) (c := 0) y (by omega)
        exact (HL6.out.agree hag).mono (by omega) (by simp only [World.size_setCell]; omega)
    · cases qc
      · have hns : (condK j && g.cond) = false := hqc.symm
        have HRF : Hid (R = (0, 0, .nil, 4)) := HRD.out.trans (rp1_state (hO.symm.trans hOs) hns)
        have KC2 := KC.out (W2.drewN m) (S2.below (below_drewN _ _ _))
        have KCH := Lib.hid KC2
        obtain ⟨r0, r1, r2, g0, g1, g2⟩ := cells3 HBr2
        have HRm : (W2.drewN m).heap[w.heap.size + 1]? = some (.cells #[.int .i64 0, .int .i64 0, .slice none 0 0] 31 (0, 0)) := HBr2
        have SM : Sees w (W2.drewN m) := S2.below (below_drewN _ _ _)
        clear KC KA KC2 hQ hl2 d0 d1 d2 hqc hns
        go_wp2_with fail
        refine KCH.out.mono ?_
        rintro e w3 ⟨rfl, rfl⟩
        go_wp2_with fail
        have HBF : ((((W2.drewN m).setCell ⟨w.heap.size + 1, 0, none⟩ (.int .i64 0)).setCell ⟨w.heap.size + 1, 1, none⟩ (.int .i64 0)).setCell ⟨w.heap.size + 1, 2, none⟩ (.slice none 0 0)).heap[w.heap.size + 1]? = some (.cells #[(.int .i64 0), (.int .i64 0), .slice none 0 0] 31 (0, 0)) := by
          rw [Fo.block_setCell (Fo.block_setCell (Fo.block_setCell HRm _) _) _]; rfl
        obtain ⟨d0, d1, d2, _⟩ := cells3 HBF
        refine bodyPost_ret (v := .tuple #[.agg #[(.int .i64 0), (.int .i64 0), .slice none 0 0], .int .i64 4]) (by simp [results, Try.results46, go_sem, d0, d1, d2]) rfl ?_
        rw [HRF.out]
        exact ⟨none, 0, rfl, Fo.LiesIn.nil _ _ _, Below.setCell (Below.setCell (Below.setCell SM (by show w.heap.size ≤ w.heap.size + 1; omega) _) (by show w.heap.size ≤ w.heap.size + 1; omega) _) (by show w.heap.size ≤ w.heap.size + 1; omega) _⟩
      · have HNS : Hid (CondOk true j g) := fun h => by rw [← hqc] at h; cases h.2
        have KC2 := KC.out (W2.drewN m) (S2.below (below_drewN _ _ _))
        have KCH := Lib.hid KC2
        clear KC KA KC2 hqc
        go_wp2_with fail
        refine KCH.out.mono ?_
        rintro e w3 ⟨rfl, rfl⟩
        go_wp2_with fail
        refine (KO3.out _ (S2.below (below_drewN _ _ _))).mono ?_
        rintro e w4 ⟨A4, C4, rfl, hX4, hb4⟩
        have S24 : Below W2.heap.size W2 w4 := Below.trans (below_drewN _ _ _) (hb4.mono (by simp))
        have S4 : Sees w w4 := S2.below S24
        have HBx4 := (S24.block _ zx).trans HBx
        have HBr4 := (S24.block _ zr2).trans HBr2
        have HBs4 := (S24.block _ zs2).trans HBs2
        have z24 : W2.heap.size ≤ w4.heap.size := S24.size
        have hX24 : f.XIn w4 (w.heap.size + 2) w1.heap.size A1 := hX2.agree (Fo.Agree.of_below (S24.mono (by omega)))
        have t0 := kc S24 d0
        have t1 := kc S24 d1
        have t2 := kc S24 d2
        obtain ⟨⟨hB1, hB2⟩, hfr, A5, C5, hK5, hL5⟩ := put_store (j := j) (o := o) (C4 := C4) HBx4 hX24 hX4 (by simp; omega) (AtPath.below S24 hQ) t0 t1 t2
        have hf0 := hfr o'
        have hf1 := hfr (o' + 1)
        have hf2 := hfr (o' + 2)
        obtain ⟨s0, s1, _⟩ : w4.cell? ⟨w.heap.size, 0, none⟩ = some (.int .i64 t) ∧ w4.cell? ⟨w.heap.size, 1, none⟩ = some (.int .i64 a) ∧ True := ⟨Fo.cell_of_block HBs4 0, Fo.cell_of_block HBs4 1, trivial⟩
        have nb1 : B' ≠ w.heap.size := by omega
        have nb2 : w.heap.size ≠ B' := by omega
        have HL5 := Lib.hid hL5; have HK5 := Lib.hid hK5
        have HR4 := Lib.hid HBr4; have HSW := Lib.hid S4
        obtain ⟨x, hx5⟩ : ∃ x, x = putP xs (j, o, g) k n f := ⟨_, rfl⟩
        have hxn : x.2.2.nodes ≤ 1048576 := by rw [hx5]; exact Nat.le_trans (putP_nodes (j, o, g) xs k n f) h0
        obtain ⟨qv, hqv⟩ : ∃ q : Bool, q = validE t a x.1 x.2.1 x.2.2 := ⟨_, rfl⟩
        have HRP : Hid (R = if qv = true then (x.1, x.2.1, x.2.2, 0) else (0, 0, .nil, 3)) := by
          show _ = _
          rw [HRD.out, hqv, hx5]
          by_cases hv : validE t a (putP xs (j, o, g) k n f).1 (putP xs (j, o, g) k n f).2.1 (putP xs (j, o, g) k n f).2.2 = true
          · rw [if_pos hv]; exact rp1_yes (hO.symm.trans hOs) HNS.out hv
          · rw [if_neg hv]; exact rp1_limit (hO.symm.trans hOs) HNS.out (by simpa using hv)
        rw [← hx5] at HL5 HK5
        clear hK5 hL5 hX4 hb4 HBr4 hfr hX24 HBx4 HBs4 hQ hl2 d0 d1 d2 hOs HNS hx5 S4 hO
        go_wp2_with fail
        obtain ⟨W5, hW5⟩ : ∃ W5, W5 = (((w4.setCell ⟨B', o', none⟩ (.int .i64 j)).setCell ⟨B', o' + 1, none⟩ (.int .i64 o)).setCell ⟨B', o' + 2, none⟩ (.slice A4 g.len C4)) := ⟨_, rfl⟩
        rw [← hW5]
        rw [← hW5] at HL5 HK5
        have S5 : Sees w W5 := by rw [hW5]; exact Below.setCell (Below.setCell (Below.setCell HSW.out (by show w.heap.size ≤ B'; omega) _) (by show w.heap.size ≤ B'; omega) _) (by show w.heap.size ≤ B'; omega) _
        have z5 : W5.heap.size = w4.heap.size := by rw [hW5]; simp
        have HR5 : W5.heap[w.heap.size + 1]? = some (.cells #[.int .i64 0, .int .i64 0, .slice none 0 0] 31 (0, 0)) := by rw [hW5]; exact (put3_heap _ (by omega)).trans HR4.out
        have zx5 : w1.heap.size < W5.heap.size := by omega
        have zr5 : w.heap.size + 1 < W5.heap.size := by omega
        have KV : Hid (Calls Try.prog 45 #[.agg #[.int .i64 t, .int .i64 a], .pointer (some ⟨w1.heap.size, 0, none⟩)] W5 fun e w' => e = .returned (.bool qv) ∧ Below W5.heap.size W5 w') := by
          obtain ⟨y0, y1, y2, _⟩ := cells3 HK5.out
          rw [hqv]; exact l01Ok_any x.2.2 hxn (Fo.fits_of (by omega)) t a x.1 x.2.1 A5 C5 w1.heap.size 0 W5 HL5.out.lies y0 y1 y2
        refine KV.out.mono ?_
        rintro e w6 ⟨rfl, hb6⟩
        have HR6 := (hb6.block _ zr5).trans HR5
        have HX6 := (hb6.block _ zx5).trans HK5.out
        have S6 : Sees w w6 := S5.below hb6
        have z6 : W5.heap.size ≤ w6.heap.size := hb6.size
        have HL6 : Hid (x.2.2.LiesIn w6 (w.heap.size + 2) w4.heap.size A5) := HL5.out.agree (Fo.Agree.of_below (hb6.mono (by omega)))
        have zr6 : w.heap.size + 1 < w6.heap.size := by omega
        have zx6 : w1.heap.size < w6.heap.size := by omega
        obtain ⟨r0, r1, r2, g0, g1, g2⟩ := cells3 HR6
        obtain ⟨y0, y1, y2, _⟩ := cells3 HX6
        clear KV hqv hW5 hb6 t0 t1 t2 s0 s1 hf0 hf1 hf2
        cases qv
        · have HRF : Hid (R = (0, 0, .nil, 3)) := HRP.out.trans (if_neg (by decide))
          clear HRP
          go_wp2_with fail
          have HBF : (((w6.setCell ⟨w.heap.size + 1, 0, none⟩ (.int .i64 0)).setCell ⟨w.heap.size + 1, 1, none⟩ (.int .i64 0)).setCell ⟨w.heap.size + 1, 2, none⟩ (.slice none 0 0)).heap[w.heap.size + 1]? = some (.cells #[(.int .i64 0), (.int .i64 0), .slice none 0 0] 31 (0, 0)) := by
            rw [Fo.block_setCell (Fo.block_setCell (Fo.block_setCell HR6 _) _) _]; rfl
          obtain ⟨d0, d1, d2, _⟩ := cells3 HBF
          refine bodyPost_ret (v := .tuple #[.agg #[(.int .i64 0), (.int .i64 0), .slice none 0 0], .int .i64 3]) (by simp [results, Try.results46, go_sem, d0, d1, d2]) rfl ?_
          rw [HRF.out]
          exact ⟨none, 0, rfl, Fo.LiesIn.nil _ _ _, Below.setCell (Below.setCell (Below.setCell S6 (by show w.heap.size ≤ w.heap.size + 1; omega) _) (by show w.heap.size ≤ w.heap.size + 1; omega) _) (by show w.heap.size ≤ w.heap.size + 1; omega) _⟩
        · have HRF : Hid (R = (x.1, x.2.1, x.2.2, 0)) := HRP.out.trans (if_pos rfl)
          clear HRP
          go_wp2_with fail
          have HBF : (((w6.setCell ⟨w.heap.size + 1, 0, none⟩ (.int .i64 x.1)).setCell ⟨w.heap.size + 1, 1, none⟩ (.int .i64 x.2.1)).setCell ⟨w.heap.size + 1, 2, none⟩ (.slice A5 x.2.2.len C5)).heap[w.heap.size + 1]? = some (.cells #[(.int .i64 x.1), (.int .i64 x.2.1), .slice A5 x.2.2.len C5] 31 (0, 0)) := by
            rw [Fo.block_setCell (Fo.block_setCell (Fo.block_setCell HR6 _) _) _]; rfl
          obtain ⟨d0, d1, d2, _⟩ := cells3 HBF
          refine bodyPost_ret (v := .tuple #[.agg #[(.int .i64 x.1), (.int .i64 x.2.1), .slice A5 x.2.2.len C5], .int .i64 0]) (by simp [results, Try.results46, go_sem, d0, d1, d2]) rfl ?_
          rw [HRF.out]
          refine ⟨A5, C5, rfl, ?_, Below.setCell (Below.setCell (Below.setCell S6 (by show w.heap.size ≤ w.heap.size + 1; omega) _) (by show w.heap.size ≤ w.heap.size + 1; omega) _) (by show w.heap.size ≤ w.heap.size + 1; omega) _⟩
          have hag : Fo.Agree w6 (((w6.setCell ⟨w.heap.size + 1, 0, none⟩ (.int .i64 x.1)).setCell ⟨w.heap.size + 1, 1, none⟩ (.int .i64 x.2.1)).setCell ⟨w.heap.size + 1, 2, none⟩ (.slice A5 x.2.2.len C5)) (w.heap.size + 2) w4.heap.size := fun y a c => put3_heap (b := w.heap.size + 1) (c := 0) y (by omega)
          exact (HL6.out.agree hag).mono (by omega) (by simp only [World.size_setCell]; omega)
  · have HRF : Hid (R = (0, 0, .nil, 2)) := HRD.out.trans (rp1_no (hO.symm.trans hOn))
    obtain ⟨r0, r1, r2, g0, g1, g2⟩ := cells3 HBr2
    have HRm : (W2.drewN m).heap[w.heap.size + 1]? = some (.cells #[.int .i64 0, .int .i64 0, .slice none 0 0] 31 (0, 0)) := HBr2
    have SM : Sees w (W2.drewN m) := S2.below (below_drewN _ _ _)
    clear KC KA
    go_wp2_with fail
    have HBF : ((((W2.drewN m).setCell ⟨w.heap.size + 1, 0, none⟩ (.int .i64 0)).setCell ⟨w.heap.size + 1, 1, none⟩ (.int .i64 0)).setCell ⟨w.heap.size + 1, 2, none⟩ (.slice none 0 0)).heap[w.heap.size + 1]? = some (.cells #[(.int .i64 0), (.int .i64 0), .slice none 0 0] 31 (0, 0)) := by
      rw [Fo.block_setCell (Fo.block_setCell (Fo.block_setCell HRm _) _) _]; rfl
    obtain ⟨d0, d1, d2, _⟩ := cells3 HBF
    refine bodyPost_ret (v := .tuple #[.agg #[(.int .i64 0), (.int .i64 0), .slice none 0 0], .int .i64 2]) (by simp [results, Try.results46, go_sem, d0, d1, d2]) rfl ?_
    rw [HRF.out]
    exact ⟨none, 0, rfl, Fo.LiesIn.nil _ _ _, Below.setCell (Below.setCell (Below.setCell SM (by show w.heap.size ≤ w.heap.size + 1; omega) _) (by show w.heap.size ≤ w.heap.size + 1; omega) _) (by show w.heap.size ≤ w.heap.size + 1; omega) _⟩
end Go.Proofs.Ytlfafcbieeambaa

/- Contract of spec.ReplaceAt. -/
namespace Go.Proofs.Ytlfafcbieeambaa
open Go.RowKit

set_option maxRecDepth 100000 in
set_option maxHeartbeats 2000000 in
theorem specReplaceAt_any (t a k n : Int) (f : Fo) (xs : List Int) (hx : xs.length ≤ 1048576) (j o : Int) (g : Fo) (hm : f.nodes + g.nodes ≤ 1048576) (A : Option Addr) (C : Nat) (P : Option Addr) (E : Nat) (B : Option Addr) (D : Nat) (w : World) (hl : f.Lies w A) (hp : Ints w xs P) (hl3 : g.Lies w B) :
    Calls Try.prog 10 #[.agg #[.int .i64 t, .int .i64 a], .agg #[.int .i64 k, .int .i64 n, .slice A f.len C], .slice P xs.length E, .agg #[.int .i64 j, .int .i64 o, .slice B g.len D]] w (LEnd (rpK t a k n f xs j o g) (rpN t a k n f xs j o g) (rpF t a k n f xs j o g) (rpC t a k n f xs j o g) w) := by
  unfold rpK rpN rpF rpC
  obtain ⟨q1, hq1⟩ : ∃ q1 : Bool, q1 = validE t a k n f := ⟨_, rfl⟩
  obtain ⟨q2, hq2⟩ : ∃ q2 : Bool, q2 = validE t a j o g := ⟨_, rfl⟩
  have K1 : Hid (∀ W : World, St w [(w.heap.size, 0, .int .i64 t), (w.heap.size, 1, .int .i64 a), (w.heap.size + 1, 0, .int .i64 k), (w.heap.size + 1, 1, .int .i64 n), (w.heap.size + 1, 2, .slice A f.len C), (w.heap.size + 2, 0, .int .i64 j), (w.heap.size + 2, 1, .int .i64 o), (w.heap.size + 2, 2, .slice B g.len D)] W → Calls Try.prog 45 #[.agg #[.int .i64 t, .int .i64 a], .pointer (some ⟨w.heap.size + 1, 0, none⟩)] W fun e w' => e = .returned (.bool q1) ∧ Below W.heap.size W w') :=
    fun W ⟨h, _, _, g0, g1, g2, _⟩ => by rw [hq1]; exact l01Ok_any f (by omega) (Fo.fits_of (by omega)) t a k n A C (w.heap.size + 1) 0 W (hl.sees h) g0 g1 g2
  have K2 : Hid (∀ W : World, St w [(w.heap.size, 0, .int .i64 t), (w.heap.size, 1, .int .i64 a), (w.heap.size + 1, 0, .int .i64 k), (w.heap.size + 1, 1, .int .i64 n), (w.heap.size + 1, 2, .slice A f.len C), (w.heap.size + 2, 0, .int .i64 j), (w.heap.size + 2, 1, .int .i64 o), (w.heap.size + 2, 2, .slice B g.len D)] W → Calls Try.prog 45 #[.agg #[.int .i64 t, .int .i64 a], .pointer (some ⟨w.heap.size + 2, 0, none⟩)] W fun e w' => e = .returned (.bool q2) ∧ Below W.heap.size W w') :=
    fun W ⟨h, _, _, _, _, _, g0, g1, g2, _⟩ => by rw [hq2]; exact l01Ok_any g (by omega) (Fo.fits_of (by omega)) t a j o B D (w.heap.size + 2) 0 W (hl3.sees h) g0 g1 g2
  obtain ⟨r, hr⟩ : ∃ r, r = rp1 t a k n f xs j o g := ⟨_, rfl⟩
  have K3 : Hid (∀ W : World, St w [(w.heap.size, 0, .int .i64 t), (w.heap.size, 1, .int .i64 a), (w.heap.size + 1, 0, .int .i64 k), (w.heap.size + 1, 1, .int .i64 n), (w.heap.size + 1, 2, .slice A f.len C), (w.heap.size + 2, 0, .int .i64 j), (w.heap.size + 2, 1, .int .i64 o), (w.heap.size + 2, 2, .slice B g.len D)] W → Calls Try.prog 46 #[.agg #[.int .i64 t, .int .i64 a], .pointer (some ⟨w.heap.size + 1, 0, none⟩), .slice P xs.length E, .pointer (some ⟨w.heap.size + 2, 0, none⟩)] W (LEnd r.1 r.2.1 r.2.2.1 r.2.2.2 W)) :=
    fun W ⟨h, _, _, g0, g1, g2, g3, g4, g5, _⟩ => by rw [hr]; exact l04Replace_any t a k n f xs hx j o g hm A B C D (w.heap.size + 1) 0 (w.heap.size + 2) 0 P E W (hl.sees h) (hl3.sees h) (hp.sees h) g0 g1 g2 g3 g4 g5
  obtain ⟨R, hR⟩ : ∃ R, R = rpO t a k n f xs j o g := ⟨_, rfl⟩
  rw [← hR]
  have HR : Hid (R = if q1 = true ∧ q2 = true then r else (0, 0, .nil, 1)) := by
    show _ = _
    rw [hR, hq1, hq2, hr]; rfl
  have HP := Lib.hid hp
  clear hR hr hq1 hq2 hp hl hl3
  cases q1
  · have HRF : Hid (R = (0, 0, .nil, 1)) := HR.out.trans (if_neg (by simp))
    clear K2 K3 HR
    go_enter Try.func10, Try.ntmps10
    go_wp2_with fail
    refine (K1.out _ ⟨(by unfold Sees; go_grown), (by simp [go_sem]), (by simp [go_sem]), (by simp [go_sem]), (by simp [go_sem]), (by simp [go_sem]), (by simp [go_sem]), (by simp [go_sem]), (by simp [go_sem]), trivial⟩).mono ?_
    rintro e w1 ⟨rfl, hb⟩
    have H1 : Hid (St w [(w.heap.size, 0, .int .i64 t), (w.heap.size, 1, .int .i64 a), (w.heap.size + 1, 0, .int .i64 k), (w.heap.size + 1, 1, .int .i64 n), (w.heap.size + 1, 2, .slice A f.len C), (w.heap.size + 2, 0, .int .i64 j), (w.heap.size + 2, 1, .int .i64 o), (w.heap.size + 2, 2, .slice B g.len D)] w1) := St.below (l := [(w.heap.size, 0, .int .i64 t), (w.heap.size, 1, .int .i64 a), (w.heap.size + 1, 0, .int .i64 k), (w.heap.size + 1, 1, .int .i64 n), (w.heap.size + 1, 2, .slice A f.len C), (w.heap.size + 2, 0, .int .i64 j), (w.heap.size + 2, 1, .int .i64 o), (w.heap.size + 2, 2, .slice B g.len D)]) ⟨(by unfold Sees; go_grown), (by simp [go_sem]), (by simp [go_sem]), (by simp [go_sem]), (by simp [go_sem]), (by simp [go_sem]), (by simp [go_sem]), (by simp [go_sem]), (by simp [go_sem]), trivial⟩ hb
    have HBr : w1.heap[w.heap.size + 3]? = some (.cells #[.int .i64 0, .int .i64 0, .slice none 0 0] 31 (0, 0)) := (hb.block _ (by simp)).trans (heap_new _ _ _ (by simp))
    clear hb
    obtain ⟨r0, r1, r2, g0, g1, g2⟩ := cells3 HBr
    obtain ⟨sS, s0, s1, _⟩ := H1.out
    go_wp2_with fail
    have HBF : (((w1.setCell ⟨w.heap.size + 3, 0, none⟩ (.int .i64 0)).setCell ⟨w.heap.size + 3, 1, none⟩ (.int .i64 0)).setCell ⟨w.heap.size + 3, 2, none⟩ (.slice none 0 0)).heap[w.heap.size + 3]? = some (.cells #[(.int .i64 0), (.int .i64 0), .slice none 0 0] 31 (0, 0)) := by
      rw [Fo.block_setCell (Fo.block_setCell (Fo.block_setCell HBr _) _) _]; rfl
    obtain ⟨d0, d1, d2, _⟩ := cells3 HBF
    refine bodyPost_ret (v := .tuple #[.agg #[(.int .i64 0), (.int .i64 0), .slice none 0 0], .int .i64 1]) (by simp [results, Try.results10, go_sem, d0, d1, d2]) rfl ?_
    rw [HRF.out]
    exact ⟨none, 0, rfl, Fo.LiesIn.nil _ _ _, Below.setCell (Below.setCell (Below.setCell sS (by show w.heap.size ≤ w.heap.size + 3; omega) _) (by show w.heap.size ≤ w.heap.size + 3; omega) _) (by show w.heap.size ≤ w.heap.size + 3; omega) _⟩
  · go_enter Try.func10, Try.ntmps10
    go_wp2_with fail
    refine (K1.out _ ⟨(by unfold Sees; go_grown), (by simp [go_sem]), (by simp [go_sem]), (by simp [go_sem]), (by simp [go_sem]), (by simp [go_sem]), (by simp [go_sem]), (by simp [go_sem]), (by simp [go_sem]), trivial⟩).mono ?_
    rintro e w1 ⟨rfl, hb⟩
    have H1 : Hid (St w [(w.heap.size, 0, .int .i64 t), (w.heap.size, 1, .int .i64 a), (w.heap.size + 1, 0, .int .i64 k), (w.heap.size + 1, 1, .int .i64 n), (w.heap.size + 1, 2, .slice A f.len C), (w.heap.size + 2, 0, .int .i64 j), (w.heap.size + 2, 1, .int .i64 o), (w.heap.size + 2, 2, .slice B g.len D)] w1) := St.below (l := [(w.heap.size, 0, .int .i64 t), (w.heap.size, 1, .int .i64 a), (w.heap.size + 1, 0, .int .i64 k), (w.heap.size + 1, 1, .int .i64 n), (w.heap.size + 1, 2, .slice A f.len C), (w.heap.size + 2, 0, .int .i64 j), (w.heap.size + 2, 1, .int .i64 o), (w.heap.size + 2, 2, .slice B g.len D)]) ⟨(by unfold Sees; go_grown), (by simp [go_sem]), (by simp [go_sem]), (by simp [go_sem]), (by simp [go_sem]), (by simp [go_sem]), (by simp [go_sem]), (by simp [go_sem]), (by simp [go_sem]), trivial⟩ hb
    have HBr : w1.heap[w.heap.size + 3]? = some (.cells #[.int .i64 0, .int .i64 0, .slice none 0 0] 31 (0, 0)) := (hb.block _ (by simp)).trans (heap_new _ _ _ (by simp))
    clear hb
    obtain ⟨sS, s0, s1, _⟩ := H1.out
    have zr1 : w.heap.size + 3 < w1.heap.size := (Array.getElem?_eq_some_iff.1 HBr).1
    go_wp2_with fail
    refine (K2.out _ H1.out).mono ?_
    rintro e w2 ⟨rfl, hb⟩
    have H2 : Hid (St w [(w.heap.size, 0, .int .i64 t), (w.heap.size, 1, .int .i64 a), (w.heap.size + 1, 0, .int .i64 k), (w.heap.size + 1, 1, .int .i64 n), (w.heap.size + 1, 2, .slice A f.len C), (w.heap.size + 2, 0, .int .i64 j), (w.heap.size + 2, 1, .int .i64 o), (w.heap.size + 2, 2, .slice B g.len D)] w2) := H1.out.below hb
    have HBr2 := (hb.block _ zr1).trans HBr
    clear hb sS s0 s1 HBr H1
    have zr : w.heap.size + 3 < w2.heap.size := (Array.getElem?_eq_some_iff.1 HBr2).1
    obtain ⟨r0, r1, r2, g0, g1, g2⟩ := cells3 HBr2
    obtain ⟨sS, s0, s1, _⟩ := H2.out
    cases q2
    · have HRF : Hid (R = (0, 0, .nil, 1)) := HR.out.trans (if_neg (by simp))
      clear K3 HR
      go_wp2_with fail
      have HBF : (((w2.setCell ⟨w.heap.size + 3, 0, none⟩ (.int .i64 0)).setCell ⟨w.heap.size + 3, 1, none⟩ (.int .i64 0)).setCell ⟨w.heap.size + 3, 2, none⟩ (.slice none 0 0)).heap[w.heap.size + 3]? = some (.cells #[(.int .i64 0), (.int .i64 0), .slice none 0 0] 31 (0, 0)) := by
        rw [Fo.block_setCell (Fo.block_setCell (Fo.block_setCell HBr2 _) _) _]; rfl
      obtain ⟨d0, d1, d2, _⟩ := cells3 HBF
      refine bodyPost_ret (v := .tuple #[.agg #[(.int .i64 0), (.int .i64 0), .slice none 0 0], .int .i64 1]) (by simp [results, Try.results10, go_sem, d0, d1, d2]) rfl ?_
      rw [HRF.out]
      exact ⟨none, 0, rfl, Fo.LiesIn.nil _ _ _, Below.setCell (Below.setCell (Below.setCell sS (by show w.heap.size ≤ w.heap.size + 3; omega) _) (by show w.heap.size ≤ w.heap.size + 3; omega) _) (by show w.heap.size ≤ w.heap.size + 3; omega) _⟩
    · have HRF : Hid (R = r) := HR.out.trans (if_pos (by simp))
      clear HR
      go_wp2_with fail
      refine (K3.out _ H2.out).mono ?_
      rintro e w3 ⟨A5, C5, rfl, hL5, hb⟩
      have HB3 := (hb.block _ zr).trans HBr2
      have S3 : Sees w w3 := sS.below hb
      have z3 := hb.size
      have HL := Lib.hid hL5
      clear hL5 hb r0 r1 r2 g0 g1 g2 s0 s1
      obtain ⟨r0, r1, r2, g0, g1, g2⟩ := cells3 HB3
      go_wp2_with fail
      have HBF : (((w3.setCell ⟨w.heap.size + 3, 0, none⟩ (.int .i64 r.1)).setCell ⟨w.heap.size + 3, 1, none⟩ (.int .i64 r.2.1)).setCell ⟨w.heap.size + 3, 2, none⟩ (.slice A5 r.2.2.1.len C5)).heap[w.heap.size + 3]? = some (.cells #[(.int .i64 r.1), (.int .i64 r.2.1), .slice A5 r.2.2.1.len C5] 31 (0, 0)) := by
        rw [Fo.block_setCell (Fo.block_setCell (Fo.block_setCell HB3 _) _) _]; rfl
      obtain ⟨d0, d1, d2, _⟩ := cells3 HBF
      refine bodyPost_ret (v := .tuple #[.agg #[(.int .i64 r.1), (.int .i64 r.2.1), .slice A5 r.2.2.1.len C5], .int .i64 r.2.2.2]) (by simp [results, Try.results10, go_sem, d0, d1, d2]) rfl ?_
      rw [HRF.out]
      refine ⟨A5, C5, rfl, ?_, Below.setCell (Below.setCell (Below.setCell S3 (by show w.heap.size ≤ w.heap.size + 3; omega) _) (by show w.heap.size ≤ w.heap.size + 3; omega) _) (by show w.heap.size ≤ w.heap.size + 3; omega) _⟩
      have hag : Fo.Agree w3 (((w3.setCell ⟨w.heap.size + 3, 0, none⟩ (.int .i64 r.1)).setCell ⟨w.heap.size + 3, 1, none⟩ (.int .i64 r.2.1)).setCell ⟨w.heap.size + 3, 2, none⟩ (.slice A5 r.2.2.1.len C5)) w2.heap.size w3.heap.size := fun y a c => put3_heap (b := w.heap.size + 3) (c := 0) y (by omega)
      exact (HL.out.agree hag).mono (by omega) (by simp only [World.size_setCell]; omega)
end Go.Proofs.Ytlfafcbieeambaa

/- Contract of impl.withAt. -/
namespace Go.Proofs.Ytlfafcbieeambaa
open Go.RowKit

theorem withAt_any (t a j o : Int) (g : Fo) (s0 E : Nat) : ∀ xs : List Int, WithSaid t a j o g s0 E xs
  | [] => withAt_nil t a j o g s0 E
  | [i] => withAt_one t a j o g s0 E i (withAt_nil t a j o g s0 E)
  | i :: i2 :: r2 => withAt_two t a j o g s0 E i i2 r2 (withAt_any t a j o g s0 E (i2 :: r2))
end Go.Proofs.Ytlfafcbieeambaa

/- Contract of impl.replaceAt. -/
namespace Go.Proofs.Ytlfafcbieeambaa
open Go.RowKit

/-- What a call hands back that shares memory. -/
def SEnd (k n : Int) (f : Fo) (q : Int) (w : World) (e : Ending) (w' : World) : Prop := ∃ A C, e = .returned (.tuple #[.agg #[.int .i64 k, .int .i64 n, .slice A f.len C], .int .i64 q]) ∧ f.Lies w' A ∧ Below w.heap.size w w'

theorem Fo.AtP.and_lt {w : World} {P : Nat → Prop} {f : Fo} : ∀ {b o : Nat}, f.AtP w P b o → f.AtP w (fun x => P x ∧ x < w.heap.size) b o := by
  induction f with
  | nil => intro b o _; trivial
  | cons k n ks r ihk ihr =>
    intro b o ⟨h0, h1, ⟨A, C, h2, h3⟩, h4⟩
    refine ⟨h0, h1, ⟨A, C, h2, fun hn => ?_⟩, ihr h4⟩
    obtain ⟨b', o', ha, p, hat⟩ := h3 hn
    refine ⟨b', o', ha, ⟨p, ?_⟩, ihk hat⟩
    cases ks with
    | nil => exact absurd rfl hn
    | cons k1 n1 ks1 r1 => exact World.block_lt_of_cell? _ _ hat.1
theorem Fo.LiesP.and_lt {w : World} {P : Nat → Prop} {f : Fo} {A : Option Addr} (h : f.LiesP w P A) : f.LiesP w (fun x => P x ∧ x < w.heap.size) A := fun hn => by
  obtain ⟨b, o, ha, p, hat⟩ := h hn
  refine ⟨b, o, ha, ⟨p, ?_⟩, hat.and_lt⟩
  cases f with
  | nil => exact absurd rfl hn
  | cons k1 n1 ks1 r1 => exact World.block_lt_of_cell? _ _ hat.1
theorem sees_al {w W : World} {o : Obj} (h : Below (w.alloc o).heap.size (w.alloc o) W) : Below w.heap.size w W := ((Below.refl _ w).alloc (Nat.le_refl _) _).trans (h.mono (by simp))

set_option maxRecDepth 100000 in
set_option maxHeartbeats 4000000 in
theorem replaceAt_any (t a k n : Int) (f : Fo) (xs : List Int) (hx : xs.length ≤ 1048576) (j o : Int) (g : Fo) (HWA : ∀ s0 E xs, WithSaid t a j o g s0 E xs) (hm : f.nodes + g.nodes ≤ 1048576) (ht : treeE t a false k n f = true) (A : Option Addr) (C : Nat) (P : Option Addr) (B : Option Addr) (D : Nat) (w : World) (hl : f.Lies w A) (hp : Ints w xs P) (hl3 : g.Lies w B) :
    Calls Try.prog 49 #[.agg #[.int .i64 t, .int .i64 a], .agg #[.int .i64 k, .int .i64 n, .slice A f.len C], .slice P xs.length xs.length, .agg #[.int .i64 j, .int .i64 o, .slice B g.len D]] w (SEnd (rp1 t a k n f xs j o g).1 (rp1 t a k n f xs j o g).2.1 (rp1 t a k n f xs j o g).2.2.1 (rp1 t a k n f xs j o g).2.2.2 w) := by
  obtain ⟨O, hO⟩ : ∃ O, O = walkP xs k n f false := ⟨_, rfl⟩
  have K2 : Hid (∀ W : World, Sees w W → Calls Try.prog 108 #[.agg #[.int .i64 k, .int .i64 n, .slice A f.len C], .slice P xs.length xs.length] W (NAEnd O W)) := fun W h => by
    rw [hO]; exact nodeAt_any xs (by omega) k n f (by omega) A C P xs.length W (hl.sees h) (hp.sees h)
  obtain ⟨qc, hqc⟩ : ∃ q : Bool, q = (condK j && g.cond) := ⟨_, rfl⟩
  have hgl := g.len_le_nodes
  have KC : Hid (∀ W : World, Sees w W → Calls Try.prog 109 #[.agg #[.int .i64 j, .int .i64 o, .slice B g.len D]] W fun e w' => e = .returned (.bool qc) ∧ Below W.heap.size W w') := fun W h => by
    rw [hqc]; exact implIsCondition_aux (g.nodes + 1) g (Nat.lt_succ_self _) (by omega) (Fo.fits_of (by omega)) j o B D W (hl3.sees h)
  obtain ⟨x, hx5⟩ : ∃ x, x = putP xs (j, o, g) k n f := ⟨_, rfl⟩
  have hxn : x.2.2.nodes ≤ 1048576 := by rw [hx5]; exact Nat.le_trans (putP_nodes (j, o, g) xs k n f) hm
  have KW : Hid (O ≠ none → ∀ W : World, Sees w W → Calls Try.prog 110 #[.agg #[.int .i64 k, .int .i64 n, .slice A f.len C], .slice P xs.length xs.length, .agg #[.int .i64 j, .int .i64 o, .slice B g.len D]] W fun e w' => ∃ A' C', e = .returned (.agg #[.int .i64 x.1, .int .i64 x.2.1, .slice A' x.2.2.len C']) ∧ x.2.2.LiesP w' (fun z => z < w.heap.size ∨ W.heap.size ≤ z) A' ∧ Below W.heap.size W w') := fun hn W h => by
    rw [hx5]
    exact (HWA w.heap.size D xs hx false false k n f A B P C W h.size (hl.liesP.agree (fun y hy => h.block y hy) (fun _ hy => hy)) (hl3.liesP.agree (fun y hy => h.block y hy) (fun _ hy => hy)) (hp.sees h) ht (by rw [← hO]; exact hn) (by omega))
  obtain ⟨qv, hqv⟩ : ∃ q : Bool, q = validE t a x.1 x.2.1 x.2.2 := ⟨_, rfl⟩
  have KV : Hid (∀ (W : World) (A' : Option Addr) (C' : Nat), x.2.2.Lies W A' → Calls Try.prog 48 #[.agg #[.int .i64 t, .int .i64 a], .agg #[.int .i64 x.1, .int .i64 x.2.1, .slice A' x.2.2.len C']] W fun e w' => e = .returned (.bool qv) ∧ Below W.heap.size W w') := fun W A' C' h => by
    rw [hqv]; exact implValidExpr_any t a x.1 x.2.1 x.2.2 hxn A' C' W h
  obtain ⟨R, hR⟩ : ∃ R, R = rp1 t a k n f xs j o g := ⟨_, rfl⟩
  rw [← hR]
  have HRD := Lib.hid hR
  have HRP : Hid (∀ k' n' f' b, O = some (k', n', f', b) → CondOk b j g → R = if qv = true then (x.1, x.2.1, x.2.2, 0) else (0, 0, .nil, 3)) := by
    intro k' n' f' b hOs hns
    rw [hR, hqv, hx5]
    by_cases hv : validE t a (putP xs (j, o, g) k n f).1 (putP xs (j, o, g) k n f).2.1 (putP xs (j, o, g) k n f).2.2 = true
    · rw [if_pos hv]; exact rp1_yes (hO.symm.trans hOs) hns hv
    · rw [if_neg hv]; exact rp1_limit (hO.symm.trans hOs) hns (by simpa using hv)
  have HO := Lib.hid hO; have HQC := Lib.hid hqc
  have HP := Lib.hid hp; have HL := Lib.hid hl; have HL3 := Lib.hid hl3
  clear HWA hR hqv hxn hx5 hqc hO hp hl hl3 ht hgl
  go_enter Try.func49, Try.ntmps49
  go_wp2_with fail
  refine (K2.out _ (by unfold Sees; go_grown)).mono ?_
  rintro e w1 (⟨k', n', f', b', A', C', hOs, rfl, hl2, hb⟩ | ⟨hOn, rfl, hb⟩)
  · have H1 : Hid (St w [(w.heap.size, 0, .int .i64 t), (w.heap.size, 1, .int .i64 a), (w.heap.size + 1, 0, .int .i64 k), (w.heap.size + 1, 1, .int .i64 n), (w.heap.size + 1, 2, .slice A f.len C), (w.heap.size + 2, 0, .int .i64 j), (w.heap.size + 2, 1, .int .i64 o), (w.heap.size + 2, 2, .slice B g.len D)] w1) := St.below (l := [(w.heap.size, 0, .int .i64 t), (w.heap.size, 1, .int .i64 a), (w.heap.size + 1, 0, .int .i64 k), (w.heap.size + 1, 1, .int .i64 n), (w.heap.size + 1, 2, .slice A f.len C), (w.heap.size + 2, 0, .int .i64 j), (w.heap.size + 2, 1, .int .i64 o), (w.heap.size + 2, 2, .slice B g.len D)]) ⟨(by unfold Sees; go_grown), (by simp [go_sem]), (by simp [go_sem]), (by simp [go_sem]), (by simp [go_sem]), (by simp [go_sem]), (by simp [go_sem]), (by simp [go_sem]), (by simp [go_sem]), trivial⟩ hb
    have HBr : w1.heap[w.heap.size + 3]? = some (.cells #[.int .i64 0, .int .i64 0, .slice none 0 0] 31 (0, 0)) := (hb.block _ (by simp)).trans (heap_new _ _ _ (by simp))
    have zr : w.heap.size + 3 < w1.heap.size := (Array.getElem?_eq_some_iff.1 HBr).1
    have z0 : w.heap.size < w1.heap.size := by omega
    have z1 : w.heap.size + 1 < w1.heap.size := by omega
    have z2 : w.heap.size + 2 < w1.heap.size := by omega
    have z2' : w.heap.size + 1 + 1 < w1.heap.size := by omega
    have z3' : w.heap.size + 1 + 1 + 1 < w1.heap.size := by omega
    have S1 := H1.out.1
    clear hb
    cases b'
    · have HNS : Hid (CondOk false j g) := fun h => by cases h.1
      have KW2 := Lib.hid (KW.out (by rw [hOs]; exact fun h => by cases h))
      have HRP2 := Lib.hid (HRP.out _ _ _ _ hOs HNS.out)
      clear KW HRP hOs HNS KC K2
      obtain ⟨_, s0, s1, s2, s3, s4, s5, s6, s7, _⟩ := H1.out
      go_wp2_with fail
      refine (KW2.out _ (S1.alloc _)).mono ?_
      rintro e w4 ⟨A4, C4, rfl, hL4, hb4⟩
      have H4 : Hid (St w [(w.heap.size, 0, .int .i64 t), (w.heap.size, 1, .int .i64 a), (w.heap.size + 1, 0, .int .i64 k), (w.heap.size + 1, 1, .int .i64 n), (w.heap.size + 1, 2, .slice A f.len C), (w.heap.size + 2, 0, .int .i64 j), (w.heap.size + 2, 1, .int .i64 o), (w.heap.size + 2, 2, .slice B g.len D)] w4) := H1.out.below (sees_al hb4)
      have HB4 := (sees_al hb4).block _ zr |>.trans HBr
      have HL4 : Hid (x.2.2.LiesP w4 (fun z => z ≠ w.heap.size + 3 ∧ z < w4.heap.size) A4) := hL4.and_lt.agree (fun _ _ => rfl) (fun z h => ⟨by have h1 := h.1; simp only [World.size_alloc] at h1; omega, h.2⟩)
      have zr4 : w.heap.size + 3 < w4.heap.size := (Array.getElem?_eq_some_iff.1 HB4).1
      have y0 : w.heap.size < w4.heap.size := by omega
      have y1 : w.heap.size + 1 < w4.heap.size := by omega
      have y2 : w.heap.size + 2 < w4.heap.size := by omega
      clear hL4 hb4 KW2 s0 s1 s2 s3 s4 s5 s6 s7
      obtain ⟨_, s0, s1, _⟩ := H4.out
      go_wp2_with fail
      obtain ⟨W5, hW5⟩ : ∃ W5, W5 = w4.alloc (.cells #[.int .i64 x.1, .int .i64 x.2.1, .slice A4 x.2.2.len C4] 31) := ⟨_, rfl⟩
      rw [← hW5]
      have S45 : Sees w4 W5 := by rw [hW5]; exact (Sees.refl w4).alloc _
      have HX5 : W5.heap[w4.heap.size]? = some (.cells #[.int .i64 x.1, .int .i64 x.2.1, .slice A4 x.2.2.len C4] 31 (0, 0)) := by rw [hW5]; exact heap_new _ _ _ rfl
      have zx5 : w4.heap.size < W5.heap.size := by rw [hW5]; simp
      refine (KV.out _ A4 C4 (HL4.out.lies.sees S45)).mono ?_
      rintro e w6 ⟨rfl, hb6⟩
      have S46 : Below w4.heap.size w4 w6 := Sees.below S45 hb6
      have S6 : Sees w w6 := H4.out.1.below S46
      have HB6 := (S46.block _ zr4).trans HB4
      have HX6 := (hb6.block _ zx5).trans HX5
      have zr6 : w.heap.size + 3 < w6.heap.size := (Array.getElem?_eq_some_iff.1 HB6).1
      have zx6 : w4.heap.size < w6.heap.size := (Array.getElem?_eq_some_iff.1 HX6).1
      obtain ⟨r0, r1, r2, g0, g1, g2⟩ := cells3 HB6
      obtain ⟨u0, u1, u2, _⟩ := cells3 HX6
      clear hW5 hb6 s0 s1
      cases qv
      · have HRF : Hid (R = (0, 0, .nil, 3)) := HRP2.out.trans (if_neg (by decide))
        clear HRP2
        go_wp2_with fail
        have HBF : (((w6.setCell ⟨w.heap.size + 3, 0, none⟩ (.int .i64 0)).setCell ⟨w.heap.size + 3, 1, none⟩ (.int .i64 0)).setCell ⟨w.heap.size + 3, 2, none⟩ (.slice none 0 0)).heap[w.heap.size + 3]? = some (.cells #[(.int .i64 0), (.int .i64 0), (.slice none 0 0)] 31 (0, 0)) := by
          rw [Fo.block_setCell (Fo.block_setCell (Fo.block_setCell HB6 _) _) _]; rfl
        obtain ⟨d0, d1, d2, _⟩ := cells3 HBF
        refine bodyPost_ret (v := .tuple #[.agg #[(.int .i64 0), (.int .i64 0), (.slice none 0 0)], .int .i64 3]) (by simp [results, Try.results49, go_sem, d0, d1, d2]) rfl ?_
        rw [HRF.out]
        exact ⟨none, 0, rfl, fun h => absurd rfl h, Below.setCell (Below.setCell (Below.setCell S6 (by show w.heap.size ≤ w.heap.size + 3; omega) _) (by show w.heap.size ≤ w.heap.size + 3; omega) _) (by show w.heap.size ≤ w.heap.size + 3; omega) _⟩
      · have HRF : Hid (R = (x.1, x.2.1, x.2.2, 0)) := HRP2.out.trans (if_pos rfl)
        clear HRP2
        go_wp2_with fail
        have HBF : (((w6.setCell ⟨w.heap.size + 3, 0, none⟩ (.int .i64 x.1)).setCell ⟨w.heap.size + 3, 1, none⟩ (.int .i64 x.2.1)).setCell ⟨w.heap.size + 3, 2, none⟩ (.slice A4 x.2.2.len C4)).heap[w.heap.size + 3]? = some (.cells #[(.int .i64 x.1), (.int .i64 x.2.1), (.slice A4 x.2.2.len C4)] 31 (0, 0)) := by
          rw [Fo.block_setCell (Fo.block_setCell (Fo.block_setCell HB6 _) _) _]; rfl
        obtain ⟨d0, d1, d2, _⟩ := cells3 HBF
        refine bodyPost_ret (v := .tuple #[.agg #[(.int .i64 x.1), (.int .i64 x.2.1), (.slice A4 x.2.2.len C4)], .int .i64 0]) (by simp [results, Try.results49, go_sem, d0, d1, d2]) rfl ?_
        rw [HRF.out]
        exact ⟨A4, C4, rfl, (HL4.out.agree (fun y hy => (put3_heap (c := 0) y hy.1).trans (S46.block y hy.2)) (fun _ h => h)).lies, Below.setCell (Below.setCell (Below.setCell S6 (by show w.heap.size ≤ w.heap.size + 3; omega) _) (by show w.heap.size ≤ w.heap.size + 3; omega) _) (by show w.heap.size ≤ w.heap.size + 3; omega) _⟩
    · have KC2 := Lib.hid (KC.out)
      cases qc
      · have HRF : Hid (R = (0, 0, .nil, 4)) := HRD.out.trans (rp1_state (HO.out.symm.trans hOs) HQC.out.symm)
        clear KC K2 KW KV HRP
        obtain ⟨_, s0, s1, s2, s3, s4, s5, s6, s7, _⟩ := H1.out
        go_wp2_with fail
        refine (KC2.out _ (S1.alloc _)).mono ?_
        rintro e w2 ⟨rfl, hb2⟩
        have hb2' : Below w1.heap.size w1 w2 := ((Below.refl _ w1).alloc (Nat.le_refl _) _).trans (hb2.mono (by simp))
        have S2 : Sees w w2 := S1.below hb2'
        have HB2 := (hb2'.block _ zr).trans HBr
        obtain ⟨r0, r1, r2, g0, g1, g2⟩ := cells3 HB2
        clear hb2 hb2' s0 s1 s2 s3 s4 s5 s6 s7
        go_wp2_with fail
        have HBF : (((w2.setCell ⟨w.heap.size + 3, 0, none⟩ (.int .i64 0)).setCell ⟨w.heap.size + 3, 1, none⟩ (.int .i64 0)).setCell ⟨w.heap.size + 3, 2, none⟩ (.slice none 0 0)).heap[w.heap.size + 3]? = some (.cells #[(.int .i64 0), (.int .i64 0), (.slice none 0 0)] 31 (0, 0)) := by
          rw [Fo.block_setCell (Fo.block_setCell (Fo.block_setCell HB2 _) _) _]; rfl
        obtain ⟨d0, d1, d2, _⟩ := cells3 HBF
        refine bodyPost_ret (v := .tuple #[.agg #[(.int .i64 0), (.int .i64 0), (.slice none 0 0)], .int .i64 4]) (by simp [results, Try.results49, go_sem, d0, d1, d2]) rfl ?_
        rw [HRF.out]
        exact ⟨none, 0, rfl, fun h => absurd rfl h, Below.setCell (Below.setCell (Below.setCell S2 (by show w.heap.size ≤ w.heap.size + 3; omega) _) (by show w.heap.size ≤ w.heap.size + 3; omega) _) (by show w.heap.size ≤ w.heap.size + 3; omega) _⟩
      · have HNS : Hid (CondOk true j g) := fun h => by have := HQC.out.trans h.2; cases this
        obtain ⟨_, s0, s1, s2, s3, s4, s5, s6, s7, _⟩ := H1.out
        go_wp2_with fail
        refine (KC2.out _ (S1.alloc _)).mono ?_
        rintro e w2 ⟨rfl, hb2⟩
        have hb2' : Below w1.heap.size w1 w2 := ((Below.refl _ w1).alloc (Nat.le_refl _) _).trans (hb2.mono (by simp))
        have H2 : Hid (St w [(w.heap.size, 0, .int .i64 t), (w.heap.size, 1, .int .i64 a), (w.heap.size + 1, 0, .int .i64 k), (w.heap.size + 1, 1, .int .i64 n), (w.heap.size + 1, 2, .slice A f.len C), (w.heap.size + 2, 0, .int .i64 j), (w.heap.size + 2, 1, .int .i64 o), (w.heap.size + 2, 2, .slice B g.len D)] w2) := H1.out.below hb2'
        have HB2 := (hb2'.block _ zr).trans HBr
        have zr2 : w.heap.size + 3 < w2.heap.size := (Array.getElem?_eq_some_iff.1 HB2).1
        clear hb2 hb2' s0 s1 s2 s3 s4 s5 s6 s7 KC2
        have KW2 := Lib.hid (KW.out (by rw [hOs]; exact fun h => by cases h))
        have HRP2 := Lib.hid (HRP.out _ _ _ _ hOs HNS.out)
        clear KW HRP hOs HNS KC K2
        obtain ⟨_, s0, s1, s2, s3, s4, s5, s6, s7, _⟩ := H2.out
        go_wp2_with fail
        refine (KW2.out _ H2.out.1).mono ?_
        rintro e w4 ⟨A4, C4, rfl, hL4, hb4⟩
        have H4 : Hid (St w [(w.heap.size, 0, .int .i64 t), (w.heap.size, 1, .int .i64 a), (w.heap.size + 1, 0, .int .i64 k), (w.heap.size + 1, 1, .int .i64 n), (w.heap.size + 1, 2, .slice A f.len C), (w.heap.size + 2, 0, .int .i64 j), (w.heap.size + 2, 1, .int .i64 o), (w.heap.size + 2, 2, .slice B g.len D)] w4) := H2.out.below (id hb4)
        have HB4 := (id hb4).block _ zr2 |>.trans HB2
        have HL4 : Hid (x.2.2.LiesP w4 (fun z => z ≠ w.heap.size + 3 ∧ z < w4.heap.size) A4) := hL4.and_lt.agree (fun _ _ => rfl) (fun z h => ⟨by have h1 := h.1; have := zr2; omega, h.2⟩)
        have zr4 : w.heap.size + 3 < w4.heap.size := (Array.getElem?_eq_some_iff.1 HB4).1
        have y0 : w.heap.size < w4.heap.size := by omega
        have y1 : w.heap.size + 1 < w4.heap.size := by omega
        have y2 : w.heap.size + 2 < w4.heap.size := by omega
        clear hL4 hb4 KW2 s0 s1 s2 s3 s4 s5 s6 s7
        obtain ⟨_, s0, s1, _⟩ := H4.out
        go_wp2_with fail
        obtain ⟨W5, hW5⟩ : ∃ W5, W5 = w4.alloc (.cells #[.int .i64 x.1, .int .i64 x.2.1, .slice A4 x.2.2.len C4] 31) := ⟨_, rfl⟩
        rw [← hW5]
        have S45 : Sees w4 W5 := by rw [hW5]; exact (Sees.refl w4).alloc _
        have HX5 : W5.heap[w4.heap.size]? = some (.cells #[.int .i64 x.1, .int .i64 x.2.1, .slice A4 x.2.2.len C4] 31 (0, 0)) := by rw [hW5]; exact heap_new _ _ _ rfl
        have zx5 : w4.heap.size < W5.heap.size := by rw [hW5]; simp
        refine (KV.out _ A4 C4 (HL4.out.lies.sees S45)).mono ?_
        rintro e w6 ⟨rfl, hb6⟩
        have S46 : Below w4.heap.size w4 w6 := Sees.below S45 hb6
        have S6 : Sees w w6 := H4.out.1.below S46
        have HB6 := (S46.block _ zr4).trans HB4
        have HX6 := (hb6.block _ zx5).trans HX5
        have zr6 : w.heap.size + 3 < w6.heap.size := (Array.getElem?_eq_some_iff.1 HB6).1
        have zx6 : w4.heap.size < w6.heap.size := (Array.getElem?_eq_some_iff.1 HX6).1
        obtain ⟨r0, r1, r2, g0, g1, g2⟩ := cells3 HB6
        obtain ⟨u0, u1, u2, _⟩ := cells3 HX6
        clear hW5 hb6 s0 s1
        cases qv
        · have HRF : Hid (R = (0, 0, .nil, 3)) := HRP2.out.trans (if_neg (by decide))
          clear HRP2
          go_wp2_with fail
          have HBF : (((w6.setCell ⟨w.heap.size + 3, 0, none⟩ (.int .i64 0)).setCell ⟨w.heap.size + 3, 1, none⟩ (.int .i64 0)).setCell ⟨w.heap.size + 3, 2, none⟩ (.slice none 0 0)).heap[w.heap.size + 3]? = some (.cells #[(.int .i64 0), (.int .i64 0), (.slice none 0 0)] 31 (0, 0)) := by
            rw [Fo.block_setCell (Fo.block_setCell (Fo.block_setCell HB6 _) _) _]; rfl
          obtain ⟨d0, d1, d2, _⟩ := cells3 HBF
          refine bodyPost_ret (v := .tuple #[.agg #[(.int .i64 0), (.int .i64 0), (.slice none 0 0)], .int .i64 3]) (by simp [results, Try.results49, go_sem, d0, d1, d2]) rfl ?_
          rw [HRF.out]
          exact ⟨none, 0, rfl, fun h => absurd rfl h, Below.setCell (Below.setCell (Below.setCell S6 (by show w.heap.size ≤ w.heap.size + 3; omega) _) (by show w.heap.size ≤ w.heap.size + 3; omega) _) (by show w.heap.size ≤ w.heap.size + 3; omega) _⟩
        · have HRF : Hid (R = (x.1, x.2.1, x.2.2, 0)) := HRP2.out.trans (if_pos rfl)
          clear HRP2
          go_wp2_with fail
          have HBF : (((w6.setCell ⟨w.heap.size + 3, 0, none⟩ (.int .i64 x.1)).setCell ⟨w.heap.size + 3, 1, none⟩ (.int .i64 x.2.1)).setCell ⟨w.heap.size + 3, 2, none⟩ (.slice A4 x.2.2.len C4)).heap[w.heap.size + 3]? = some (.cells #[(.int .i64 x.1), (.int .i64 x.2.1), (.slice A4 x.2.2.len C4)] 31 (0, 0)) := by
            rw [Fo.block_setCell (Fo.block_setCell (Fo.block_setCell HB6 _) _) _]; rfl
          obtain ⟨d0, d1, d2, _⟩ := cells3 HBF
          refine bodyPost_ret (v := .tuple #[.agg #[(.int .i64 x.1), (.int .i64 x.2.1), (.slice A4 x.2.2.len C4)], .int .i64 0]) (by simp [results, Try.results49, go_sem, d0, d1, d2]) rfl ?_
          rw [HRF.out]
          exact ⟨A4, C4, rfl, (HL4.out.agree (fun y hy => (put3_heap (c := 0) y hy.1).trans (S46.block y hy.2)) (fun _ h => h)).lies, Below.setCell (Below.setCell (Below.setCell S6 (by show w.heap.size ≤ w.heap.size + 3; omega) _) (by show w.heap.size ≤ w.heap.size + 3; omega) _) (by show w.heap.size ≤ w.heap.size + 3; omega) _⟩
  · have H1 : Hid (St w [(w.heap.size, 0, .int .i64 t), (w.heap.size, 1, .int .i64 a), (w.heap.size + 1, 0, .int .i64 k), (w.heap.size + 1, 1, .int .i64 n), (w.heap.size + 1, 2, .slice A f.len C), (w.heap.size + 2, 0, .int .i64 j), (w.heap.size + 2, 1, .int .i64 o), (w.heap.size + 2, 2, .slice B g.len D)] w1) := St.below (l := [(w.heap.size, 0, .int .i64 t), (w.heap.size, 1, .int .i64 a), (w.heap.size + 1, 0, .int .i64 k), (w.heap.size + 1, 1, .int .i64 n), (w.heap.size + 1, 2, .slice A f.len C), (w.heap.size + 2, 0, .int .i64 j), (w.heap.size + 2, 1, .int .i64 o), (w.heap.size + 2, 2, .slice B g.len D)]) ⟨(by unfold Sees; go_grown), (by simp [go_sem]), (by simp [go_sem]), (by simp [go_sem]), (by simp [go_sem]), (by simp [go_sem]), (by simp [go_sem]), (by simp [go_sem]), (by simp [go_sem]), trivial⟩ hb
    have HBr : w1.heap[w.heap.size + 3]? = some (.cells #[.int .i64 0, .int .i64 0, .slice none 0 0] 31 (0, 0)) := (hb.block _ (by simp)).trans (heap_new _ _ _ (by simp))
    have zr : w.heap.size + 3 < w1.heap.size := (Array.getElem?_eq_some_iff.1 HBr).1
    have z0 : w.heap.size < w1.heap.size := by omega
    have z1 : w.heap.size + 1 < w1.heap.size := by omega
    have z2 : w.heap.size + 2 < w1.heap.size := by omega
    have z2' : w.heap.size + 1 + 1 < w1.heap.size := by omega
    have z3' : w.heap.size + 1 + 1 + 1 < w1.heap.size := by omega
    have S1 := H1.out.1
    clear hb
    have HRF : Hid (R = (0, 0, .nil, 2)) := HRD.out.trans (rp1_no (HO.out.symm.trans hOn))
    obtain ⟨r0, r1, r2, g0, g1, g2⟩ := cells3 HBr
    obtain ⟨_, s0, s1, s2, s3, s4, s5, s6, s7, _⟩ := H1.out
    clear K2 KC KW KV HRP
    go_wp2_with fail
    have HB3 : (((w1.setCell ⟨w.heap.size + 3, 0, none⟩ (.int .i64 0)).setCell ⟨w.heap.size + 3, 1, none⟩ (.int .i64 0)).setCell ⟨w.heap.size + 3, 2, none⟩ (.slice none 0 0)).heap[w.heap.size + 3]? = some (.cells #[(.int .i64 0), (.int .i64 0), .slice none 0 0] 31 (0, 0)) := by
      rw [Fo.block_setCell (Fo.block_setCell (Fo.block_setCell HBr _) _) _]; rfl
    have HBF : ((((w1.setCell ⟨w.heap.size + 3, 0, none⟩ (.int .i64 0)).setCell ⟨w.heap.size + 3, 1, none⟩ (.int .i64 0)).setCell ⟨w.heap.size + 3, 2, none⟩ (.slice none 0 0)).alloc (.cells #[.int .i64 0, .int .i64 0, .slice none 0 0] 31)).heap[w.heap.size + 3]? = some (.cells #[(.int .i64 0), (.int .i64 0), .slice none 0 0] 31 (0, 0)) :=
      (Below.heap_alloc _ _ _ (by simp; omega)).trans HB3
    obtain ⟨d0, d1, d2, _⟩ := cells3 HBF
    refine bodyPost_ret (v := .tuple #[.agg #[(.int .i64 0), (.int .i64 0), .slice none 0 0], .int .i64 2]) (by simp [results, Try.results49, go_sem, d0, d1, d2]) rfl ?_
    rw [HRF.out]
    exact ⟨none, 0, rfl, fun h => absurd rfl h, Sees.alloc (Below.setCell (Below.setCell (Below.setCell S1 (by show w.heap.size ≤ w.heap.size + 3; omega) _) (by show w.heap.size ≤ w.heap.size + 3; omega) _) (by show w.heap.size ≤ w.heap.size + 3; omega) _) _⟩
end Go.Proofs.Ytlfafcbieeambaa

/- Contract of impl.ReplaceAt. -/
namespace Go.Proofs.Ytlfafcbieeambaa
open Go.RowKit

theorem rp1_tree {t a k n : Int} {f : Fo} {xs : List Int} {j o : Int} {g : Fo} (h : (rp1 t a k n f xs j o g).2.2.2 = 0) : treeE t a false (rp1 t a k n f xs j o g).1 (rp1 t a k n f xs j o g).2.1 (rp1 t a k n f xs j o g).2.2.1 = true := by
  unfold rp1 at h ⊢
  split
  · rename_i e; rw [e] at h; cases h
  · rename_i e
    rw [e] at h
    dsimp only at h ⊢
    split
    · rename_i c; rw [if_pos c] at h; cases h
    · rename_i c
      rw [if_neg c] at h
      split
      · rename_i v; exact validE_parts0 v
      · rename_i v; rw [if_neg v] at h; cases h
theorem rp1_code {t a k n : Int} {f : Fo} {xs : List Int} {j o : Int} {g : Fo} (h : (rp1 t a k n f xs j o g).2.2.2 ≠ 0) : (rp1 t a k n f xs j o g).1 = 0 ∧ (rp1 t a k n f xs j o g).2.1 = 0 ∧ (rp1 t a k n f xs j o g).2.2.1 = .nil := by
  unfold rp1 at h ⊢
  split
  · exact ⟨rfl, rfl, rfl⟩
  · rename_i e
    rw [e] at h
    dsimp only at h ⊢
    split
    · exact ⟨rfl, rfl, rfl⟩
    · rename_i c
      rw [if_neg c] at h
      split
      · rename_i v; rw [if_pos v] at h; exact absurd rfl h
      · exact ⟨rfl, rfl, rfl⟩

set_option maxRecDepth 100000 in
set_option maxHeartbeats 4000000 in
theorem implReplaceAt_any (t a k n : Int) (f : Fo) (xs : List Int) (hx : xs.length ≤ 1048576) (j o : Int) (g : Fo) (HWA : ∀ s0 E xs, WithSaid t a j o g s0 E xs) (hm : f.nodes + g.nodes ≤ 1048576) (A : Option Addr) (C : Nat) (P : Option Addr) (B : Option Addr) (D : Nat) (w : World) (hl : f.Lies w A) (hp : Ints w xs P) (hl3 : g.Lies w B) :
    Calls Try.prog 14 #[.agg #[.int .i64 t, .int .i64 a], .agg #[.int .i64 k, .int .i64 n, .slice A f.len C], .slice P xs.length xs.length, .agg #[.int .i64 j, .int .i64 o, .slice B g.len D]] w (XEnd (rpK t a k n f xs j o g) (rpN t a k n f xs j o g) (rpF t a k n f xs j o g) (rpC t a k n f xs j o g) w) := by
  unfold rpK rpN rpF rpC
  obtain ⟨q1, hq1⟩ : ∃ q1 : Bool, q1 = validE t a k n f := ⟨_, rfl⟩
  obtain ⟨q2, hq2⟩ : ∃ q2 : Bool, q2 = validE t a j o g := ⟨_, rfl⟩
  have K1 : Hid (∀ W : World, Sees w W → Calls Try.prog 48 #[.agg #[.int .i64 t, .int .i64 a], .agg #[.int .i64 k, .int .i64 n, .slice A f.len C]] W fun e w' => e = .returned (.bool q1) ∧ Below W.heap.size W w') := fun W h => by rw [hq1]; exact implValidExpr_any t a k n f (by omega) A C W (hl.sees h)
  have K2 : Hid (∀ W : World, Sees w W → Calls Try.prog 48 #[.agg #[.int .i64 t, .int .i64 a], .agg #[.int .i64 j, .int .i64 o, .slice B g.len D]] W fun e w' => e = .returned (.bool q2) ∧ Below W.heap.size W w') := fun W h => by rw [hq2]; exact implValidExpr_any t a j o g (by omega) B D W (hl3.sees h)
  obtain ⟨r, hr⟩ : ∃ r, r = rp1 t a k n f xs j o g := ⟨_, rfl⟩
  have K3 : Hid (true = q1 → ∀ W : World, Sees w W → Calls Try.prog 49 #[.agg #[.int .i64 t, .int .i64 a], .agg #[.int .i64 k, .int .i64 n, .slice A f.len C], .slice P xs.length xs.length, .agg #[.int .i64 j, .int .i64 o, .slice B g.len D]] W (SEnd r.1 r.2.1 r.2.2.1 r.2.2.2 W)) := fun hv W h => by
    rw [hr]; exact replaceAt_any t a k n f xs hx j o g HWA hm (validE_parts0 (hq1.symm.trans hv.symm)) A C P B D W (hl.sees h) (hp.sees h) (hl3.sees h)
  have HRN : Hid (r.2.2.1.nodes ≤ 1048576) := by rw [hr]; exact rp1_nodes t a k n f xs j o g hm
  have HT : Hid (r.2.2.2 = 0 → treeE t a false r.1 r.2.1 r.2.2.1 = true) := by rw [hr]; exact rp1_tree
  have HZ : Hid (r.2.2.2 ≠ 0 → r.1 = 0 ∧ r.2.1 = 0 ∧ r.2.2.1 = .nil) := by rw [hr]; exact rp1_code
  obtain ⟨R, hR⟩ : ∃ R, R = rpO t a k n f xs j o g := ⟨_, rfl⟩
  rw [← hR]
  have HR : Hid (R = if q1 = true ∧ q2 = true then r else (0, 0, .nil, 1)) := by
    show _ = _
    rw [hR, hq1, hq2, hr]; rfl
  have HP := Lib.hid hp
  clear HWA hR hr hq1 hq2 hp hl hl3
  cases q1
  · have HRF : Hid (R = (0, 0, .nil, 1)) := HR.out.trans (if_neg (by simp))
    clear K2 K3 HR HT HZ HRN
    go_enter Try.func14, Try.ntmps14
    go_wp2_with fail
    refine (K1.out _ (by unfold Sees; go_grown)).mono ?_
    rintro e w1 ⟨rfl, hb⟩
    have H1 : Hid (St w [(w.heap.size, 0, .int .i64 t), (w.heap.size, 1, .int .i64 a), (w.heap.size + 1, 0, .int .i64 k), (w.heap.size + 1, 1, .int .i64 n), (w.heap.size + 1, 2, .slice A f.len C), (w.heap.size + 2, 0, .int .i64 j), (w.heap.size + 2, 1, .int .i64 o), (w.heap.size + 2, 2, .slice B g.len D)] w1) := St.below (l := [(w.heap.size, 0, .int .i64 t), (w.heap.size, 1, .int .i64 a), (w.heap.size + 1, 0, .int .i64 k), (w.heap.size + 1, 1, .int .i64 n), (w.heap.size + 1, 2, .slice A f.len C), (w.heap.size + 2, 0, .int .i64 j), (w.heap.size + 2, 1, .int .i64 o), (w.heap.size + 2, 2, .slice B g.len D)]) ⟨(by unfold Sees; go_grown), (by simp [go_sem]), (by simp [go_sem]), (by simp [go_sem]), (by simp [go_sem]), (by simp [go_sem]), (by simp [go_sem]), (by simp [go_sem]), (by simp [go_sem]), trivial⟩ hb
    have HBr : w1.heap[w.heap.size + 3]? = some (.cells #[.int .i64 0, .int .i64 0, .slice none 0 0] 31 (0, 0)) := (hb.block _ (by simp)).trans (heap_new _ _ _ (by simp))
    have zr : w.heap.size + 3 < w1.heap.size := (Array.getElem?_eq_some_iff.1 HBr).1
    clear hb
    obtain ⟨r0, r1, r2, g0, g1, g2⟩ := cells3 HBr
    obtain ⟨sS, s0, s1, s2, s3, s4, s5, s6, s7, _⟩ := H1.out
    go_wp2_with fail
    have HBF : (((w1.setCell ⟨w.heap.size + 3, 0, none⟩ (.int .i64 0)).setCell ⟨w.heap.size + 3, 1, none⟩ (.int .i64 0)).setCell ⟨w.heap.size + 3, 2, none⟩ (.slice none 0 0)).heap[w.heap.size + 3]? = some (.cells #[(.int .i64 0), (.int .i64 0), (.slice none 0 0)] 31 (0, 0)) := by
      rw [Fo.block_setCell (Fo.block_setCell (Fo.block_setCell HBr _) _) _]; rfl
    obtain ⟨d0, d1, d2, _⟩ := cells3 HBF
    refine bodyPost_ret (v := .tuple #[.agg #[(.int .i64 0), (.int .i64 0), (.slice none 0 0)], .int .i64 1]) (by simp [results, Try.results14, go_sem, d0, d1, d2]) rfl ?_
    rw [HRF.out]
    exact ⟨none, 0, rfl, Fo.XIn.nil (by simp; omega) _, Below.setCell (Below.setCell (Below.setCell sS (by show w.heap.size ≤ w.heap.size + 3; omega) _) (by show w.heap.size ≤ w.heap.size + 3; omega) _) (by show w.heap.size ≤ w.heap.size + 3; omega) _⟩
  · have K3b : Hid (∀ W : World, Sees w W → Calls Try.prog 49 #[.agg #[.int .i64 t, .int .i64 a], .agg #[.int .i64 k, .int .i64 n, .slice A f.len C], .slice P xs.length xs.length, .agg #[.int .i64 j, .int .i64 o, .slice B g.len D]] W (SEnd r.1 r.2.1 r.2.2.1 r.2.2.2 W)) := K3.out rfl
    clear K3
    go_enter Try.func14, Try.ntmps14
    go_wp2_with fail
    refine (K1.out _ (by unfold Sees; go_grown)).mono ?_
    rintro e w1 ⟨rfl, hb⟩
    have H1 : Hid (St w [(w.heap.size, 0, .int .i64 t), (w.heap.size, 1, .int .i64 a), (w.heap.size + 1, 0, .int .i64 k), (w.heap.size + 1, 1, .int .i64 n), (w.heap.size + 1, 2, .slice A f.len C), (w.heap.size + 2, 0, .int .i64 j), (w.heap.size + 2, 1, .int .i64 o), (w.heap.size + 2, 2, .slice B g.len D)] w1) := St.below (l := [(w.heap.size, 0, .int .i64 t), (w.heap.size, 1, .int .i64 a), (w.heap.size + 1, 0, .int .i64 k), (w.heap.size + 1, 1, .int .i64 n), (w.heap.size + 1, 2, .slice A f.len C), (w.heap.size + 2, 0, .int .i64 j), (w.heap.size + 2, 1, .int .i64 o), (w.heap.size + 2, 2, .slice B g.len D)]) ⟨(by unfold Sees; go_grown), (by simp [go_sem]), (by simp [go_sem]), (by simp [go_sem]), (by simp [go_sem]), (by simp [go_sem]), (by simp [go_sem]), (by simp [go_sem]), (by simp [go_sem]), trivial⟩ hb
    have HBr : w1.heap[w.heap.size + 3]? = some (.cells #[.int .i64 0, .int .i64 0, .slice none 0 0] 31 (0, 0)) := (hb.block _ (by simp)).trans (heap_new _ _ _ (by simp))
    clear hb
    obtain ⟨sS, s0, s1, s2, s3, s4, s5, s6, s7, _⟩ := H1.out
    have zr1 : w.heap.size + 3 < w1.heap.size := (Array.getElem?_eq_some_iff.1 HBr).1
    go_wp2_with fail
    refine (K2.out _ sS).mono ?_
    rintro e w2 ⟨rfl, hb⟩
    have H2 : Hid (St w [(w.heap.size, 0, .int .i64 t), (w.heap.size, 1, .int .i64 a), (w.heap.size + 1, 0, .int .i64 k), (w.heap.size + 1, 1, .int .i64 n), (w.heap.size + 1, 2, .slice A f.len C), (w.heap.size + 2, 0, .int .i64 j), (w.heap.size + 2, 1, .int .i64 o), (w.heap.size + 2, 2, .slice B g.len D)] w2) := H1.out.below hb
    have HBr2 := (hb.block _ zr1).trans HBr
    clear hb sS s0 s1 s2 s3 s4 s5 s6 s7 HBr H1
    have zr : w.heap.size + 3 < w2.heap.size := (Array.getElem?_eq_some_iff.1 HBr2).1
    obtain ⟨r0, r1, r2, g0, g1, g2⟩ := cells3 HBr2
    obtain ⟨sS, s0, s1, s2, s3, s4, s5, s6, s7, _⟩ := H2.out
    cases q2
    · have HRF : Hid (R = (0, 0, .nil, 1)) := HR.out.trans (if_neg (by simp))
      clear K3b HR HT HZ HRN
      go_wp2_with fail
      have HBF : (((w2.setCell ⟨w.heap.size + 3, 0, none⟩ (.int .i64 0)).setCell ⟨w.heap.size + 3, 1, none⟩ (.int .i64 0)).setCell ⟨w.heap.size + 3, 2, none⟩ (.slice none 0 0)).heap[w.heap.size + 3]? = some (.cells #[(.int .i64 0), (.int .i64 0), (.slice none 0 0)] 31 (0, 0)) := by
        rw [Fo.block_setCell (Fo.block_setCell (Fo.block_setCell HBr2 _) _) _]; rfl
      obtain ⟨d0, d1, d2, _⟩ := cells3 HBF
      refine bodyPost_ret (v := .tuple #[.agg #[(.int .i64 0), (.int .i64 0), (.slice none 0 0)], .int .i64 1]) (by simp [results, Try.results14, go_sem, d0, d1, d2]) rfl ?_
      rw [HRF.out]
      exact ⟨none, 0, rfl, Fo.XIn.nil (by simp; omega) _, Below.setCell (Below.setCell (Below.setCell sS (by show w.heap.size ≤ w.heap.size + 3; omega) _) (by show w.heap.size ≤ w.heap.size + 3; omega) _) (by show w.heap.size ≤ w.heap.size + 3; omega) _⟩
    · have HRr : Hid (R = r) := HR.out.trans (if_pos (by simp))
      clear HR
      go_wp2_with fail
      refine (K3b.out _ sS).mono ?_
      rintro e w3 ⟨A5, C5, rfl, hL5, hb⟩
      have HB3 := (hb.block _ zr).trans HBr2
      have S3 : Sees w w3 := sS.below hb
      have zr3 : w.heap.size + 3 < w3.heap.size := (Array.getElem?_eq_some_iff.1 HB3).1
      have zr3' : w.heap.size + 1 + 1 + 1 < w3.heap.size := zr3
      have HL := Lib.hid hL5
      obtain ⟨rk, hrk⟩ : ∃ x, x = r.1 := ⟨_, rfl⟩
      obtain ⟨rn, hrn⟩ : ∃ x, x = r.2.1 := ⟨_, rfl⟩
      obtain ⟨rf, hrf⟩ : ∃ x, x = r.2.2.1 := ⟨_, rfl⟩
      obtain ⟨rc, hrc⟩ : ∃ x, x = r.2.2.2 := ⟨_, rfl⟩
      have HRR : Hid (R = (rk, rn, rf, rc)) := by show _ = _; rw [HRr.out, hrk, hrn, hrf, hrc]
      rw [← hrf] at HL HRN
      rw [← hrk, ← hrn, ← hrf, ← hrc] at HT HZ
      rw [← hrk, ← hrn, ← hrf, ← hrc]
      clear hL5 hb r0 r1 r2 g0 g1 g2 s0 s1 s2 s3 s4 s5 s6 s7 hrk hrn hrf hrc HRr
      obtain ⟨r0, r1, r2, g0, g1, g2⟩ := cells3 HB3
      by_cases hz : rc = 0
      · subst hz
        have KO : Hid (∀ W : World, Sees w3 W → Calls Try.prog 50 #[.agg #[.int .i64 rk, .int .i64 rn, .slice A5 rf.len C5]] W (ExEnd rk rn rf W)) := fun W h =>
          copyExpr_any t a false rk rn rf HRN.out (HT.out rfl) A5 C5 W (HL.out.sees h)
        clear HT HZ
        go_wp2_with fail
        refine (KO.out _ ((Sees.refl w3).alloc _)).mono ?_
        rintro e w4 ⟨A1, rfl, hX, hb⟩
        have HB4 := (hb.block (w.heap.size + 3) (by simp; omega)).trans ((Below.heap_alloc _ _ _ (by omega)).trans HB3)
        have S4 : Sees w w4 := Sees.below (S3.alloc _) hb
        have z4 := hb.size
        simp only [World.size_alloc] at z4
        have HX := Lib.hid hX
        clear hX hb r0 r1 r2 g0 g1 g2
        obtain ⟨r0, r1, r2, g0, g1, g2⟩ := cells3 HB4
        go_wp2_with fail
        have HBF : (((w4.setCell ⟨w.heap.size + 3, 0, none⟩ (.int .i64 rk)).setCell ⟨w.heap.size + 3, 1, none⟩ (.int .i64 rn)).setCell ⟨w.heap.size + 3, 2, none⟩ (.slice A1 rf.len rf.len)).heap[w.heap.size + 3]? = some (.cells #[(.int .i64 rk), (.int .i64 rn), (.slice A1 rf.len rf.len)] 31 (0, 0)) := by
          rw [Fo.block_setCell (Fo.block_setCell (Fo.block_setCell HB4 _) _) _]; rfl
        obtain ⟨d0, d1, d2, _⟩ := cells3 HBF
        refine bodyPost_ret (v := .tuple #[.agg #[(.int .i64 rk), (.int .i64 rn), (.slice A1 rf.len rf.len)], .int .i64 0]) (by simp [results, Try.results14, go_sem, d0, d1, d2]) rfl ?_
        rw [HRR.out]
        refine ⟨A1, rf.len, rfl, ?_, Below.setCell (Below.setCell (Below.setCell S4 (by show w.heap.size ≤ w.heap.size + 3; omega) _) (by show w.heap.size ≤ w.heap.size + 3; omega) _) (by show w.heap.size ≤ w.heap.size + 3; omega) _⟩
        have hag : Fo.Agree w4 (((w4.setCell ⟨w.heap.size + 3, 0, none⟩ (.int .i64 rk)).setCell ⟨w.heap.size + 3, 1, none⟩ (.int .i64 rn)).setCell ⟨w.heap.size + 3, 2, none⟩ (.slice A1 rf.len rf.len)) (w3.heap.size + 1) w4.heap.size := fun y a c => put3_heap (b := w.heap.size + 3) (c := 0) y (by omega)
        exact (HX.out.agree (by simpa using hag)).mono (by simp; omega) (by simp)
      · have HRF : Hid (R = (0, 0, .nil, rc)) := by
          obtain ⟨e1, e2, e3⟩ := HZ.out hz
          show _ = _; rw [HRR.out, e1, e2, e3]
        clear HT HZ K3b
        go_wp2_with fail
        have HBp : (((w3.setCell ⟨w.heap.size + 3, 0, none⟩ (.int .i64 0)).setCell ⟨w.heap.size + 3, 1, none⟩ (.int .i64 0)).setCell ⟨w.heap.size + 3, 2, none⟩ (.slice none 0 0)).heap[w.heap.size + 3]? = some (.cells #[(.int .i64 0), (.int .i64 0), .slice none 0 0] 31 (0, 0)) := by
          rw [Fo.block_setCell (Fo.block_setCell (Fo.block_setCell HB3 _) _) _]; rfl
        have HBF : ((((w3.setCell ⟨w.heap.size + 3, 0, none⟩ (.int .i64 0)).setCell ⟨w.heap.size + 3, 1, none⟩ (.int .i64 0)).setCell ⟨w.heap.size + 3, 2, none⟩ (.slice none 0 0)).alloc (.cells #[.int .i64 rk, .int .i64 rn, .slice A5 rf.len C5] 31)).heap[w.heap.size + 3]? = some (.cells #[(.int .i64 0), (.int .i64 0), .slice none 0 0] 31 (0, 0)) :=
          (Below.heap_alloc _ _ _ (by simp; omega)).trans HBp
        obtain ⟨d0, d1, d2, _⟩ := cells3 HBF
        refine bodyPost_ret (v := .tuple #[.agg #[(.int .i64 0), (.int .i64 0), .slice none 0 0], .int .i64 rc]) (by simp [results, Try.results14, go_sem, d0, d1, d2]) rfl ?_
        rw [HRF.out]
        exact ⟨none, 0, rfl, Fo.XIn.nil (by simp; omega) _, Sees.alloc (Below.setCell (Below.setCell (Below.setCell S3 (by show w.heap.size ≤ w.heap.size + 3; omega) _) (by show w.heap.size ≤ w.heap.size + 3; omega) _) (by show w.heap.size ≤ w.heap.size + 3; omega) _) _⟩
end Go.Proofs.Ytlfafcbieeambaa

/- FnExactReplaceAt: for all arguments impl.ReplaceAt answers as the model does, changes none of them, and its answer owns its memory. No condition. -/
namespace Go.Proofs.Ytlfafcbieeambaa
open Go.RowKit Go.WideShapes Go.ChangeShapes Go.ChangeAt Go.Deep Go.WideElems
set_option linter.unusedVariables false


set_option maxRecDepth 100000 in
theorem replaceAt_lifted (os : Os) (started : os.Started) (H : Type) (enc : TypeId × Value → H) :
    ReturnsInHanded {} Try.checked os 3 .any (Rows.fnExactReplaceAtSpec.pre6 enc Try.prog Try.f3 Rows.fnExactReplaceAtRow.domain false) (Rows.fnExactReplaceAtSpec.post enc Try.prog Try.f3 false true false false) := by
  refine returnsInHanded_of_change (C := Try.checked) Try.own started (by kernel_rfl) Try.func3
    (ChangeSpec.witness6 (enc := enc) (C := Try.checked) false ⟨#[], #[.agg #[.int .i64 0, .int .i64 0], .agg #[.int .i64 0, .int .i64 0, .slice none 0 0], .slice none 0 0, .agg #[.int .i64 0, .int .i64 0, .slice none 0 0]], []⟩ 8 (by kernel_rfl) (by kernel_rfl) (by kernel_rfl) (by kernel_rfl)) ?_
  intro W base args ds gs before hval0 hW _ _
  have hval : ∀ (j : Nat) t v, Try.f3.params[j]? = some t → args[j]? = some v → Value.okWide Try.prog W .any base t v := hval0
  have hW' := hW
  obtain ⟨p, q, hA0, hV, rfl, _, _⟩ := hW
  have hA : DataW.TrodAll enc Try.prog W 0 (fun _ => true) true Try.f3.params.toList args.toList ds p := hA0
  rw [Try.params3] at hA hval
  obtain ⟨v0, v1, v2, v3, d0, d1, d2, d3, z0, z1, z2, z3, rfl, rfl, rfl, h0, h1, h2, h3⟩ := trodAll_four hA
  obtain ⟨rfl, rfl⟩ := trodVars_none hV
  obtain ⟨t0, a0, rfl, wt0, wa0⟩ := lsig_open (hval 0 23 v0 rfl rfl) h0
  obtain ⟨k1, n1, f1, A1, C1, rfl, hl1, hm1, hf1, wk1, wn1⟩ := lexpr_open (hval 1 26 v1 rfl rfl) h1
  obtain ⟨p2, A2, C2, rfl, hl2, hm2, hw2⟩ := lints_open (hval 2 27 v2 rfl rfl) h2
  obtain ⟨k3, n3, f3, A3, C3, rfl, hl3, hm3, hf3, wk3, wn3⟩ := lexpr_open (hval 3 26 v3 rfl rfl) h3
  clear hA0 hval0
  refine (lawReplaceAt t0 a0 f1 k1 n1 A1 C1 p2 A2 C2 f3 k3 n3 A3 C3 (fun h0 _ => rpF_nodes t0 a0 k1 n1 f1 p2 k3 n3 f3 h0) (fun h0 hp W Z1 Z2 Z3 h h' h3 => specReplaceAt_any t0 a0 k1 n1 f1 p2 hp k3 n3 f3 h0 Z1 _ Z2 _ Z3 _ W h h' h3) (fun h0 hp W Z1 Z2 Z3 h h' h3 => implReplaceAt_any t0 a0 k1 n1 f1 p2 hp k3 n3 f3 (fun s E xs => withAt_any t0 a0 k3 n3 f3 s E xs) h0 Z1 _ Z2 Z3 _ W h h' h3) W hm1 hf1 hl1 hm2 hl2 hm3 hf3 hl3).mono fun e W' ⟨he, hb⟩ => ?_
  subst he
  exact ⟨_, rfl, law_end Try.laidOut Try.underlying4 rfl (by kernel_rfl) (by rw [Try.params3]; intro t ht; simp at ht; rcases ht with rfl | rfl | rfl | rfl <;> exact ⟨by kernel_rfl, of_decide_eq_true (by kernel_rfl)⟩) rfl rfl rfl hW' hb⟩

theorem replaceAt_holds : Rows.FnExactReplaceAtSaid :=
  OpenClaim.holds_of_wide 3 Try.f3 rfl rfl rfl rfl rfl rfl rfl ⟨rfl, rfl, rfl, rfl, rfl⟩ rfl rfl rfl rfl rfl (by kernel_rfl) Try.func3 (by kernel_rfl)
    (of_decide_eq_true (by kernel_rfl)) (by unfold Func.isWrapper; first | (rw [if_pos (by decide +kernel)]; kernel_rfl) | (rw [if_neg (by decide +kernel)]; exact ⟨rfl, rfl⟩))
    (fun os started H enc _ => replaceAt_lifted os started H enc)

#print axioms replaceAt_holds
end Go.Proofs.Ytlfafcbieeambaa
