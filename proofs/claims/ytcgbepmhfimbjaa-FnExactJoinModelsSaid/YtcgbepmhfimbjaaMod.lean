/- Model in the laws: size, copy, comparison. -/
import Derived.Test.YtcgbepmhfimbjaaLayB
import Derived.Test.YtcgbepmhfimbjaaAutT
namespace Go.Proofs.Ytcgbepmhfimbjaa
open Go.RowKit

/-- How much a model counts. -/
def modN (ac : List (List Bool)) (nx : List (List (List Bool))) : Nat := tot List.length ac + tot (tot List.length) nx
/-- Its lists' lengths are numbers of the machine. -/
def FitM (ac : List (List Bool)) (nx : List (List (List Bool))) : Prop :=
  ac.length ≤ 9223372036854775807 ∧ (∀ x ∈ ac, x.length ≤ 9223372036854775807) ∧ nx.length ≤ 9223372036854775807 ∧ ∀ x ∈ nx, x.length ≤ 9223372036854775807 ∧ ∀ y ∈ x, y.length ≤ 9223372036854775807
/-- Its lists are small. -/
def SmallM (ac : List (List Bool)) (nx : List (List (List Bool))) : Prop :=
  ac.length ≤ 1048576 ∧ (∀ x ∈ ac, x.length ≤ 1048576) ∧ nx.length ≤ 1048576 ∧ ∀ x ∈ nx, x.length ≤ 1048576 ∧ ∀ y ∈ x, y.length ≤ 1048576
theorem modN_small {ac : List (List Bool)} {nx : List (List (List Bool))} (h : modN ac nx ≤ 1048576) : SmallM ac nx := by
  unfold modN at h
  refine ⟨?_, fun x hx => ?_, ?_, fun x hx => ⟨?_, fun y hy => ?_⟩⟩
  · have := tot_len (f := List.length) (xs := ac); omega
  · have := tot_ge (f := List.length) hx; omega
  · have := tot_len (f := tot List.length) (xs := nx); omega
  · have := tot_ge (f := tot List.length) hx
    have := tot_len (f := List.length) (xs := x)
    omega
  · have := tot_ge (f := tot List.length) hx
    have := tot_ge (f := List.length) hy
    omega
theorem BBB.below {w w' : World} {x : List (List (List Bool))} {A : Option Addr} (h : BBB 0 w x A) (hb : Below w.heap.size w w') : BBB 0 w' x A := bbb_ok.below h hb
theorem BBB.drew {w : World} {x : List (List (List Bool))} {A : Option Addr} (h : BBB 0 w x A) : BBB 0 w.drew x A := bbb_ok.drew h
theorem BBB.dbelow {w w' : World} {x : List (List (List Bool))} {A : Option Addr} (h : BBB 0 w x A) (hb : Below w.drew.heap.size w.drew w') : BBB 0 w' x A := bbb_ok.below (bbb_ok.drew h) hb
theorem BBB.alloc {w : World} {x : List (List (List Bool))} {A : Option Addr} (h : BBB 0 w x A) (o : Obj) : BBB 0 (w.alloc o) x A := bbb_ok.alloc h o
theorem BBB.sees {w W : World} {x : List (List (List Bool))} {A : Option Addr} (h : BBB 0 w x A) (hs : Sees w W) : BBB 0 W x A := bbb_ok.below h hs
theorem five_facts {W : World} {b : Nat} {T : TypeId} {u0 u1 u2 u3 u4 : Value} (h : W.heap[b]? = some (.cells #[u0, u1, u2, u3, u4] T (0, 0))) :
    W.cell? ⟨b, 0, none⟩ = some u0 ∧ W.cell? ⟨b, 1, none⟩ = some u1 ∧ W.cell? ⟨b, 2, none⟩ = some u2 ∧ W.cell? ⟨b, 3, none⟩ = some u3 ∧ W.cell? ⟨b, 4, none⟩ = some u4 ∧ W.frozen? ⟨b, 0, none⟩ = false ∧ W.frozen? ⟨b, 1, none⟩ = false ∧ W.frozen? ⟨b, 2, none⟩ = false ∧ W.frozen? ⟨b, 3, none⟩ = false ∧ W.frozen? ⟨b, 4, none⟩ = false :=
  ⟨Fo.cell_of_block h 0, Fo.cell_of_block h 1, Fo.cell_of_block h 2, Fo.cell_of_block h 3, Fo.cell_of_block h 4, Fo.unfrozen_of_block h 0, Fo.unfrozen_of_block h 1, Fo.unfrozen_of_block h 2, Fo.unfrozen_of_block h 3, Fo.unfrozen_of_block h 4⟩

set_option maxHeartbeats 1000000 in
set_option maxRecDepth 100000 in
theorem szModel_any (t a p : Int) (ac : List (List Bool)) (nx : List (List (List Bool))) (hf : FitM ac nx) (l : Int) (A B : Option Addr) (C D : Nat) (w : World) (hA : BB 0 w ac A) (hB : BBB 0 w nx B) (h1 : -1 ≤ l) (h2 : l ≤ 1048576) :
    Calls Try.prog 10 #[.agg #[.int .i64 t, .int .i64 a, .int .i64 p, .slice A ac.length C, .slice B nx.length D], .int .i64 l] w fun e w' => e = .returned (.int .i64 (szR (modN ac nx) l)) ∧ Below w.heap.size w w' := by
  obtain ⟨f1, f2, f3, f4⟩ := hf
  obtain ⟨z, hz⟩ : ∃ z : Int, Hid (z = szR (tot List.length ac) l) := ⟨_, rfl⟩
  have K1 : Hid (∀ W : World, Sees w W → Calls Try.prog 59 #[.slice A ac.length C, .int .i64 l] W fun e w' => e = .returned (.int .i64 z) ∧ Below W.heap.size W w') := fun W h => by
    rw [hz.out]
    exact szBoolSS_any ac f1 f2 l A C W (bb_ok.below hA h) h1 h2
  by_cases hx : l < tot List.length ac
  · have hz1 : Hid (z = -1) := by show _ = _; rw [hz.out, szR_neg hx]
    have hzz : z < 0 := by rw [hz1.out]; omega
    have H : Hid (szR (modN ac nx) l = -1) := szR_neg (by unfold modN; omega)
    go_enter Try.func10, Try.ntmps10
    go_wp2_with fail
    refine (K1.out _ (by unfold Sees; go_grown)).mono ?_
    rintro e w1 ⟨rfl, hb⟩
    have B1 : Sees w w1 := Sees.below (by unfold Sees; go_grown) hb
    clear hb
    go_wp2_with fail
    go_ret
    exact ⟨ret_int H.out.symm, B1⟩
  · have hzv : z = l - (tot List.length ac : Nat) := by rw [hz.out, szR_pos (by omega)]
    have hz0 : 0 ≤ z := by omega
    have hz1 : z ≤ 1048576 := by omega
    have hzz : ¬ z < 0 := by omega
    obtain ⟨y, hy⟩ : ∃ y : Int, Hid (y = szR (tot (tot List.length) nx) z) := ⟨_, rfl⟩
    have H : Hid (szR (modN ac nx) l = y) := by
      show _ = _
      rw [hy.out]
      unfold szR modN
      split <;> split <;> omega
    have K2 : Hid (∀ W : World, Sees w W → Calls Try.prog 60 #[.slice B nx.length D, .int .i64 z] W fun e w' => e = .returned (.int .i64 y) ∧ Below W.heap.size W w') := fun W h => by
      rw [hy.out]
      exact szBoolSSS_any nx f3 f4 z B D W (bbb_ok.below hB h) (by omega) hz1
    have H2 : Hid (y < 0 → y = -1) := by
      intro h
      rw [hy.out] at h ⊢
      unfold szR at h ⊢
      split <;> simp_all <;> omega
    clear hzv
    by_cases hyy : y < 0
    all_goals
      go_enter Try.func10, Try.ntmps10
      go_wp2_with fail
      refine (K1.out _ (by unfold Sees; go_grown)).mono ?_
      rintro e w1 ⟨rfl, hb⟩
      have B1 : Sees w w1 := Sees.below (by unfold Sees; go_grown) hb
      have x4 : w1.cell? ⟨w.heap.size, 4, none⟩ = some (.slice B nx.length D) := kc hb (by simp [go_sem])
      clear hb
      go_wp2_with fail
      refine (K2.out _ B1).mono ?_
      rintro e w2 ⟨rfl, hb⟩
      have B2 : Sees w w2 := B1.below hb
      clear hb B1 x4
      go_wp2_with fail
      go_ret
      first | exact ⟨ret_int H.out.symm, B2⟩ | exact ⟨ret_int (by rw [H.out, H2.out hyy]), B2⟩

set_option maxHeartbeats 2000000 in
set_option maxRecDepth 100000 in
theorem toModel_any (t a p : Int) (ac : List (List Bool)) (nx : List (List (List Bool))) (hs : SmallM ac nx) (A B : Option Addr) (C D : Nat) (w : World) (hA : BB 0 w ac A) (hB : BBB 0 w nx B) :
    Calls Try.prog 12 #[.agg #[.int .i64 t, .int .i64 a, .int .i64 p, .slice A ac.length C, .slice B nx.length D]] w fun e w' => ∃ Z Y, e = .returned (.agg #[.int .i64 t, .int .i64 a, .int .i64 p, .slice Z ac.length ac.length, .slice Y nx.length nx.length]) ∧ BB 0 w' ac Z ∧ BBB 0 w' nx Y ∧ Below w.heap.size w w' := by
  obtain ⟨f1, f2, f3, f4⟩ := hs
  have K0 : Hid (∀ W : World, Calls Try.prog 20 #[.agg #[.int .i64 t, .int .i64 a]] W fun e w' => e = .returned (.agg #[.int .i64 t, .int .i64 a]) ∧ Below W.heap.size W w') := fun W => toSig_any t a W
  have K1 : Hid (∀ W : World, Sees w W → Calls Try.prog 63 #[.slice A ac.length C] W fun e w' => ∃ A', e = .returned (.slice A' ac.length ac.length) ∧ BB W.heap.size w' ac A' ∧ Below W.heap.size W w') := fun W h => toBoolSS_any ac f1 f2 A C W (bb_ok.below hA h)
  have K2 : Hid (∀ W : World, Sees w W → Calls Try.prog 64 #[.slice B nx.length D] W fun e w' => ∃ A', e = .returned (.slice A' nx.length nx.length) ∧ BBB W.heap.size w' nx A' ∧ Below W.heap.size W w') := fun W h => toBoolSSS_any nx f3 f4 B D W (bbb_ok.below hB h)
  clear f1 f2 f3 f4 hA hB
  go_enter Try.func12, Try.ntmps12
  go_wp2_with fail
  refine (K0.out _).mono ?_
  rintro e w1 ⟨rfl, hb⟩
  have B1 : Sees w w1 := Sees.below (by unfold Sees; go_grown) hb
  have k0 : w1.heap[w.heap.size]? = some (.cells #[.int .i64 t, .int .i64 a, .int .i64 p, .slice A ac.length C, .slice B nx.length D] 27 (0, 0)) := by
    refine (hb.block _ (by simp; omega)).trans ?_
    exact (Below.heap_alloc _ _ _ (by simp; omega)).trans ((Below.heap_alloc _ _ _ (by simp)).trans (heap_new _ _ _ (by simp)))
  have k1 : w1.heap[w.heap.size + 1]? = some (.cells #[.int .i64 0, .int .i64 0, .int .i64 0, .slice none 0 0, .slice none 0 0] 31 (0, 0)) := by
    refine (hb.block _ (by simp; try omega)).trans ?_
    exact (Below.heap_alloc _ _ _ (by simp)).trans (heap_new _ _ _ (by simp))
  have k2 : w1.heap[w.heap.size + 1 + 1]? = some (.cells #[.int .i64 0, .int .i64 0, .int .i64 0, .slice none 0 0, .slice none 0 0] 31 (0, 0)) := by
    refine (hb.block _ (by simp)).trans ?_
    exact heap_new _ _ _ (by simp)
  have z1 : w.heap.size + 1 + 1 < w1.heap.size := by have := hb.size; simp at this; omega
  have HB1 := Lib.hid B1; have HK0 := Lib.hid k0; have HK1 := Lib.hid k1; have HK2 := Lib.hid k2; have HZ1 := Lib.hid z1
  obtain ⟨p0, p1, p2, p3, p4, _, _, _, _, _⟩ := five_facts k0
  obtain ⟨q0, q1, q2, q3, q4, g0, g1, g2, g3, g4⟩ := five_facts k2
  clear hb B1 k0 k1 k2 z1
  go_wp2_with fail
  clear p0 p1 p2 p3 p4 q0 q1 q2 q3 q4 g0 g1 g2 g3 g4
  -- the first fields are stored
  have B2 : Sees w (((w1.setCell ⟨w.heap.size + 1 + 1, 0, none⟩ (.int .i64 t)).setCell ⟨w.heap.size + 1 + 1, 1, none⟩ (.int .i64 a)).setCell ⟨w.heap.size + 1 + 1, 2, none⟩ (.int .i64 p)) := (Sees.set (b := w.heap.size + 1 + 1) (i := 2) (Sees.set (b := w.heap.size + 1 + 1) (i := 1) (Sees.set (b := w.heap.size + 1 + 1) (i := 0) HB1.out (by omega) (.int .i64 t)) (by omega) (.int .i64 a)) (by omega) (.int .i64 p))
  have k0 := (box_other (b := w.heap.size + 1 + 1) (i := 2) (box_other (b := w.heap.size + 1 + 1) (i := 1) (box_other (b := w.heap.size + 1 + 1) (i := 0) HK0.out (by omega) (.int .i64 t)) (by omega) (.int .i64 a)) (by omega) (.int .i64 p))
  have k1 := (box_other (b := w.heap.size + 1 + 1) (i := 2) (box_other (b := w.heap.size + 1 + 1) (i := 1) (box_other (b := w.heap.size + 1 + 1) (i := 0) HK1.out (by omega) (.int .i64 t)) (by omega) (.int .i64 a)) (by omega) (.int .i64 p))
  have k2 : (((w1.setCell ⟨w.heap.size + 1 + 1, 0, none⟩ (.int .i64 t)).setCell ⟨w.heap.size + 1 + 1, 1, none⟩ (.int .i64 a)).setCell ⟨w.heap.size + 1 + 1, 2, none⟩ (.int .i64 p)).heap[w.heap.size + 1 + 1]? = some (.cells #[.int .i64 t, .int .i64 a, .int .i64 p, .slice none 0 0, .slice none 0 0] 31 (0, 0)) := by
    rw [Fo.block_setCell (Fo.block_setCell (Fo.block_setCell HK2.out _) _) _]
    rfl
  have z2 : w.heap.size + 1 + 1 < (((w1.setCell ⟨w.heap.size + 1 + 1, 0, none⟩ (.int .i64 t)).setCell ⟨w.heap.size + 1 + 1, 1, none⟩ (.int .i64 a)).setCell ⟨w.heap.size + 1 + 1, 2, none⟩ (.int .i64 p)).heap.size := by simpa using HZ1.out
  generalize (((w1.setCell ⟨w.heap.size + 1 + 1, 0, none⟩ (.int .i64 t)).setCell ⟨w.heap.size + 1 + 1, 1, none⟩ (.int .i64 a)).setCell ⟨w.heap.size + 1 + 1, 2, none⟩ (.int .i64 p)) = w2 at B2 k0 k1 k2 z2 ⊢
  refine (K1.out _ B2).mono ?_
  rintro e w3 ⟨Z, rfl, hQ, hb⟩
  have HB3 := Lib.hid (B2.below hb)
  have HK3 := Lib.hid ((hb.block _ (by omega)).trans k0)
  have HK4 := Lib.hid ((hb.block _ (by omega)).trans k1)
  have HK5 := Lib.hid ((hb.block _ z2).trans k2)
  have HZ3 := Lib.hid (Nat.lt_of_lt_of_le z2 hb.size)
  have HQ3 := Lib.hid (bb_ok.mono hQ (lo' := w.heap.size + 1 + 1 + 1) z2)
  clear hQ hb B2 k0 k1 k2 z2 HB1 HK0 HK1 HK2 HZ1
  obtain ⟨p0, p1, p2, p3, p4, _, _, _, _, _⟩ := five_facts HK3.out
  obtain ⟨q0, q1, q2, q3, q4, g0, g1, g2, g3, g4⟩ := five_facts HK5.out
  go_wp2_with fail
  clear p0 p1 p2 p3 p4 q0 q1 q2 q3 q4 g0 g1 g2 g3 g4
  have B4 : Sees w (w3.setCell ⟨w.heap.size + 1 + 1, 3, none⟩ (.slice Z ac.length ac.length)) := Sees.set HB3.out (by omega) _
  have k1 := box_other (b := w.heap.size + 1 + 1) (i := 3) HK4.out (by omega) (.slice Z ac.length ac.length)
  have k2 : (w3.setCell ⟨w.heap.size + 1 + 1, 3, none⟩ (.slice Z ac.length ac.length)).heap[w.heap.size + 1 + 1]? = some (.cells #[.int .i64 t, .int .i64 a, .int .i64 p, .slice Z ac.length ac.length, .slice none 0 0] 31 (0, 0)) := by
    rw [Fo.block_setCell HK5.out _]
    rfl
  have z4 : w.heap.size + 1 + 1 < (w3.setCell ⟨w.heap.size + 1 + 1, 3, none⟩ (.slice Z ac.length ac.length)).heap.size := by simpa using HZ3.out
  have hQ4 := bb_ok.set (b := w.heap.size + 1 + 1) (i := 3) HQ3.out (by omega) (.slice Z ac.length ac.length)
  generalize w3.setCell ⟨w.heap.size + 1 + 1, 3, none⟩ (.slice Z ac.length ac.length) = w4 at B4 k1 k2 z4 hQ4 ⊢
  refine (K2.out _ B4).mono ?_
  rintro e w5 ⟨Y, rfl, hR, hb⟩
  have HB5 := Lib.hid (B4.below hb)
  have HK6 := Lib.hid ((hb.block _ (by omega)).trans k1)
  have HK7 := Lib.hid ((hb.block _ z4).trans k2)
  have HQ5 := Lib.hid (bb_ok.below hQ4 hb)
  have HR5 := Lib.hid (bbb_ok.mono hR (lo' := w.heap.size + 1 + 1 + 1) z4)
  clear hQ4 hR hb B4 k1 k2 z4 HB3 HK3 HK4 HK5 HZ3 HQ3
  obtain ⟨p0, p1, p2, p3, p4, r0, r1, r2, r3, r4⟩ := five_facts HK6.out
  obtain ⟨q0, q1, q2, q3, q4, g0, g1, g2, g3, g4⟩ := five_facts HK7.out
  go_wp2_with fail
  have Bf : Sees w ((((((w5.setCell ⟨w.heap.size + 1 + 1, 4, none⟩ (.slice Y nx.length nx.length)).setCell ⟨w.heap.size + 1, 0, none⟩ (.int .i64 t)).setCell ⟨w.heap.size + 1, 1, none⟩ (.int .i64 a)).setCell ⟨w.heap.size + 1, 2, none⟩ (.int .i64 p)).setCell ⟨w.heap.size + 1, 3, none⟩ (.slice Z ac.length ac.length)).setCell ⟨w.heap.size + 1, 4, none⟩ (.slice Y nx.length nx.length)) := (Sees.set (b := w.heap.size + 1) (i := 4) (Sees.set (b := w.heap.size + 1) (i := 3) (Sees.set (b := w.heap.size + 1) (i := 2) (Sees.set (b := w.heap.size + 1) (i := 1) (Sees.set (b := w.heap.size + 1) (i := 0) (Sees.set (b := w.heap.size + 1 + 1) (i := 4) HB5.out (by omega) (.slice Y nx.length nx.length)) (by omega) (.int .i64 t)) (by omega) (.int .i64 a)) (by omega) (.int .i64 p)) (by omega) (.slice Z ac.length ac.length)) (by omega) (.slice Y nx.length nx.length))
  have Qf : BB (w.heap.size + 1 + 1 + 1) ((((((w5.setCell ⟨w.heap.size + 1 + 1, 4, none⟩ (.slice Y nx.length nx.length)).setCell ⟨w.heap.size + 1, 0, none⟩ (.int .i64 t)).setCell ⟨w.heap.size + 1, 1, none⟩ (.int .i64 a)).setCell ⟨w.heap.size + 1, 2, none⟩ (.int .i64 p)).setCell ⟨w.heap.size + 1, 3, none⟩ (.slice Z ac.length ac.length)).setCell ⟨w.heap.size + 1, 4, none⟩ (.slice Y nx.length nx.length)) ac Z := (bb_ok.set (b := w.heap.size + 1) (i := 4) (bb_ok.set (b := w.heap.size + 1) (i := 3) (bb_ok.set (b := w.heap.size + 1) (i := 2) (bb_ok.set (b := w.heap.size + 1) (i := 1) (bb_ok.set (b := w.heap.size + 1) (i := 0) (bb_ok.set (b := w.heap.size + 1 + 1) (i := 4) HQ5.out (by omega) (.slice Y nx.length nx.length)) (by omega) (.int .i64 t)) (by omega) (.int .i64 a)) (by omega) (.int .i64 p)) (by omega) (.slice Z ac.length ac.length)) (by omega) (.slice Y nx.length nx.length))
  have Rf : BBB (w.heap.size + 1 + 1 + 1) ((((((w5.setCell ⟨w.heap.size + 1 + 1, 4, none⟩ (.slice Y nx.length nx.length)).setCell ⟨w.heap.size + 1, 0, none⟩ (.int .i64 t)).setCell ⟨w.heap.size + 1, 1, none⟩ (.int .i64 a)).setCell ⟨w.heap.size + 1, 2, none⟩ (.int .i64 p)).setCell ⟨w.heap.size + 1, 3, none⟩ (.slice Z ac.length ac.length)).setCell ⟨w.heap.size + 1, 4, none⟩ (.slice Y nx.length nx.length)) nx Y := (bbb_ok.set (b := w.heap.size + 1) (i := 4) (bbb_ok.set (b := w.heap.size + 1) (i := 3) (bbb_ok.set (b := w.heap.size + 1) (i := 2) (bbb_ok.set (b := w.heap.size + 1) (i := 1) (bbb_ok.set (b := w.heap.size + 1) (i := 0) (bbb_ok.set (b := w.heap.size + 1 + 1) (i := 4) HR5.out (by omega) (.slice Y nx.length nx.length)) (by omega) (.int .i64 t)) (by omega) (.int .i64 a)) (by omega) (.int .i64 p)) (by omega) (.slice Z ac.length ac.length)) (by omega) (.slice Y nx.length nx.length))
  have kf : ((((((w5.setCell ⟨w.heap.size + 1 + 1, 4, none⟩ (.slice Y nx.length nx.length)).setCell ⟨w.heap.size + 1, 0, none⟩ (.int .i64 t)).setCell ⟨w.heap.size + 1, 1, none⟩ (.int .i64 a)).setCell ⟨w.heap.size + 1, 2, none⟩ (.int .i64 p)).setCell ⟨w.heap.size + 1, 3, none⟩ (.slice Z ac.length ac.length)).setCell ⟨w.heap.size + 1, 4, none⟩ (.slice Y nx.length nx.length)).heap[w.heap.size + 1]? = some (.cells #[.int .i64 t, .int .i64 a, .int .i64 p, .slice Z ac.length ac.length, .slice Y nx.length nx.length] 31 (0, 0)) := (Fo.block_setCell (Fo.block_setCell (Fo.block_setCell (Fo.block_setCell (Fo.block_setCell (box_other (b := w.heap.size + 1 + 1) (i := 4) HK6.out (by omega) (.slice Y nx.length nx.length)) (.int .i64 t)) (.int .i64 a)) (.int .i64 p)) (.slice Z ac.length ac.length)) (.slice Y nx.length nx.length))
  generalize ((((((w5.setCell ⟨w.heap.size + 1 + 1, 4, none⟩ (.slice Y nx.length nx.length)).setCell ⟨w.heap.size + 1, 0, none⟩ (.int .i64 t)).setCell ⟨w.heap.size + 1, 1, none⟩ (.int .i64 a)).setCell ⟨w.heap.size + 1, 2, none⟩ (.int .i64 p)).setCell ⟨w.heap.size + 1, 3, none⟩ (.slice Z ac.length ac.length)).setCell ⟨w.heap.size + 1, 4, none⟩ (.slice Y nx.length nx.length)) = j at Bf Qf Rf kf ⊢
  clear p0 p1 p2 p3 p4 r0 r1 r2 r3 r4 q0 q1 q2 q3 q4 g0 g1 g2 g3 g4
  obtain ⟨p0, p1, p2, p3, p4, _, _, _, _, _⟩ := five_facts kf
  refine bodyPost_ret (v := .agg #[.int .i64 t, .int .i64 a, .int .i64 p, .slice Z ac.length ac.length, .slice Y nx.length nx.length]) (by simp [results, Try.results12, go_sem, p0, p1, p2, p3, p4]) rfl ⟨Z, Y, rfl, bb_ok.mono Qf (Nat.zero_le _), bbb_ok.mono Rf (Nat.zero_le _), Bf⟩

set_option maxHeartbeats 1000000 in
set_option maxRecDepth 100000 in
theorem eqModel_same (t a p : Int) (ac : List (List Bool)) (nx : List (List (List Bool))) (hs : FitM ac nx) (A B A' B' : Option Addr) (C D C' D' : Nat) (w : World) (hA : BB 0 w ac A) (hB : BBB 0 w nx B) (hA' : BB 0 w ac A') (hB' : BBB 0 w nx B') :
    Calls Try.prog 14 #[.agg #[.int .i64 t, .int .i64 a, .int .i64 p, .slice A ac.length C, .slice B nx.length D], .agg #[.int .i64 t, .int .i64 a, .int .i64 p, .slice A' ac.length C', .slice B' nx.length D']] w fun e w' => e = .returned (.bool true) ∧ Below w.heap.size w w' := by
  obtain ⟨f1, f2, f3, f4⟩ := hs
  have K0 : Hid (∀ W : World, Calls Try.prog 68 #[.agg #[.int .i64 t, .int .i64 a], .agg #[.int .i64 t, .int .i64 a]] W fun e w' => e = .returned (.bool true) ∧ Below W.heap.size W w') := fun W => eqSig_same t a W
  have K1 : Hid (∀ W : World, Sees w W → Calls Try.prog 69 #[.slice A ac.length C, .slice A' ac.length C'] W fun e w' => e = .returned (.bool true) ∧ Below W.heap.size W w') := fun W h => eqBoolSS_same ac f1 f2 A A' C C' W (bb_ok.below hA h) (bb_ok.below hA' h)
  have K2 : Hid (∀ W : World, Sees w W → Calls Try.prog 70 #[.slice B nx.length D, .slice B' nx.length D'] W fun e w' => e = .returned (.bool true) ∧ Below W.heap.size W w') := fun W h => eqBoolSSS_same nx f3 f4 B B' D D' W (bbb_ok.below hB h) (bbb_ok.below hB' h)
  clear f1 f2 f3 f4 hA hB hA' hB'
  have np : (p != p) = false := by simp
  go_enter Try.func14, Try.ntmps14
  go_wp2_with fail
  refine (K0.out _).mono ?_
  rintro e w1 ⟨rfl, hb⟩
  have S1 : Hid (St w [(w.heap.size, 2, .int .i64 p), (w.heap.size, 3, .slice A ac.length C), (w.heap.size, 4, .slice B nx.length D), (w.heap.size + 1, 2, .int .i64 p), (w.heap.size + 1, 3, .slice A' ac.length C'), (w.heap.size + 1, 4, .slice B' nx.length D')] w1) :=
    St.below ⟨(by unfold Sees; go_grown), (by simp [go_sem]), (by simp [go_sem]), (by simp [go_sem]), (by simp [go_sem]), (by simp [go_sem]), (by simp [go_sem]), trivial⟩ hb
  clear hb
  obtain ⟨_, x0, x1, x2, x3, x4, x5, _⟩ := S1.out
  go_wp2_with fail
  clear x0 x1 x2 x3 x4 x5
  refine (K1.out _ S1.out.1).mono ?_
  rintro e w2 ⟨rfl, hb⟩
  have S2 := Lib.hid (S1.out.below hb)
  clear hb S1
  obtain ⟨_, x0, x1, x2, x3, x4, x5, _⟩ := S2.out
  go_wp2_with fail
  clear x0 x1 x2 x3 x4 x5
  refine (K2.out _ S2.out.1).mono ?_
  rintro e w3 ⟨rfl, hb⟩
  have S3 := Lib.hid (S2.out.below hb)
  clear hb S2
  go_wp2_with fail
  go_ret
  exact ⟨rfl, S3.out.1⟩
end Go.Proofs.Ytcgbepmhfimbjaa
