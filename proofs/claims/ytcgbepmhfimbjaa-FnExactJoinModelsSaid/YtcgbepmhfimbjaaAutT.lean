/- Automata in the laws: the copy, the comparison. -/
import Derived.Test.YtcgbepmhfimbjaaAut
namespace Go.Proofs.Ytcgbepmhfimbjaa
open Go.RowKit

/-- Its lists are small. -/
def SmallA (ac : List (List Bool)) (nx : List (List (List Int))) : Prop :=
  ac.length ≤ 1048576 ∧ (∀ x ∈ ac, x.length ≤ 1048576) ∧ nx.length ≤ 1048576 ∧ ∀ x ∈ nx, x.length ≤ 1048576 ∧ ∀ y ∈ x, y.length ≤ 1048576
theorem sum_ge {α : Type} (f : α → Nat) : ∀ (xs : List α) (x : α), x ∈ xs → f x ≤ (xs.map f).sum
  | [], _, h => absurd h (by simp)
  | y :: ys, x, h => by
    simp only [List.map_cons, List.sum_cons]
    rcases List.mem_cons.1 h with rfl | h
    · omega
    · have := sum_ge f ys x h
      omega
theorem tot_ge {α : Type} {f : α → Nat} {xs : List α} {x : α} (h : x ∈ xs) : f x ≤ tot f xs := by
  have := sum_ge f xs x h
  unfold tot
  omega
theorem tot_len {α : Type} {f : α → Nat} {xs : List α} : xs.length ≤ tot f xs := by unfold tot; omega
theorem autN_small {ac : List (List Bool)} {nx : List (List (List Int))} (h : autN ac nx ≤ 1048576) : SmallA ac nx := by
  unfold autN at h
  refine ⟨?_, fun x hx => ?_, ?_, fun x hx => ⟨?_, fun y hy => ?_⟩⟩
  · have := tot_len (f := List.length) (xs := ac); omega
  · have := tot_ge (f := List.length) hx; omega
  · have := tot_len (f := tot List.length) (xs := nx); omega
  · have := tot_ge (f := tot List.length) hx
    have := tot_len (f := List.length) (xs := x)
    omega
  · have := tot_ge (f := tot List.length) hx
    have := tot_ge (f := List.length) hy
    omega

theorem box_other {W : World} {b b' i : Nat} {o : Obj} (k : W.heap[b']? = some o) (h : b' ≠ b) (v : Value) : (W.setCell ⟨b, i, none⟩ v).heap[b']? = some o :=
  ((Fo.Agree.setCell (Fo.Agree.refl W b' (b' + 1)) ⟨b, i, none⟩ (by show b < b' ∨ b' + 1 ≤ b; omega) v) b' (Nat.le_refl _) (Nat.lt_succ_self _)).trans k
theorem Sees.set {w W : World} (h : Sees w W) {b i : Nat} (hb : w.heap.size ≤ b) (v : Value) : Sees w (W.setCell ⟨b, i, none⟩ v) := Below.setCell h hb v
theorem LayOk.set {α : Type} {Q : Nat → World → α → Option Addr → Prop} (hQ : LayOk Q) {lo b i : Nat} {w : World} {x : α} {A : Option Addr} (h : Q lo w x A) (hb : b < lo) (v : Value) : Q lo (w.setCell ⟨b, i, none⟩ v) x A :=
  hQ.later h fun b' o hl _ => World.cell?_setCell_other (w := w) (a := ⟨b, i, none⟩) (b := ⟨b', o, none⟩) (v := v) (h := fun he => by have := congrArg Addr.block he; simp only at this; omega)
theorem four_facts {W : World} {b : Nat} {T : TypeId} {u0 u1 u2 u3 : Value} (h : W.heap[b]? = some (.cells #[u0, u1, u2, u3] T (0, 0))) :
    W.cell? ⟨b, 0, none⟩ = some u0 ∧ W.cell? ⟨b, 1, none⟩ = some u1 ∧ W.cell? ⟨b, 2, none⟩ = some u2 ∧ W.cell? ⟨b, 3, none⟩ = some u3 ∧ W.frozen? ⟨b, 0, none⟩ = false ∧ W.frozen? ⟨b, 1, none⟩ = false ∧ W.frozen? ⟨b, 2, none⟩ = false ∧ W.frozen? ⟨b, 3, none⟩ = false :=
  ⟨Fo.cell_of_block h 0, Fo.cell_of_block h 1, Fo.cell_of_block h 2, Fo.cell_of_block h 3, Fo.unfrozen_of_block h 0, Fo.unfrozen_of_block h 1, Fo.unfrozen_of_block h 2, Fo.unfrozen_of_block h 3⟩

set_option maxHeartbeats 2000000 in
set_option maxRecDepth 100000 in
theorem toAutomaton_any (t a : Int) (ac : List (List Bool)) (nx : List (List (List Int))) (hs : SmallA ac nx) (A B : Option Addr) (C D : Nat) (w : World) (hA : BB 0 w ac A) (hB : III 0 w nx B) :
    Calls Try.prog 39 #[.agg #[.int .i64 t, .int .i64 a, .slice A ac.length C, .slice B nx.length D]] w fun e w' => ∃ Z Y, e = .returned (.agg #[.int .i64 t, .int .i64 a, .slice Z ac.length ac.length, .slice Y nx.length nx.length]) ∧ BB 0 w' ac Z ∧ III 0 w' nx Y ∧ Below w.heap.size w w' := by
  obtain ⟨f1, f2, f3, f4⟩ := hs
  have K0 : Hid (∀ W : World, Calls Try.prog 20 #[.agg #[.int .i64 t, .int .i64 a]] W fun e w' => e = .returned (.agg #[.int .i64 t, .int .i64 a]) ∧ Below W.heap.size W w') := fun W => toSig_any t a W
  have K1 : Hid (∀ W : World, Sees w W → Calls Try.prog 63 #[.slice A ac.length C] W fun e w' => ∃ A', e = .returned (.slice A' ac.length ac.length) ∧ BB W.heap.size w' ac A' ∧ Below W.heap.size W w') := fun W h => toBoolSS_any ac f1 f2 A C W (bb_ok.below hA h)
  have K2 : Hid (∀ W : World, Sees w W → Calls Try.prog 109 #[.slice B nx.length D] W fun e w' => ∃ A', e = .returned (.slice A' nx.length nx.length) ∧ III W.heap.size w' nx A' ∧ Below W.heap.size W w') := fun W h => toInt64SSS_any nx f3 f4 B D W (iii_ok.below hB h)
  clear f1 f2 f3 f4 hA hB
  go_enter Try.func39, Try.ntmps39
  go_wp2_with fail
  refine (K0.out _).mono ?_
  rintro e w1 ⟨rfl, hb⟩
  have B1 : Sees w w1 := Sees.below (by unfold Sees; go_grown) hb
  have k0 : w1.heap[w.heap.size]? = some (.cells #[.int .i64 t, .int .i64 a, .slice A ac.length C, .slice B nx.length D] 71 (0, 0)) := by
    refine (hb.block _ (by simp; omega)).trans ?_
    exact (Below.heap_alloc _ _ _ (by simp; omega)).trans ((Below.heap_alloc _ _ _ (by simp)).trans (heap_new _ _ _ (by simp)))
  have k1 : w1.heap[w.heap.size + 1]? = some (.cells #[.int .i64 0, .int .i64 0, .slice none 0 0, .slice none 0 0] 74 (0, 0)) := by
    refine (hb.block _ (by simp; try omega)).trans ?_
    exact (Below.heap_alloc _ _ _ (by simp)).trans (heap_new _ _ _ (by simp))
  have k2 : w1.heap[w.heap.size + 1 + 1]? = some (.cells #[.int .i64 0, .int .i64 0, .slice none 0 0, .slice none 0 0] 74 (0, 0)) := by
    refine (hb.block _ (by simp)).trans ?_
    exact heap_new _ _ _ (by simp)
  have z1 : w.heap.size + 1 + 1 < w1.heap.size := by have := hb.size; simp at this; omega
  have HB1 := Lib.hid B1; have HK0 := Lib.hid k0; have HK1 := Lib.hid k1; have HK2 := Lib.hid k2; have HZ1 := Lib.hid z1
  obtain ⟨p0, p1, p2, p3, _, _, _, _⟩ := four_facts k0
  obtain ⟨q0, q1, q2, q3, g0, g1, g2, g3⟩ := four_facts k2
  clear hb B1 k0 k1 k2 z1
  go_wp2_with fail
  clear p0 p1 p2 p3 q0 q1 q2 q3 g0 g1 g2 g3
  -- the first fields are stored
  have B2 : Sees w ((w1.setCell ⟨w.heap.size + 1 + 1, 0, none⟩ (.int .i64 t)).setCell ⟨w.heap.size + 1 + 1, 1, none⟩ (.int .i64 a)) := Sees.set (Sees.set HB1.out (by omega) _) (by omega) _
  have k0 := box_other (b := w.heap.size + 1 + 1) (i := 1) (box_other (b := w.heap.size + 1 + 1) (i := 0) HK0.out (by omega) (.int .i64 t)) (by omega) (.int .i64 a)
  have k1 := box_other (b := w.heap.size + 1 + 1) (i := 1) (box_other (b := w.heap.size + 1 + 1) (i := 0) HK1.out (by omega) (.int .i64 t)) (by omega) (.int .i64 a)
  have k2 : ((w1.setCell ⟨w.heap.size + 1 + 1, 0, none⟩ (.int .i64 t)).setCell ⟨w.heap.size + 1 + 1, 1, none⟩ (.int .i64 a)).heap[w.heap.size + 1 + 1]? = some (.cells #[.int .i64 t, .int .i64 a, .slice none 0 0, .slice none 0 0] 74 (0, 0)) := by
    rw [Fo.block_setCell (Fo.block_setCell HK2.out _) _]
    rfl
  have z2 : w.heap.size + 1 + 1 < ((w1.setCell ⟨w.heap.size + 1 + 1, 0, none⟩ (.int .i64 t)).setCell ⟨w.heap.size + 1 + 1, 1, none⟩ (.int .i64 a)).heap.size := by simpa using HZ1.out
  generalize (w1.setCell ⟨w.heap.size + 1 + 1, 0, none⟩ (.int .i64 t)).setCell ⟨w.heap.size + 1 + 1, 1, none⟩ (.int .i64 a) = w2 at B2 k0 k1 k2 z2 ⊢
  refine (K1.out _ B2).mono ?_
  rintro e w3 ⟨Z, rfl, hQ, hb⟩
  have HB3 := Lib.hid (B2.below hb)
  have HK3 := Lib.hid ((hb.block _ (by omega)).trans k0)
  have HK4 := Lib.hid ((hb.block _ (by omega)).trans k1)
  have HK5 := Lib.hid ((hb.block _ z2).trans k2)
  have HZ3 := Lib.hid (Nat.lt_of_lt_of_le z2 hb.size)
  have HQ3 := Lib.hid (bb_ok.mono hQ (lo' := w.heap.size + 1 + 1 + 1) z2)
  clear hQ hb B2 k0 k1 k2 z2 HB1 HK0 HK1 HK2 HZ1
  obtain ⟨p0, p1, p2, p3, _, _, _, _⟩ := four_facts HK3.out
  obtain ⟨q0, q1, q2, q3, g0, g1, g2, g3⟩ := four_facts HK5.out
  go_wp2_with fail
  clear p0 p1 p2 p3 q0 q1 q2 q3 g0 g1 g2 g3
  have B4 : Sees w (w3.setCell ⟨w.heap.size + 1 + 1, 2, none⟩ (.slice Z ac.length ac.length)) := Sees.set HB3.out (by omega) _
  have k1 := box_other (b := w.heap.size + 1 + 1) (i := 2) HK4.out (by omega) (.slice Z ac.length ac.length)
  have k2 : (w3.setCell ⟨w.heap.size + 1 + 1, 2, none⟩ (.slice Z ac.length ac.length)).heap[w.heap.size + 1 + 1]? = some (.cells #[.int .i64 t, .int .i64 a, .slice Z ac.length ac.length, .slice none 0 0] 74 (0, 0)) := by
    rw [Fo.block_setCell HK5.out _]
    rfl
  have z4 : w.heap.size + 1 + 1 < (w3.setCell ⟨w.heap.size + 1 + 1, 2, none⟩ (.slice Z ac.length ac.length)).heap.size := by simpa using HZ3.out
  have hQ4 := bb_ok.set (b := w.heap.size + 1 + 1) (i := 2) HQ3.out (by omega) (.slice Z ac.length ac.length)
  generalize w3.setCell ⟨w.heap.size + 1 + 1, 2, none⟩ (.slice Z ac.length ac.length) = w4 at B4 k1 k2 z4 hQ4 ⊢
  refine (K2.out _ B4).mono ?_
  rintro e w5 ⟨Y, rfl, hR, hb⟩
  have HB5 := Lib.hid (B4.below hb)
  have HK6 := Lib.hid ((hb.block _ (by omega)).trans k1)
  have HK7 := Lib.hid ((hb.block _ z4).trans k2)
  have HQ5 := Lib.hid (bb_ok.below hQ4 hb)
  have HR5 := Lib.hid (iii_ok.mono hR (lo' := w.heap.size + 1 + 1 + 1) z4)
  clear hQ4 hR hb B4 k1 k2 z4 HB3 HK3 HK4 HK5 HZ3 HQ3
  obtain ⟨p0, p1, p2, p3, r0, r1, r2, r3⟩ := four_facts HK6.out
  obtain ⟨q0, q1, q2, q3, g0, g1, g2, g3⟩ := four_facts HK7.out
  go_wp2_with fail
  have Bf : Sees w (((((w5.setCell ⟨w.heap.size + 1 + 1, 3, none⟩ (.slice Y nx.length nx.length)).setCell ⟨w.heap.size + 1, 0, none⟩ (.int .i64 t)).setCell ⟨w.heap.size + 1, 1, none⟩ (.int .i64 a)).setCell ⟨w.heap.size + 1, 2, none⟩ (.slice Z ac.length ac.length)).setCell ⟨w.heap.size + 1, 3, none⟩ (.slice Y nx.length nx.length)) := (Sees.set (b := w.heap.size + 1) (i := 3) (Sees.set (b := w.heap.size + 1) (i := 2) (Sees.set (b := w.heap.size + 1) (i := 1) (Sees.set (b := w.heap.size + 1) (i := 0) (Sees.set (b := w.heap.size + 1 + 1) (i := 3) HB5.out (by omega) (.slice Y nx.length nx.length)) (by omega) (.int .i64 t)) (by omega) (.int .i64 a)) (by omega) (.slice Z ac.length ac.length)) (by omega) (.slice Y nx.length nx.length))
  have Qf : BB (w.heap.size + 1 + 1 + 1) (((((w5.setCell ⟨w.heap.size + 1 + 1, 3, none⟩ (.slice Y nx.length nx.length)).setCell ⟨w.heap.size + 1, 0, none⟩ (.int .i64 t)).setCell ⟨w.heap.size + 1, 1, none⟩ (.int .i64 a)).setCell ⟨w.heap.size + 1, 2, none⟩ (.slice Z ac.length ac.length)).setCell ⟨w.heap.size + 1, 3, none⟩ (.slice Y nx.length nx.length)) ac Z := (bb_ok.set (b := w.heap.size + 1) (i := 3) (bb_ok.set (b := w.heap.size + 1) (i := 2) (bb_ok.set (b := w.heap.size + 1) (i := 1) (bb_ok.set (b := w.heap.size + 1) (i := 0) (bb_ok.set (b := w.heap.size + 1 + 1) (i := 3) HQ5.out (by omega) (.slice Y nx.length nx.length)) (by omega) (.int .i64 t)) (by omega) (.int .i64 a)) (by omega) (.slice Z ac.length ac.length)) (by omega) (.slice Y nx.length nx.length))
  have Rf : III (w.heap.size + 1 + 1 + 1) (((((w5.setCell ⟨w.heap.size + 1 + 1, 3, none⟩ (.slice Y nx.length nx.length)).setCell ⟨w.heap.size + 1, 0, none⟩ (.int .i64 t)).setCell ⟨w.heap.size + 1, 1, none⟩ (.int .i64 a)).setCell ⟨w.heap.size + 1, 2, none⟩ (.slice Z ac.length ac.length)).setCell ⟨w.heap.size + 1, 3, none⟩ (.slice Y nx.length nx.length)) nx Y := (iii_ok.set (b := w.heap.size + 1) (i := 3) (iii_ok.set (b := w.heap.size + 1) (i := 2) (iii_ok.set (b := w.heap.size + 1) (i := 1) (iii_ok.set (b := w.heap.size + 1) (i := 0) (iii_ok.set (b := w.heap.size + 1 + 1) (i := 3) HR5.out (by omega) (.slice Y nx.length nx.length)) (by omega) (.int .i64 t)) (by omega) (.int .i64 a)) (by omega) (.slice Z ac.length ac.length)) (by omega) (.slice Y nx.length nx.length))
  have kf : (((((w5.setCell ⟨w.heap.size + 1 + 1, 3, none⟩ (.slice Y nx.length nx.length)).setCell ⟨w.heap.size + 1, 0, none⟩ (.int .i64 t)).setCell ⟨w.heap.size + 1, 1, none⟩ (.int .i64 a)).setCell ⟨w.heap.size + 1, 2, none⟩ (.slice Z ac.length ac.length)).setCell ⟨w.heap.size + 1, 3, none⟩ (.slice Y nx.length nx.length)).heap[w.heap.size + 1]? = some (.cells #[.int .i64 t, .int .i64 a, .slice Z ac.length ac.length, .slice Y nx.length nx.length] 74 (0, 0)) := (Fo.block_setCell (Fo.block_setCell (Fo.block_setCell (Fo.block_setCell (box_other (b := w.heap.size + 1 + 1) (i := 3) HK6.out (by omega) (.slice Y nx.length nx.length)) (.int .i64 t)) (.int .i64 a)) (.slice Z ac.length ac.length)) (.slice Y nx.length nx.length))
  generalize ((((w5.setCell ⟨w.heap.size + 1 + 1, 3, none⟩ (.slice Y nx.length nx.length)).setCell ⟨w.heap.size + 1, 0, none⟩ (.int .i64 t)).setCell ⟨w.heap.size + 1, 1, none⟩ (.int .i64 a)).setCell ⟨w.heap.size + 1, 2, none⟩ (.slice Z ac.length ac.length)).setCell ⟨w.heap.size + 1, 3, none⟩ (.slice Y nx.length nx.length) = j at Bf Qf Rf kf ⊢
  clear p0 p1 p2 p3 r0 r1 r2 r3 q0 q1 q2 q3 g0 g1 g2 g3
  obtain ⟨p0, p1, p2, p3, _, _, _, _⟩ := four_facts kf
  refine bodyPost_ret (v := .agg #[.int .i64 t, .int .i64 a, .slice Z ac.length ac.length, .slice Y nx.length nx.length]) (by simp [results, Try.results39, go_sem, p0, p1, p2, p3]) rfl ⟨Z, Y, rfl, bb_ok.mono Qf (Nat.zero_le _), iii_ok.mono Rf (Nat.zero_le _), Bf⟩

theorem eqSig_same (t a : Int) (w : World) : Calls Try.prog 68 #[.agg #[.int .i64 t, .int .i64 a], .agg #[.int .i64 t, .int .i64 a]] w fun e w' => e = .returned (.bool true) ∧ Below w.heap.size w w' := by
  have n1 : (t != t) = false := by simp
  have n2 : (a != a) = false := by simp
  go_enter Try.func68, Try.ntmps68
  go_wp2_with fail
  go_ret
  exact ⟨rfl, by go_grown⟩

set_option maxHeartbeats 1000000 in
set_option maxRecDepth 100000 in
theorem eqAutomaton_same (t a : Int) (ac : List (List Bool)) (nx : List (List (List Int))) (hs : FitA ac nx) (A B A' B' : Option Addr) (C D C' D' : Nat) (w : World) (hA : BB 0 w ac A) (hB : III 0 w nx B) (hA' : BB 0 w ac A') (hB' : III 0 w nx B') :
    Calls Try.prog 41 #[.agg #[.int .i64 t, .int .i64 a, .slice A ac.length C, .slice B nx.length D], .agg #[.int .i64 t, .int .i64 a, .slice A' ac.length C', .slice B' nx.length D']] w fun e w' => e = .returned (.bool true) ∧ Below w.heap.size w w' := by
  obtain ⟨f1, f2, f3, f4⟩ := hs
  have K0 : Hid (∀ W : World, Calls Try.prog 68 #[.agg #[.int .i64 t, .int .i64 a], .agg #[.int .i64 t, .int .i64 a]] W fun e w' => e = .returned (.bool true) ∧ Below W.heap.size W w') := fun W => eqSig_same t a W
  have K1 : Hid (∀ W : World, Sees w W → Calls Try.prog 69 #[.slice A ac.length C, .slice A' ac.length C'] W fun e w' => e = .returned (.bool true) ∧ Below W.heap.size W w') := fun W h => eqBoolSS_same ac f1 f2 A A' C C' W (bb_ok.below hA h) (bb_ok.below hA' h)
  have K2 : Hid (∀ W : World, Sees w W → Calls Try.prog 115 #[.slice B nx.length D, .slice B' nx.length D'] W fun e w' => e = .returned (.bool true) ∧ Below W.heap.size W w') := fun W h => eqInt64SSS_same nx f3 f4 B B' D D' W (iii_ok.below hB h) (iii_ok.below hB' h)
  clear f1 f2 f3 f4 hA hB hA' hB'
  go_enter Try.func41, Try.ntmps41
  go_wp2_with fail
  refine (K0.out _).mono ?_
  rintro e w1 ⟨rfl, hb⟩
  have S1 : Hid (St w [(w.heap.size, 2, .slice A ac.length C), (w.heap.size, 3, .slice B nx.length D), (w.heap.size + 1, 2, .slice A' ac.length C'), (w.heap.size + 1, 3, .slice B' nx.length D')] w1) :=
    St.below ⟨(by unfold Sees; go_grown), (by simp [go_sem]), (by simp [go_sem]), (by simp [go_sem]), (by simp [go_sem]), trivial⟩ hb
  clear hb
  obtain ⟨_, x0, x1, x2, x3, _⟩ := S1.out
  go_wp2_with fail
  clear x0 x1 x2 x3
  refine (K1.out _ S1.out.1).mono ?_
  rintro e w2 ⟨rfl, hb⟩
  have S2 := Lib.hid (S1.out.below hb)
  clear hb S1
  obtain ⟨_, x0, x1, x2, x3, _⟩ := S2.out
  go_wp2_with fail
  clear x0 x1 x2 x3
  refine (K2.out _ S2.out.1).mono ?_
  rintro e w3 ⟨rfl, hb⟩
  have S3 := Lib.hid (S2.out.below hb)
  clear hb S2
  go_wp2_with fail
  go_ret
  exact ⟨rfl, S3.out.1⟩

theorem BB.below {w w' : World} {x : List (List Bool)} {A : Option Addr} (h : BB 0 w x A) (hb : Below w.heap.size w w') : BB 0 w' x A := bb_ok.below h hb
theorem BB.drew {w : World} {x : List (List Bool)} {A : Option Addr} (h : BB 0 w x A) : BB 0 w.drew x A := bb_ok.drew h
theorem BB.dbelow {w w' : World} {x : List (List Bool)} {A : Option Addr} (h : BB 0 w x A) (hb : Below w.drew.heap.size w.drew w') : BB 0 w' x A := bb_ok.below (bb_ok.drew h) hb
theorem BB.alloc {w : World} {x : List (List Bool)} {A : Option Addr} (h : BB 0 w x A) (o : Obj) : BB 0 (w.alloc o) x A := bb_ok.alloc h o
theorem BB.sees {w W : World} {x : List (List Bool)} {A : Option Addr} (h : BB 0 w x A) (hs : Sees w W) : BB 0 W x A := bb_ok.below h hs

theorem III.below {w w' : World} {x : List (List (List Int))} {A : Option Addr} (h : III 0 w x A) (hb : Below w.heap.size w w') : III 0 w' x A := iii_ok.below h hb
theorem III.drew {w : World} {x : List (List (List Int))} {A : Option Addr} (h : III 0 w x A) : III 0 w.drew x A := iii_ok.drew h
theorem III.dbelow {w w' : World} {x : List (List (List Int))} {A : Option Addr} (h : III 0 w x A) (hb : Below w.drew.heap.size w.drew w') : III 0 w' x A := iii_ok.below (iii_ok.drew h) hb
theorem III.alloc {w : World} {x : List (List (List Int))} {A : Option Addr} (h : III 0 w x A) (o : Obj) : III 0 (w.alloc o) x A := iii_ok.alloc h o
theorem III.sees {w W : World} {x : List (List (List Int))} {A : Option Addr} (h : III 0 w x A) (hs : Sees w W) : III 0 W x A := iii_ok.below h hs
end Go.Proofs.Ytcgbepmhfimbjaa
