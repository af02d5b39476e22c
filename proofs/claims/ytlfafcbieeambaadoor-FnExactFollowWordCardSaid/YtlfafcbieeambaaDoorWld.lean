/- Worlds in the laws: size, copy, comparison. -/
import Derived.Test.YtlfafcbieeambaaDoorLayS
import Derived.Test.YtlfafcbieeambaaDoorLayT
import Derived.Test.YtlfafcbieeambaaDoorLayE
namespace Go.Proofs.YtlfafcbieeambaaDoor
open Go.RowKit

/-- How much a world counts. -/
def wldN (p : List Int) (nx : List (List Int)) : Nat := p.length + tot List.length nx
/-- Its lists' lengths are numbers of the machine. -/
def FitW (p : List Int) (nx : List (List Int)) : Prop := p.length ≤ 9223372036854775807 ∧ nx.length ≤ 9223372036854775807 ∧ ∀ x ∈ nx, x.length ≤ 9223372036854775807
/-- Its lists are small. -/
def SmallW (p : List Int) (nx : List (List Int)) : Prop := p.length ≤ 1048576 ∧ nx.length ≤ 1048576 ∧ ∀ x ∈ nx, x.length ≤ 1048576
theorem wld_tot {xs : List (List Int)} {x : List Int} (h : x ∈ xs) : xs.length ≤ tot List.length xs ∧ x.length ≤ tot List.length xs := by
  have h2 : ∀ ys : List (List Int), x ∈ ys → x.length ≤ (ys.map List.length).sum := by
    intro ys
    induction ys with
    | nil => intro h; exact absurd h (by simp)
    | cons y ys ih =>
      intro h
      rw [List.map_cons, List.sum_cons]
      rcases List.mem_cons.1 h with rfl | h
      · omega
      · have := ih h; omega
  have := h2 xs h
  unfold tot
  omega
theorem wldN_small {p : List Int} {nx : List (List Int)} (h : wldN p nx ≤ 1048576) : SmallW p nx := by
  unfold wldN at h
  refine ⟨by omega, ?_, fun x hx => ?_⟩
  · unfold tot at h; omega
  · have := (wld_tot hx).2; omega
theorem II.below {w w' : World} {x : List (List Int)} {A : Option Addr} (h : II 0 w x A) (hb : Below w.heap.size w w') : II 0 w' x A := ii_ok.below h hb
theorem II.drew {w : World} {x : List (List Int)} {A : Option Addr} (h : II 0 w x A) : II 0 w.drew x A := ii_ok.drew h
theorem II.dbelow {w w' : World} {x : List (List Int)} {A : Option Addr} (h : II 0 w x A) (hb : Below w.drew.heap.size w.drew w') : II 0 w' x A := ii_ok.below (ii_ok.drew h) hb
theorem II.alloc {w : World} {x : List (List Int)} {A : Option Addr} (h : II 0 w x A) (o : Obj) : II 0 (w.alloc o) x A := ii_ok.alloc h o
theorem II.sees {w W : World} {x : List (List Int)} {A : Option Addr} (h : II 0 w x A) (hs : Sees w W) : II 0 W x A := ii_ok.below h hs

set_option maxHeartbeats 1000000 in
theorem szWorld_any (p : List Int) (nx : List (List Int)) (hf : FitW p nx) (l : Int) (A B : Option Addr) (C D : Nat) (w : World) (hB : II 0 w nx B) (h1 : -1 ≤ l) (h2 : l ≤ 1048576) :
    Calls Tryd.prog 12 #[.agg #[.slice A p.length C, .slice B nx.length D], .int .i64 l] w fun e w' => e = .returned (.int .i64 (szR (wldN p nx) l)) ∧ Below w.heap.size w w' := by
  obtain ⟨f1, f2, f3⟩ := hf
  obtain ⟨z, hz⟩ : ∃ z : Int, Hid (z = szR p.length l) := ⟨_, rfl⟩
  have K1 : Hid (∀ W : World, Calls Tryd.prog 36 #[.slice A p.length C, .int .i64 l] W fun e w' => e = .returned (.int .i64 z) ∧ W = w') := fun W => by rw [hz.out]; exact szInt64S_any _ _ _ _ _ f1 h1 h2
  by_cases hx : l < p.length
  · have hz1 : Hid (z = -1) := by show _ = _; rw [hz.out, szR_neg hx]
    have hzz : z < 0 := by rw [hz1.out]; omega
    have H : Hid (szR (wldN p nx) l = -1) := szR_neg (by unfold wldN; omega)
    go_enter Tryd.func12, Tryd.ntmps12
    go_wp2_with fail
    refine (K1.out _).mono ?_
    rintro e w1 ⟨rfl, rfl⟩
    go_wp2_with fail
    go_ret
    exact ⟨ret_int H.out.symm, by go_grown⟩
  · have hzv : z = l - (p.length : Nat) := by rw [hz.out, szR_pos (by omega)]
    have hz0 : 0 ≤ z := by omega
    have hz1 : z ≤ 1048576 := by omega
    have hzz : ¬ z < 0 := by omega
    obtain ⟨y, hy⟩ : ∃ y : Int, Hid (y = szR (tot List.length nx) z) := ⟨_, rfl⟩
    have H : Hid (szR (wldN p nx) l = y) := by
      show _ = _
      rw [hy.out]
      unfold szR wldN
      split <;> split <;> omega
    have K2 : Hid (∀ W : World, Sees w W → Calls Tryd.prog 37 #[.slice B nx.length D, .int .i64 z] W fun e w' => e = .returned (.int .i64 y) ∧ Below W.heap.size W w') := fun W h => by
      rw [hy.out]
      exact szInt64SS_any nx f2 f3 z B D W (ii_ok.below hB h) (by omega) hz1
    have H2 : Hid (y < 0 → y = -1) := by
      intro h
      rw [hy.out] at h ⊢
      unfold szR at h ⊢
      split <;> simp_all <;> omega
    clear hzv
    by_cases hyy : y < 0
    all_goals
      go_enter Tryd.func12, Tryd.ntmps12
      go_wp2_with fail
      refine (K1.out _).mono ?_
      rintro e w1 ⟨rfl, rfl⟩
      go_wp2_with fail
      refine (K2.out _ (by unfold Sees; go_grown)).mono ?_
      rintro e w2 ⟨rfl, hb⟩
      have B2 : Sees w w2 := Sees.below (by unfold Sees; go_grown) hb
      clear hb
      go_wp2_with fail
      go_ret
      first | exact ⟨ret_int H.out.symm, B2⟩ | exact ⟨ret_int (by rw [H.out, H2.out hyy]), B2⟩

set_option maxHeartbeats 1000000 in
theorem toWorld_any (p : List Int) (nx : List (List Int)) (hm : wldN p nx ≤ 1048576) (A B : Option Addr) (C D : Nat) (w : World) (hl : Ints w p A) (hl' : II 0 w nx B) :
    Calls Tryd.prog 15 #[.agg #[.slice A p.length C, .slice B nx.length D]] w fun e w' => ∃ Z Y, e = .returned (.agg #[.slice Z p.length p.length, .slice Y nx.length nx.length]) ∧ Ints w' p Z ∧ II 0 w' nx Y ∧ Below w.heap.size w w' := by
  obtain ⟨f1, f2, f3⟩ := wldN_small hm
  have K1 : Hid (∀ W : World, Sees w W → Calls Tryd.prog 41 #[.slice A p.length C] W fun e w' => ∃ A', e = .returned (.slice A' p.length p.length) ∧ IntsIn w' p W.heap.size w'.heap.size A' ∧ Below W.heap.size W w') := fun W h => toInt64S_any p f1 A C W (hl.sees h)
  have K2 : Hid (∀ W : World, Sees w W → Calls Tryd.prog 42 #[.slice B nx.length D] W fun e w' => ∃ A', e = .returned (.slice A' nx.length nx.length) ∧ II W.heap.size w' nx A' ∧ Below W.heap.size W w') := fun W h => toInt64SS_any nx f2 f3 B D W (ii_ok.below hl' h)
  clear hl hl' f1 f2 f3
  go_enter Tryd.func15, Tryd.ntmps15
  go_wp2_with fail
  refine (K1.out _ (by unfold Sees; go_grown)).mono ?_
  rintro e w1 ⟨Z, rfl, hs1, hb1⟩
  obtain ⟨c1, f1, z1⟩ := bkeep hb1
  simp only [World.size_alloc] at z1 hs1
  have hB1 : Below w.heap.size w w1 := by
    refine Below.trans (b := _) ?_ (hb1.mono (by simp; omega))
    go_grown
  have k1 : w1.heap[w.heap.size + 1]? = some (.cells #[.slice none 0 0, .slice none 0 0] 53 (0, 0)) := by
    refine (hb1.block _ (by simp)).trans ((Below.heap_alloc _ _ _ (by simp)).trans ?_)
    exact heap_new _ _ _ (by simp)
  have k2 : w1.heap[w.heap.size + 1 + 1]? = some (.cells #[.slice none 0 0, .slice none 0 0] 53 (0, 0)) := by
    refine (hb1.block _ (by simp)).trans ?_
    exact heap_new _ _ _ (by simp)
  have HS1 := Lib.hid hs1; clear hs1 hb1
  have HK1 := Lib.hid k1; have HK2 := Lib.hid k2; clear k1 k2
  go_wp2_with fail
  have hS : Sees w (w1.setCell ⟨w.heap.size + 1 + 1, 0, none⟩ (.slice Z p.length p.length)) := Below.setCell hB1 (by simp; omega) _
  refine (K2.out _ hS).mono ?_
  rintro e w2 ⟨Y, rfl, hs2, hb2⟩
  simp only [World.size_setCell] at hs2
  have hB2 : Below w.heap.size w w2 := Below.trans hS (hb2.mono (by simp; omega))
  have HS2 := Lib.hid hs2; clear hs2
  have HA : Fo.Agree w1 w2 (w.heap.size + 1 + 1 + 1) w1.heap.size := by
    refine Fo.Agree.trans (w' := w1.setCell ⟨w.heap.size + 1 + 1, 0, none⟩ (.slice Z p.length p.length)) (Fo.Agree.setCell (Fo.Agree.refl _ _ _) _ (Or.inl (by simp)) _) ?_
    exact (Fo.Agree.of_below hb2).mono (Nat.zero_le _) (by simp)
  have j1 : w2.heap[w.heap.size + 1]? = some (.cells #[.slice none 0 0, .slice none 0 0] 53 (0, 0)) := by
    refine (hb2.block _ (by simp; omega)).trans ((Below.heap_setCell _ _ _ _ (by simp)).trans HK1.out)
  have j2 : w2.heap[w.heap.size + 1 + 1]? = some (.cells #[.slice Z p.length p.length, .slice none 0 0] 53 (0, 0)) := by
    refine (hb2.block _ (by simp; omega)).trans ?_
    rw [Fo.block_setCell HK2.out]
    rfl
  have r10 : w2.cell? ⟨w.heap.size + 1, 0, none⟩ = some (.slice none 0 0) := Fo.cell_of_block j1 0
  have r11 : w2.cell? ⟨w.heap.size + 1, 1, none⟩ = some (.slice none 0 0) := Fo.cell_of_block j1 1
  have r20 : w2.cell? ⟨w.heap.size + 1 + 1, 0, none⟩ = some (.slice Z p.length p.length) := Fo.cell_of_block j2 0
  have r21 : w2.cell? ⟨w.heap.size + 1 + 1, 1, none⟩ = some (.slice none 0 0) := Fo.cell_of_block j2 1
  have z10 : w2.frozen? ⟨w.heap.size + 1, 0, none⟩ = false := Fo.unfrozen_of_block j1 0
  have z11 : w2.frozen? ⟨w.heap.size + 1, 1, none⟩ = false := Fo.unfrozen_of_block j1 1
  have z21 : w2.frozen? ⟨w.heap.size + 1 + 1, 1, none⟩ = false := Fo.unfrozen_of_block j2 1
  have zz := hb2.size
  simp only [World.size_setCell] at zz
  clear hb2 hS j1 j2 c1 f1
  go_wp2_with fail
  refine bodyPost_ret (v := .agg #[.slice Z p.length p.length, .slice Y nx.length nx.length]) (by simp [results, Tryd.results15, go_sem, r10, r11]) rfl ⟨Z, Y, rfl, ?_, ?_, ?_⟩
  · refine (IntsIn.ints (lo := w.heap.size + 1 + 1 + 1) (hi := w1.heap.size) ((HS1.out.agree HA).agree ?_))
    repeat (refine Fo.Agree.setCell ?_ _ (Or.inl (by simp)) _)
    exact Fo.Agree.refl _ _ _
  · refine ii_ok.mono (lo' := 0) (lo := w1.heap.size) ?_ (Nat.zero_le _)
    refine ii_ok.later (w := w2) HS2.out (fun b o h1 h2 => ?_)
    refine Fo.Agree.cell (lo := w1.heap.size) (hi := w2.heap.size) ?_ h1 h2 o
    repeat (refine Fo.Agree.setCell ?_ _ (Or.inl (by simp; omega)) _)
    exact Fo.Agree.refl _ _ _
  · go_grown

set_option maxHeartbeats 1000000 in
/-- Of a world and itself: yes. -/
theorem eqWorld_same (p : List Int) (nx : List (List Int)) (hs : FitW p nx) (A B A' B' : Option Addr) (C D C' D' : Nat) (w : World) (hl : Ints w p A) (hr1 : II 0 w nx B) (hl' : Ints w p A') (hr' : II 0 w nx B') :
    Calls Tryd.prog 18 #[.agg #[.slice A p.length C, .slice B nx.length D], .agg #[.slice A' p.length C', .slice B' nx.length D']] w fun e w' => e = .returned (.bool true) ∧ Below w.heap.size w w' := by
  obtain ⟨f1, f2, f3⟩ := hs
  have K1 : Hid (∀ W : World, Sees w W → Calls Tryd.prog 49 #[.slice A p.length C, .slice A' p.length C'] W fun e w' => e = .returned (.bool true) ∧ Below W.heap.size W w') := fun W h => eqInt64S_same p f1 A A' C C' W (hl.sees h) (hl'.sees h)
  have K2 : Hid (∀ W : World, Sees w W → Calls Tryd.prog 50 #[.slice B nx.length D, .slice B' nx.length D'] W fun e w' => e = .returned (.bool true) ∧ Below W.heap.size W w') := fun W h => eqInt64SS_same nx f2 f3 B B' D D' W (ii_ok.below hr1 h) (ii_ok.below hr' h)
  clear f1 f2 f3 hl hr1 hl' hr'
  go_enter Tryd.func18, Tryd.ntmps18
  go_wp2_with fail
  refine (K1.out _ (by unfold Sees; go_grown)).mono ?_
  rintro e w1 ⟨rfl, hb⟩
  obtain ⟨x0, x1⟩ := box2 hb (b := w.heap.size) (u := .slice A p.length C) (v := .slice B nx.length D) (by simp [go_sem])
  obtain ⟨y0, y1⟩ := box2 hb (b := w.heap.size + 1) (u := .slice A' p.length C') (v := .slice B' nx.length D') (by simp [go_sem])
  have B1 : Sees w w1 := Sees.below (by unfold Sees; go_grown) hb
  clear hb
  go_wp2_with fail
  refine (K2.out _ B1).mono ?_
  rintro e w2 ⟨rfl, hb⟩
  have B2 := B1.below hb
  clear hb
  go_wp2_with fail
  go_ret
  exact ⟨rfl, B2⟩
end Go.Proofs.YtlfafcbieeambaaDoor
