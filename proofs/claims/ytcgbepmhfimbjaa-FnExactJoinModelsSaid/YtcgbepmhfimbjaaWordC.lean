/- Contracts of the laws' functions on words: szWord, toWord, eqWord. -/
import Derived.Test.YtcgbepmhfimbjaaSz
import Derived.Test.YtcgbepmhfimbjaaInts
import Derived.Lib.Hide
import Derived.Laws.MakeOwn
import Derived.Laws.Tables
import Derived.Deep.QuietTactic
import Derived.BigQuiet
import Derived.Lib.SmallJoins
namespace Go.Proofs.Ytcgbepmhfimbjaa
open Go.RowKit

theorem szInt64S_any (n : Nat) (l : Int) (A : Option Addr) (C : Nat) (w : World) (hn : n ≤ 9223372036854775807) (h1 : -1 ≤ l) (h2 : l ≤ 1048576) :
    Calls Try.prog 75 #[.slice A n C, .int .i64 l] w fun e w' => e = .returned (.int .i64 (szR n l)) ∧ w = w' := by
  by_cases hx : l < n
  · have H := Lib.hid (szR_neg hx)
    have hz : l - n < 0 := by omega
    go_enter Try.func75, Try.ntmps75
    go_wp2_with fail
    go_ret
    exact ⟨ret_int H.out.symm, rfl⟩
  · have H := Lib.hid (szR_pos (n := n) (l := l) (by omega))
    have hz : ¬ l - n < 0 := by omega
    go_enter Try.func75, Try.ntmps75
    go_wp2_with fail
    go_ret
    exact ⟨ret_int H.out.symm, rfl⟩

theorem szWord_any (p r : List Int) (hp : p.length ≤ 9223372036854775807) (hr : r.length ≤ 9223372036854775807) (l : Int) (A B : Option Addr) (C D : Nat) (w : World) (h1 : -1 ≤ l) (h2 : l ≤ 1048576) :
    Calls Try.prog 18 #[.agg #[.slice A p.length C, .slice B r.length D], .int .i64 l] w fun e w' => e = .returned (.int .i64 (szR (p.length + r.length) l)) ∧ Below w.heap.size w w' := by
  by_cases hx : l < p.length
  · have hs := szR_neg hx
    have H := Lib.hid (szR_neg (n := p.length + r.length) (l := l) (by omega))
    have K1 : Hid (∀ W : World, Calls Try.prog 75 #[.slice A p.length C, .int .i64 l] W fun e w' => e = .returned (.int .i64 (-1)) ∧ W = w') := fun W => by rw [← hs]; exact szInt64S_any _ _ _ _ _ hp h1 h2
    clear hs
    go_enter Try.func18, Try.ntmps18
    go_wp2_with fail
    refine (K1.out _).mono ?_; rintro e w' ⟨rfl, rfl⟩
    go_wp2_with fail
    go_ret
    exact ⟨ret_int H.out.symm, by go_grown⟩
  · obtain ⟨s, hs, hs0, hs1, hs2⟩ : ∃ s : Int, s = szR p.length l ∧ 0 ≤ s ∧ s ≤ 1048576 ∧ s = l - p.length := ⟨_, rfl, by rw [szR_pos (by omega)]; omega, by rw [szR_pos (by omega)]; omega, by rw [szR_pos (by omega)]⟩
    have K1 : Hid (∀ W : World, Calls Try.prog 75 #[.slice A p.length C, .int .i64 l] W fun e w' => e = .returned (.int .i64 s) ∧ W = w') := fun W => by rw [hs]; exact szInt64S_any _ _ _ _ _ hp h1 h2
    clear hs
    obtain ⟨s2, hs3⟩ : ∃ s2 : Int, s2 = szR r.length s := ⟨_, rfl⟩
    have H : Hid (szR (p.length + r.length) l = s2) := by
      show _ = _
      rw [hs3]
      unfold szR
      rw [hs2]
      split <;> split <;> omega
    have K2 : Hid (∀ W : World, Calls Try.prog 75 #[.slice B r.length D, .int .i64 s] W fun e w' => e = .returned (.int .i64 s2) ∧ W = w') := fun W => by rw [hs3]; exact szInt64S_any _ _ _ _ _ hr (by omega) hs1
    have H2 : Hid (s2 < 0 → s2 = -1) := by
      intro h
      rw [hs3] at h ⊢
      unfold szR at h ⊢
      split <;> simp_all <;> omega
    clear hs3 hs2
    by_cases hneg : s2 < 0
    · go_enter Try.func18, Try.ntmps18
      go_wp2_with fail
      refine (K1.out _).mono ?_; rintro e w' ⟨rfl, rfl⟩
      go_wp2_with fail
      refine (K2.out _).mono ?_; rintro e w' ⟨rfl, rfl⟩
      have H3 := Lib.hid (H2.out hneg)
      go_wp2_with fail
      go_ret
      exact ⟨ret_int (by rw [H.out, H3.out]), by go_grown⟩
    · go_enter Try.func18, Try.ntmps18
      go_wp2_with fail
      refine (K1.out _).mono ?_; rintro e w' ⟨rfl, rfl⟩
      go_wp2_with fail
      refine (K2.out _).mono ?_; rintro e w' ⟨rfl, rfl⟩
      go_wp2_with fail
      go_ret
      exact ⟨ret_int H.out.symm, by go_grown⟩

/-- What a make of integers lays. -/
def zeroInts (n : Nat) : Array Value := madeCells (Value.int .i64 0).cells (n * 1)
theorem size_zeroInts (n : Nat) : (zeroInts n).size = n := by unfold zeroInts; rw [size_madeCells, Nat.mul_one]
theorem Try.infoI : (Try.prog.info? 2).map (fun i => (i.zero, i.size, i.bytes)) = some (some (.int .i64 0), 1, 8) := by kernel_rfl
theorem make_ints (n : Nat) (hn : n ≤ 1048576) (w : World) :
    (Instr.makeSlice 41 (.int .i64 (n : Int)) (.int .i64 (n : Int))).run Try.prog w = .ok (.slice (some ⟨w.heap.size, 0, none⟩) n n) (w.alloc (.cells (zeroInts n) 2)) := by
  obtain ⟨i, hi, hz, hs, hb⟩ := info_parts Try.infoI
  have h := run_make (P := Try.prog) w 41 2 i _ Try.underlying41 hi hz .i64 .i64 (n : Int) (n : Int) (by omega) (Int.le_refl _) (by rw [hb]; omega) (by omega)
  rw [hs] at h
  exact h

set_option maxHeartbeats 400000 in
theorem toInt64S_any (xs : List Int) (hm : xs.length ≤ 1048576) (A : Option Addr) (C : Nat) (w : World) (hl : Ints w xs A) :
      Calls Try.prog 79 #[.slice A xs.length C] w fun e w' => ∃ A', e = .returned (.slice A' xs.length xs.length) ∧ IntsIn w' xs w.heap.size w'.heap.size A' ∧ Below w.heap.size w w' := by
  have hmk := make_ints xs.length (by omega)
  go_enter Try.func79, Try.ntmps79
  go_wp2_with fail
  go_loopw [4] (fun i wr => ∃ j : Nat, j ≤ xs.length ∧ i = .int .i64 j ∧ IRow 2 xs w.heap.size wr j ∧ Below w.heap.size w wr) (fun i _ => xs.length - (intOf i).toNat)
  case atStart => exact ⟨0, Nat.zero_le _, rfl, irow_start (size_zeroInts _), (Below.refl _ _).alloc (Nat.le_refl _) _⟩
  case round =>
    clear hmk
    obtain ⟨j, hj, rfl, hR, hb⟩ := hrel
    by_cases hjl : j < xs.length
    · obtain ⟨b, o, rfl, hat⟩ := hl (by rintro rfl; simp at hjl)
      have c0 := kc hb (hat j hjl)
      obtain ⟨⟨v0, g0⟩, fz⟩ := hR.cell hjl
      have hR' := irow_step hR hjl
      have hb2 := hb.setCell (p := ⟨w.heap.size, j, none⟩) (Nat.le_refl _) (.int .i64 (nth xs j))
      clear hR
      have hat2 := Lib.hid hat; clear hat
      go_wp2_with fail
      go_roundw
      case rel => exact ⟨j + 1, by omega, by go_num, hR', hb2⟩
      case measure => simp [intOf]; omega
    · obtain rfl : j = xs.length := by omega
      go_wp2_with fail
      go_ret
      exact ⟨_, rfl, irow_end hR (Nat.le_refl _), hb⟩

set_option maxHeartbeats 1000000 in
theorem eqInt64S_any (xs ys : List Int) (hm : xs.length ≤ 9223372036854775807) (A A' : Option Addr) (C C' : Nat) (w : World) (hl : Ints w xs A) (hl' : Ints w ys A') :
      Calls Try.prog 84 #[.slice A xs.length C, .slice A' ys.length C'] w fun e w' => e = .returned (.bool (decide (xs = ys))) ∧ ∃ m, w' = w.drewN m := by
  by_cases hlen : xs.length = ys.length
  · have HL := Lib.hid hlen
    have tl : ((xs.length : Int) != (ys.length : Int)) = false := by simp [hlen]
    clear hlen
    have HD : Hid (decide (xs = ys) = sameFrom xs ys 0) := (sameFrom_zero xs ys).symm
    go_enter Try.func84, Try.ntmps84
    go_wp2_with fail
    go_loopw [5] (fun i wr => ∃ j m : Nat, j ≤ xs.length ∧ i = .int .i64 j ∧ Hid (decide (xs = ys) = sameFrom xs ys j) ∧ Hid (wr = w.drewN m)) (fun i _ => xs.length - (intOf i).toNat)
    case atStart => exact ⟨0, 0, Nat.zero_le _, rfl, HD, rfl⟩
    case round =>
      obtain ⟨j, m, hj, rfl, hq, hw⟩ := hrel
      by_cases hjl : j < xs.length
      · obtain ⟨b, o, rfl, hat⟩ := hl (by rintro rfl; simp at hjl)
        obtain ⟨b', o', rfl, hat'⟩ := hl' (fun h => by have := HL.out; rw [h] at this; simp only [List.length_nil] at this; omega)
        have c0 : wr.cell? ⟨b, o + j, none⟩ = some (.int .i64 (nth xs j)) := by rw [hw.out]; exact hat j hjl
        have d0 : wr.cell? ⟨b', o' + j, none⟩ = some (.int .i64 (nth ys j)) := by rw [hw.out]; exact hat' j (by rw [← HL.out]; exact hjl)
        have hat1 := Lib.hid hat; clear hat
        have hat2 := Lib.hid hat'; clear hat'
        have hst : Hid (decide (xs = ys) = (decide (nth xs j = nth ys j) && sameFrom xs ys (j + 1))) := by
          show _ = _
          rw [hq.out, sameFrom_step xs ys j hjl (by rw [← HL.out]; exact hjl)]
        have hj0 : (0 : Int) ≤ (j : Int) := Int.natCast_nonneg _
        have hj1 : (j : Int) < (xs.length : Int) := by omega
        have hj2 : (j : Int) < (ys.length : Int) := by have := HL.out; omega
        by_cases he : nth xs j = nth ys j
        · have te : (nth xs j != nth ys j) = false := by simp [he]
          have hq2 : Hid (decide (xs = ys) = sameFrom xs ys (j + 1)) := by show _ = _; rw [hst.out, decide_eq_true he]; rfl
          clear he hst hq
          go_wp2_with fail
          go_quiet (fail)
          have hw2 : Hid (wr.drewN nq = w.drewN (m + nq)) := by show _ = _; rw [hw.out]; simp
          go_wp2_with fail
          go_roundw
          case rel => exact ⟨j + 1, _, by omega, by go_num, hq2, hw2⟩
          case measure => simp [intOf]; omega
        · have te : (nth xs j != nth ys j) = true := by rw [bne_iff_ne]; exact he
          have hq2 : Hid (decide (xs = ys) = false) := by show _ = _; rw [hst.out, decide_eq_false he]; rfl
          clear he hst hq
          go_wp2_with fail
          go_quiet (fail)
          have hw2 : Hid (wr.drewN nq = w.drewN (m + nq)) := by show _ = _; rw [hw.out]; simp
          go_wp2_with fail
          go_ret
          exact ⟨ret_bool hq2.out.symm, _, hw2.out⟩
      · obtain rfl : j = xs.length := by omega
        have hq2 : Hid (decide (xs = ys) = true) := by show _ = _; rw [hq.out, sameFrom_end xs ys HL.out]
        clear hq
        go_wp2_with fail
        go_ret
        exact ⟨ret_bool hq2.out.symm, _, hw.out⟩
  · have tl : ((xs.length : Int) != (ys.length : Int)) = true := by rw [bne_iff_ne]; omega
    have HD : Hid (decide (xs = ys) = false) := decide_eq_false (fun h => hlen (by rw [h]))
    clear hlen
    go_enter Try.func84, Try.ntmps84
    go_wp2_with fail
    go_ret
    exact ⟨ret_bool HD.out.symm, 0, rfl⟩

set_option maxHeartbeats 1000000 in
theorem toWord_any (p r : List Int) (hp : p.length ≤ 1048576) (hr : r.length ≤ 1048576) (A B : Option Addr) (C D : Nat) (w : World) (hl : Ints w p A) (hl' : Ints w r B) :
    Calls Try.prog 22 #[.agg #[.slice A p.length C, .slice B r.length D]] w fun e w' => ∃ Z Y, e = .returned (.agg #[.slice Z p.length p.length, .slice Y r.length r.length]) ∧ WordIn w' p r w.heap.size w'.heap.size Z Y ∧ Below w.heap.size w w' := by
  have K1 : Hid (∀ W : World, Sees w W → Calls Try.prog 79 #[.slice A p.length C] W fun e w' => ∃ A', e = .returned (.slice A' p.length p.length) ∧ IntsIn w' p W.heap.size w'.heap.size A' ∧ Below W.heap.size W w') := fun W h => toInt64S_any p hp A C W (hl.sees h)
  have K2 : Hid (∀ W : World, Sees w W → Calls Try.prog 79 #[.slice B r.length D] W fun e w' => ∃ A', e = .returned (.slice A' r.length r.length) ∧ IntsIn w' r W.heap.size w'.heap.size A' ∧ Below W.heap.size W w') := fun W h => toInt64S_any r hr B D W (hl'.sees h)
  go_enter Try.func22, Try.ntmps22
  go_wp2_with fail
  refine (K1.out _ (by unfold Sees; go_grown)).mono ?_
  rintro e w1 ⟨Z, rfl, hs1, hb1⟩
  obtain ⟨c1, f1, z1⟩ := bkeep hb1
  simp only [World.size_alloc] at z1 hs1
  have hB1 : Below w.heap.size w w1 := by
    refine Below.trans (b := _) ?_ (hb1.mono (by simp; omega))
    go_grown
  have k1 : w1.heap[w.heap.size + 1]? = some (.cells #[.slice none 0 0, .slice none 0 0] 53 (0, 0)) := by
    refine (hb1.block _ (by simp)).trans ((Below.heap_alloc _ _ _ (by simp)).trans ?_)
    exact heap_new _ _ _ (by simp)
  have k2 : w1.heap[w.heap.size + 1 + 1]? = some (.cells #[.slice none 0 0, .slice none 0 0] 53 (0, 0)) := by
    refine (hb1.block _ (by simp)).trans ?_
    exact heap_new _ _ _ (by simp)
  have HS1 := Lib.hid hs1; clear hs1 hb1
  have HK1 := Lib.hid k1; have HK2 := Lib.hid k2; clear k1 k2
  go_wp2_with fail
  have hS : Sees w (w1.setCell ⟨w.heap.size + 1 + 1, 0, none⟩ (.slice Z p.length p.length)) := Below.setCell hB1 (by simp; omega) _
  refine (K2.out _ hS).mono ?_
  rintro e w2 ⟨Y, rfl, hs2, hb2⟩
  simp only [World.size_setCell] at hs2
  have hB2 : Below w.heap.size w w2 := Below.trans hS (hb2.mono (by simp; omega))
  have HS2 := Lib.hid hs2; clear hs2
  have HA : Fo.Agree w1 w2 (w.heap.size + 1 + 1 + 1) w1.heap.size := by
    refine Fo.Agree.trans (w' := w1.setCell ⟨w.heap.size + 1 + 1, 0, none⟩ (.slice Z p.length p.length)) (Fo.Agree.setCell (Fo.Agree.refl _ _ _) _ (Or.inl (by simp)) _) ?_
    exact (Fo.Agree.of_below hb2).mono (Nat.zero_le _) (by simp)
  have j1 : w2.heap[w.heap.size + 1]? = some (.cells #[.slice none 0 0, .slice none 0 0] 53 (0, 0)) := by
    refine (hb2.block _ (by simp; omega)).trans ((Below.heap_setCell _ _ _ _ (by simp)).trans HK1.out)
  have j2 : w2.heap[w.heap.size + 1 + 1]? = some (.cells #[.slice Z p.length p.length, .slice none 0 0] 53 (0, 0)) := by
    refine (hb2.block _ (by simp; omega)).trans ?_
    rw [Fo.block_setCell HK2.out]
    rfl
  have r10 : w2.cell? ⟨w.heap.size + 1, 0, none⟩ = some (.slice none 0 0) := Fo.cell_of_block j1 0
  have r11 : w2.cell? ⟨w.heap.size + 1, 1, none⟩ = some (.slice none 0 0) := Fo.cell_of_block j1 1
  have r20 : w2.cell? ⟨w.heap.size + 1 + 1, 0, none⟩ = some (.slice Z p.length p.length) := Fo.cell_of_block j2 0
  have r21 : w2.cell? ⟨w.heap.size + 1 + 1, 1, none⟩ = some (.slice none 0 0) := Fo.cell_of_block j2 1
  have z10 : w2.frozen? ⟨w.heap.size + 1, 0, none⟩ = false := Fo.unfrozen_of_block j1 0
  have z11 : w2.frozen? ⟨w.heap.size + 1, 1, none⟩ = false := Fo.unfrozen_of_block j1 1
  have z21 : w2.frozen? ⟨w.heap.size + 1 + 1, 1, none⟩ = false := Fo.unfrozen_of_block j2 1
  have zz := hb2.size
  simp only [World.size_setCell] at zz
  clear hb2 hS j1 j2 c1 f1
  go_wp2_with fail
  refine bodyPost_ret (v := .agg #[.slice Z p.length p.length, .slice Y r.length r.length]) (by simp [results, Try.results22, go_sem, r10, r11]) rfl ⟨Z, Y, rfl, ?_, ?_⟩
  · refine ⟨w1.heap.size, ((HS1.out.agree HA).agree ?_).mono (by omega) (Nat.le_refl _), (HS2.out.agree ?_).mono (Nat.le_refl _) (by simp)⟩
    · repeat (refine Fo.Agree.setCell ?_ _ (Or.inl (by simp)) _)
      exact Fo.Agree.refl _ _ _
    · repeat (refine Fo.Agree.setCell ?_ _ (Or.inl (by simp; omega)) _)
      exact Fo.Agree.refl _ _ _
  · go_grown

set_option maxHeartbeats 1000000 in
/-- Of a word and itself: yes. -/
theorem eqWord_same (p r : List Int) (hp : p.length ≤ 9223372036854775807) (hr : r.length ≤ 9223372036854775807) (A B A' B' : Option Addr) (C D C' D' : Nat) (w : World) (hl : Ints w p A) (hr1 : Ints w r B) (hl' : Ints w p A') (hr' : Ints w r B') :
    Calls Try.prog 25 #[.agg #[.slice A p.length C, .slice B r.length D], .agg #[.slice A' p.length C', .slice B' r.length D']] w fun e w' => e = .returned (.bool true) ∧ Below w.heap.size w w' := by
  have K1 : Hid (∀ W : World, Sees w W → Calls Try.prog 84 #[.slice A p.length C, .slice A' p.length C'] W fun e w' => e = .returned (.bool true) ∧ Below W.heap.size W w') := fun W h =>
    (eqInt64S_any p p hp A A' C C' W (hl.sees h) (hl'.sees h)).mono fun e w' ⟨he, m, hm⟩ => ⟨by simpa using he, by rw [hm]; exact Joins.below_draws _ _ m⟩
  have K2 : Hid (∀ W : World, Sees w W → Calls Try.prog 84 #[.slice B r.length D, .slice B' r.length D'] W fun e w' => e = .returned (.bool true) ∧ Below W.heap.size W w') := fun W h =>
    (eqInt64S_any r r hr B B' D D' W (hr1.sees h) (hr'.sees h)).mono fun e w' ⟨he, m, hm⟩ => ⟨by simpa using he, by rw [hm]; exact Joins.below_draws _ _ m⟩
  go_enter Try.func25, Try.ntmps25
  go_wp2_with fail
  refine (K1.out _ (by unfold Sees; go_grown)).mono ?_
  rintro e w1 ⟨rfl, hb⟩
  obtain ⟨x0, x1⟩ := box2 hb (b := w.heap.size) (u := .slice A p.length C) (v := .slice B r.length D) (by simp [go_sem])
  obtain ⟨y0, y1⟩ := box2 hb (b := w.heap.size + 1) (u := .slice A' p.length C') (v := .slice B' r.length D') (by simp [go_sem])
  have B1 : Sees w w1 := Sees.below (by unfold Sees; go_grown) hb
  clear hb
  go_wp2_with fail
  refine (K2.out _ B1).mono ?_
  rintro e w2 ⟨rfl, hb⟩
  have B2 := B1.below hb
  clear hb
  go_wp2_with fail
  go_ret
  exact ⟨rfl, B2⟩

end Go.Proofs.Ytcgbepmhfimbjaa
