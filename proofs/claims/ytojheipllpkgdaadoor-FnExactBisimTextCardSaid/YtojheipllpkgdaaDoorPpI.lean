/- Contract of impl.haveForm. -/
import Derived.Test.YtojheipllpkgdaaDoorPpS
import Derived.Test.YtojheipllpkgdaaDoorFitW
namespace Go.Proofs.YtojheipllpkgdaaDoor
open Go.RowKit
set_option linter.unusedVariables false

theorem index_pair0 (u0 u1 u2 u3 u4 u5 : Value) (w : World) : (Instr.index 156 (.agg #[u0, u1, u2, u3, u4, u5]) (.int .i64 0)).run Tryd.prog w = .ok (.agg #[u0, u1, u2]) w := by kernel_rfl
theorem index_pair1 (u0 u1 u2 u3 u4 u5 : Value) (w : World) : (Instr.index 156 (.agg #[u0, u1, u2, u3, u4, u5]) (.int .i64 1)).run Tryd.prog w = .ok (.agg #[u3, u4, u5]) w := by kernel_rfl

set_option maxHeartbeats 4000000 in
set_option maxRecDepth 100000 in
theorem haveForm_any (t a : Int) (xs : Pp) (hm : xs.nodes ≤ 1048576) (A : Option Addr) (C : Nat) (w : World) (hA : xs.Lies w A) :
    Calls Tryd.prog 57 #[.agg #[.int .i64 t, .int .i64 a], .slice A xs.len C] w fun e w' => e = .returned (.bool (listedB t a xs)) ∧ Below w.heap.size w w' := by
  have hlen := xs.len_le_nodes
  obtain ⟨q0, hq0⟩ : ∃ q : Bool, q = sigOk t a := ⟨_, rfl⟩
  have K0 : Hid (∀ W : World, Calls Tryd.prog 37 #[.agg #[.int .i64 t, .int .i64 a]] W fun e w' => e = .returned (.bool q0) ∧ Below W.heap.size W w') := fun W => by rw [hq0]; exact implValidSig_any t a W
  obtain ⟨ans, hans⟩ : ∃ q : Bool, q = listedB t a xs := ⟨_, rfl⟩
  rw [← hans]
  cases q0
  · have HD : Hid (ans = false) := by show _ = _; rw [hans]; unfold listedB; rw [← hq0, Bool.and_false]
    clear hans hq0 hA
    go_enter Tryd.func57, Tryd.ntmps57
    go_wp2_with fail
    refine (K0.out _).mono ?_
    rintro e w1 ⟨rfl, hb⟩
    have B1 : Sees w w1 := Sees.below (by unfold Sees; go_grown) hb
    clear hb
    go_wp2_with fail
    go_ret
    exact ⟨ret_bool HD.out.symm, B1⟩
  have HD : Hid (ans = (xs.drop 0).form t a) := by show _ = _; rw [hans]; unfold listedB; rw [← hq0, Bool.and_true]; cases xs <;> rfl
  have HA := Lib.hid hA
  clear hans hq0 hA
  go_enter Tryd.func57, Tryd.ntmps57
  go_wp2_with fail
  refine (K0.out _).mono ?_
  rintro e w1 ⟨rfl, hb⟩
  have HS0 : Hid (St w [(w.heap.size, 0, .int .i64 t), (w.heap.size, 1, .int .i64 a)] w1) := St.below (l := [(w.heap.size, 0, .int .i64 t), (w.heap.size, 1, .int .i64 a)]) ⟨(by unfold Sees; go_grown), (by simp [go_sem]), (by simp [go_sem]), trivial⟩ hb
  clear hb K0
  obtain ⟨b0, y0, y1, _⟩ := HS0.out
  go_wp2_with fail
  clear y0 y1
  go_loopw [15] (fun i wr => ∃ j : Nat, j ≤ xs.len ∧ i = .int .i64 j ∧ Hid (ans = (xs.drop j).form t a) ∧ Hid (St w [(w.heap.size, 0, .int .i64 t), (w.heap.size, 1, .int .i64 a)] wr)) (fun i _ => xs.len - (intOf i).toNat)
  case atStart => exact ⟨0, Nat.zero_le _, rfl, HD, HS0⟩
  case round =>
    obtain ⟨j, hj, rfl, hq, hS⟩ := hrel
    clear HD HS0 b0
    obtain ⟨hb, y0, y1, _⟩ := hS.out
    by_cases hjl : j < xs.len
    · obtain ⟨c, p, rfl, hat⟩ := HA.out (by rintro rfl; simp [Pp.len] at hjl)
      obtain ⟨lk, ln, lf, rk, rn, rf, r, Alf, Clf, Arf, Crf, e1, e2, d0, d1, d2, hl_lf, d3, d4, d5, hl_rf⟩ := Pp.Lies.row hat hjl
      have c0 := kc hb d0; have c1 := kc hb d1; have c2 := kc hb d2; have c3 := kc hb d3; have c4 := kc hb d4; have c5 := kc hb d5
      clear d0 d1 d2 d3 d4 d5
      have hnd := xs.nodes_drop j
      rw [e1.out] at hnd
      have hn2 : lf.nodes ≤ 1048576 ∧ rf.nodes ≤ 1048576 := by simp only [Pp.nodes] at hnd; omega
      obtain ⟨q1, hq1⟩ : ∃ q : Bool, q = formP t a lk ln lf := ⟨_, rfl⟩
      obtain ⟨q2, hq2⟩ : ∃ q : Bool, q = formP t a rk rn rf := ⟨_, rfl⟩
      have K1 : Hid (∀ (W : World) (sb : Nat), Sees w W → w.heap.size ≤ sb → W.heap[sb]? = some (.cells #[.int .i64 t, .int .i64 a, .int .i64 800] 153 (0, 0)) →
          Calls Tryd.prog 89 #[.pointer (some ⟨sb, 0, none⟩), .agg #[.int .i64 lk, .int .i64 ln, .slice Alf lf.len Clf], .int .i64 800, .bool false] W (FitsPost t a 800 q1 lf.nodes sb W)) :=
        fun W sb h1 h2 h3 => by rw [hq1, formP_okE]; exact fitsW_any (lf.nodes + 1) lf (Nat.lt_succ_self _) hn2.1 t a 800 800 lk ln false Alf Clf sb w W (by omega) (by omega) (by omega) (by omega) hl_lf h1 h2 h3
      have K2 : Hid (∀ (W : World) (sb : Nat), Sees w W → w.heap.size ≤ sb → W.heap[sb]? = some (.cells #[.int .i64 t, .int .i64 a, .int .i64 800] 153 (0, 0)) →
          Calls Tryd.prog 89 #[.pointer (some ⟨sb, 0, none⟩), .agg #[.int .i64 rk, .int .i64 rn, .slice Arf rf.len Crf], .int .i64 800, .bool false] W (FitsPost t a 800 q2 rf.nodes sb W)) :=
        fun W sb h1 h2 h3 => by rw [hq2, formP_okE]; exact fitsW_any (rf.nodes + 1) rf (Nat.lt_succ_self _) hn2.2 t a 800 800 rk rn false Arf Crf sb w W (by omega) (by omega) (by omega) (by omega) hl_rf h1 h2 h3
      have HST : Hid (ans = ((q1 && q2) && (xs.drop (j + 1)).form t a)) := by
        show _ = _
        rw [hq.out, e1.out, e2.out, hq1, hq2]; rfl
      have HAT := Lib.hid hat
      have JL := Lib.hid hjl
      have j0 : (0 : Int) ≤ (j : Int) := Int.natCast_nonneg _
      have j1 : (j : Int) < (xs.len : Int) := by omega
      have HS1 : Hid (St w [(w.heap.size, 0, .int .i64 t), (w.heap.size, 1, .int .i64 a)] (wr.alloc (.cells #[.int .i64 lk, .int .i64 ln, .slice Alf lf.len Clf, .int .i64 rk, .int .i64 rn, .slice Arf rf.len Crf] 101))) := ⟨hb.alloc _, (World.cell?_alloc_lt _ _ _ (World.block_lt_of_cell? _ _ y0)).trans y0, (World.cell?_alloc_lt _ _ _ (World.block_lt_of_cell? _ _ y1)).trans y1, trivial⟩
      obtain ⟨wo, rfl⟩ : ∃ wo, wo = wr := ⟨_, rfl⟩
      clear hat hl_lf hl_rf hnd hn2 hq1 hq2 e1 e2 hq hjl hb y0 y1 hS
      go_wp2_with fail
      clear c0 c1 c2 c3 c4 c5
      go_loopw [24] (fun i wr => ((i = .int .i64 0 ∧ True) ∨ (i = .int .i64 1 ∧ q1 = true) ∨ (i = .int .i64 2 ∧ q1 = true ∧ q2 = true)) ∧ Hid (St w [(w.heap.size, 0, .int .i64 t), (w.heap.size, 1, .int .i64 a)] wr)) (fun i _ => 2 - (intOf i).toNat)
      case atStart => exact ⟨.inl ⟨rfl, trivial⟩, HS1⟩
      case round =>
        obtain ⟨hi, hS2⟩ := hrel
        clear HS1
        obtain ⟨_, v0, v1, _⟩ := hS2.out
        rcases hi with ⟨rfl, _⟩ | ⟨rfl, h1⟩ | ⟨rfl, h1, h2⟩
        · cases q1
          · have HE : Hid (ans = false) := by show _ = _; rw [HST.out]; rfl
            clear HST
            have hz := hS2.out.1.size
            have hix : ∀ (u0 u1 u2 u3 u4 u5 : Value) (w : World), (Instr.index 156 (.agg #[u0, u1, u2, u3, u4, u5]) (.int .i64 0)).run Tryd.prog w = .ok (.agg #[u0, u1, u2]) w := index_pair0
            have u0 := (World.cell?_alloc_lt wr (.cells #[.int .i64 lk, .int .i64 ln, .slice Alf lf.len Clf] 36) ⟨w.heap.size, 0, none⟩ (show w.heap.size < wr.heap.size from World.block_lt_of_cell? _ _ v0)).trans v0
            have u1 := (World.cell?_alloc_lt wr (.cells #[.int .i64 lk, .int .i64 ln, .slice Alf lf.len Clf] 36) ⟨w.heap.size, 1, none⟩ (show w.heap.size < wr.heap.size from World.block_lt_of_cell? _ _ v0)).trans v1
            go_wp2_with fail
            refine (K1.out _ _ ?_ ?_ ?_).mono ?_
            · exact Sees.below hS2.out.1 (show Below wr.heap.size wr _ by go_grown)
            · omega
            · exact heap_new _ _ _ (by simp)
            intro e w2 hp
            obtain ⟨rfl, hbut, c', hblk, hc'⟩ := hp
            have SX := hS2.out.below (Below.trans (show Below wr.heap.size wr ((wr.alloc (.cells #[.int .i64 lk, .int .i64 ln, .slice Alf lf.len Clf] 36)).alloc (.cells #[.int .i64 t, .int .i64 a, .int .i64 800] 153)) from ((Below.refl _ _).alloc (Nat.le_refl _) _).alloc (by simp) _) (hbut.below (by simp <;> omega) (by omega)))
            have SX2 := Lib.hid SX
            clear hix SX hbut hblk hc' u0 u1 v0 v1 hz
            go_wp2_with fail
            go_ret
            exact ⟨ret_bool HE.out.symm, SX2.out.1⟩
          · skip
            have hz := hS2.out.1.size
            have hix : ∀ (u0 u1 u2 u3 u4 u5 : Value) (w : World), (Instr.index 156 (.agg #[u0, u1, u2, u3, u4, u5]) (.int .i64 0)).run Tryd.prog w = .ok (.agg #[u0, u1, u2]) w := index_pair0
            have u0 := (World.cell?_alloc_lt wr (.cells #[.int .i64 lk, .int .i64 ln, .slice Alf lf.len Clf] 36) ⟨w.heap.size, 0, none⟩ (show w.heap.size < wr.heap.size from World.block_lt_of_cell? _ _ v0)).trans v0
            have u1 := (World.cell?_alloc_lt wr (.cells #[.int .i64 lk, .int .i64 ln, .slice Alf lf.len Clf] 36) ⟨w.heap.size, 1, none⟩ (show w.heap.size < wr.heap.size from World.block_lt_of_cell? _ _ v0)).trans v1
            go_wp2_with fail
            refine (K1.out _ _ ?_ ?_ ?_).mono ?_
            · exact Sees.below hS2.out.1 (show Below wr.heap.size wr _ by go_grown)
            · omega
            · exact heap_new _ _ _ (by simp)
            intro e w2 hp
            obtain ⟨rfl, hbut, c', hblk, hc'⟩ := hp
            have SX := hS2.out.below (Below.trans (show Below wr.heap.size wr ((wr.alloc (.cells #[.int .i64 lk, .int .i64 ln, .slice Alf lf.len Clf] 36)).alloc (.cells #[.int .i64 t, .int .i64 a, .int .i64 800] 153)) from ((Below.refl _ _).alloc (Nat.le_refl _) _).alloc (by simp) _) (hbut.below (by simp <;> omega) (by omega)))
            have SX2 := Lib.hid SX
            clear hix SX hbut hblk hc' u0 u1 v0 v1 hz
            go_wp2_with fail
            go_roundw
            case rel => exact ⟨.inr (.inl ⟨rfl, by trivial⟩), SX2⟩
            case measure => simp [intOf]
        · subst h1
          cases q2
          · have HE : Hid (ans = false) := by show _ = _; rw [HST.out]; rfl
            clear HST
            have hz := hS2.out.1.size
            have hix : ∀ (u0 u1 u2 u3 u4 u5 : Value) (w : World), (Instr.index 156 (.agg #[u0, u1, u2, u3, u4, u5]) (.int .i64 1)).run Tryd.prog w = .ok (.agg #[u3, u4, u5]) w := index_pair1
            have u0 := (World.cell?_alloc_lt wr (.cells #[.int .i64 rk, .int .i64 rn, .slice Arf rf.len Crf] 36) ⟨w.heap.size, 0, none⟩ (show w.heap.size < wr.heap.size from World.block_lt_of_cell? _ _ v0)).trans v0
            have u1 := (World.cell?_alloc_lt wr (.cells #[.int .i64 rk, .int .i64 rn, .slice Arf rf.len Crf] 36) ⟨w.heap.size, 1, none⟩ (show w.heap.size < wr.heap.size from World.block_lt_of_cell? _ _ v0)).trans v1
            go_wp2_with fail
            refine (K2.out _ _ ?_ ?_ ?_).mono ?_
            · exact Sees.below hS2.out.1 (show Below wr.heap.size wr _ by go_grown)
            · omega
            · exact heap_new _ _ _ (by simp)
            intro e w2 hp
            obtain ⟨rfl, hbut, c', hblk, hc'⟩ := hp
            have SX := hS2.out.below (Below.trans (show Below wr.heap.size wr ((wr.alloc (.cells #[.int .i64 rk, .int .i64 rn, .slice Arf rf.len Crf] 36)).alloc (.cells #[.int .i64 t, .int .i64 a, .int .i64 800] 153)) from ((Below.refl _ _).alloc (Nat.le_refl _) _).alloc (by simp) _) (hbut.below (by simp <;> omega) (by omega)))
            have SX2 := Lib.hid SX
            clear hix SX hbut hblk hc' u0 u1 v0 v1 hz
            go_wp2_with fail
            go_ret
            exact ⟨ret_bool HE.out.symm, SX2.out.1⟩
          · skip
            have hz := hS2.out.1.size
            have hix : ∀ (u0 u1 u2 u3 u4 u5 : Value) (w : World), (Instr.index 156 (.agg #[u0, u1, u2, u3, u4, u5]) (.int .i64 1)).run Tryd.prog w = .ok (.agg #[u3, u4, u5]) w := index_pair1
            have u0 := (World.cell?_alloc_lt wr (.cells #[.int .i64 rk, .int .i64 rn, .slice Arf rf.len Crf] 36) ⟨w.heap.size, 0, none⟩ (show w.heap.size < wr.heap.size from World.block_lt_of_cell? _ _ v0)).trans v0
            have u1 := (World.cell?_alloc_lt wr (.cells #[.int .i64 rk, .int .i64 rn, .slice Arf rf.len Crf] 36) ⟨w.heap.size, 1, none⟩ (show w.heap.size < wr.heap.size from World.block_lt_of_cell? _ _ v0)).trans v1
            go_wp2_with fail
            refine (K2.out _ _ ?_ ?_ ?_).mono ?_
            · exact Sees.below hS2.out.1 (show Below wr.heap.size wr _ by go_grown)
            · omega
            · exact heap_new _ _ _ (by simp)
            intro e w2 hp
            obtain ⟨rfl, hbut, c', hblk, hc'⟩ := hp
            have SX := hS2.out.below (Below.trans (show Below wr.heap.size wr ((wr.alloc (.cells #[.int .i64 rk, .int .i64 rn, .slice Arf rf.len Crf] 36)).alloc (.cells #[.int .i64 t, .int .i64 a, .int .i64 800] 153)) from ((Below.refl _ _).alloc (Nat.le_refl _) _).alloc (by simp) _) (hbut.below (by simp <;> omega) (by omega)))
            have SX2 := Lib.hid SX
            clear hix SX hbut hblk hc' u0 u1 v0 v1 hz
            go_wp2_with fail
            go_roundw
            case rel => exact ⟨.inr (.inr ⟨rfl, by trivial, by trivial⟩), SX2⟩
            case measure => simp [intOf]
        · subst h1; subst h2
          have HE : Hid (ans = (xs.drop (j + 1)).form t a) := by show _ = _; rw [HST.out]; rfl
          clear HST v0 v1
          go_wp2_with fail
          go_roundw
          case rel => exact ⟨j + 1, JL.out, by go_num, HE, hS2⟩
          case measure => have := JL.out; simp [intOf]; omega
    · obtain rfl : j = xs.len := by omega
      have HE : Hid (ans = true) := by show _ = _; rw [hq.out, Pp.drop_len]; rfl
      clear hq y0 y1
      go_wp2_with fail
      go_ret
      exact ⟨ret_bool HE.out.symm, hb⟩

end Go.Proofs.YtojheipllpkgdaaDoor
