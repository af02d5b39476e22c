/- Contracts of impl.atomsWhere, impl.atomSet.isWithin. -/
import Derived.Test.YtlpgkhdecccmlaaRSet8D
import Derived.Shelf.Abstract
import Derived.Laws.EntriesVeiled
import Derived.Deep.DeepCutAuto
namespace Go.Proofs.YtlpgkhdecccmlaaR
open Go.RowKit

set_option maxHeartbeats 4000000 in
set_option maxRecDepth 100000 in
theorem atomsWhere_any (t a : Int) (h0 : 0 ≤ t) (h1 : t ≤ 3) (G : Nat → Bool) (N : Nat) (caps : Array Value) (eg : ∀ args w, (callFunc N args).run Try.prog w = .ok (.enter N args) w) (w : World)
    (KC : Hid (∀ (W : World) (j : Nat), Sees w W → j < atomsNat t → Calls Try.prog N (#[.int .i64 (j : Int)] ++ caps) W fun e w' => e = .returned (.bool (G j)) ∧ Below W.heap.size W w')) :
    Calls Try.prog 131 #[.agg #[.int .i64 t, .int .i64 a], .func (.func N) #[] caps] w fun e w' => e = .returned (.agg (arr8 (setOfG (atomsNat t) G))) ∧ Below w.heap.size w w' := by
  obtain ⟨m, hm⟩ : ∃ m, m = atomsNat t := ⟨_, rfl⟩
  have hm8 : 1 ≤ m ∧ m ≤ 8 := by rw [hm]; exact atomsNat_bd t
  have KA : Hid (∀ W : World, Calls Try.prog 76 #[.agg #[.int .i64 t, .int .i64 a]] W fun e w' => e = .returned (.int .i64 (m : Int)) ∧ Below W.heap.size W w') := fun W => by rw [hm, atomsNat_cast]; exact atomCount_any t a W h0 h1
  rw [← hm] at KC ⊢
  clear hm
  go_enter Try.func131, Try.ntmps131
  go_wp2_with fail
  obtain ⟨W0, hW0⟩ : ∃ W0, W0 = ((w.alloc (.cells #[.int .i64 t, .int .i64 a] 31)).alloc (.cells (arr8 (fun _ => false)) 121)).alloc (.cells (arr8 (fun _ => false)) 121) := ⟨_, rfl⟩
  have S0 : Sees w W0 := by rw [hW0]; exact (((Sees.refl w).alloc _).alloc _).alloc _
  have k1 : W0.heap[w.heap.size + 1]? = some (.cells (arr8 (fun _ => false)) 121 (0, 0)) := by rw [hW0]; exact (Below.heap_alloc _ _ _ (by simp)).trans (heap_new _ _ _ (by simp))
  have k2 : W0.heap[w.heap.size + 1 + 1]? = some (.cells (arr8 (fun _ => false)) 121 (0, 0)) := by rw [hW0]; exact heap_new _ _ _ (by simp)
  show Calls _ _ _ (((w.alloc (.cells #[.int .i64 t, .int .i64 a] 31)).alloc (.cells (arr8 (fun _ => false)) 121)).alloc (.cells (arr8 (fun _ => false)) 121)) _
  rw [← hW0]
  clear hW0
  refine (KA.out _).mono ?_
  rintro e w1 ⟨rfl, hb⟩
  have HS : Hid (Sees w w1) := S0.below hb
  have z0 : w.heap.size + 1 + 1 < W0.heap.size := World.block_lt_of_cell? _ _ (arr8_facts k2).1
  have HK1 : Hid (w1.heap[w.heap.size + 1]? = some (.cells (arr8 (fun _ => false)) 121 (0, 0))) := (hb.block _ (by omega)).trans k1
  have HK2 : Hid (w1.heap[w.heap.size + 1 + 1]? = some (.cells (arr8 (setOfG 0 G)) 121 (0, 0))) := (hb.block _ z0).trans k2
  clear hb S0 k1 k2 z0 KA
  go_wp2_with fail
  go_loopw [9] (fun i wr => ∃ j : Nat, j ≤ m ∧ i = .int .i64 j ∧ Hid (Sees w wr) ∧ Hid (wr.heap[w.heap.size + 1]? = some (.cells (arr8 (fun _ => false)) 121 (0, 0))) ∧ Hid (wr.heap[w.heap.size + 1 + 1]? = some (.cells (arr8 (setOfG j G)) 121 (0, 0)))) (fun i _ => m - (intOf i).toNat)
  case atStart => exact ⟨0, Nat.zero_le _, rfl, HS, HK1, HK2⟩
  case round =>
    obtain ⟨j, hj, rfl, hS, hk1, hk2⟩ := hrel
    clear HS HK1 HK2
    by_cases hjl : j < m
    · have hj8 : j < 8 := by omega
      obtain ⟨q, hq⟩ : ∃ q : Bool, q = G j := ⟨_, rfl⟩
      have K1 := Lib.hid (KC.out wr j hS.out hjl)
      rw [← hq] at K1
      have HQ := Lib.hid hq
      clear hq
      have hq := HQ
      clear HQ
      have hjm : (j : Int) < (m : Int) := by omega
      have hjm8 := hm8
      rcases lt8 hj8 with rfl | rfl | rfl | rfl | rfl | rfl | rfl | rfl
      · have tj : decide ((0 : Int) < (m : Int)) = true := decide_eq_true hjm
        have hz2 : w.heap.size + 1 + 1 < wr.heap.size := World.block_lt_of_cell? _ _ (arr8_facts hk2.out).1
        clear hjm hj8
        go_wp2_with (go_at_fn N; refine K1.out.mono ?_; rintro e w1 ⟨rfl, hb1⟩; have HS1 := Lib.hid (Sees.below hS.out hb1); have HK2 := Lib.hid ((hb1.block _ hz2).trans hk2.out); have cj : w1.cell? ⟨w.heap.size + 1 + 1, 0, none⟩ = some (.bool (setOfG 0 G 0)) := Fo.cell_of_block HK2.out 0; have gj : w1.frozen? ⟨w.heap.size + 1 + 1, 0, none⟩ = false := Fo.unfrozen_of_block HK2.out 0)
        have HK1 := Lib.hid ((hb1.block _ (show w.heap.size + 1 < wr.heap.size by omega)).trans hk1.out)
        have EQ : (arr8 (setOfG 0 G)).setIfInBounds 0 (.bool q) = arr8 (setOfG (0 + 1) G) := by rw [hq.out]; rfl
        go_roundw
        case rel => exact ⟨0 + 1, by omega, by go_num, Below.setCell HS1.out (show w.heap.size ≤ w.heap.size + 1 + 1 by omega) _, (Below.heap_setCell _ _ _ _ (show w.heap.size + 1 ≠ w.heap.size + 1 + 1 by omega)).trans HK1.out, by show _ = _; rw [← EQ]; exact Fo.block_setCell HK2.out (.bool q)⟩
        case measure => simp [intOf]; omega
      · have tj : decide ((1 : Int) < (m : Int)) = true := decide_eq_true hjm
        have hz2 : w.heap.size + 1 + 1 < wr.heap.size := World.block_lt_of_cell? _ _ (arr8_facts hk2.out).1
        clear hjm hj8
        go_wp2_with (go_at_fn N; refine K1.out.mono ?_; rintro e w1 ⟨rfl, hb1⟩; have HS1 := Lib.hid (Sees.below hS.out hb1); have HK2 := Lib.hid ((hb1.block _ hz2).trans hk2.out); have cj : w1.cell? ⟨w.heap.size + 1 + 1, 1, none⟩ = some (.bool (setOfG 1 G 1)) := Fo.cell_of_block HK2.out 1; have gj : w1.frozen? ⟨w.heap.size + 1 + 1, 1, none⟩ = false := Fo.unfrozen_of_block HK2.out 1)
        have HK1 := Lib.hid ((hb1.block _ (show w.heap.size + 1 < wr.heap.size by omega)).trans hk1.out)
        have EQ : (arr8 (setOfG 1 G)).setIfInBounds 1 (.bool q) = arr8 (setOfG (1 + 1) G) := by rw [hq.out]; rfl
        go_roundw
        case rel => exact ⟨1 + 1, by omega, by go_num, Below.setCell HS1.out (show w.heap.size ≤ w.heap.size + 1 + 1 by omega) _, (Below.heap_setCell _ _ _ _ (show w.heap.size + 1 ≠ w.heap.size + 1 + 1 by omega)).trans HK1.out, by show _ = _; rw [← EQ]; exact Fo.block_setCell HK2.out (.bool q)⟩
        case measure => simp [intOf]; omega
      · have tj : decide ((2 : Int) < (m : Int)) = true := decide_eq_true hjm
        have hz2 : w.heap.size + 1 + 1 < wr.heap.size := World.block_lt_of_cell? _ _ (arr8_facts hk2.out).1
        clear hjm hj8
        go_wp2_with (go_at_fn N; refine K1.out.mono ?_; rintro e w1 ⟨rfl, hb1⟩; have HS1 := Lib.hid (Sees.below hS.out hb1); have HK2 := Lib.hid ((hb1.block _ hz2).trans hk2.out); have cj : w1.cell? ⟨w.heap.size + 1 + 1, 2, none⟩ = some (.bool (setOfG 2 G 2)) := Fo.cell_of_block HK2.out 2; have gj : w1.frozen? ⟨w.heap.size + 1 + 1, 2, none⟩ = false := Fo.unfrozen_of_block HK2.out 2)
        have HK1 := Lib.hid ((hb1.block _ (show w.heap.size + 1 < wr.heap.size by omega)).trans hk1.out)
        have EQ : (arr8 (setOfG 2 G)).setIfInBounds 2 (.bool q) = arr8 (setOfG (2 + 1) G) := by rw [hq.out]; rfl
        go_roundw
        case rel => exact ⟨2 + 1, by omega, by go_num, Below.setCell HS1.out (show w.heap.size ≤ w.heap.size + 1 + 1 by omega) _, (Below.heap_setCell _ _ _ _ (show w.heap.size + 1 ≠ w.heap.size + 1 + 1 by omega)).trans HK1.out, by show _ = _; rw [← EQ]; exact Fo.block_setCell HK2.out (.bool q)⟩
        case measure => simp [intOf]; omega
      · have tj : decide ((3 : Int) < (m : Int)) = true := decide_eq_true hjm
        have hz2 : w.heap.size + 1 + 1 < wr.heap.size := World.block_lt_of_cell? _ _ (arr8_facts hk2.out).1
        clear hjm hj8
        go_wp2_with (go_at_fn N; refine K1.out.mono ?_; rintro e w1 ⟨rfl, hb1⟩; have HS1 := Lib.hid (Sees.below hS.out hb1); have HK2 := Lib.hid ((hb1.block _ hz2).trans hk2.out); have cj : w1.cell? ⟨w.heap.size + 1 + 1, 3, none⟩ = some (.bool (setOfG 3 G 3)) := Fo.cell_of_block HK2.out 3; have gj : w1.frozen? ⟨w.heap.size + 1 + 1, 3, none⟩ = false := Fo.unfrozen_of_block HK2.out 3)
        have HK1 := Lib.hid ((hb1.block _ (show w.heap.size + 1 < wr.heap.size by omega)).trans hk1.out)
        have EQ : (arr8 (setOfG 3 G)).setIfInBounds 3 (.bool q) = arr8 (setOfG (3 + 1) G) := by rw [hq.out]; rfl
        go_roundw
        case rel => exact ⟨3 + 1, by omega, by go_num, Below.setCell HS1.out (show w.heap.size ≤ w.heap.size + 1 + 1 by omega) _, (Below.heap_setCell _ _ _ _ (show w.heap.size + 1 ≠ w.heap.size + 1 + 1 by omega)).trans HK1.out, by show _ = _; rw [← EQ]; exact Fo.block_setCell HK2.out (.bool q)⟩
        case measure => simp [intOf]; omega
      · have tj : decide ((4 : Int) < (m : Int)) = true := decide_eq_true hjm
        have hz2 : w.heap.size + 1 + 1 < wr.heap.size := World.block_lt_of_cell? _ _ (arr8_facts hk2.out).1
        clear hjm hj8
        go_wp2_with (go_at_fn N; refine K1.out.mono ?_; rintro e w1 ⟨rfl, hb1⟩; have HS1 := Lib.hid (Sees.below hS.out hb1); have HK2 := Lib.hid ((hb1.block _ hz2).trans hk2.out); have cj : w1.cell? ⟨w.heap.size + 1 + 1, 4, none⟩ = some (.bool (setOfG 4 G 4)) := Fo.cell_of_block HK2.out 4; have gj : w1.frozen? ⟨w.heap.size + 1 + 1, 4, none⟩ = false := Fo.unfrozen_of_block HK2.out 4)
        have HK1 := Lib.hid ((hb1.block _ (show w.heap.size + 1 < wr.heap.size by omega)).trans hk1.out)
        have EQ : (arr8 (setOfG 4 G)).setIfInBounds 4 (.bool q) = arr8 (setOfG (4 + 1) G) := by rw [hq.out]; rfl
        go_roundw
        case rel => exact ⟨4 + 1, by omega, by go_num, Below.setCell HS1.out (show w.heap.size ≤ w.heap.size + 1 + 1 by omega) _, (Below.heap_setCell _ _ _ _ (show w.heap.size + 1 ≠ w.heap.size + 1 + 1 by omega)).trans HK1.out, by show _ = _; rw [← EQ]; exact Fo.block_setCell HK2.out (.bool q)⟩
        case measure => simp [intOf]; omega
      · have tj : decide ((5 : Int) < (m : Int)) = true := decide_eq_true hjm
        have hz2 : w.heap.size + 1 + 1 < wr.heap.size := World.block_lt_of_cell? _ _ (arr8_facts hk2.out).1
        clear hjm hj8
        go_wp2_with (go_at_fn N; refine K1.out.mono ?_; rintro e w1 ⟨rfl, hb1⟩; have HS1 := Lib.hid (Sees.below hS.out hb1); have HK2 := Lib.hid ((hb1.block _ hz2).trans hk2.out); have cj : w1.cell? ⟨w.heap.size + 1 + 1, 5, none⟩ = some (.bool (setOfG 5 G 5)) := Fo.cell_of_block HK2.out 5; have gj : w1.frozen? ⟨w.heap.size + 1 + 1, 5, none⟩ = false := Fo.unfrozen_of_block HK2.out 5)
        have HK1 := Lib.hid ((hb1.block _ (show w.heap.size + 1 < wr.heap.size by omega)).trans hk1.out)
        have EQ : (arr8 (setOfG 5 G)).setIfInBounds 5 (.bool q) = arr8 (setOfG (5 + 1) G) := by rw [hq.out]; rfl
        go_roundw
        case rel => exact ⟨5 + 1, by omega, by go_num, Below.setCell HS1.out (show w.heap.size ≤ w.heap.size + 1 + 1 by omega) _, (Below.heap_setCell _ _ _ _ (show w.heap.size + 1 ≠ w.heap.size + 1 + 1 by omega)).trans HK1.out, by show _ = _; rw [← EQ]; exact Fo.block_setCell HK2.out (.bool q)⟩
        case measure => simp [intOf]; omega
      · have tj : decide ((6 : Int) < (m : Int)) = true := decide_eq_true hjm
        have hz2 : w.heap.size + 1 + 1 < wr.heap.size := World.block_lt_of_cell? _ _ (arr8_facts hk2.out).1
        clear hjm hj8
        go_wp2_with (go_at_fn N; refine K1.out.mono ?_; rintro e w1 ⟨rfl, hb1⟩; have HS1 := Lib.hid (Sees.below hS.out hb1); have HK2 := Lib.hid ((hb1.block _ hz2).trans hk2.out); have cj : w1.cell? ⟨w.heap.size + 1 + 1, 6, none⟩ = some (.bool (setOfG 6 G 6)) := Fo.cell_of_block HK2.out 6; have gj : w1.frozen? ⟨w.heap.size + 1 + 1, 6, none⟩ = false := Fo.unfrozen_of_block HK2.out 6)
        have HK1 := Lib.hid ((hb1.block _ (show w.heap.size + 1 < wr.heap.size by omega)).trans hk1.out)
        have EQ : (arr8 (setOfG 6 G)).setIfInBounds 6 (.bool q) = arr8 (setOfG (6 + 1) G) := by rw [hq.out]; rfl
        go_roundw
        case rel => exact ⟨6 + 1, by omega, by go_num, Below.setCell HS1.out (show w.heap.size ≤ w.heap.size + 1 + 1 by omega) _, (Below.heap_setCell _ _ _ _ (show w.heap.size + 1 ≠ w.heap.size + 1 + 1 by omega)).trans HK1.out, by show _ = _; rw [← EQ]; exact Fo.block_setCell HK2.out (.bool q)⟩
        case measure => simp [intOf]; omega
      · have tj : decide ((7 : Int) < (m : Int)) = true := decide_eq_true hjm
        have hz2 : w.heap.size + 1 + 1 < wr.heap.size := World.block_lt_of_cell? _ _ (arr8_facts hk2.out).1
        clear hjm hj8
        go_wp2_with (go_at_fn N; refine K1.out.mono ?_; rintro e w1 ⟨rfl, hb1⟩; have HS1 := Lib.hid (Sees.below hS.out hb1); have HK2 := Lib.hid ((hb1.block _ hz2).trans hk2.out); have cj : w1.cell? ⟨w.heap.size + 1 + 1, 7, none⟩ = some (.bool (setOfG 7 G 7)) := Fo.cell_of_block HK2.out 7; have gj : w1.frozen? ⟨w.heap.size + 1 + 1, 7, none⟩ = false := Fo.unfrozen_of_block HK2.out 7)
        have HK1 := Lib.hid ((hb1.block _ (show w.heap.size + 1 < wr.heap.size by omega)).trans hk1.out)
        have EQ : (arr8 (setOfG 7 G)).setIfInBounds 7 (.bool q) = arr8 (setOfG (7 + 1) G) := by rw [hq.out]; rfl
        go_roundw
        case rel => exact ⟨7 + 1, by omega, by go_num, Below.setCell HS1.out (show w.heap.size ≤ w.heap.size + 1 + 1 by omega) _, (Below.heap_setCell _ _ _ _ (show w.heap.size + 1 ≠ w.heap.size + 1 + 1 by omega)).trans HK1.out, by show _ = _; rw [← EQ]; exact Fo.block_setCell HK2.out (.bool q)⟩
        case measure => simp [intOf]; omega
    · obtain rfl : j = m := by omega
      obtain ⟨c0, c1, c2, c3, c4, c5, c6, c7, _⟩ := arr8_facts hk2.out
      obtain ⟨d0, d1, d2, d3, d4, d5, d6, d7, g0, g1, g2, g3, g4, g5, g6, g7⟩ := arr8_facts hk1.out
      go_wp2_with fail
      have Bf : Sees w ((((((((wr.setCell ⟨w.heap.size + 1, 0, none⟩ (.bool (setOfG j G 0))).setCell ⟨w.heap.size + 1, 1, none⟩ (.bool (setOfG j G 1))).setCell ⟨w.heap.size + 1, 2, none⟩ (.bool (setOfG j G 2))).setCell ⟨w.heap.size + 1, 3, none⟩ (.bool (setOfG j G 3))).setCell ⟨w.heap.size + 1, 4, none⟩ (.bool (setOfG j G 4))).setCell ⟨w.heap.size + 1, 5, none⟩ (.bool (setOfG j G 5))).setCell ⟨w.heap.size + 1, 6, none⟩ (.bool (setOfG j G 6))).setCell ⟨w.heap.size + 1, 7, none⟩ (.bool (setOfG j G 7))) := (Below.setCell (Below.setCell (Below.setCell (Below.setCell (Below.setCell (Below.setCell (Below.setCell (Below.setCell hS.out (show w.heap.size ≤ w.heap.size + 1 by omega) _) (show w.heap.size ≤ w.heap.size + 1 by omega) _) (show w.heap.size ≤ w.heap.size + 1 by omega) _) (show w.heap.size ≤ w.heap.size + 1 by omega) _) (show w.heap.size ≤ w.heap.size + 1 by omega) _) (show w.heap.size ≤ w.heap.size + 1 by omega) _) (show w.heap.size ≤ w.heap.size + 1 by omega) _) (show w.heap.size ≤ w.heap.size + 1 by omega) _)
      have kf : ((((((((wr.setCell ⟨w.heap.size + 1, 0, none⟩ (.bool (setOfG j G 0))).setCell ⟨w.heap.size + 1, 1, none⟩ (.bool (setOfG j G 1))).setCell ⟨w.heap.size + 1, 2, none⟩ (.bool (setOfG j G 2))).setCell ⟨w.heap.size + 1, 3, none⟩ (.bool (setOfG j G 3))).setCell ⟨w.heap.size + 1, 4, none⟩ (.bool (setOfG j G 4))).setCell ⟨w.heap.size + 1, 5, none⟩ (.bool (setOfG j G 5))).setCell ⟨w.heap.size + 1, 6, none⟩ (.bool (setOfG j G 6))).setCell ⟨w.heap.size + 1, 7, none⟩ (.bool (setOfG j G 7))).heap[w.heap.size + 1]? = some (.cells (arr8 (setOfG j G)) 121 (0, 0)) := (Fo.block_setCell (Fo.block_setCell (Fo.block_setCell (Fo.block_setCell (Fo.block_setCell (Fo.block_setCell (Fo.block_setCell (Fo.block_setCell hk1.out (.bool (setOfG j G 0))) (.bool (setOfG j G 1))) (.bool (setOfG j G 2))) (.bool (setOfG j G 3))) (.bool (setOfG j G 4))) (.bool (setOfG j G 5))) (.bool (setOfG j G 6))) (.bool (setOfG j G 7)))
      generalize ((((((((wr.setCell ⟨w.heap.size + 1, 0, none⟩ (.bool (setOfG j G 0))).setCell ⟨w.heap.size + 1, 1, none⟩ (.bool (setOfG j G 1))).setCell ⟨w.heap.size + 1, 2, none⟩ (.bool (setOfG j G 2))).setCell ⟨w.heap.size + 1, 3, none⟩ (.bool (setOfG j G 3))).setCell ⟨w.heap.size + 1, 4, none⟩ (.bool (setOfG j G 4))).setCell ⟨w.heap.size + 1, 5, none⟩ (.bool (setOfG j G 5))).setCell ⟨w.heap.size + 1, 6, none⟩ (.bool (setOfG j G 6))).setCell ⟨w.heap.size + 1, 7, none⟩ (.bool (setOfG j G 7))) = wj at Bf kf ⊢
      clear c0 c1 c2 c3 c4 c5 c6 c7 d0 d1 d2 d3 d4 d5 d6 d7 g0 g1 g2 g3 g4 g5 g6 g7
      obtain ⟨p0, p1, p2, p3, p4, p5, p6, p7, _⟩ := arr8_facts kf
      exact bodyPost_ret (v := .agg (arr8 (setOfG j G))) (by simp [results, Try.results131, go_sem, p0, p1, p2, p3, p4, p5, p6, p7, arr8]) rfl ⟨rfl, Bf⟩
end Go.Proofs.YtlpgkhdecccmlaaR
