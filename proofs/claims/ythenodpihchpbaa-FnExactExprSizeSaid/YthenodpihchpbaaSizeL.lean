/- The law FnExactExprSize, walked. -/
import Derived.Test.YthenodpihchpbaaSize
import Derived.Test.YthenodpihchpbaaSz
import Derived.Test.YthenodpihchpbaaTo
import Derived.Test.YthenodpihchpbaaEq
import Derived.Deep.RegionHeld3
namespace Go.Proofs.Ythenodpihchpbaa
open Go.RowKit

set_option maxHeartbeats 400000 in
theorem lawExprSize (f : Fo) (hm : f.len ≤ 9223372036854775807) (hf : f.Fits) (k n : Int) (A : Option Addr) (C : Nat) (w : World) (hl : f.Lies w A) :
    Calls Try.prog 7 #[.agg #[.int .i64 k, .int .i64 n, .slice A f.len C]] w fun e w' => e = .returned (.bool true) ∧ Below w.heap.size w w' := by
  have HM := Lib.hid hm; clear hm
  by_cases hbig : 1048576 < f.nodes
  · have hs : szR f.nodes 1048576 = -1 := szR_neg (by omega)
    go_enter Try.func7, Try.ntmps7
    go_wp2_with fail
    refine (szExpr_any f HM.out hf k n 1048576 A C _ (hl.below (by go_grown)) (by omega) (by omega)).mono ?_
    rintro e w1 ⟨rfl, hb1⟩
    have hb := hb1.mono (B' := w.heap.size) (by simp)
    rw [hs]
    clear hs hb1
    go_wp2_with fail
    go_ret
    refine ⟨rfl, Below.trans (b := _) ?_ hb⟩
    go_grown
  · obtain ⟨s, hs, hs0⟩ : ∃ s : Int, s = szR f.nodes 1048576 ∧ 0 ≤ s := ⟨_, rfl, by rw [szR_pos (by omega)]; omega⟩
    have KS : Hid (∀ W : World, f.Lies W A → Calls Try.prog 16 #[.agg #[.int .i64 k, .int .i64 n, .slice A f.len C], .int .i64 1048576] W fun e w' => e = .returned (.int .i64 s) ∧ Below W.heap.size W w') := fun W h => by rw [hs]; exact szExpr_any f HM.out hf k n 1048576 A C W h (by omega) (by omega)
    clear hs
    obtain ⟨q, hqe, hq0⟩ : ∃ q : Int, q = (1 + (f.nodes : Int)) ∧ 0 ≤ q := ⟨_, rfl, by omega⟩
    have KW : Hid (∀ (W : World) (A' : Option Addr) (C' : Nat), f.Lies W A' → Calls Try.prog 25 #[.agg #[.int .i64 k, .int .i64 n, .slice A' f.len C']] W fun e w' => e = .returned (.int .i64 q) ∧ Below W.heap.size W w') := fun W A' C' h => by rw [hqe]; exact specExprSize_any f (by omega) k n A' C' W h
    have KG : Hid (∀ (W : World) (A' : Option Addr) (C' : Nat), f.Lies W A' → Calls Try.prog 26 #[.agg #[.int .i64 k, .int .i64 n, .slice A' f.len C']] W fun e w' => e = .returned (.int .i64 q) ∧ Below W.heap.size W w') := fun W A' C' h => by rw [hqe]; exact implExprSize_aux (f.nodes + 1) f (Nat.lt_succ_self _) (by omega) k n A' C' W h
    clear hqe
    have ht : f.nodes ≤ 1048576 := by omega
    go_enter Try.func7, Try.ntmps7
    go_wp2_with fail
    refine (KS.out _ (hl.below (by go_grown))).mono ?_
    rintro e w1 ⟨rfl, hb1⟩
    have B1 : Below w.heap.size w w1 := by
      refine Below.trans (b := _) ?_ (hb1.mono (by simp))
      go_grown
    obtain ⟨x0, x1, x2⟩ := box3 hb1 (b := w.heap.size) (u := .int .i64 k) (v := .int .i64 n) (x := .slice A f.len C) (by simp [go_sem])
    have L1 := hl.below B1
    clear hb1
    go_wp2_with fail
    refine (toExpr_any f ht k n A C _ L1).mono ?_
    rintro e w2 ⟨A2, rfl, hs2, hb⟩
    obtain ⟨y0, y1, y2⟩ := box3 hb ⟨x0, x1, x2⟩
    have B2 := B1.trans (hb.mono B1.size)
    have M2 := Lib.hid hs2.lies
    clear hs2 hb x0 x1 x2
    go_wp2_with fail
    refine (KW.out _ _ _ M2.out).mono ?_
    rintro e w3 ⟨rfl, hb⟩
    obtain ⟨x0, x1, x2⟩ := box3 hb ⟨y0, y1, y2⟩
    have B3 := B2.trans (hb.mono B2.size)
    clear M2 hb y0 y1 y2
    go_wp2_with fail
    refine (toExpr_any f ht k n A C _ (hl.below B3)).mono ?_
    rintro e w4 ⟨A4, rfl, hs4, hb⟩
    obtain ⟨y0, y1, y2⟩ := box3 hb ⟨x0, x1, x2⟩
    have B4 := B3.trans (hb.mono B3.size)
    have M4 := Lib.hid hs4.lies
    clear hs4 hb x0 x1 x2
    go_wp2_with fail
    have M4a := M4.out.below (w' := w4.alloc (.cells #[.int .i64 k, .int .i64 n, .slice A4 f.len f.len] 35)) (by go_grown)
    refine (KG.out _ _ _ M4a).mono ?_
    rintro e w5 ⟨rfl, hb⟩
    obtain ⟨x0, x1, x2⟩ := box3 hb (box3 (W := w4) (by go_grown) ⟨y0, y1, y2⟩)
    obtain ⟨p0, p1, p2⟩ := box3 hb (b := w4.heap.size) (u := .int .i64 k) (v := .int .i64 n) (x := .slice A4 f.len f.len) (by simp [go_sem])
    have B5 := (B4.alloc B4.size (.cells #[.int .i64 k, .int .i64 n, .slice A4 f.len f.len] 35)).trans (hb.mono (B' := w.heap.size) (by have := B4.size; rw [World.size_alloc]; omega))
    have M5 := Lib.hid (M4a.below hb)
    clear M4 M4a hb y0 y1 y2
    have hqq : (q != q) = false := by simp
    have lw : w.heap.size < w5.heap.size := World.block_lt_of_cell? _ _ x0
    have lw4 : w4.heap.size < w5.heap.size := World.block_lt_of_cell? _ _ p0
    go_wp2_with fail
    go_region_held3 (fun w' => w'.cell? ⟨w.heap.size, 0, none⟩ = some (.int .i64 k) ∧ w'.cell? ⟨w.heap.size, 1, none⟩ = some (.int .i64 n) ∧ w'.cell? ⟨w.heap.size, 2, none⟩ = some (.slice A f.len C) ∧
        w'.cell? ⟨w4.heap.size, 0, none⟩ = some (.int .i64 k) ∧ w'.cell? ⟨w4.heap.size, 1, none⟩ = some (.int .i64 n) ∧ w'.cell? ⟨w4.heap.size, 2, none⟩ = some (.slice A4 f.len f.len))
      (first | go_keep | (refine ⟨?_, ?_, ?_, ?_, ?_, ?_⟩ <;> (first | exact (m1 _ _ lw).trans x0 | exact (m1 _ _ lw).trans x1 | exact (m1 _ _ lw).trans x2 | exact (m1 _ _ lw4).trans p0 | exact (m1 _ _ lw4).trans p1 | exact (m1 _ _ lw4).trans p2)) | (refine ⟨?_, ?_, ?_, ?_, ?_, ?_⟩ <;> (first | exact (r1 _ _ (Nat.lt_of_lt_of_le lw m3)).trans ((m1 _ _ lw).trans x0) | exact (r1 _ _ (Nat.lt_of_lt_of_le lw m3)).trans ((m1 _ _ lw).trans x1) | exact (r1 _ _ (Nat.lt_of_lt_of_le lw m3)).trans ((m1 _ _ lw).trans x2) | exact (r1 _ _ (Nat.lt_of_lt_of_le lw4 m3)).trans ((m1 _ _ lw4).trans p0) | exact (r1 _ _ (Nat.lt_of_lt_of_le lw4 m3)).trans ((m1 _ _ lw4).trans p1) | exact (r1 _ _ (Nat.lt_of_lt_of_le lw4 m3)).trans ((m1 _ _ lw4).trans p2))))
      (first
        | (go_at_call 18; refine (toExpr_any f ht k n A C _ ((hl.below B5).later ?_)).mono ?_; (intro b o hlt; rfl); rintro e w6 ⟨A6, rfl, hs6, hb6⟩; obtain ⟨m1, m2, m3⟩ := bkeep hb6)
        | (go_at_call 20; refine (eqExpr_same f HM.out hf k n _ _ _ _ _ ((M5.out.below (Below.trans (Below.drew (Below.refl _ _)) hb6)).later ?_) (hs6.lies.later ?_)).mono ?_; (intro b o hlt; rfl); (intro b o hlt; rfl); rintro e w7 ⟨rfl, hb7⟩; obtain ⟨r1, r2, r3⟩ := bkeep hb7))
    have B6 := (Below.drew B5).trans (hb6.mono B5.size)
    have B7 := B6.trans (hb7.mono B6.size)
    go_wp2_with fail
    go_ret
    exact ⟨rfl, B7⟩

end Go.Proofs.Ythenodpihchpbaa
