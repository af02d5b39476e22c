/- Contracts of impl.atomsOf, impl.Implies. -/
import Derived.Test.YtlpgkhdecccmlaaRSet8
import Derived.Test.YtlpgkhdecccmlaaRWithin
import Derived.Test.YtlpgkhdecccmlaaRImpS
import Derived.Test.YtlpgkhdecccmlaaRValidI
import Derived.Test.YtlpgkhdecccmlaaRNodeOf
import Derived.Test.YtlpgkhdecccmlaaRQuietC
import Derived.Deep.RegionHeld3
import Derived.Deep.DrawnRows
namespace Go.Proofs.YtlpgkhdecccmlaaR
open Go.RowKit
attribute [local go_sem ↓] Go.wp_at_zero Go.wp_at_succ

set_option maxHeartbeats 400000 in
theorem atomsOf1_any (x : Int) (q : Bool) (T1 : TypeId) (x1 : Value) (bn : Nat) (w : World) (hc : w.cell? ⟨bn, 0, none⟩ = some (.iface T1 x1))
    (K5 : Hid (∀ W : World, Calls Try.prog 133 #[.iface T1 x1, .int .i64 x] W fun e w' => e = .returned (.bool q) ∧ Below W.heap.size W w')) :
    Calls Try.prog 132 #[.int .i64 x, .pointer (some ⟨bn, 0, none⟩)] w fun e w' => e = .returned (.bool q) ∧ Below w.heap.size w w' := by
  go_enter Try.func132, Try.ntmps132
  go_wp2_with fail
  refine (K5.out _).mono ?_
  rintro e w1 ⟨rfl, hb⟩
  go_wp2_with fail
  go_ret
  exact ⟨rfl, hb⟩

set_option maxRecDepth 100000 in
set_option maxHeartbeats 2000000 in
theorem atomsOf_any (t a k n : Int) (f : Fo) (h0 : f.nodes ≤ 1048576) (hv : 0 ≤ t ∧ t ≤ 3 ∧ 0 ≤ a ∧ a ≤ 4 ∧ treeE t a false k n f = true) (A : Option Addr) (C : Nat) (w : World) (hl : f.Lies w A) :
    Calls Try.prog 66 #[.agg #[.int .i64 t, .int .i64 a], .agg #[.int .i64 k, .int .i64 n, .slice A f.len C]] w fun e w' => e = .returned (.agg (arr8 (setOfG (atomsNat t) (fun i => (ndE f k n).emptyB (i : Int))))) ∧ Below w.heap.size w w' := by
  obtain ⟨G, hG⟩ : ∃ G : Nat → Bool, G = (fun i : Nat => (ndE f k n).emptyB (i : Int)) := ⟨_, rfl⟩
  obtain ⟨T1, x1, h1⟩ := val_iface (ndE f k n)
  have K4 : Hid (∀ W : World, Sees w W → Calls Try.prog 130 #[.agg #[.int .i64 k, .int .i64 n, .slice A f.len C]] W fun e w' => e = .returned (.iface T1 x1) ∧ Below W.heap.size W w') :=
    fun W h => by rw [← h1]; exact nodeOf_any (f.nodes + 1) f (Nat.lt_succ_self _) h0 t a false k n A C W (hl.sees h) hv.2.2.2.2
  have K5 : ∀ j : Nat, j < atomsNat t → Hid (∀ W : World, Calls Try.prog 133 #[.iface T1 x1, .int .i64 (j : Int)] W fun e w' => e = .returned (.bool (G j)) ∧ Below W.heap.size W w') := fun j hj W => by
    rw [hG, ← h1]
    exact emptyAt_any (j : Int) (Int.natCast_nonneg _) (by have := (atomsNat_bd t).2; omega) (ndE f k n) W (ndE_okT t a hv.2.1 (f.nodes + 1) f (Nat.lt_succ_self _) false k n hv.2.2.2.2)
  obtain ⟨S, hS⟩ : ∃ S : Nat → Bool, S = setOfG (atomsNat t) G := ⟨_, rfl⟩
  have KW : Hid (∀ (W : World) (bn : Nat), W.cell? ⟨bn, 0, none⟩ = some (.iface T1 x1) → Calls Try.prog 131 #[.agg #[.int .i64 t, .int .i64 a], .func (.func 132) #[] #[.pointer (some ⟨bn, 0, none⟩)]] W fun e w' => e = .returned (.agg #[.bool (S 0), .bool (S 1), .bool (S 2), .bool (S 3), .bool (S 4), .bool (S 5), .bool (S 6), .bool (S 7)]) ∧ Below W.heap.size W w') := fun W bn hc => by
    show Calls _ _ _ _ (fun e w' => e = .returned (.agg (arr8 S)) ∧ Below W.heap.size W w')
    rw [hS]
    exact atomsWhere_any t a hv.1 hv.2.1 G 132 #[.pointer (some ⟨bn, 0, none⟩)] (enters_of Try.func132 (by kernel_rfl) rfl) W (fun W2 j s hj => atomsOf1_any (j : Int) (G j) T1 x1 bn W2 (kc s hc) (K5 j hj))
  rw [← hG, ← hS]
  clear hG h1 hS hv hl h0 K5
  have k0 : ((((w.alloc (.cells #[.int .i64 t, .int .i64 a] 31)).alloc (.cells #[.int .i64 k, .int .i64 n, .slice A f.len C] 35)).alloc (.cells (arr8 (fun _ => false)) 121))).heap[w.heap.size + 1 + 1]? = some (.cells (arr8 (fun _ => false)) 121 (0, 0)) := heap_new _ _ _ (by simp)
  go_enter Try.func66, Try.ntmps66
  go_wp2_with fail
  obtain ⟨W0, hW0⟩ : ∃ W0, W0 = (((w.alloc (.cells #[.int .i64 t, .int .i64 a] 31)).alloc (.cells #[.int .i64 k, .int .i64 n, .slice A f.len C] 35)).alloc (.cells (arr8 (fun _ => false)) 121)) := ⟨_, rfl⟩
  have S0 : St w [(w.heap.size, 0, .int .i64 t), (w.heap.size, 1, .int .i64 a)] W0 := by rw [hW0]; exact ⟨(((Sees.refl w).alloc _).alloc _).alloc _, (by simp [go_sem]), (by simp [go_sem]), trivial⟩
  rw [← hW0] at k0
  show Calls _ _ _ (((w.alloc (.cells #[.int .i64 t, .int .i64 a] 31)).alloc (.cells #[.int .i64 k, .int .i64 n, .slice A f.len C] 35)).alloc (.cells (arr8 (fun _ => false)) 121)) _
  rw [← hW0]
  clear hW0
  refine (K4.out _ S0.1).mono ?_
  rintro e w1 ⟨rfl, hb⟩
  have z0 : w.heap.size + 1 + 1 < W0.heap.size := World.block_lt_of_cell? _ _ (arr8_facts k0).1
  have k1 := (hb.block _ z0).trans k0
  obtain ⟨S1, y0, y1, _⟩ := St.below S0 hb
  clear hb S0 k0 z0
  have a0 := ka (.cells #[.iface T1 x1] 189) y0; have a1 := ka (.cells #[.iface T1 x1] 189) y1
  have z1 : w.heap.size + 1 + 1 < w1.heap.size := World.block_lt_of_cell? _ _ (arr8_facts k1).1
  have HS2 : Hid (Sees w (w1.alloc (.cells #[.iface T1 x1] 189))) := S1.alloc _
  have HK2 : Hid ((w1.alloc (.cells #[.iface T1 x1] 189)).heap[w.heap.size + 1 + 1]? = some (.cells (arr8 (fun _ => false)) 121 (0, 0))) := (Below.heap_alloc _ _ _ z1).trans k1
  have HZ : Hid (w.heap.size + 1 + 1 < (w1.alloc (.cells #[.iface T1 x1] 189)).heap.size) := by show _ < _; simp; omega
  clear k1 S1 z1
  go_wp2_with fail
  refine (KW.out _ w1.heap.size (by simp [go_sem])).mono ?_
  rintro e w2 ⟨rfl, hb⟩
  have HS3 : Hid (Sees w w2) := Sees.below HS2.out hb
  have HK3 := Lib.hid ((hb.block _ HZ.out).trans HK2.out)
  clear hb HS2 HK2 HZ y0 y1 a0 a1
  obtain ⟨d0, d1, d2, d3, d4, d5, d6, d7, g0, g1, g2, g3, g4, g5, g6, g7⟩ := arr8_facts HK3.out
  go_wp2_with fail
  have Bf : Sees w ((((((((w2.setCell ⟨w.heap.size + 1 + 1, 0, none⟩ (.bool (S 0))).setCell ⟨w.heap.size + 1 + 1, 1, none⟩ (.bool (S 1))).setCell ⟨w.heap.size + 1 + 1, 2, none⟩ (.bool (S 2))).setCell ⟨w.heap.size + 1 + 1, 3, none⟩ (.bool (S 3))).setCell ⟨w.heap.size + 1 + 1, 4, none⟩ (.bool (S 4))).setCell ⟨w.heap.size + 1 + 1, 5, none⟩ (.bool (S 5))).setCell ⟨w.heap.size + 1 + 1, 6, none⟩ (.bool (S 6))).setCell ⟨w.heap.size + 1 + 1, 7, none⟩ (.bool (S 7))) := (Below.setCell (Below.setCell (Below.setCell (Below.setCell (Below.setCell (Below.setCell (Below.setCell (Below.setCell HS3.out (show w.heap.size ≤ w.heap.size + 1 + 1 by omega) _) (show w.heap.size ≤ w.heap.size + 1 + 1 by omega) _) (show w.heap.size ≤ w.heap.size + 1 + 1 by omega) _) (show w.heap.size ≤ w.heap.size + 1 + 1 by omega) _) (show w.heap.size ≤ w.heap.size + 1 + 1 by omega) _) (show w.heap.size ≤ w.heap.size + 1 + 1 by omega) _) (show w.heap.size ≤ w.heap.size + 1 + 1 by omega) _) (show w.heap.size ≤ w.heap.size + 1 + 1 by omega) _)
  have kf : ((((((((w2.setCell ⟨w.heap.size + 1 + 1, 0, none⟩ (.bool (S 0))).setCell ⟨w.heap.size + 1 + 1, 1, none⟩ (.bool (S 1))).setCell ⟨w.heap.size + 1 + 1, 2, none⟩ (.bool (S 2))).setCell ⟨w.heap.size + 1 + 1, 3, none⟩ (.bool (S 3))).setCell ⟨w.heap.size + 1 + 1, 4, none⟩ (.bool (S 4))).setCell ⟨w.heap.size + 1 + 1, 5, none⟩ (.bool (S 5))).setCell ⟨w.heap.size + 1 + 1, 6, none⟩ (.bool (S 6))).setCell ⟨w.heap.size + 1 + 1, 7, none⟩ (.bool (S 7))).heap[w.heap.size + 1 + 1]? = some (.cells (arr8 S) 121 (0, 0)) := (Fo.block_setCell (Fo.block_setCell (Fo.block_setCell (Fo.block_setCell (Fo.block_setCell (Fo.block_setCell (Fo.block_setCell (Fo.block_setCell HK3.out (.bool (S 0))) (.bool (S 1))) (.bool (S 2))) (.bool (S 3))) (.bool (S 4))) (.bool (S 5))) (.bool (S 6))) (.bool (S 7)))
  generalize ((((((((w2.setCell ⟨w.heap.size + 1 + 1, 0, none⟩ (.bool (S 0))).setCell ⟨w.heap.size + 1 + 1, 1, none⟩ (.bool (S 1))).setCell ⟨w.heap.size + 1 + 1, 2, none⟩ (.bool (S 2))).setCell ⟨w.heap.size + 1 + 1, 3, none⟩ (.bool (S 3))).setCell ⟨w.heap.size + 1 + 1, 4, none⟩ (.bool (S 4))).setCell ⟨w.heap.size + 1 + 1, 5, none⟩ (.bool (S 5))).setCell ⟨w.heap.size + 1 + 1, 6, none⟩ (.bool (S 6))).setCell ⟨w.heap.size + 1 + 1, 7, none⟩ (.bool (S 7))) = wj at Bf kf ⊢
  clear d0 d1 d2 d3 d4 d5 d6 d7 g0 g1 g2 g3 g4 g5 g6 g7
  obtain ⟨p0, p1, p2, p3, p4, p5, p6, p7, _⟩ := arr8_facts kf
  exact bodyPost_ret (v := .agg (arr8 S)) (by simp [results, Try.results66, go_sem, p0, p1, p2, p3, p4, p5, p6, p7, arr8]) rfl ⟨rfl, Bf⟩

end Go.Proofs.YtlpgkhdecccmlaaR
