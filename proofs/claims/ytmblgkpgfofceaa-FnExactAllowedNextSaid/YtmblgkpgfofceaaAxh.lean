/- Contracts of impl.atomsOf, impl.Implies. Contract of impl.factOf. Contracts of slices.Grow at a nil slice, and slices.Concat, at []int64. Contract of impl.factsOn. -/
import Derived.Test.YtmblgkpgfofceaaAxg
import Derived.Test.YtmblgkpgfofceaaValidI
import Derived.Test.YtmblgkpgfofceaaAxa
import Derived.Deep.RegionHeld3
import Derived.Deep.DrawnRows
import Derived.Test.YtmblgkpgfofceaaGen
import Derived.Test.YtmblgkpgfofceaaAxd
import Derived.Lib.AppendZeros
import Derived.Test.YtmblgkpgfofceaaPrD
import Derived.Test.YtmblgkpgfofceaaPrC
import Derived.Deep.AppendLies
namespace Go.Proofs.Ytmblgkpgfofceaa
open Go.RowKit
attribute [local go_sem ↓] Go.wp_at_zero Go.wp_at_succ

set_option maxHeartbeats 400000 in
theorem atomsOf1_any (x : Int) (q : Bool) (T1 : TypeId) (x1 : Value) (bn : Nat) (w : World) (hc : w.cell? ⟨bn, 0, none⟩ = some (.iface T1 x1))
    (K5 : Hid (∀ W : World, Calls Try.prog 168 #[.iface T1 x1, .int .i64 x] W fun e w' => e = .returned (.bool q) ∧ Below W.heap.size W w')) :
    Calls Try.prog 167 #[.int .i64 x, .pointer (some ⟨bn, 0, none⟩)] w fun e w' => e = .returned (.bool q) ∧ Below w.heap.size w w' := by
  go_enter Try.func167, Try.ntmps167
  go_wp2_with fail
  refine (K5.out _).mono ?_
  rintro e w1 ⟨rfl, hb⟩
  go_wp2_with fail
  go_ret
  exact ⟨rfl, hb⟩

set_option maxRecDepth 100000 in
set_option maxHeartbeats 2000000 in
theorem atomsOf_any (t a k n : Int) (f : Fo) (h0 : f.nodes ≤ 1048576) (hv : 0 ≤ t ∧ t ≤ 3 ∧ 0 ≤ a ∧ a ≤ 4 ∧ treeE t a false k n f = true) (A : Option Addr) (C : Nat) (w : World) (hl : f.Lies w A) :
    Calls Try.prog 144 #[.agg #[.int .i64 t, .int .i64 a], .agg #[.int .i64 k, .int .i64 n, .slice A f.len C]] w fun e w' => e = .returned (.agg (arr8 (setOfG (atomsNat t) (fun i => (ndE f k n).emptyB (i : Int))))) ∧ Below w.heap.size w w' := by
  obtain ⟨G, hG⟩ : ∃ G : Nat → Bool, G = (fun i : Nat => (ndE f k n).emptyB (i : Int)) := ⟨_, rfl⟩
  obtain ⟨T1, x1, h1⟩ := val_iface (ndE f k n)
  have K4 : Hid (∀ W : World, Sees w W → Calls Try.prog 123 #[.agg #[.int .i64 k, .int .i64 n, .slice A f.len C]] W fun e w' => e = .returned (.iface T1 x1) ∧ Below W.heap.size W w') :=
    fun W h => by rw [← h1]; exact nodeOf_any (f.nodes + 1) f (Nat.lt_succ_self _) h0 t a false k n A C W (hl.sees h) hv.2.2.2.2
  have K5 : ∀ j : Nat, j < atomsNat t → Hid (∀ W : World, Calls Try.prog 168 #[.iface T1 x1, .int .i64 (j : Int)] W fun e w' => e = .returned (.bool (G j)) ∧ Below W.heap.size W w') := fun j hj W => by
    rw [hG, ← h1]
    exact emptyAt_any (j : Int) (Int.natCast_nonneg _) (by have := (atomsNat_bd t).2; omega) (ndE f k n) W (ndE_okT t a hv.2.1 (f.nodes + 1) f (Nat.lt_succ_self _) false k n hv.2.2.2.2)
  obtain ⟨S, hS⟩ : ∃ S : Nat → Bool, S = setOfG (atomsNat t) G := ⟨_, rfl⟩
  have KW : Hid (∀ (W : World) (bn : Nat), W.cell? ⟨bn, 0, none⟩ = some (.iface T1 x1) → Calls Try.prog 108 #[.agg #[.int .i64 t, .int .i64 a], .func (.func 167) #[] #[.pointer (some ⟨bn, 0, none⟩)]] W fun e w' => e = .returned (.agg #[.bool (S 0), .bool (S 1), .bool (S 2), .bool (S 3), .bool (S 4), .bool (S 5), .bool (S 6), .bool (S 7)]) ∧ Below W.heap.size W w') := fun W bn hc => by
    show Calls _ _ _ _ (fun e w' => e = .returned (.agg (arr8 S)) ∧ Below W.heap.size W w')
    rw [hS]
    exact atomsWhere_any t a hv.1 hv.2.1 G 167 #[.pointer (some ⟨bn, 0, none⟩)] (enters_of Try.func167 (by kernel_rfl) rfl) W (fun W2 j s hj => atomsOf1_any (j : Int) (G j) T1 x1 bn W2 (kc s hc) (K5 j hj))
  rw [← hG, ← hS]
  clear hG h1 hS hv hl h0 K5
  have k0 : ((((w.alloc (.cells #[.int .i64 t, .int .i64 a] 29)).alloc (.cells #[.int .i64 k, .int .i64 n, .slice A f.len C] 46)).alloc (.cells (arr8 (fun _ => false)) 88))).heap[w.heap.size + 1 + 1]? = some (.cells (arr8 (fun _ => false)) 88 (0, 0)) := heap_new _ _ _ (by simp)
  go_enter Try.func144, Try.ntmps144
  go_wp2_with fail
  obtain ⟨W0, hW0⟩ : ∃ W0, W0 = (((w.alloc (.cells #[.int .i64 t, .int .i64 a] 29)).alloc (.cells #[.int .i64 k, .int .i64 n, .slice A f.len C] 46)).alloc (.cells (arr8 (fun _ => false)) 88)) := ⟨_, rfl⟩
  have S0 : St w [(w.heap.size, 0, .int .i64 t), (w.heap.size, 1, .int .i64 a)] W0 := by rw [hW0]; exact ⟨(((Sees.refl w).alloc _).alloc _).alloc _, (by simp [go_sem]), (by simp [go_sem]), trivial⟩
  rw [← hW0] at k0
  show Calls _ _ _ (((w.alloc (.cells #[.int .i64 t, .int .i64 a] 29)).alloc (.cells #[.int .i64 k, .int .i64 n, .slice A f.len C] 46)).alloc (.cells (arr8 (fun _ => false)) 88)) _
  rw [← hW0]
  clear hW0
  refine (K4.out _ S0.1).mono ?_
  rintro e w1 ⟨rfl, hb⟩
  have z0 : w.heap.size + 1 + 1 < W0.heap.size := World.block_lt_of_cell? _ _ (arr8_facts k0).1
  have k1 := (hb.block _ z0).trans k0
  obtain ⟨S1, y0, y1, _⟩ := St.below S0 hb
  clear hb S0 k0 z0
  have a0 := ka (.cells #[.iface T1 x1] 160) y0; have a1 := ka (.cells #[.iface T1 x1] 160) y1
  have z1 : w.heap.size + 1 + 1 < w1.heap.size := World.block_lt_of_cell? _ _ (arr8_facts k1).1
  have HS2 : Hid (Sees w (w1.alloc (.cells #[.iface T1 x1] 160))) := S1.alloc _
  have HK2 : Hid ((w1.alloc (.cells #[.iface T1 x1] 160)).heap[w.heap.size + 1 + 1]? = some (.cells (arr8 (fun _ => false)) 88 (0, 0))) := (Below.heap_alloc _ _ _ z1).trans k1
  have HZ : Hid (w.heap.size + 1 + 1 < (w1.alloc (.cells #[.iface T1 x1] 160)).heap.size) := by show _ < _; simp; omega
  clear k1 S1 z1
  go_wp2_with fail
  refine (KW.out _ w1.heap.size (by simp [go_sem])).mono ?_
  rintro e w2 ⟨rfl, hb⟩
  have HS3 : Hid (Sees w w2) := Sees.below HS2.out hb
  have HK3 := Lib.hid ((hb.block _ HZ.out).trans HK2.out)
  clear hb HS2 HK2 HZ y0 y1 a0 a1
  obtain ⟨d0, d1, d2, d3, d4, d5, d6, d7, g0, g1, g2, g3, g4, g5, g6, g7⟩ := arr8_facts HK3.out
  go_wp2_with fail
  have Bf : Sees w ((((((((w2.setCell ⟨w.heap.size + 1 + 1, 0, none⟩ (.bool (S 0))).setCell ⟨w.heap.size + 1 + 1, 1, none⟩ (.bool (S 1))).setCell ⟨w.heap.size + 1 + 1, 2, none⟩ (.bool (S 2))).setCell ⟨w.heap.size + 1 + 1, 3, none⟩ (.bool (S 3))).setCell ⟨w.heap.size + 1 + 1, 4, none⟩ (.bool (S 4))).setCell ⟨w.heap.size + 1 + 1, 5, none⟩ (.bool (S 5))).setCell ⟨w.heap.size + 1 + 1, 6, none⟩ (.bool (S 6))).setCell ⟨w.heap.size + 1 + 1, 7, none⟩ (.bool (S 7))) := (Below.setCell (Below.setCell (Below.setCell (Below.setCell (Below.setCell (Below.setCell (Below.setCell (Below.setCell HS3.out (show w.heap.size ≤ w.heap.size + 1 + 1 by omega) _) (show w.heap.size ≤ w.heap.size + 1 + 1 by omega) _) (show w.heap.size ≤ w.heap.size + 1 + 1 by omega) _) (show w.heap.size ≤ w.heap.size + 1 + 1 by omega) _) (show w.heap.size ≤ w.heap.size + 1 + 1 by omega) _) (show w.heap.size ≤ w.heap.size + 1 + 1 by omega) _) (show w.heap.size ≤ w.heap.size + 1 + 1 by omega) _) (show w.heap.size ≤ w.heap.size + 1 + 1 by omega) _)
  have kf : ((((((((w2.setCell ⟨w.heap.size + 1 + 1, 0, none⟩ (.bool (S 0))).setCell ⟨w.heap.size + 1 + 1, 1, none⟩ (.bool (S 1))).setCell ⟨w.heap.size + 1 + 1, 2, none⟩ (.bool (S 2))).setCell ⟨w.heap.size + 1 + 1, 3, none⟩ (.bool (S 3))).setCell ⟨w.heap.size + 1 + 1, 4, none⟩ (.bool (S 4))).setCell ⟨w.heap.size + 1 + 1, 5, none⟩ (.bool (S 5))).setCell ⟨w.heap.size + 1 + 1, 6, none⟩ (.bool (S 6))).setCell ⟨w.heap.size + 1 + 1, 7, none⟩ (.bool (S 7))).heap[w.heap.size + 1 + 1]? = some (.cells (arr8 S) 88 (0, 0)) := (Fo.block_setCell (Fo.block_setCell (Fo.block_setCell (Fo.block_setCell (Fo.block_setCell (Fo.block_setCell (Fo.block_setCell (Fo.block_setCell HK3.out (.bool (S 0))) (.bool (S 1))) (.bool (S 2))) (.bool (S 3))) (.bool (S 4))) (.bool (S 5))) (.bool (S 6))) (.bool (S 7)))
  generalize ((((((((w2.setCell ⟨w.heap.size + 1 + 1, 0, none⟩ (.bool (S 0))).setCell ⟨w.heap.size + 1 + 1, 1, none⟩ (.bool (S 1))).setCell ⟨w.heap.size + 1 + 1, 2, none⟩ (.bool (S 2))).setCell ⟨w.heap.size + 1 + 1, 3, none⟩ (.bool (S 3))).setCell ⟨w.heap.size + 1 + 1, 4, none⟩ (.bool (S 4))).setCell ⟨w.heap.size + 1 + 1, 5, none⟩ (.bool (S 5))).setCell ⟨w.heap.size + 1 + 1, 6, none⟩ (.bool (S 6))).setCell ⟨w.heap.size + 1 + 1, 7, none⟩ (.bool (S 7))) = wj at Bf kf ⊢
  clear d0 d1 d2 d3 d4 d5 d6 d7 g0 g1 g2 g3 g4 g5 g6 g7
  obtain ⟨p0, p1, p2, p3, p4, p5, p6, p7, _⟩ := arr8_facts kf
  exact bodyPost_ret (v := .agg (arr8 S)) (by simp [results, Try.results144, go_sem, p0, p1, p2, p3, p4, p5, p6, p7, arr8]) rfl ⟨rfl, Bf⟩

end Go.Proofs.Ytmblgkpgfofceaa

namespace Go.Proofs.Ytmblgkpgfofceaa
open Go.RowKit
set_option linter.unusedVariables false

theorem fc16 {W : World} {b : Nat} {T : TypeId} {u0 u1 u2 u3 u4 u5 u6 u7 u8 u9 u10 u11 u12 u13 u14 u15 : Value} (h : W.heap[b]? = some (.cells #[u0, u1, u2, u3, u4, u5, u6, u7, u8, u9, u10, u11, u12, u13, u14, u15] T (0, 0))) :
    W.cell? ⟨b, 0, none⟩ = some u0 ∧ W.cell? ⟨b, 1, none⟩ = some u1 ∧ W.cell? ⟨b, 2, none⟩ = some u2 ∧ W.cell? ⟨b, 3, none⟩ = some u3 ∧ W.cell? ⟨b, 4, none⟩ = some u4 ∧ W.cell? ⟨b, 5, none⟩ = some u5 ∧ W.cell? ⟨b, 6, none⟩ = some u6 ∧ W.cell? ⟨b, 7, none⟩ = some u7 ∧ W.cell? ⟨b, 8, none⟩ = some u8 ∧ W.cell? ⟨b, 9, none⟩ = some u9 ∧ W.cell? ⟨b, 10, none⟩ = some u10 ∧ W.cell? ⟨b, 11, none⟩ = some u11 ∧ W.cell? ⟨b, 12, none⟩ = some u12 ∧ W.cell? ⟨b, 13, none⟩ = some u13 ∧ W.cell? ⟨b, 14, none⟩ = some u14 ∧ W.cell? ⟨b, 15, none⟩ = some u15 ∧ W.frozen? ⟨b, 0, none⟩ = false ∧ W.frozen? ⟨b, 1, none⟩ = false ∧ W.frozen? ⟨b, 2, none⟩ = false ∧ W.frozen? ⟨b, 3, none⟩ = false ∧ W.frozen? ⟨b, 4, none⟩ = false ∧ W.frozen? ⟨b, 5, none⟩ = false ∧ W.frozen? ⟨b, 6, none⟩ = false ∧ W.frozen? ⟨b, 7, none⟩ = false ∧ W.frozen? ⟨b, 8, none⟩ = false ∧ W.frozen? ⟨b, 9, none⟩ = false ∧ W.frozen? ⟨b, 10, none⟩ = false ∧ W.frozen? ⟨b, 11, none⟩ = false ∧ W.frozen? ⟨b, 12, none⟩ = false ∧ W.frozen? ⟨b, 13, none⟩ = false ∧ W.frozen? ⟨b, 14, none⟩ = false ∧ W.frozen? ⟨b, 15, none⟩ = false :=
  ⟨Fo.cell_of_block h 0, Fo.cell_of_block h 1, Fo.cell_of_block h 2, Fo.cell_of_block h 3, Fo.cell_of_block h 4, Fo.cell_of_block h 5, Fo.cell_of_block h 6, Fo.cell_of_block h 7, Fo.cell_of_block h 8, Fo.cell_of_block h 9, Fo.cell_of_block h 10, Fo.cell_of_block h 11, Fo.cell_of_block h 12, Fo.cell_of_block h 13, Fo.cell_of_block h 14, Fo.cell_of_block h 15, Fo.unfrozen_of_block h 0, Fo.unfrozen_of_block h 1, Fo.unfrozen_of_block h 2, Fo.unfrozen_of_block h 3, Fo.unfrozen_of_block h 4, Fo.unfrozen_of_block h 5, Fo.unfrozen_of_block h 6, Fo.unfrozen_of_block h 7, Fo.unfrozen_of_block h 8, Fo.unfrozen_of_block h 9, Fo.unfrozen_of_block h 10, Fo.unfrozen_of_block h 11, Fo.unfrozen_of_block h 12, Fo.unfrozen_of_block h 13, Fo.unfrozen_of_block h 14, Fo.unfrozen_of_block h 15⟩

theorem there16 {W : World} {b : Nat} {T : TypeId} {u0 u1 u2 u3 u4 u5 u6 u7 u8 u9 u10 u11 u12 u13 u14 u15 : Value} (h : W.heap[b]? = some (.cells #[u0, u1, u2, u3, u4, u5, u6, u7, u8, u9, u10, u11, u12, u13, u14, u15] T (0, 0))) : W.there b 0 16 := fun j hj => by
  have e : 0 + j = j := Nat.zero_add j
  rw [e]
  exact ⟨by rw [Fo.cell_of_block h]; simp; omega, Fo.unfrozen_of_block h j⟩
theorem St.put {w W : World} {L : List (Nat × Nat × Value)} {b : Nat} (h : St w L W) (hn : ∀ c ∈ L, c.1 ≠ b) (hb : w.heap.size ≤ b) (j : Nat) (v : Value) : St w L (W.setCell ⟨b, j, none⟩ v) :=
  ⟨Below.setCell h.1 hb v, h.2.set j v hn⟩
theorem St.puts {w : World} {L : List (Nat × Nat × Value)} {b : Nat} (hn : ∀ c ∈ L, c.1 ≠ b) (hb : w.heap.size ≤ b) : ∀ (vs : List Value) (o : Nat) (W : World), St w L W → St w L (W.setCells b o vs)
  | [], _, _, h => h
  | v :: vs, o, W, h => St.puts hn hb vs (o + 1) _ (h.put hn hb o v)
set_option maxHeartbeats 4000000 in
set_option maxRecDepth 100000 in
theorem factOf_any (t a k n k' n' : Int) (f f' : Fo) (h0 : f.nodes ≤ 1048576) (h0' : f'.nodes ≤ 1048576) (hv : 0 ≤ t ∧ t ≤ 3 ∧ 0 ≤ a ∧ a ≤ 4 ∧ treeE t a false k n f = true) (hv' : 0 ≤ t ∧ t ≤ 3 ∧ 0 ≤ a ∧ a ≤ 4 ∧ treeE t a false k' n' f' = true) (A A' : Option Addr) (C C' : Nat) (w : World) (hl : f.Lies w A) (hl' : f'.Lies w A')
    (S S' : Nat → Bool) (hS : S = setC t k n f) (hS' : S' = setC t k' n' f') :
    Calls Try.prog 112 #[.agg #[.int .i64 t, .int .i64 a], .agg #[.int .i64 k, .int .i64 n, .slice A f.len C], .agg #[.int .i64 k', .int .i64 n', .slice A' f'.len C']] w fun e w' => e = .returned (.agg #[.bool (S 0), .bool (S 1), .bool (S 2), .bool (S 3), .bool (S 4), .bool (S 5), .bool (S 6), .bool (S 7), .bool (S' 0), .bool (S' 1), .bool (S' 2), .bool (S' 3), .bool (S' 4), .bool (S' 5), .bool (S' 6), .bool (S' 7)]) ∧ Below w.heap.size w w' := by
  have K1 : Hid (∀ W : World, Sees w W → Calls Try.prog 144 #[.agg #[.int .i64 t, .int .i64 a], .agg #[.int .i64 k, .int .i64 n, .slice A f.len C]] W fun e w' => e = .returned (.agg #[.bool (S 0), .bool (S 1), .bool (S 2), .bool (S 3), .bool (S 4), .bool (S 5), .bool (S 6), .bool (S 7)]) ∧ Below W.heap.size W w') := fun W h => by
    have := atomsOf_any t a k n f h0 hv A C W (hl.sees h)
    rw [hS]; exact this
  have K2 : Hid (∀ W : World, Sees w W → Calls Try.prog 144 #[.agg #[.int .i64 t, .int .i64 a], .agg #[.int .i64 k', .int .i64 n', .slice A' f'.len C']] W fun e w' => e = .returned (.agg #[.bool (S' 0), .bool (S' 1), .bool (S' 2), .bool (S' 3), .bool (S' 4), .bool (S' 5), .bool (S' 6), .bool (S' 7)]) ∧ Below W.heap.size W w') := fun W h => by
    have := atomsOf_any t a k' n' f' h0' hv' A' C' W (hl'.sees h)
    rw [hS']; exact this
  clear hS hS' hl hl' h0 h0' hv hv'
  obtain ⟨W0, hW0⟩ : ∃ W0, W0 = ((((w.alloc (.cells #[.int .i64 t, .int .i64 a] 29)).alloc (.cells #[.int .i64 k, .int .i64 n, .slice A f.len C] 46)).alloc (.cells #[.int .i64 k', .int .i64 n', .slice A' f'.len C'] 46)).alloc (.cells #[.bool false, .bool false, .bool false, .bool false, .bool false, .bool false, .bool false, .bool false, .bool false, .bool false, .bool false, .bool false, .bool false, .bool false, .bool false, .bool false] 146)) := ⟨_, rfl⟩
  have HK0 : Hid (W0.heap[w.heap.size + 1 + 1 + 1]? = some (.cells #[.bool false, .bool false, .bool false, .bool false, .bool false, .bool false, .bool false, .bool false, .bool false, .bool false, .bool false, .bool false, .bool false, .bool false, .bool false, .bool false] 146 (0, 0))) := by show _ = _; rw [hW0]; exact heap_new _ _ _ (by simp)
  have HS0 : Hid (St w [(w.heap.size, 0, .int .i64 t), (w.heap.size, 1, .int .i64 a), (w.heap.size + 1, 0, .int .i64 k), (w.heap.size + 1, 1, .int .i64 n), (w.heap.size + 1, 2, .slice A f.len C), (w.heap.size + 1 + 1, 0, .int .i64 k'), (w.heap.size + 1 + 1, 1, .int .i64 n'), (w.heap.size + 1 + 1, 2, .slice A' f'.len C')] W0) := by
    rw [hW0]
    exact ⟨(((((Sees.refl w).alloc _).alloc _).alloc _).alloc _), (by simp [go_sem]), (by simp [go_sem]), (by simp [go_sem]), (by simp [go_sem]), (by simp [go_sem]), (by simp [go_sem]), (by simp [go_sem]), (by simp [go_sem]), trivial⟩
  have HZ : Hid (w.heap.size + 1 + 1 + 1 < W0.heap.size) := by show _ < _; rw [hW0]; simp
  go_enter Try.func112, Try.ntmps112
  go_wp2_with fail
  show Code.wp _ _ _ _ ((((w.alloc (.cells #[.int .i64 t, .int .i64 a] 29)).alloc (.cells #[.int .i64 k, .int .i64 n, .slice A f.len C] 46)).alloc (.cells #[.int .i64 k', .int .i64 n', .slice A' f'.len C'] 46)).alloc (.cells #[.bool false, .bool false, .bool false, .bool false, .bool false, .bool false, .bool false, .bool false, .bool false, .bool false, .bool false, .bool false, .bool false, .bool false, .bool false, .bool false] 146))
  rw [← hW0]
  clear hW0
  refine wp_region_held_drew (S := fun w' => St w [(w.heap.size, 0, .int .i64 t), (w.heap.size, 1, .int .i64 a), (w.heap.size + 1, 0, .int .i64 k), (w.heap.size + 1, 1, .int .i64 n), (w.heap.size + 1, 2, .slice A f.len C), (w.heap.size + 1 + 1, 0, .int .i64 k'), (w.heap.size + 1 + 1, 1, .int .i64 n'), (w.heap.size + 1 + 1, 2, .slice A' f'.len C')] w') (by kernel_rfl) HS0.out.drew (fun HS => ?_)
  have HK0' : Hid (W0.drew.heap[w.heap.size + 1 + 1 + 1]? = some (.cells #[.bool false, .bool false, .bool false, .bool false, .bool false, .bool false, .bool false, .bool false, .bool false, .bool false, .bool false, .bool false, .bool false, .bool false, .bool false, .bool false] 146 (0, 0))) := HK0.out
  have HZ0' : Hid (w.heap.size + 1 + 1 + 1 < W0.drew.heap.size) := HZ.out
  clear HK0 HZ HS0; have HK0 := HK0'; have HZ0 := HZ0'; clear HK0' HZ0'
  refine wpAnyH_take (i := 0) (oi := { dst := some 7, op := Op.load 29 (Operand.tmp 3), type := 29, pos := "l07_conditions.go:205", after := #[], guard := none }) (v := .agg #[.int .i64 t, .int .i64 a]) rfl (by kernel_rfl) (by kernel_rfl) (by kernel_rfl) (fun _ _ _ h => h) (Or.inl ⟨rfl, fun W hW => by (obtain ⟨_, y0, y1, y2, y3, y4, y5, y6, y7, _⟩ := hW; go_simp; try rfl)⟩) HS ?_
  try simp only [Act.put, List.setIfInBounds_toArray, List.set_cons_zero, List.set_cons_succ]
  refine wpAnyH_take (i := 1) (oi := { dst := some 8, op := Op.load 46 (Operand.tmp 4), type := 46, pos := "l07_conditions.go:205", after := #[], guard := none }) (v := .agg #[.int .i64 k, .int .i64 n, .slice A f.len C]) rfl (by kernel_rfl) (by kernel_rfl) (by kernel_rfl) (fun _ _ _ h => h) (Or.inl ⟨rfl, fun W hW => by (obtain ⟨_, y0, y1, y2, y3, y4, y5, y6, y7, _⟩ := hW; go_simp; try rfl)⟩) HS ?_
  try simp only [Act.put, List.setIfInBounds_toArray, List.set_cons_zero, List.set_cons_succ]
  refine wpAnyH_take (i := 3) (oi := { dst := some 10, op := Op.load 29 (Operand.tmp 3), type := 29, pos := "l07_conditions.go:205", after := #[], guard := none }) (v := .agg #[.int .i64 t, .int .i64 a]) rfl (by kernel_rfl) (by kernel_rfl) (by kernel_rfl) (fun _ _ _ h => h) (Or.inl ⟨rfl, fun W hW => by (obtain ⟨_, y0, y1, y2, y3, y4, y5, y6, y7, _⟩ := hW; go_simp; try rfl)⟩) HS ?_
  try simp only [Act.put, List.setIfInBounds_toArray, List.set_cons_zero, List.set_cons_succ]
  refine wpAnyH_take (i := 4) (oi := { dst := some 11, op := Op.load 46 (Operand.tmp 5), type := 46, pos := "l07_conditions.go:205", after := #[], guard := none }) (v := .agg #[.int .i64 k', .int .i64 n', .slice A' f'.len C']) rfl (by kernel_rfl) (by kernel_rfl) (by kernel_rfl) (fun _ _ _ h => h) (Or.inl ⟨rfl, fun W hW => by (obtain ⟨_, y0, y1, y2, y3, y4, y5, y6, y7, _⟩ := hW; go_simp; try rfl)⟩) HS ?_
  try simp only [Act.put, List.setIfInBounds_toArray, List.set_cons_zero, List.set_cons_succ]
  refine wpAnyH_ready (rs := [2]) (by kernel_rfl) (by simp) ?_
  refine AllReadyH.cons (o := { dst := some 9, op := Op.call { callee := Callee.value (Operand.func 144), args := #[Operand.tmp 7, Operand.tmp 8], argTypes := #[29, 46] }, type := 88, pos := "l07_conditions.go:205", after := #[{ on := 0, ground := Ground.data }, { on := 1, ground := Ground.data }], guard := none }) rfl (fun K hK => ?_) AllReadyH.nil
  go_simp
  refine (K1.out _ HS.1).mono ?_
  rintro e w1 ⟨rfl, hb1⟩
  have HK1 := Lib.hid ((hb1.block _ HZ0.out).trans HK0.out)
  have HZ1 := Lib.hid (Nat.lt_of_lt_of_le HZ0.out hb1.size)
  have HS' := St.below HS hb1
  clear HS hb1 HK0 HZ0
  have HS := HS'
  clear HS'
  go_wp2_with fail
  refine hK.out _ _ HS (fun _ => ?_)
  clear hK K
  try simp only [Act.put, List.setIfInBounds_toArray, List.set_cons_zero, List.set_cons_succ]
  refine wpAnyH_ready (rs := [5]) (by kernel_rfl) (by simp) ?_
  refine AllReadyH.cons (o := { dst := some 12, op := Op.call { callee := Callee.value (Operand.func 144), args := #[Operand.tmp 10, Operand.tmp 11], argTypes := #[29, 46] }, type := 88, pos := "l07_conditions.go:205", after := #[{ on := 3, ground := Ground.data }, { on := 4, ground := Ground.data }, { on := 2, ground := Ground.chain }], guard := none }) rfl (fun K hK => ?_) AllReadyH.nil
  go_simp
  refine (K2.out _ HS.1).mono ?_
  rintro e w2 ⟨rfl, hb2⟩
  have HK2 := Lib.hid ((hb2.block _ HZ1.out).trans HK1.out)
  have HZ2 := Lib.hid (Nat.lt_of_lt_of_le HZ1.out hb2.size)
  have HS' := St.below HS hb2
  clear HS hb2 HK1 HZ1
  have HS := HS'
  clear HS'
  go_wp2_with fail
  refine hK.out _ _ HS (fun _ => ?_)
  clear hK K
  try simp only [Act.put, List.setIfInBounds_toArray, List.set_cons_zero, List.set_cons_succ]
  refine wpAnyH_take (i := 6) (oi := { dst := some 13, op := Op.build 146 #[(0, Operand.tmp 9), (1, Operand.tmp 12)], type := 146, pos := "l07_conditions.go:205", after := #[{ on := 2, ground := Ground.data }, { on := 5, ground := Ground.data }], guard := none }) (v := .agg #[.bool (S 0), .bool (S 1), .bool (S 2), .bool (S 3), .bool (S 4), .bool (S 5), .bool (S 6), .bool (S 7), .bool (S' 0), .bool (S' 1), .bool (S' 2), .bool (S' 3), .bool (S' 4), .bool (S' 5), .bool (S' 6), .bool (S' 7)]) rfl (by kernel_rfl) (by kernel_rfl) (by kernel_rfl) (fun _ _ _ h => h) (Or.inl ⟨rfl, fun W hW => by (obtain ⟨_, y0, y1, y2, y3, y4, y5, y6, y7, _⟩ := hW; go_simp; try rfl)⟩) HS ?_
  try simp only [Act.put, List.setIfInBounds_toArray, List.set_cons_zero, List.set_cons_succ]
  refine wpAnyH_ready (rs := [7]) (by kernel_rfl) (by simp) ?_
  refine AllReadyH.cons (o := { dst := none, op := Op.store 146 (Operand.tmp 6) (Operand.tmp 13), type := 0, pos := "l07_conditions.go:205", after := #[{ on := 6, ground := Ground.data }, { on := 5, ground := Ground.chain }, { on := 0, ground := Ground.phase }, { on := 1, ground := Ground.phase }, { on := 2, ground := Ground.phase }, { on := 3, ground := Ground.phase }, { on := 4, ground := Ground.phase }, { on := 5, ground := Ground.phase }, { on := 6, ground := Ground.phase }], guard := none }) rfl (fun K hK => ?_) AllReadyH.nil
  have hth : w2.there (w.heap.size + 1 + 1 + 1) 0 16 := there16 HK2.out
  have HSB := St.puts (b := w.heap.size + 1 + 1 + 1) (by simp; omega) (by omega) (Ft.fact16 S S') 0 w2 HS
  have kf : Hid (∀ j (h : j < (Ft.fact16 S S').length), (w2.setCells (w.heap.size + 1 + 1 + 1) 0 (Ft.fact16 S S')).cell? ⟨w.heap.size + 1 + 1 + 1, 0 + j, none⟩ = some (Ft.fact16 S S')[j]) := World.cell?_setCells_in (w.heap.size + 1 + 1 + 1) (Ft.fact16 S S') 0 w2 (fun j hj => (hth j hj).1)
  rw [if_pos (by rfl)]
  refine wp_store_mid 146 _ _ rfl (w.heap.size + 1 + 1 + 1) 0 #[.bool (S 0), .bool (S 1), .bool (S 2), .bool (S 3), .bool (S 4), .bool (S 5), .bool (S 6), .bool (S 7), .bool (S' 0), .bool (S' 1), .bool (S' 2), .bool (S' 3), .bool (S' 4), .bool (S' 5), .bool (S' 6), .bool (S' 7)] rfl rfl hth (by kernel_rfl) (by simp [Value.oneCell']) ?_
  clear HS HK2 HZ2 K1 K2
  have HS := HSB
  clear HSB
  refine hK.out _ _ HS (fun _ => ?_)
  clear hK K
  try simp only [Act.put]
  refine wpAnyH_done (by kernel_rfl) ?_ _
  have Bf : Sees w (w2.setCells (w.heap.size + 1 + 1 + 1) 0 (Ft.fact16 S S')) := HS.1
  clear HS hth
  show Exit.then _ _ _ _ (w2.setCells (w.heap.size + 1 + 1 + 1) 0 (Ft.fact16 S S'))
  generalize w2.setCells (w.heap.size + 1 + 1 + 1) 0 (Ft.fact16 S S') = wj at Bf kf ⊢
  have p0 : wj.cell? ⟨w.heap.size + 1 + 1 + 1, 0, none⟩ = some (.bool (S 0)) := kf.out 0 (by show 0 < 16; decide)
  have p1 : wj.cell? ⟨w.heap.size + 1 + 1 + 1, 1, none⟩ = some (.bool (S 1)) := kf.out 1 (by show 1 < 16; decide)
  have p2 : wj.cell? ⟨w.heap.size + 1 + 1 + 1, 2, none⟩ = some (.bool (S 2)) := kf.out 2 (by show 2 < 16; decide)
  have p3 : wj.cell? ⟨w.heap.size + 1 + 1 + 1, 3, none⟩ = some (.bool (S 3)) := kf.out 3 (by show 3 < 16; decide)
  have p4 : wj.cell? ⟨w.heap.size + 1 + 1 + 1, 4, none⟩ = some (.bool (S 4)) := kf.out 4 (by show 4 < 16; decide)
  have p5 : wj.cell? ⟨w.heap.size + 1 + 1 + 1, 5, none⟩ = some (.bool (S 5)) := kf.out 5 (by show 5 < 16; decide)
  have p6 : wj.cell? ⟨w.heap.size + 1 + 1 + 1, 6, none⟩ = some (.bool (S 6)) := kf.out 6 (by show 6 < 16; decide)
  have p7 : wj.cell? ⟨w.heap.size + 1 + 1 + 1, 7, none⟩ = some (.bool (S 7)) := kf.out 7 (by show 7 < 16; decide)
  have p8 : wj.cell? ⟨w.heap.size + 1 + 1 + 1, 8, none⟩ = some (.bool (S' 0)) := kf.out 8 (by show 8 < 16; decide)
  have p9 : wj.cell? ⟨w.heap.size + 1 + 1 + 1, 9, none⟩ = some (.bool (S' 1)) := kf.out 9 (by show 9 < 16; decide)
  have p10 : wj.cell? ⟨w.heap.size + 1 + 1 + 1, 10, none⟩ = some (.bool (S' 2)) := kf.out 10 (by show 10 < 16; decide)
  have p11 : wj.cell? ⟨w.heap.size + 1 + 1 + 1, 11, none⟩ = some (.bool (S' 3)) := kf.out 11 (by show 11 < 16; decide)
  have p12 : wj.cell? ⟨w.heap.size + 1 + 1 + 1, 12, none⟩ = some (.bool (S' 4)) := kf.out 12 (by show 12 < 16; decide)
  have p13 : wj.cell? ⟨w.heap.size + 1 + 1 + 1, 13, none⟩ = some (.bool (S' 5)) := kf.out 13 (by show 13 < 16; decide)
  have p14 : wj.cell? ⟨w.heap.size + 1 + 1 + 1, 14, none⟩ = some (.bool (S' 6)) := kf.out 14 (by show 14 < 16; decide)
  have p15 : wj.cell? ⟨w.heap.size + 1 + 1 + 1, 15, none⟩ = some (.bool (S' 7)) := kf.out 15 (by show 15 < 16; decide)
  clear kf
  go_wp2_with fail
  exact bodyPost_ret (v := .agg #[.bool (S 0), .bool (S 1), .bool (S 2), .bool (S 3), .bool (S 4), .bool (S 5), .bool (S 6), .bool (S 7), .bool (S' 0), .bool (S' 1), .bool (S' 2), .bool (S' 3), .bool (S' 4), .bool (S' 5), .bool (S' 6), .bool (S' 7)]) (by simp [results, Try.results112, go_sem, p0, p1, p2, p3, p4, p5, p6, p7, p8, p9, p10, p11, p12, p13, p14, p15]) rfl ⟨rfl, Bf⟩
end Go.Proofs.Ytmblgkpgfofceaa

namespace Go.Proofs.Ytmblgkpgfofceaa
open Go.RowKit

/-- Slices of integers, in a row. -/
def Rows2 (w : World) (Xs : List (List Int)) (b : Nat) : Prop := ∀ i (h : i < Xs.length), ∃ A C, w.cell? ⟨b, i, none⟩ = some (.slice A (Xs[i]).length C) ∧ Ints w Xs[i] A
theorem Rows2.below {w w' : World} {Xs : List (List Int)} {b : Nat} (h : Rows2 w Xs b) (hb : Below w.heap.size w w') : Rows2 w' Xs b := fun i hi => by
  obtain ⟨A, C, h1, h2⟩ := h i hi
  exact ⟨A, C, kc hb h1, h2.below hb⟩
def sumTo (Xs : List (List Int)) (j : Nat) : Nat := ((Xs.take j).flatten).length
theorem flat_step (Xs : List (List Int)) (j : Nat) (h : j < Xs.length) : (Xs.take (j + 1)).flatten = (Xs.take j).flatten ++ Xs[j] := by
  rw [List.take_succ_eq_append_getElem h, List.flatten_append, List.flatten_cons, List.flatten_nil, List.append_nil]
theorem sum_step (Xs : List (List Int)) (j : Nat) (h : j < Xs.length) : sumTo Xs (j + 1) = sumTo Xs j + (Xs[j]).length := by
  unfold sumTo; rw [flat_step Xs j h]; simp
theorem sum_le (Xs : List (List Int)) (j : Nat) : sumTo Xs j ≤ Xs.flatten.length := by
  have h := List.take_append_drop j Xs
  have : Xs.flatten = (Xs.take j).flatten ++ (Xs.drop j).flatten := by rw [← List.flatten_append, h]
  unfold sumTo; rw [this]; simp
theorem sum_all (Xs : List (List Int)) : sumTo Xs Xs.length = Xs.flatten.length := by simp [sumTo]

end Go.Proofs.Ytmblgkpgfofceaa

namespace Go.Proofs.Ytmblgkpgfofceaa
open Go.RowKit
set_option linter.unusedVariables false

theorem Try.infoFt : (Try.prog.info? 146).map (fun i => (i.zero, i.size, i.bytes)) = some (some (.agg #[.bool false, .bool false, .bool false, .bool false, .bool false, .bool false, .bool false, .bool false, .bool false, .bool false, .bool false, .bool false, .bool false, .bool false, .bool false, .bool false]), 16, 16) := by kernel_rfl
theorem wpList_append_ft {ops : Array Oper} {rest : List Oper} {o : Oper} {a : Act} {Q : Exit → Act → World → Prop} (W : World) (hgd : o.guard = none) (s x : Operand)
    (ho : o.op = .call { callee := .builtin .append, args := #[s, x], argTypes := #[90, 90] })
    (lo : Nat) (v : Value) (f : Ft) (S S' : Nat → Bool) (hs : a.eval s = v) (hx : a.eval x = .slice (some ⟨W.heap.size, 0, none⟩) 1 1) (hown : OwnFt W lo v f) (h63 : f.len ≤ 1048576) (hlo : lo ≤ W.heap.size) {Wl : World} (hw : Wl = W.alloc (.cells #[.bool (S 0), .bool (S 1), .bool (S 2), .bool (S 3), .bool (S 4), .bool (S 5), .bool (S 6), .bool (S 7), .bool (S' 0), .bool (S' 1), .bool (S' 2), .bool (S' 3), .bool (S' 4), .bool (S' 5), .bool (S' 6), .bool (S' 7)] 146))
    (h : ∀ v' w', OwnFt w' lo v' (f.add S S') → (∀ (w : World) (L : List (Nat × Nat × Value)), w.heap.size ≤ lo → (∀ c ∈ L, c.1 < lo) → St w L W → St w L w') → W.heap.size ≤ w'.heap.size → wpList Try.prog ops Q rest (a.put o.dst v') w') : wpList Try.prog ops Q (o :: rest) a Wl := by
  subst hw
  obtain ⟨i0, hi0, hz0, hz1, hz2⟩ := info_parts Try.infoFt
  refine wpList_append_lies (W.alloc (.cells #[.bool (S 0), .bool (S 1), .bool (S 2), .bool (S 3), .bool (S 4), .bool (S 5), .bool (S 6), .bool (S 7), .bool (S' 0), .bool (S' 1), .bool (S' 2), .bool (S' 3), .bool (S' 4), .bool (S' 5), .bool (S' 6), .bool (S' 7)] 146)) hgd s x 90 ho lo 146 i0 _ 16 16 Try.underlying90 hi0 hz0 hz1 hz2 rfl (by decide) v f.len f.flat hs (hown.alloc _) ⟨W.heap.size, 0, none⟩ 1 1 (Ft.fact16 S S') hx rfl (World.news_of_block (heap_new _ _ _ rfl)) (by intro u hu; simp [Ft.fact16] at hu; rcases hu with rfl | rfl | rfl | rfl | rfl | rfl | rfl | rfl | rfl | rfl | rfl | rfl | rfl | rfl | rfl | rfl <;> rfl) (by decide) (by unfold maxLen; omega) (by omega) (by simp; omega) _ rfl ?_
  intro g cap w' hown' hgrow hat hlt
  have hsz := hgrow.size
  refine h _ w' ?_ ?_ (by simp at hsz; omega)
  · show World.ownsRow _ _ _ _ _ _ _
    rw [Ft.flat_add, Ft.len_add]
    exact hown'
  · intro w L hw hL hst
    refine ⟨Below.grown (Sees.alloc hst.1 (.cells #[.bool (S 0), .bool (S 1), .bool (S 2), .bool (S 3), .bool (S 4), .bool (S 5), .bool (S 6), .bool (S 7), .bool (S' 0), .bool (S' 1), .bool (S' 2), .bool (S' 3), .bool (S' 4), .bool (S' 5), .bool (S' 6), .bool (S' 7)] 146)) hgrow (Below.size (Sees.alloc hst.1 (.cells #[.bool (S 0), .bool (S 1), .bool (S 2), .bool (S 3), .bool (S 4), .bool (S 5), .bool (S 6), .bool (S 7), .bool (S' 0), .bool (S' 1), .bool (S' 2), .bool (S' 3), .bool (S' 4), .bool (S' 5), .bool (S' 6), .bool (S' 7)] 146))) (fun k hk => ?_), ?_⟩
    · have := ((hown.alloc (.cells #[.bool (S 0), .bool (S 1), .bool (S 2), .bool (S 3), .bool (S 4), .bool (S 5), .bool (S 6), .bool (S 7), .bool (S' 0), .bool (S' 1), .bool (S' 2), .bool (S' 3), .bool (S' 4), .bool (S' 5), .bool (S' 6), .bool (S' 7)] 146)).lt k hk).1; omega
    · have key : ∀ (L : List (Nat × Nat × Value)), (∀ c ∈ L, c.1 < lo) → Has W L → Has w' L := by
        intro L
        induction L with
        | nil => intro _ _; trivial
        | cons c r ih =>
          intro hc hh
          obtain ⟨b, i, u⟩ := c
          have hb : b < lo := hc (b, i, u) (by simp)
          refine ⟨?_, ih (fun c h => hc c (by simp [h])) hh.2⟩
          refine (World.cell?_of_block (a := ⟨b, i, none⟩) ((hgrow.block b (by simp; omega) (fun hk => ?_)).trans (Below.heap_alloc _ _ _ (by omega)))).trans hh.1
          have := ((hown.alloc (.cells #[.bool (S 0), .bool (S 1), .bool (S 2), .bool (S 3), .bool (S 4), .bool (S 5), .bool (S 6), .bool (S 7), .bool (S' 0), .bool (S' 1), .bool (S' 2), .bool (S' 3), .bool (S' 4), .bool (S' 5), .bool (S' 6), .bool (S' 7)] 146)).lt b hk.symm).1; omega
      exact key L hL hst.2

set_option maxHeartbeats 4000000 in
set_option maxRecDepth 100000 in
theorem factsOn_any (t a act : Int) (xs : List Pm) (hf : FitPm xs) (hm : tot Pm.cnt xs ≤ 1048576) (hv : xs.all (premB t a) = true) (hs : 0 ≤ t ∧ t ≤ 3 ∧ 0 ≤ a ∧ a ≤ 4) (A : Option Addr) (C : Nat) (w : World) (hA : PmL w xs A) :
    Calls Try.prog 54 #[.agg #[.int .i64 t, .int .i64 a], .slice A xs.length C, .int .i64 act] w fun e w' => ∃ A' C', e = .returned (.slice A' (factsF t act xs).len C') ∧ (factsF t act xs).Lies w' A' ∧ Below w.heap.size w w' := by
  have hlen := pm_len xs
  have HA := Lib.hid hA; have HV := Lib.hid hv; have HT := Lib.hid hs
  clear hA hf hv hs
  go_enter Try.func54, Try.ntmps54
  go_wp2_with fail
  go_loopw [7, 12] (fun v i wr => ∃ j : Nat, j ≤ xs.length ∧ i = .int .i64 j ∧ Hid (OwnFt wr (w.heap.size + 1) v (factsF t act (xs.take j))) ∧ Hid (St w [(w.heap.size, 0, .int .i64 t), (w.heap.size, 1, .int .i64 a)] wr) ∧ Hid (w.heap.size + 1 ≤ wr.heap.size)) (fun _ i _ => xs.length - (intOf i).toNat)
  case atStart => exact ⟨0, Nat.zero_le _, rfl, OwnFt.nil _ _, ⟨(Sees.refl w).alloc _, (by simp [go_sem]), (by simp [go_sem]), trivial⟩, (by show _ ≤ _; simp)⟩
  case round =>
    obtain ⟨j, hj, rfl, hO, hS, hZ⟩ := hrel
    by_cases hjl : j < xs.length
    · obtain ⟨c, p, rfl, hat⟩ := HA.out (by rintro rfl; simp at hjl)
      obtain ⟨A1, C1, A2, C2, hx1, hQ, hR⟩ := hat j xs[j] (List.getElem?_eq_getElem hjl)
      have hge := pm_ge (List.getElem_mem hjl)
      have hpv : premB t a xs[j] = true := List.all_eq_true.1 HV.out _ (List.getElem_mem hjl)
      have hyes := fun h => factsF_yes (t := t) (act := act) hjl h
      have hno := fun h => factsF_no (t := t) (act := act) hjl h
      obtain ⟨x, hx⟩ : ∃ x, x = xs[j] := ⟨_, rfl⟩
      rw [← hx] at hx1 hQ hR hge hpv hyes hno
      have hc1 : condV t a x.pk x.pn x.pf = true := by unfold premB at hpv; simp only [Bool.and_eq_true] at hpv; exact hpv.1
      have hc2 : condV t a x.qk x.qn x.qf = true := by unfold premB at hpv; simp only [Bool.and_eq_true] at hpv; exact hpv.2.2
      unfold condV at hc1 hc2
      rw [Bool.and_eq_true] at hc1 hc2
      have hp1 := validE_parts hc1.1
      have hp2 := validE_parts hc2.1
      have hb : Sees w wr := hS.out.1
      obtain ⟨c0, c1, c2, c3, c4, c5, c6⟩ := hx1.below hb
      obtain ⟨s0, s1, _⟩ := hS.out.2
      obtain ⟨S, hS1⟩ : ∃ S, S = setC t x.pk x.pn x.pf := ⟨_, rfl⟩
      obtain ⟨S', hS2⟩ : ∃ S', S' = setC t x.qk x.qn x.qf := ⟨_, rfl⟩
      rw [← hS1, ← hS2] at hyes
      have KF : Hid (∀ W : World, Sees w W → Calls Try.prog 112 #[.agg #[.int .i64 t, .int .i64 a], .agg #[.int .i64 x.pk, .int .i64 x.pn, .slice A1 x.pf.len C1], .agg #[.int .i64 x.qk, .int .i64 x.qn, .slice A2 x.qf.len C2]] W fun e w' => e = .returned (.agg #[.bool (S 0), .bool (S 1), .bool (S 2), .bool (S 3), .bool (S 4), .bool (S 5), .bool (S 6), .bool (S 7), .bool (S' 0), .bool (S' 1), .bool (S' 2), .bool (S' 3), .bool (S' 4), .bool (S' 5), .bool (S' 6), .bool (S' 7)]) ∧ Below W.heap.size W w') := fun W h =>
        factOf_any t a x.pk x.pn x.qk x.qn x.pf x.qf (by omega) (by omega) hp1 hp2 A1 A2 C1 C2 W (hQ.sees h) (hR.sees h) S S' hS1 hS2
      have HYES := Lib.hid hyes; have HNO := Lib.hid hno
      clear hx1 hQ hR hge hpv hyes hno hx hc1 hc2 hp1 hp2 hS1 hS2 hat
      have j0 : (0 : Int) ≤ (j : Int) := Int.natCast_nonneg _
      have j1 : (j : Int) < (xs.length : Int) := by omega
      have hsz := hZ.out
      have q0 := ka (.cells #[.int .i64 x.pk, .int .i64 x.pn, .slice A1 x.pf.len C1, .int .i64 x.act, .int .i64 x.qk, .int .i64 x.qn, .slice A2 x.qf.len C2] 50) s0
      have q1 := ka (.cells #[.int .i64 x.pk, .int .i64 x.pn, .slice A1 x.pf.len C1, .int .i64 x.act, .int .i64 x.qk, .int .i64 x.qn, .slice A2 x.qf.len C2] 50) s1
      by_cases ha : x.act = act
      · subst ha
        clear s0 s1 HNO
        have HTK : Hid (factsF t x.act (xs.take (j + 1)) = (factsF t x.act (xs.take j)).add S S') := HYES.out rfl
        clear HYES
        go_wp2_with fail
        refine (KF.out _ (hb.alloc _)).mono ?_
        rintro e w1 ⟨rfl, hb1⟩
        have HS1 : Hid (St w [(w.heap.size, 0, .int .i64 t), (w.heap.size, 1, .int .i64 a)] w1) := (hS.out.alloc _).below hb1
        have HO1 : Hid (OwnFt w1 (w.heap.size + 1) _ (factsF t x.act (xs.take j))) := (hO.out.alloc _).below hb1
        have HZ1 : Hid (w.heap.size + 1 ≤ w1.heap.size) := Nat.le_trans hsz (Nat.le_trans (by simp) hb1.size)
        clear hb1 c0 c1 c2 c3 c4 c5 c6 q0 q1 KF hO hS hZ hsz hb
        have hfl : Hid ((factsF t x.act (xs.take j)).len ≤ 1048576) := by
          have := factsF_len t x.act (xs.take j)
          rw [List.length_take] at this
          show _ ≤ _; omega
        go_wp2_with (at_builtin; refine wpList_append_ft w1 (by rfl) _ _ (by rfl) (w.heap.size + 1) _ (factsF t x.act (xs.take j)) S S' (by rfl) (by rfl) HO1.out hfl.out HZ1.out (by rfl) ?_)
        intro v' w3 hO3 hS3 hz3
        have HO4 : Hid (OwnFt w3 (w.heap.size + 1) v' (factsF t x.act (xs.take (j + 1)))) := by show OwnFt _ _ _ _; rw [HTK.out]; exact hO3
        have HS4 : Hid (St w [(w.heap.size, 0, .int .i64 t), (w.heap.size, 1, .int .i64 a)] w3) := hS3 w [(w.heap.size, 0, .int .i64 t), (w.heap.size, 1, .int .i64 a)] (Nat.le_succ _) (by intro c1 d1 v1 hc1; simp at hc1; rcases hc1 with ⟨rfl, _⟩ | ⟨rfl, _⟩ <;> exact Nat.lt_succ_self _) HS1.out
        have HZ4 : Hid (w.heap.size + 1 ≤ w3.heap.size) := Nat.le_trans HZ1.out hz3
        clear hO3 hS3 hz3 HO1 HS1 HZ1 HTK hfl
        go_wp2_with fail
        go_roundw
        case rel => exact ⟨j + 1, by omega, by go_num, HO4, HS4, HZ4⟩
        case measure => simp [intOf]; omega
      · have hd : decide (x.act = act) = false := decide_eq_false ha
        have HTK : Hid (factsF t act (xs.take (j + 1)) = factsF t act (xs.take j)) := HNO.out ha
        clear s0 s1 HYES HNO
        have ho := hO.out.alloc (.cells #[.int .i64 x.pk, .int .i64 x.pn, .slice A1 x.pf.len C1, .int .i64 x.act, .int .i64 x.qk, .int .i64 x.qn, .slice A2 x.qf.len C2] 50)
        rw [← HTK.out] at ho
        have HO4 := Lib.hid ho
        clear ho
        have HS4 : Hid (St w [(w.heap.size, 0, .int .i64 t), (w.heap.size, 1, .int .i64 a)] (wr.alloc (.cells #[.int .i64 x.pk, .int .i64 x.pn, .slice A1 x.pf.len C1, .int .i64 x.act, .int .i64 x.qk, .int .i64 x.qn, .slice A2 x.qf.len C2] 50))) := hS.out.alloc _
        have HZ4 : Hid (w.heap.size + 1 ≤ (wr.alloc (.cells #[.int .i64 x.pk, .int .i64 x.pn, .slice A1 x.pf.len C1, .int .i64 x.act, .int .i64 x.qk, .int .i64 x.qn, .slice A2 x.qf.len C2] 50)).heap.size) := by show _ ≤ _; simp; omega
        clear hO hS hZ hb HTK KF
        go_wp2_with fail
        go_roundw
        case rel => exact ⟨j + 1, by omega, by go_num, HO4, HS4, HZ4⟩
        case measure => simp [intOf]; omega
    · obtain rfl : j = xs.length := by omega
      have hO2 := hO.out
      rw [List.take_length] at hO2
      obtain ⟨A1, C1, rfl, hL⟩ := hO2.lies
      have HL := Lib.hid hL
      have hb := hS.out.1
      clear hjl hO hO2 hL
      go_wp2_with fail
      go_ret
      exact ⟨A1, C1, rfl, HL.out, hb⟩
end Go.Proofs.Ytmblgkpgfofceaa
