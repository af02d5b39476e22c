/- FnExactProgText: for all arguments impl.ProgText answers as the model does, and changes none of them. Condition: the table progForms holds what the program's text lays, which the card ties. -/
import Derived.Test.YtcgbepmhfimbjaaDoorPqb
import Derived.Test.YtcgbepmhfimbjaaDoorPqc
import Derived.Test.YtcgbepmhfimbjaaDoorPqa
import Derived.Test.YtcgbepmhfimbjaaDoorPg
import Derived.Test.YtcgbepmhfimbjaaDoorRows
import Derived.Test.YtcgbepmhfimbjaaDoorCards
import Derived.Test.YtcgbepmhfimbjaaDoorTie
import Derived.Test.YtcgbepmhfimbjaaDoorLProgText
import Derived.Test.YtcgbepmhfimbjaaDoorPtT
import Derived.LaidMore
import Derived.Stop.Joined
import Derived.SevenTiedAt
import Derived.MakeChecks
import Derived.Carry
namespace Go.Proofs.YtcgbepmhfimbjaaDoor
open Go.RowKit
set_option linter.unusedVariables false

set_option maxRecDepth 100000 in
set_option maxHeartbeats 4000000 in
theorem writeProg_any (t a : Int) (ha : a ≤ 4) (w0 : World) (hF : Forms w0) (hW : FWords w0) : ∀ (N : Nat) (cf : Fo) (f : Pg), cf.nodes + f.nodes < N → cf.nodes + f.nodes ≤ 1048576 → ∀ (k n ck cn : Int) (A D : Option Addr) (C E : Nat) (l : List UInt8) (B : Nat) (w : World), ptreeE t a k n ck cn cf f = true → cf.Lies w0 A → f.Lies w0 D → l.length + 40 * (1 + cf.nodes + f.nodes) ≤ 1099000000000 → Sees w0 w → w0.heap.size ≤ B → Bld B l w →
      Calls Tryd.prog 34 #[.pointer (some ⟨B, 0, none⟩), .agg #[.int .i64 k, .int .i64 n, .int .i64 ck, .int .i64 cn, .slice A cf.len C, .slice D f.len E]] w fun e w' => e = .returned (.tuple #[]) ∧ Wrote B (l ++ ptE k n ck cn cf f) w w' := by
  intro N
  induction N with
  | zero => intro cf f hN; exact absurd hN (Nat.not_lt_zero _)
  | succ N ih =>
    intro cf f hN hm k n ck cn A D C E l B w ht hA hD hl hs hB hb
    rcases ptree_forms ht with ⟨rfl, hk⟩ | ⟨k1, n1, ck1, cn1, cf1, f1, rfl, rfl, hc, h1⟩ | ⟨k1, n1, ck1, cn1, cf1, f1, k2, n2, ck2, cn2, cf2, f2, rfl, hk, h1, h2⟩
    · simp only [Pg.nodes] at hN hm hl
      rcases hk with rfl | rfl | ⟨rfl, hn0, hn1⟩ | ⟨rfl, hc⟩
      · exact (writeProg_1 w0 n ck cn cf A C D E B hF.f1 hW.f1 l (by omega) w hs hB hb).mono fun e w' ⟨g1, g2⟩ => ⟨g1, g2.to (by simp [ptE, ptN])⟩
      · exact (writeProg_2 w0 n ck cn cf A C D E B hF.f2 hW.f2 l (by omega) w hs hB hb).mono fun e w' ⟨g1, g2⟩ => ⟨g1, g2.to (by simp [ptE, ptN])⟩
      · exact (writeProg_3 w0 n ck cn cf A C D E B hF.f3 hW.f3 l (by omega) hn0 (by omega) w hs hB hb).mono fun e w' ⟨g1, g2⟩ => ⟨g1, g2.to (by simp [ptE, ptN])⟩
      · have hcl : (ndE cf ck cn).tx.length ≤ 83886080 := by have := (condV_tx hc).2; omega
        have KN : Hid (∀ W : World, Sees w0 W → Calls Tryd.prog 54 #[.agg #[.int .i64 ck, .int .i64 cn, .slice A cf.len C]] W fun e w' => e = .returned (ndE cf ck cn).val ∧ Below W.heap.size W w') := fun W h => nodeOf_any (cf.nodes + 1) cf (Nat.lt_succ_self _) (by omega) t a false ck cn A C W (hA.sees h) (condV_parts hc).2.2
        have KT : Hid (∀ (L : List UInt8) (W : World), L.length ≤ 1099500000000 → Bld B L W → Calls Tryd.prog 65 #[.pointer (some ⟨B, 0, none⟩), (ndE cf ck cn).val] W fun e w' => e = .returned (.tuple #[]) ∧ Wrote B (L ++ (ndE cf ck cn).tx) W w') := fun L W hL hb2 => writeNode_any _ (condV_tx hc).1 B L W (by have := ndE_size cf ck cn; omega) hb2
        exact (writeProg_4 w0 n ck cn cf A C D E B (ndE cf ck cn).tx (ndE cf ck cn).val hcl hA KN KT hF.f4 hW.f4 l (by omega) w hs hB hb).mono fun e w' ⟨g1, g2⟩ => ⟨g1, g2.to (by simp [ptE, ptN])⟩
    · obtain ⟨b', o', rfl, hat⟩ := hD (by simp)
      obtain ⟨d10, d11, d12, d13, ⟨A1, C1, d14, hA1⟩, ⟨D1, E1, d15, hD1⟩, _⟩ := hat
      have hD1 : f1.Lies w0 D1 := hD1
      have pa := ptE_len t a ha (cf1.nodes + f1.nodes + 1) cf1 f1 (Nat.lt_succ_self _) k1 n1 ck1 cn1 h1
      simp only [Pg.nodes] at hN hm hl
      have hal : (ptE k1 n1 ck1 cn1 cf1 f1).length ≤ 83886080 := by omega
      have hcl : (ndE cf ck cn).tx.length ≤ 83886080 := by have := (condV_tx hc).2; omega
      have KN : Hid (∀ W : World, Sees w0 W → Calls Tryd.prog 54 #[.agg #[.int .i64 ck, .int .i64 cn, .slice A cf.len C]] W fun e w' => e = .returned (ndE cf ck cn).val ∧ Below W.heap.size W w') := fun W h => nodeOf_any (cf.nodes + 1) cf (Nat.lt_succ_self _) (by omega) t a false ck cn A C W (hA.sees h) (condV_parts hc).2.2
      have KT : Hid (∀ (L : List UInt8) (W : World), L.length ≤ 1099500000000 → Bld B L W → Calls Tryd.prog 65 #[.pointer (some ⟨B, 0, none⟩), (ndE cf ck cn).val] W fun e w' => e = .returned (.tuple #[]) ∧ Wrote B (L ++ (ndE cf ck cn).tx) W w') := fun L W hL hb2 => writeNode_any _ (condV_tx hc).1 B L W (by have := ndE_size cf ck cn; omega) hb2
      obtain ⟨M1, hM1e⟩ : ∃ M, M = l.length + 10 + (ndE cf ck cn).tx.length := ⟨_, rfl⟩
      have hcl2 := (condV_tx hc).2
      have K1 : Hid (∀ (L : List UInt8) (W : World), L.length ≤ M1 → Sees w0 W → Bld B L W → Calls Tryd.prog 34 #[.pointer (some ⟨B, 0, none⟩), .agg #[.int .i64 k1, .int .i64 n1, .int .i64 ck1, .int .i64 cn1, .slice A1 cf1.len C1, .slice D1 f1.len E1]] W fun e w' => e = .returned (.tuple #[]) ∧ Wrote B (L ++ ptE k1 n1 ck1 cn1 cf1 f1) W w') := fun L W hL h hb2 =>
        ih cf1 f1 (by omega) (by omega) k1 n1 ck1 cn1 A1 D1 C1 E1 L B W h1 hA1 hD1 (by omega) h hB hb2
      have hM1 : (l ++ [119, 104, 105, 108, 101, 32] ++ (ndE cf ck cn).tx ++ [32, 100, 111, 32]).length ≤ M1 := by simp only [List.length_append, List.length_cons, List.length_nil]; omega
      exact (writeProg_7 w0 n ck cn cf k1 n1 ck1 cn1 cf1 f1 A C (some ⟨b', o', none⟩) E B b' o' A1 D1 C1 E1 (ndE cf ck cn).tx (ndE cf ck cn).val hcl hA KN KT (ptE k1 n1 ck1 cn1 cf1 f1) hal M1 K1 d10 d11 d12 d13 d14 d15 rfl hF.f7 hW.f7 l (by omega) hM1 w hs hB hb).mono fun e w' ⟨g1, g2⟩ => ⟨g1, g2.to (by simp [ptE, ptN, Pg.txs])⟩
    · rcases hk with rfl | ⟨rfl, hc⟩
      · obtain ⟨b', o', rfl, hat⟩ := hD (by simp)
        obtain ⟨d10, d11, d12, d13, ⟨A1, C1, d14, hA1⟩, ⟨D1, E1, d15, hD1⟩, d20, d21, d22, d23, ⟨A2, C2, d24, hA2⟩, ⟨D2, E2, d25, hD2⟩, _⟩ := hat
        have hD1 : f1.Lies w0 D1 := hD1
        have pa := ptE_len t a ha (cf1.nodes + f1.nodes + 1) cf1 f1 (Nat.lt_succ_self _) k1 n1 ck1 cn1 h1
        have hD2 : f2.Lies w0 D2 := hD2
        have pb := ptE_len t a ha (cf2.nodes + f2.nodes + 1) cf2 f2 (Nat.lt_succ_self _) k2 n2 ck2 cn2 h2
        simp only [Pg.nodes] at hN hm hl
        have hal : (ptE k1 n1 ck1 cn1 cf1 f1).length ≤ 83886080 := by omega
        have hbl : (ptE k2 n2 ck2 cn2 cf2 f2).length ≤ 83886080 := by omega
        obtain ⟨M1, hM1e⟩ : ∃ M, M = l.length + 1 := ⟨_, rfl⟩
        obtain ⟨M2, hM2e⟩ : ∃ M, M = l.length + 3 + (ptE k1 n1 ck1 cn1 cf1 f1).length := ⟨_, rfl⟩
        have K1 : Hid (∀ (L : List UInt8) (W : World), L.length ≤ M1 → Sees w0 W → Bld B L W → Calls Tryd.prog 34 #[.pointer (some ⟨B, 0, none⟩), .agg #[.int .i64 k1, .int .i64 n1, .int .i64 ck1, .int .i64 cn1, .slice A1 cf1.len C1, .slice D1 f1.len E1]] W fun e w' => e = .returned (.tuple #[]) ∧ Wrote B (L ++ ptE k1 n1 ck1 cn1 cf1 f1) W w') := fun L W hL h hb2 =>
          ih cf1 f1 (by omega) (by omega) k1 n1 ck1 cn1 A1 D1 C1 E1 L B W h1 hA1 hD1 (by omega) h hB hb2
        have K2 : Hid (∀ (L : List UInt8) (W : World), L.length ≤ M2 → Sees w0 W → Bld B L W → Calls Tryd.prog 34 #[.pointer (some ⟨B, 0, none⟩), .agg #[.int .i64 k2, .int .i64 n2, .int .i64 ck2, .int .i64 cn2, .slice A2 cf2.len C2, .slice D2 f2.len E2]] W fun e w' => e = .returned (.tuple #[]) ∧ Wrote B (L ++ ptE k2 n2 ck2 cn2 cf2 f2) W w') := fun L W hL h hb2 =>
          ih cf2 f2 (by omega) (by omega) k2 n2 ck2 cn2 A2 D2 C2 E2 L B W h2 hA2 hD2 (by omega) h hB hb2
        have hM1 : (l ++ [123]).length ≤ M1 := by simp only [List.length_append, List.length_cons, List.length_nil]; omega
        have hM2 : (l ++ [123] ++ ptE k1 n1 ck1 cn1 cf1 f1 ++ [59, 32]).length ≤ M2 := by simp only [List.length_append, List.length_cons, List.length_nil]; omega
        exact (writeProg_5 w0 n ck cn cf k1 n1 ck1 cn1 cf1 f1 k2 n2 ck2 cn2 cf2 f2 A C (some ⟨b', o', none⟩) E B b' o' A1 D1 C1 E1 A2 D2 C2 E2 (ptE k1 n1 ck1 cn1 cf1 f1) hal M1 K1 (ptE k2 n2 ck2 cn2 cf2 f2) hbl M2 K2 d10 d11 d12 d13 d14 d15 d20 d21 d22 d23 d24 d25 rfl hF.f5 hW.f5 l (by omega) hM1 hM2 w hs hB hb).mono fun e w' ⟨g1, g2⟩ => ⟨g1, g2.to (by simp [ptE, ptN, Pg.txs])⟩
      · obtain ⟨b', o', rfl, hat⟩ := hD (by simp)
        obtain ⟨d10, d11, d12, d13, ⟨A1, C1, d14, hA1⟩, ⟨D1, E1, d15, hD1⟩, d20, d21, d22, d23, ⟨A2, C2, d24, hA2⟩, ⟨D2, E2, d25, hD2⟩, _⟩ := hat
        have hD1 : f1.Lies w0 D1 := hD1
        have pa := ptE_len t a ha (cf1.nodes + f1.nodes + 1) cf1 f1 (Nat.lt_succ_self _) k1 n1 ck1 cn1 h1
        have hD2 : f2.Lies w0 D2 := hD2
        have pb := ptE_len t a ha (cf2.nodes + f2.nodes + 1) cf2 f2 (Nat.lt_succ_self _) k2 n2 ck2 cn2 h2
        simp only [Pg.nodes] at hN hm hl
        have hal : (ptE k1 n1 ck1 cn1 cf1 f1).length ≤ 83886080 := by omega
        have hbl : (ptE k2 n2 ck2 cn2 cf2 f2).length ≤ 83886080 := by omega
        have hcl : (ndE cf ck cn).tx.length ≤ 83886080 := by have := (condV_tx hc).2; omega
        have KN : Hid (∀ W : World, Sees w0 W → Calls Tryd.prog 54 #[.agg #[.int .i64 ck, .int .i64 cn, .slice A cf.len C]] W fun e w' => e = .returned (ndE cf ck cn).val ∧ Below W.heap.size W w') := fun W h => nodeOf_any (cf.nodes + 1) cf (Nat.lt_succ_self _) (by omega) t a false ck cn A C W (hA.sees h) (condV_parts hc).2.2
        have KT : Hid (∀ (L : List UInt8) (W : World), L.length ≤ 1099500000000 → Bld B L W → Calls Tryd.prog 65 #[.pointer (some ⟨B, 0, none⟩), (ndE cf ck cn).val] W fun e w' => e = .returned (.tuple #[]) ∧ Wrote B (L ++ (ndE cf ck cn).tx) W w') := fun L W hL hb2 => writeNode_any _ (condV_tx hc).1 B L W (by have := ndE_size cf ck cn; omega) hb2
        have hcl2 := (condV_tx hc).2
        obtain ⟨M1, hM1e⟩ : ∃ M, M = l.length + 9 + (ndE cf ck cn).tx.length := ⟨_, rfl⟩
        obtain ⟨M2, hM2e⟩ : ∃ M, M = l.length + 15 + (ndE cf ck cn).tx.length + (ptE k1 n1 ck1 cn1 cf1 f1).length := ⟨_, rfl⟩
        have K1 : Hid (∀ (L : List UInt8) (W : World), L.length ≤ M1 → Sees w0 W → Bld B L W → Calls Tryd.prog 34 #[.pointer (some ⟨B, 0, none⟩), .agg #[.int .i64 k1, .int .i64 n1, .int .i64 ck1, .int .i64 cn1, .slice A1 cf1.len C1, .slice D1 f1.len E1]] W fun e w' => e = .returned (.tuple #[]) ∧ Wrote B (L ++ ptE k1 n1 ck1 cn1 cf1 f1) W w') := fun L W hL h hb2 =>
          ih cf1 f1 (by omega) (by omega) k1 n1 ck1 cn1 A1 D1 C1 E1 L B W h1 hA1 hD1 (by omega) h hB hb2
        have K2 : Hid (∀ (L : List UInt8) (W : World), L.length ≤ M2 → Sees w0 W → Bld B L W → Calls Tryd.prog 34 #[.pointer (some ⟨B, 0, none⟩), .agg #[.int .i64 k2, .int .i64 n2, .int .i64 ck2, .int .i64 cn2, .slice A2 cf2.len C2, .slice D2 f2.len E2]] W fun e w' => e = .returned (.tuple #[]) ∧ Wrote B (L ++ ptE k2 n2 ck2 cn2 cf2 f2) W w') := fun L W hL h hb2 =>
          ih cf2 f2 (by omega) (by omega) k2 n2 ck2 cn2 A2 D2 C2 E2 L B W h2 hA2 hD2 (by omega) h hB hb2
        have hM1 : (l ++ [105, 102, 32] ++ (ndE cf ck cn).tx ++ [32, 116, 104, 101, 110, 32]).length ≤ M1 := by simp only [List.length_append, List.length_cons, List.length_nil]; omega
        have hM2 : (l ++ [105, 102, 32] ++ (ndE cf ck cn).tx ++ [32, 116, 104, 101, 110, 32] ++ ptE k1 n1 ck1 cn1 cf1 f1 ++ [32, 101, 108, 115, 101, 32]).length ≤ M2 := by simp only [List.length_append, List.length_cons, List.length_nil]; omega
        exact (writeProg_6 w0 n ck cn cf k1 n1 ck1 cn1 cf1 f1 k2 n2 ck2 cn2 cf2 f2 A C (some ⟨b', o', none⟩) E B b' o' A1 D1 C1 E1 A2 D2 C2 E2 (ndE cf ck cn).tx (ndE cf ck cn).val hcl hA KN KT (ptE k1 n1 ck1 cn1 cf1 f1) hal M1 K1 (ptE k2 n2 ck2 cn2 cf2 f2) hbl M2 K2 d10 d11 d12 d13 d14 d15 d20 d21 d22 d23 d24 d25 rfl hF.f6 hW.f6 l (by omega) hM1 hM2 w hs hB hb).mono fun e w' ⟨g1, g2⟩ => ⟨g1, g2.to (by simp [ptE, ptN, Pg.txs])⟩

set_option maxRecDepth 100000 in
set_option maxHeartbeats 4000000 in
theorem implProgText_any (t a k n ck cn : Int) (cf : Fo) (f : Pg) (hm : cf.nodes + f.nodes ≤ 1048576) (hcf : cf.Fits) (hf : f.Fits) (A D : Option Addr) (C E : Nat) (w : World) (hA : cf.Lies w A) (hD : f.Lies w D) (hF : Forms w) (hW : FWords w) :
    Calls Tryd.prog 16 #[.agg #[.int .i64 t, .int .i64 a], .agg #[.int .i64 k, .int .i64 n, .int .i64 ck, .int .i64 cn, .slice A cf.len C, .slice D f.len E]] w fun e w' => e = .returned (.string ⟨(pgT t a k n ck cn cf f).toArray⟩) ∧ Below w.heap.size w w' := by
  obtain ⟨w0, hw0⟩ : ∃ w0, w0 = (w.alloc (.cells #[.int .i64 t, .int .i64 a] 36)).alloc (.cells #[.int .i64 k, .int .i64 n, .int .i64 ck, .int .i64 cn, .slice A cf.len C, .slice D f.len E] 40) := ⟨_, rfl⟩
  have B0 : Sees w w0 := by rw [hw0]; exact ((Sees.refl w).alloc _).alloc _
  have hg0 : w0.heap[w.heap.size]? = some (.cells #[.int .i64 t, .int .i64 a] 36 (0, 0)) := by rw [hw0]; exact (Below.heap_alloc _ _ _ (by simp)).trans (heap_new _ _ _ rfl)
  have hp0 : w0.heap[w.heap.size + 1]? = some (.cells #[.int .i64 k, .int .i64 n, .int .i64 ck, .int .i64 cn, .slice A cf.len C, .slice D f.len E] 40 (0, 0)) := by rw [hw0]; exact heap_new _ _ _ (by simp)
  have z0 : w0.heap.size = w.heap.size + 2 := by rw [hw0]; simp
  obtain ⟨q1, hq1⟩ : ∃ q1 : Bool, q1 = validP t a k n ck cn cf f := ⟨_, rfl⟩
  have K1 : Hid (∀ W : World, Sees w W → Calls Tryd.prog 24 #[.agg #[.int .i64 t, .int .i64 a], .agg #[.int .i64 k, .int .i64 n, .int .i64 ck, .int .i64 cn, .slice A cf.len C, .slice D f.len E]] W fun e w' => e = .returned (.bool q1) ∧ Below W.heap.size W w') := fun W h => by
    rw [hq1]; exact implValidProg_any t a k n ck cn cf f hm hcf hf A D C E W (hA.sees h) (hD.sees h) (hF.sees h)
  have HG0 := Lib.hid hg0; have HP0 := Lib.hid hp0; have HB0 := Lib.hid B0; have HZ0 := Lib.hid z0
  cases q1
  · have HD : Hid (pgT t a k n ck cn cf f = []) := by show _ = _; unfold pgT; rw [← hq1]; rfl
    rw [HD.out]
    have s0 := Fo.cell_of_block hg0 0; have s1 := Fo.cell_of_block hg0 1
    obtain ⟨p0, p1, p2, p3, p4, p5⟩ := six_cells hp0
    rw [hw0] at s0 s1 p0 p1 p2 p3 p4 p5
    have HW0 := Lib.hid hw0
    clear hq1 HD hA hD hF hW hg0 hp0 hw0 z0 B0
    go_enter Tryd.func16, Tryd.ntmps16
    go_wp2_with fail
    rw [← HW0.out]
    refine (K1.out _ HB0.out).mono ?_
    rintro e w1 ⟨rfl, hb⟩
    have HB1 := Lib.hid (HB0.out.below hb)
    clear hb s0 s1 p0 p1 p2 p3 p4 p5
    go_wp2_with fail
    go_ret
    exact ⟨rfl, HB1.out⟩
  · have hv := validP_parts hq1.symm
    have HD : Hid (pgT t a k n ck cn cf f = ptE k n ck cn cf f) := by show _ = _; unfold pgT; rw [← hq1]; rfl
    rw [HD.out]
    obtain ⟨sv, hsv⟩ : ∃ l : List UInt8, l = ptE k n ck cn cf f := ⟨_, rfl⟩
    have KX : Hid (∀ (B : Nat) (W : World), Sees w W → w.heap.size ≤ B → Bld B [] W → Calls Tryd.prog 34 #[.pointer (some ⟨B, 0, none⟩), .agg #[.int .i64 k, .int .i64 n, .int .i64 ck, .int .i64 cn, .slice A cf.len C, .slice D f.len E]] W fun e w' => e = .returned (.tuple #[]) ∧ Wrote B ([] ++ sv) W w') := fun B W h hB hb => by
      rw [hsv]; exact writeProg_any t a hv.2.1 w hF hW (cf.nodes + f.nodes + 1) cf f (Nat.lt_succ_self _) hm k n ck cn A D C E [] B W hv.2.2 hA hD (by simp only [List.length_nil]; omega) h hB hb
    have KS : Hid (∀ (B : Nat) (W : World), Bld B ([] ++ sv) W → Calls Tryd.prog 35 #[.pointer (some ⟨B, 0, none⟩)] W fun e w' => e = .returned (.string ⟨sv.toArray⟩) ∧ Below B W w') := fun B W hW => string_any hW
    rw [← hsv]
    have s0 := Fo.cell_of_block hg0 0; have s1 := Fo.cell_of_block hg0 1
    obtain ⟨p0, p1, p2, p3, p4, p5⟩ := six_cells hp0
    rw [hw0] at s0 s1 p0 p1 p2 p3 p4 p5
    have HW0 := Lib.hid hw0
    clear hq1 HD hA hD hF hW hg0 hp0 hw0 z0 B0 hv hsv
    go_enter Tryd.func16, Tryd.ntmps16
    go_wp2_with fail
    rw [← HW0.out]
    refine (K1.out _ HB0.out).mono ?_
    rintro e w1 ⟨rfl, hb⟩
    have HB1 := Lib.hid (HB0.out.below hb)
    have HP1 := Lib.hid ((hb.block _ (by have := HZ0.out; omega)).trans HP0.out)
    have lw1 : w.heap.size + 1 < w1.heap.size := by have := hb.size; have := HZ0.out; omega
    obtain ⟨w2, hw2⟩ : ∃ w2, w2 = w1.alloc (.cells #[.pointer none, .slice none 0 0] 71) := ⟨_, rfl⟩
    have hb2 : Bld w1.heap.size [] w2 := by rw [hw2]; exact Bld.fresh w1
    have B2 := Lib.hid (show Sees w w2 by rw [hw2]; exact HB1.out.alloc _)
    have hp2 : w2.heap[w.heap.size + 1]? = some (.cells #[.int .i64 k, .int .i64 n, .int .i64 ck, .int .i64 cn, .slice A cf.len C, .slice D f.len E] 40 (0, 0)) := by rw [hw2]; exact (Below.heap_alloc _ _ _ lw1).trans HP1.out
    clear p0 p1 p2 p3 p4 p5 s0 s1
    obtain ⟨p0, p1, p2, p3, p4, p5⟩ := six_cells hp2
    rw [hw2] at p0 p1 p2 p3 p4 p5
    have HW2 := Lib.hid hw2; have HBB := Lib.hid hb2
    have hlw : w.heap.size ≤ w1.heap.size := HB1.out.size
    clear hb hw2 hb2 hp2
    go_wp2_with fail
    rw [← HW2.out]
    refine (KX.out _ _ B2.out hlw HBB.out).mono ?_
    rintro e w3 ⟨rfl, hx⟩
    have HX := Lib.hid hx
    clear hx p0 p1 p2 p3 p4 p5
    go_wp2_with fail
    refine (KS.out _ _ HX.out.bld).mono ?_
    rintro e w4 ⟨rfl, hy⟩
    have HY := Lib.hid (Below.trans B2.out ((HX.out.below.trans hy).mono hlw))
    clear hy
    go_wp2_with fail
    go_ret
    exact ⟨rfl, HY.out⟩
end Go.Proofs.YtcgbepmhfimbjaaDoor

namespace Go.Proofs.YtcgbepmhfimbjaaDoor
open Go.RowKit Go.WideShapes Go.ChangeShapes Go.ChangeAt Go.Deep Go.WideElems

theorem array_six {α : Type} {cs : Array α} (h : cs.size = 6) : ∃ a b c d e f, cs = #[a, b, c, d, e, f] := by
  obtain ⟨l⟩ := cs
  match l, h with
  | [a, b, c, d, e, f], _ => exact ⟨a, b, c, d, e, f, rfl⟩
theorem Tryd.cellsPg : Tryd.prog.cellsOf 29 = 6 := by kernel_rfl

/-- A list of rows out of its rows, from the last one on. -/
theorem progs_of_rows {W : World} {b o len : Nat} {Z : Nat → Int × Int × Int × Int × Fo × Option Addr × Nat × Pg × Option Addr × Nat}
    (h : ∀ i, i < len → W.cell? ⟨b, o + i * 6, none⟩ = some (.int .i64 (Z i).1) ∧ W.cell? ⟨b, o + i * 6 + 1, none⟩ = some (.int .i64 (Z i).2.1) ∧ W.cell? ⟨b, o + i * 6 + 2, none⟩ = some (.int .i64 (Z i).2.2.1) ∧ W.cell? ⟨b, o + i * 6 + 3, none⟩ = some (.int .i64 (Z i).2.2.2.1) ∧
      (W.cell? ⟨b, o + i * 6 + 4, none⟩ = some (.slice (Z i).2.2.2.2.2.1 (Z i).2.2.2.2.1.len (Z i).2.2.2.2.2.2.1) ∧ (Z i).2.2.2.2.1.Lies W (Z i).2.2.2.2.2.1) ∧
      (W.cell? ⟨b, o + i * 6 + 5, none⟩ = some (.slice (Z i).2.2.2.2.2.2.2.2.1 (Z i).2.2.2.2.2.2.2.1.len (Z i).2.2.2.2.2.2.2.2.2) ∧ (Z i).2.2.2.2.2.2.2.1.Lies W (Z i).2.2.2.2.2.2.2.2.1) ∧
      ((Z i).2.2.2.2.1.len ≤ 9223372036854775807 ∧ (Z i).2.2.2.2.1.Fits) ∧ (Z i).2.2.2.2.2.2.2.1.len ≤ 9223372036854775807 ∧ (Z i).2.2.2.2.2.2.2.1.Fits) :
    ∀ j, j ≤ len → ∃ f : Pg, f.len = j ∧ f.At W b (o + (len - j) * 6) ∧ f.Fits := by
  intro j
  induction j with
  | zero => intro _; exact ⟨.nil, rfl, trivial, trivial⟩
  | succ j ih =>
    intro hj
    obtain ⟨f, h1, h2, h3⟩ := ih (by omega)
    obtain ⟨g0, g1, g2, g3, g4, g5, g6, g7, g8⟩ := h (len - (j + 1)) (by omega)
    refine ⟨.cons _ _ _ _ _ _ f, by simp [Pg.len, h1], ⟨g0, g1, g2, g3, ⟨_, _, g4.1, g4.2⟩, ⟨_, _, g5.1, g5.2⟩, ?_⟩, g6, g7, g8, h3⟩
    rw [show o + (len - (j + 1)) * 6 + 6 = o + (len - j) * 6 from by omega]
    exact h2

set_option maxRecDepth 100000 in
theorem lprogs_open {H : Type} {enc : TypeId × Value → H} {W : World} : ∀ (fuel : Nat) (cs : List Value) (x : DataW H × List MemPlace),
    DataW.trod enc Tryd.prog W 0 (fun _ => true) true fuel 27 cs = some x → ∃ (f : Pg) (A : Option Addr) (C : Nat), cs = [.slice A f.len C] ∧ f.Lies W A ∧ f.len ≤ 9223372036854775807 ∧ f.Fits := by
  intro fuel
  induction fuel using Nat.strongRecOn with
  | _ fuel ih =>
    intro cs x h
    rcases DataW.trod_slice Tryd.underlying27 h with ⟨rfl, _⟩ | ⟨a, len, cap, elems, rest, n, hn, rfl, rfl, hb, hl, hm, hlen, hel, hsp, hns⟩
    · exact ⟨.nil, none, 0, rfl, fun h => absurd rfl h, Nat.zero_le _, trivial⟩
    · have one : ∀ i, i < len → ∃ z : Int × Int × Int × Int × Fo × Option Addr × Nat × Pg × Option Addr × Nat, W.cell? (a.add (i * 6)) = some (.int .i64 z.1) ∧ W.cell? (a.add (i * 6 + 1)) = some (.int .i64 z.2.1) ∧ W.cell? (a.add (i * 6 + 2)) = some (.int .i64 z.2.2.1) ∧ W.cell? (a.add (i * 6 + 3)) = some (.int .i64 z.2.2.2.1) ∧
          (W.cell? (a.add (i * 6 + 4)) = some (.slice z.2.2.2.2.2.1 z.2.2.2.2.1.len z.2.2.2.2.2.2.1) ∧ z.2.2.2.2.1.Lies W z.2.2.2.2.2.1) ∧
          (W.cell? (a.add (i * 6 + 5)) = some (.slice z.2.2.2.2.2.2.2.2.1 z.2.2.2.2.2.2.2.1.len z.2.2.2.2.2.2.2.2.2) ∧ z.2.2.2.2.2.2.2.1.Lies W z.2.2.2.2.2.2.2.2.1) ∧
          (z.2.2.2.2.1.len ≤ 9223372036854775807 ∧ z.2.2.2.2.1.Fits) ∧ z.2.2.2.2.2.2.2.1.len ≤ 9223372036854775807 ∧ z.2.2.2.2.2.2.2.1.Fits := by
        intro i hi
        have key := hel i hi
        rw [List.getElem?_eq_getElem (by omega), Tryd.cellsPg] at key
        obtain ⟨cs', h1, h2⟩ := Option.bind_eq_some_iff.1 key
        obtain ⟨_, hl3, hc⟩ := World.cells?_some h1
        obtain ⟨xs, m, rfl, _, _, hxl, hf⟩ := DataW.trod_struct Tryd.underlying29 h2
        match xs, hxl, cs', hl3 with
        | [y0, y1, y2, y3], _, [v0, v1, v2, v3, v4, v5], _ =>
          have g0 : DataW.trod enc Tryd.prog W 0 (fun _ => true) true m 2 [v0] = some y0 := hf 0 _ rfl
          have g1 : DataW.trod enc Tryd.prog W 0 (fun _ => true) true m 2 [v1] = some y1 := hf 1 _ rfl
          have g2 : DataW.trod enc Tryd.prog W 0 (fun _ => true) true m 26 [v2, v3, v4] = some y2 := hf 2 _ rfl
          have g3 : DataW.trod enc Tryd.prog W 0 (fun _ => true) true m 27 [v5] = some y3 := hf 3 _ rfl
          obtain ⟨zs, m2, _, _, _, hzl, hz⟩ := DataW.trod_struct Tryd.underlying26 g2
          match zs, hzl with
          | [z0, z1, z2], _ =>
            have e0 : DataW.trod enc Tryd.prog W 0 (fun _ => true) true m2 2 [v2] = some z0 := hz 0 _ rfl
            have e1 : DataW.trod enc Tryd.prog W 0 (fun _ => true) true m2 2 [v3] = some z1 := hz 1 _ rfl
            have e2 : DataW.trod enc Tryd.prog W 0 (fun _ => true) true m2 24 [v4] = some z2 := hz 2 _ rfl
            obtain ⟨k, hk, _, _⟩ := DataW.trod_int Tryd.underlying2 g0
            obtain ⟨nn, hnn, _, _⟩ := DataW.trod_int Tryd.underlying2 g1
            obtain ⟨ck, hck, _, _⟩ := DataW.trod_int Tryd.underlying2 e0
            obtain ⟨cn, hcn, _, _⟩ := DataW.trod_int Tryd.underlying2 e1
            obtain ⟨cf, A, C, hcf, l1, l2, l3⟩ := lforest_open _ _ _ e2
            obtain ⟨f, B, D, hf2, p1, p2, p3⟩ := ih m (by omega) _ _ g3
            simp at hk hnn hck hcn hcf hf2
            subst hk; subst hnn; subst hck; subst hcn; subst hcf; subst hf2
            have c0 := hc 0 (by omega)
            have c1 := hc 1 (by omega)
            have c2 := hc 2 (by omega)
            have c3 := hc 3 (by omega)
            have c4 := hc 4 (by omega)
            have c5 := hc 5 (by omega)
            rw [add_add] at c0 c1 c2 c3 c4 c5
            exact ⟨(k, nn, ck, cn, cf, A, C, f, B, D), c0, c1, c2, c3, ⟨c4, l1⟩, ⟨c5, p1⟩, ⟨l2, l3⟩, p2, p3⟩
      obtain ⟨b, o, spot⟩ := a
      by_cases h0 : len = 0
      · subst h0
        exact ⟨.nil, _, _, rfl, fun h => absurd rfl h, Nat.zero_le _, trivial⟩
      have : Inhabited (Int × Int × Int × Int × Fo × Option Addr × Nat × Pg × Option Addr × Nat) := ⟨(0, 0, 0, 0, .nil, none, 0, .nil, none, 0)⟩
      obtain ⟨Z, hZ⟩ := choose_lt one
      have hspot : spot = none := by
        have := (hZ 0 (by omega)).1
        simpa [Addr.add] using World.cell?_spot this
      subst hspot
      obtain ⟨f, e1, e2, e3⟩ := progs_of_rows (W := W) (b := b) (o := o) (len := len) (Z := Z)
        (fun i hi => by
          obtain ⟨q0, q1, q2, q3, q4, q5, q6⟩ := hZ i hi
          rw [add_plain] at q0 q1 q2 q3 q4 q5
          exact ⟨q0, q1, q2, q3, q4, q5, q6⟩) len (Nat.le_refl _)
      rw [Nat.sub_self, Nat.zero_mul] at e2
      subst e1
      exact ⟨f, some ⟨b, o, none⟩, cap, rfl, fun _ => ⟨b, o, rfl, e2⟩, by unfold maxLen at hm; omega, e3⟩

set_option maxRecDepth 100000 in
/-- A program handed by value. -/
theorem lprog_open {H : Type} {enc : TypeId × Value → H} {W : World} {base : Nat} {v : Value} {d : DataW H} {p : List MemPlace} (hok : Value.okWide Tryd.prog W .any base 29 v) (h : DataW.Trod enc Tryd.prog W 0 (fun _ => true) true 29 v d p) :
    ∃ (k n ck cn : Int) (cf : Fo) (A : Option Addr) (C : Nat) (f : Pg) (B : Option Addr) (D : Nat), v = .agg #[.int .i64 k, .int .i64 n, .int .i64 ck, .int .i64 cn, .slice A cf.len C, .slice B f.len D] ∧ (cf.Lies W A ∧ cf.len ≤ 9223372036854775807 ∧ cf.Fits) ∧ f.Lies W B ∧ f.len ≤ 9223372036854775807 ∧ f.Fits ∧
      ((Lit.int .i64 k).wf = true ∧ (Lit.int .i64 n).wf = true ∧ (Lit.int .i64 ck).wf = true ∧ (Lit.int .i64 cn).wf = true) := by
  obtain ⟨cs, rfl, hsz⟩ := okWide_struct Tryd.underlying29 hok
  obtain ⟨v0, v1, v2, v3, v4, v5, rfl⟩ := array_six (hsz.trans Tryd.cellsPg)
  obtain ⟨fuel, hf0⟩ := h
  obtain ⟨xs, m, rfl, _, _, hxl, hf⟩ := DataW.trod_struct Tryd.underlying29 hf0
  match xs, hxl with
  | [y0, y1, y2, y3], _ =>
    have g0 : DataW.trod enc Tryd.prog W 0 (fun _ => true) true m 2 [v0] = some y0 := hf 0 _ rfl
    have g1 : DataW.trod enc Tryd.prog W 0 (fun _ => true) true m 2 [v1] = some y1 := hf 1 _ rfl
    have g2 : DataW.trod enc Tryd.prog W 0 (fun _ => true) true m 26 [v2, v3, v4] = some y2 := hf 2 _ rfl
    have g3 : DataW.trod enc Tryd.prog W 0 (fun _ => true) true m 27 [v5] = some y3 := hf 3 _ rfl
    obtain ⟨zs, m2, _, _, _, hzl, hz⟩ := DataW.trod_struct Tryd.underlying26 g2
    match zs, hzl with
    | [z0, z1, z2], _ =>
      have e0 : DataW.trod enc Tryd.prog W 0 (fun _ => true) true m2 2 [v2] = some z0 := hz 0 _ rfl
      have e1 : DataW.trod enc Tryd.prog W 0 (fun _ => true) true m2 2 [v3] = some z1 := hz 1 _ rfl
      have e2 : DataW.trod enc Tryd.prog W 0 (fun _ => true) true m2 24 [v4] = some z2 := hz 2 _ rfl
      obtain ⟨k, hk, _, wk⟩ := DataW.trod_int Tryd.underlying2 g0
      obtain ⟨nn, hnn, _, wn⟩ := DataW.trod_int Tryd.underlying2 g1
      obtain ⟨ck, hck, _, wck⟩ := DataW.trod_int Tryd.underlying2 e0
      obtain ⟨cn, hcn, _, wcn⟩ := DataW.trod_int Tryd.underlying2 e1
      obtain ⟨cf, A, C, hcf, l1, l2, l3⟩ := lforest_open _ _ _ e2
      obtain ⟨f, B, D, hf2, p1, p2, p3⟩ := lprogs_open _ _ _ g3
      simp at hk hnn hck hcn hcf hf2
      subst hk; subst hnn; subst hck; subst hcn; subst hcf; subst hf2
      exact ⟨k, nn, ck, cn, cf, A, C, f, B, D, rfl, ⟨l1, l2, l3⟩, p1, p2, p3, wk, wn, wck, wcn⟩
end Go.Proofs.YtcgbepmhfimbjaaDoor

namespace Go.Proofs.YtcgbepmhfimbjaaDoor
open Go.RowKit Go.WideShapes Go.ChangeShapes Go.ChangeAt Go.Deep Go.WideElems
set_option linter.unusedVariables false

theorem door_met (os : Os) (args : Array Value) : laidMetH Tryd.prog Rows.fnExactProgTextRow.laid ((World.doorLaid Tryd.prog 400 os).forCall (fun _ _ => 0) ⟨#[], args, []⟩).memory :=
  laidMetH_of_parts3 (fuel := 8) (laidMet_of_run' 8 (by kernel_rfl) (by kernel_rfl)) (by kernel_rfl) (by kernel_rfl)

set_option maxRecDepth 100000 in
theorem progText_lifted (os : Os) (started : os.Started) (H : Type) (enc : TypeId × Value → H) :
    ReturnsInHanded {} Tryd.checked os 4 .any (fun w args => (Rows.fnExactProgTextSpec.pre enc Tryd.prog Tryd.f4 [] false w args ∧ laidMetH Tryd.prog Rows.fnExactProgTextRow.laid w) ∧ sizedMet enc Tryd.prog Tryd.f4 (OpenSpec.ofChange Rows.fnExactProgTextSpec) false w args)
      (Rows.fnExactProgTextSpec.post enc Tryd.prog Tryd.f4 false true false false) := by
  refine returnsInHanded_of_change_and (C := Tryd.checked) (X := fun w _ => laidMetH Tryd.prog Rows.fnExactProgTextRow.laid w) (fun _ _ _ hh h => h.of_heap hh) Tryd.own started (by kernel_rfl) Tryd.func4
    (ChangeSpec.witness_shaped (enc := enc) (C := Tryd.checked) (os := os) (X := fun w _ => laidMetH Tryd.prog Rows.fnExactProgTextRow.laid w) false (World.doorLaid Tryd.prog 400 os) #[.agg #[.int .i64 0, .int .i64 0], .agg #[.int .i64 0, .int .i64 0, .int .i64 0, .int .i64 0, .slice none 0 0, .slice none 0 0]] 8 rfl (World.shaped_of_RefB (by kernel_rfl) (by kernel_rfl)) (by kernel_rfl) (by kernel_rfl) (by kernel_rfl) (door_met os _)) ?_
  intro W base args ds gs before hval0 hW _ _ hL _
  have hval : ∀ (j : Nat) t v, Tryd.f4.params[j]? = some t → args[j]? = some v → Value.okWide Tryd.prog W .any base t v := hval0
  have hW' := hW
  obtain ⟨p, q, hA0, hV, rfl, _, _⟩ := hW
  have hA : DataW.TrodAll enc Tryd.prog W 0 (fun _ => true) true Tryd.f4.params.toList args.toList ds p := hA0
  rw [Tryd.params4] at hA hval
  obtain ⟨v0, v1, d0, d1, z0, z1, rfl, rfl, rfl, h0, h1⟩ := trodAll_two hA
  obtain ⟨t0, a0, rfl, wt0, wa0⟩ := lsig_open (hval 0 23 v0 rfl rfl) h0
  obtain ⟨k1, n1, ck1, cn1, cf1, A1, C1, f1, B1, D1, rfl, ⟨hl1, hcm1, hc1⟩, hr1, hfm1, hf1, wk1⟩ := lprog_open (hval 1 29 v1 rfl rfl) h1
  have hV1 : DataW.TrodVars enc Tryd.prog W (fun _ => true) ["loop.example/g01101/impl.progForms"] gs q := hV
  have hgs : ∃ d1, gs = [d1] := by obtain ⟨_, _, _, _, d1, _, h, _⟩ := trodVars_one hV1; exact ⟨d1, h⟩
  obtain ⟨d1, rfl⟩ := hgs
  have hF := forms_of hL (by kernel_rfl) (by unfold Rows.fnExactProgTextRow; simp)
  have hFW := fwords_of hL (by kernel_rfl) (by unfold Rows.fnExactProgTextRow; simp)
  have hA0' := hA0
  clear hA0 hval0
  refine (lawProgText t0 a0 k1 n1 ck1 cn1 cf1 f1 A1 B1 C1 D1 W (fun h0 W' Z1 Y1 h1 h2 => specProgText_any t0 a0 k1 n1 ck1 cn1 cf1 f1 h0 hc1 hf1 Z1 Y1 _ _ W' h1 h2) (fun h0 W' Z1 Y1 hs h1 h2 => implProgText_any t0 a0 k1 n1 ck1 cn1 cf1 f1 h0 hc1 hf1 Z1 Y1 _ _ W' h1 h2 (hF.sees hs) (hFW.sees hs)) ⟨hcm1, hfm1⟩ hc1 hf1 hl1 hr1).mono fun e W' ⟨he, hb⟩ => ?_
  subst he
  refine ⟨_, rfl, post_of_below (pa := _) (pv := q) hW' ?_ ?_ ?_ rfl hb ?_⟩
  · intro b sp hd
    exact trodAll_mk1 (shut_bool Tryd.underlying4 _)
  · intro sp hsp
    exact trodAll_stays Tryd.laidOut hb (by rw [Tryd.params4]; intro t ht; simp at ht; rcases ht with rfl | rfl <;> exact ⟨by kernel_rfl, of_decide_eq_true (by kernel_rfl)⟩) hA0' (fun x hx => hW'.lt x (List.mem_append_left _ hx)) (fun x hx => hsp x (List.mem_append_left _ hx))
  · intro sp hsp
    exact var_stays Tryd.laidOut hb gForms tForms (by kernel_rfl) (of_decide_eq_true (by kernel_rfl)) hV1 (fun x hx => hW'.lt x (List.mem_append_right _ hx)) (fun x hx => hsp x (List.mem_append_right _ hx))
  · exact ok_one (by kernel_rfl) rfl (okWide_bool_mk Tryd.underlying4 _)

theorem progText_holds : Rows.FnExactProgTextSaid :=
  OpenClaim.holds_of_wide 4 Tryd.f4 rfl rfl rfl rfl rfl rfl rfl ⟨rfl, rfl, rfl, rfl, rfl⟩ rfl rfl rfl rfl rfl (by kernel_rfl) Tryd.func4 (by kernel_rfl)
    (of_decide_eq_true (by kernel_rfl)) (by unfold Func.isWrapper; first | (rw [if_pos (by decide +kernel)]; kernel_rfl) | (rw [if_neg (by decide +kernel)]; exact ⟨rfl, rfl⟩))
    (fun os started H enc _ => progText_lifted os started H enc)

set_option maxRecDepth 100000 in
theorem progText_plain (f : FuncId) (fn : Func) (hf : Tryd.pinned.checked.prog.funcNamed "loop.example/g01101/laws.FnExactProgText" = some f) (hfn : Tryd.pinned.checked.prog.funcs[f]? = some fn) :
    true = Tryd.pinned.checked.prog.looks [] ∧ ∀ (j : Nat) t, fn.params[j]? = some t → Tryd.pinned.checked.prog.wantsStandIn t = false := by
  obtain rfl : f = 4 := Option.some.inj ((show Tryd.prog.funcNamed "loop.example/g01101/laws.FnExactProgText" = some 4 by kernel_rfl).symm.trans hf) |>.symm
  obtain rfl : fn = Tryd.f4 := (Option.some.inj (Tryd.func4.symm.trans hfn)).symm
  refine ⟨by kernel_rfl, fun j t ht => ?_⟩
  rw [Tryd.params4] at ht
  have h := Array.mem_of_getElem? ht
  simp at h
  rcases h with rfl | rfl
  · exact (show Tryd.prog.wantsStandIn 23 = false by kernel_rfl)
  · exact (show Tryd.prog.wantsStandIn 29 = false by kernel_rfl)

/-- The card. -/
theorem progText_card : Rows.FnExactProgTextCardSaid :=
  Claim7.holds_tied_plain_at .later [] _ _ _ _ progText_holds (fun _ h => by cases h) (by kernel_rfl) (fun _ h => by cases h) fnExactProgText_row_tie rfl ⟨rfl, rfl⟩ (by kernel_rfl) rfl progText_plain (by kernel_rfl)
#print axioms progText_card
end Go.Proofs.YtcgbepmhfimbjaaDoor
