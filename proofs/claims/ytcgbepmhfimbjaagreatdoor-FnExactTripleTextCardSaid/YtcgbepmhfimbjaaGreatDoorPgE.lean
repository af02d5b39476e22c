/- Contracts of laws.eqProgS, laws.eqProg, of programs and themselves. -/
import Derived.Test.YtcgbepmhfimbjaaGreatDoorEq
import Derived.Test.YtcgbepmhfimbjaaGreatDoorPg
import Derived.Deep.RegionHeld3
namespace Go.Proofs.YtcgbepmhfimbjaaGreatDoor
open Go.RowKit

set_option maxHeartbeats 1000000 in
set_option maxRecDepth 100000 in
theorem eqProg_of {cf : Fo} {ks : Pg} (hcm : cf.len ≤ 9223372036854775807) (hcf : cf.Fits) (ihS : ∀ (B : Option Addr) (D : Nat) (B' : Option Addr) (D' : Nat) (w : World), ks.Lies w B → ks.Lies w B' →
      Calls Tryz.prog 56 #[.slice B ks.len D, .slice B' ks.len D'] w fun e w' => e = .returned (.bool true) ∧ Below w.heap.size w w')
    (k n ck cn : Int) (A B A' B' : Option Addr) (C D C' D' : Nat) (w : World) (hA : cf.Lies w A) (hB : ks.Lies w B) (hA' : cf.Lies w A') (hB' : ks.Lies w B') :
    Calls Tryz.prog 27 #[.agg #[.int .i64 k, .int .i64 n, .int .i64 ck, .int .i64 cn, .slice A cf.len C, .slice B ks.len D], .agg #[.int .i64 k, .int .i64 n, .int .i64 ck, .int .i64 cn, .slice A' cf.len C', .slice B' ks.len D']] w fun e w' => e = .returned (.bool true) ∧ Below w.heap.size w w' := by
  have K1 : Hid (∀ W : World, Sees w W → Calls Tryz.prog 26 #[.agg #[.int .i64 ck, .int .i64 cn, .slice A cf.len C], .agg #[.int .i64 ck, .int .i64 cn, .slice A' cf.len C']] W fun e w' => e = .returned (.bool true) ∧ Below W.heap.size W w') := fun W h => eqExpr_same cf hcm hcf ck cn A C A' C' W (hA.sees h) (hA'.sees h)
  have K2 : Hid (∀ W : World, Sees w W → Calls Tryz.prog 56 #[.slice B ks.len D, .slice B' ks.len D'] W fun e w' => e = .returned (.bool true) ∧ Below W.heap.size W w') := fun W h => ihS B D B' D' W (hB.sees h) (hB'.sees h)
  clear ihS hA hB hA' hB'
  have nk : (k != k) = false := by simp
  have nn : (n != n) = false := by simp
  go_enter Tryz.func27, Tryz.ntmps27
  go_wp2_with fail
  refine (K1.out _ (by unfold Sees; go_grown)).mono ?_
  rintro e w1 ⟨rfl, hb⟩
  have S1 : Hid (St w [(w.heap.size, 5, .slice B ks.len D), (w.heap.size + 1, 5, .slice B' ks.len D')] w1) := St.below ⟨(by unfold Sees; go_grown), (by simp [go_sem]), (by simp [go_sem]), trivial⟩ hb
  clear hb
  obtain ⟨_, x0, x1, _⟩ := S1.out
  go_wp2_with fail
  clear x0 x1
  refine (K2.out _ S1.out.1).mono ?_
  rintro e w3 ⟨rfl, hb⟩
  have S3 := Lib.hid (S1.out.below hb)
  clear hb S1
  go_wp2_with fail
  go_ret
  exact ⟨rfl, S3.out.1⟩

set_option maxHeartbeats 2000000 in
set_option maxRecDepth 100000 in
theorem eqProgS_same : ∀ (N : Nat) (f : Pg), f.nodes < N → f.len ≤ 9223372036854775807 → f.Fits → ∀ (A : Option Addr) (C : Nat) (A' : Option Addr) (C' : Nat) (w : World), f.Lies w A → f.Lies w A' →
      Calls Tryz.prog 56 #[.slice A f.len C, .slice A' f.len C'] w fun e w' => e = .returned (.bool true) ∧ Below w.heap.size w w' := by
  intro N
  induction N with
  | zero => intro f hN; exact absurd hN (Nat.not_lt_zero _)
  | succ N ih =>
    intro f hN hm hf A C A' C' w hl hl'
    have IH := Lib.hid ih; clear ih
    have nl : ((f.len : Int) != (f.len : Int)) = false := by simp
    go_enter Tryz.func56, Tryz.ntmps56
    go_wp2_with fail
    go_loopw [5] (fun i wr => ∃ j : Nat, j ≤ f.len ∧ i = .int .i64 j ∧ Below w.heap.size w wr) (fun i _ => f.len - (intOf i).toNat)
    case atStart => exact ⟨0, Nat.zero_le _, rfl, Below.refl _ _⟩
    case round =>
      obtain ⟨j, hj, rfl, hb⟩ := hrel
      clear nl
      by_cases hjl : j < f.len
      · obtain ⟨b, o, rfl, hat⟩ := hl (by rintro rfl; simp [Pg.len] at hjl)
        obtain ⟨b', o', rfl, hat'⟩ := hl' (by rintro rfl; simp [Pg.len] at hjl)
        have hatr := hat.later (w' := wr) (fun b o hlt => hb.cell (p := ⟨b, o, none⟩) hlt)
        have hatr' := hat'.later (w' := wr) (fun b o hlt => hb.cell (p := ⟨b, o, none⟩) hlt)
        obtain ⟨k, n, ck, cn, cf, ks, r, A1, C1, B1, D1, e1, e2, c0, c1, c2, c3, c4, hA1, c5, hB1⟩ := Pg.Lies.row hatr hjl
        obtain ⟨k', n', ck', cn', cf', ks', r', A2, C2, B2, D2, e3, e4, d0, d1, d2, d3, d4, hA2, d5, hB2⟩ := Pg.Lies.row hatr' hjl
        have he := e1.out.symm.trans e3.out
        simp only [Pg.cons.injEq] at he
        obtain ⟨rfl, rfl, rfl, rfl, rfl, rfl, rfl⟩ := he
        have hfd := Pg.fits_drop hf j
        have hnd := f.nodes_drop j
        rw [e1.out] at hfd hnd
        have hkn : ks.nodes < N := by simp only [Pg.nodes] at hnd; omega
        have ltb : b < wr.heap.size := World.block_lt_of_cell? _ _ c0
        have ltb' : b' < wr.heap.size := World.block_lt_of_cell? _ _ d0
        have hj0 : (0 : Int) ≤ (j : Int) := Int.natCast_nonneg _
        have hj1 : (j : Int) < (f.len : Int) := by omega
        have KC : Hid (∀ w2 : World, cf.Lies w2 A1 → ks.Lies w2 B1 → cf.Lies w2 A2 → ks.Lies w2 B2 → Calls Tryz.prog 27 #[.agg #[.int .i64 k, .int .i64 n, .int .i64 ck, .int .i64 cn, .slice A1 cf.len C1, .slice B1 ks.len D1], .agg #[.int .i64 k, .int .i64 n, .int .i64 ck, .int .i64 cn, .slice A2 cf.len C2, .slice B2 ks.len D2]] w2 fun e w' => e = .returned (.bool true) ∧ Below w2.heap.size w2 w') :=
          fun w2 h1 h2 h3 h4 => eqProg_of hfd.1.1 hfd.1.2 (fun A C A' C' w => IH.out ks hkn hfd.2.1 hfd.2.2.1 A C A' C' w) k n ck cn A1 B1 A2 B2 C1 D1 C2 D2 w2 h1 h2 h3 h4
        clear hfd hnd IH e1 e2 e3 e4 hat hat' hatr hatr'
        go_wp2_with fail
        go_region_held3 (fun w' => w'.cell? ⟨b, o + j * 6, none⟩ = some (.int .i64 k) ∧ w'.cell? ⟨b, o + j * 6 + 1, none⟩ = some (.int .i64 n) ∧ w'.cell? ⟨b, o + j * 6 + 2, none⟩ = some (.int .i64 ck) ∧ w'.cell? ⟨b, o + j * 6 + 3, none⟩ = some (.int .i64 cn) ∧ w'.cell? ⟨b, o + j * 6 + 4, none⟩ = some (.slice A1 cf.len C1) ∧ w'.cell? ⟨b, o + j * 6 + 5, none⟩ = some (.slice B1 ks.len D1) ∧
            w'.cell? ⟨b', o' + j * 6, none⟩ = some (.int .i64 k) ∧ w'.cell? ⟨b', o' + j * 6 + 1, none⟩ = some (.int .i64 n) ∧ w'.cell? ⟨b', o' + j * 6 + 2, none⟩ = some (.int .i64 ck) ∧ w'.cell? ⟨b', o' + j * 6 + 3, none⟩ = some (.int .i64 cn) ∧ w'.cell? ⟨b', o' + j * 6 + 4, none⟩ = some (.slice A2 cf.len C2) ∧ w'.cell? ⟨b', o' + j * 6 + 5, none⟩ = some (.slice B2 ks.len D2))
          (first | go_keep | (refine ⟨?_, ?_, ?_, ?_, ?_, ?_, ?_, ?_, ?_, ?_, ?_, ?_⟩ <;> first | exact (m1 _ _ ltb).trans c0 | exact (m1 _ _ ltb).trans c1 | exact (m1 _ _ ltb).trans c2 | exact (m1 _ _ ltb).trans c3 | exact (m1 _ _ ltb).trans c4 | exact (m1 _ _ ltb).trans c5 | exact (m1 _ _ ltb').trans d0 | exact (m1 _ _ ltb').trans d1 | exact (m1 _ _ ltb').trans d2 | exact (m1 _ _ ltb').trans d3 | exact (m1 _ _ ltb').trans d4 | exact (m1 _ _ ltb').trans d5))
          (first | (go_at_call 27; refine (KC.out _ hA1.drew hB1.drew hA2.drew hB2.drew).mono ?_; rintro e w1 ⟨rfl, hb1⟩; obtain ⟨m1, m2, m3⟩ := bkeep hb1))
        have hb2 : Below w.heap.size w w1 := (Below.drew hb).trans (hb1.mono hb.size)
        clear hb hb1 m1 m2 m3 KC c0 c1 c2 c3 c4 c5 d0 d1 d2 d3 d4 d5 hA1 hB1 hA2 hB2
        go_wp2_with fail
        go_roundw
        case rel => exact ⟨j + 1, by omega, by go_num, hb2⟩
        case measure => simp [intOf]; omega
      · obtain rfl : j = f.len := by omega
        go_wp2_with fail
        go_ret
        exact ⟨rfl, hb⟩

theorem eqProg_same (cf : Fo) (ks : Pg) (hcm : cf.len ≤ 9223372036854775807) (hcf : cf.Fits) (hm : ks.len ≤ 9223372036854775807) (hf : ks.Fits) (k n ck cn : Int) (A B A' B' : Option Addr) (C D C' D' : Nat) (w : World) (hA : cf.Lies w A) (hB : ks.Lies w B) (hA' : cf.Lies w A') (hB' : ks.Lies w B') :
    Calls Tryz.prog 27 #[.agg #[.int .i64 k, .int .i64 n, .int .i64 ck, .int .i64 cn, .slice A cf.len C, .slice B ks.len D], .agg #[.int .i64 k, .int .i64 n, .int .i64 ck, .int .i64 cn, .slice A' cf.len C', .slice B' ks.len D']] w fun e w' => e = .returned (.bool true) ∧ Below w.heap.size w w' :=
  eqProg_of hcm hcf (fun A C A' C' w => eqProgS_same (ks.nodes + 1) ks (Nat.lt_succ_self _) hm hf A C A' C' w) k n ck cn A B A' B' C D C' D' w hA hB hA' hB'
end Go.Proofs.YtcgbepmhfimbjaaGreatDoor
