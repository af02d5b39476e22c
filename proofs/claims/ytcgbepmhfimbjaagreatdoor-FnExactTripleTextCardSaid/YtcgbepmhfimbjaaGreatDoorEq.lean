/- Contracts of laws.eqExprS, laws.eqExpr. -/
import Derived.Test.YtcgbepmhfimbjaaGreatDoorSig
import Derived.Test.YtcgbepmhfimbjaaGreatDoorSep
import Derived.Lib.Hide
import Derived.Deep.RegionHeld3
namespace Go.Proofs.YtcgbepmhfimbjaaGreatDoor
open Go.RowKit

theorem eqExpr_of {f g : Fo} {q : Bool} (hq : Hid (q = decide (f = g))) (ihS : ∀ (A : Option Addr) (C : Nat) (A' : Option Addr) (C' : Nat) (w : World), f.Lies w A → g.Lies w A' →
      Calls Tryz.prog 55 #[.slice A f.len C, .slice A' g.len C'] w fun e w' => e = .returned (.bool q) ∧ Below w.heap.size w w')
    (k n k' n' : Int) (A : Option Addr) (C : Nat) (A' : Option Addr) (C' : Nat) (w : World) (hl : f.Lies w A) (hl' : g.Lies w A') :
    Calls Tryz.prog 26 #[.agg #[.int .i64 k, .int .i64 n, .slice A f.len C], .agg #[.int .i64 k', .int .i64 n', .slice A' g.len C']] w fun e w' => e = .returned (.bool (decide (k = k' ∧ n = n' ∧ f = g))) ∧ Below w.heap.size w w' := by
  have IH := Lib.hid ihS; clear ihS
  by_cases hk : k = k'
  · subst hk
    by_cases hn : n = n'
    · subst hn
      have hd : Hid (decide (k = k ∧ n = n ∧ f = g) = q) := by show _ = _; rw [hq.out]; simp
      go_enter Tryz.func26, Tryz.ntmps26
      go_wp2_with fail
      refine (IH.out A C A' C' _ (hl.below (by go_grown)) (hl'.below (by go_grown))).mono ?_
      rintro e w1 ⟨rfl, hb⟩
      have hb1 := hb.mono (B' := w.heap.size) (by simp; omega)
      have hp : Below w.heap.size w w1 := by
        refine Below.trans ?_ hb1
        go_grown
      clear hb hb1
      cases q
      all_goals
        go_wp2_with fail
        go_ret
        first | exact ⟨rfl, hp⟩ | exact ⟨ret_bool hd.out.symm, hp⟩
    · have hd : Hid (decide (k = k ∧ n = n' ∧ f = g) = false) := by show _ = _; simp [hn]
      go_enter Tryz.func26, Tryz.ntmps26
      go_wp2_with fail
      go_ret
      first | exact ⟨rfl, by go_grown⟩ | exact ⟨ret_bool hd.out.symm, by go_grown⟩
  · have hd : Hid (decide (k = k' ∧ n = n' ∧ f = g) = false) := by show _ = _; simp [hk]
    go_enter Tryz.func26, Tryz.ntmps26
    go_wp2_with fail
    go_ret
    first | exact ⟨rfl, by go_grown⟩ | exact ⟨ret_bool hd.out.symm, by go_grown⟩

set_option maxHeartbeats 1000000 in
theorem eqExprS_any : ∀ (N : Nat) (f g : Fo), f.nodes < N → f.len ≤ 9223372036854775807 → f.Fits → ∀ (A : Option Addr) (C : Nat) (A' : Option Addr) (C' : Nat) (w : World), f.Lies w A → g.Lies w A' →
      Calls Tryz.prog 55 #[.slice A f.len C, .slice A' g.len C'] w fun e w' => e = .returned (.bool (decide (f = g))) ∧ Below w.heap.size w w' := by
  intro N
  induction N with
  | zero => intro f g hN; exact absurd hN (Nat.not_lt_zero _)
  | succ N ih =>
    intro f g hN hm hf A C A' C' w hl hl'
    have IH := Lib.hid ih; clear ih
    by_cases hlen : f.len = g.len
    · have HL := Lib.hid hlen
      have hgl : (g.len : Int) = f.len := by omega
      go_enter Tryz.func55, Tryz.ntmps55
      rw [← hlen]
      clear hlen hgl
      go_wp2_with fail
      go_loopw [5] (fun i wr => ∃ j : Nat, j ≤ f.len ∧ i = .int .i64 j ∧ Hid ((f = g) = (f.drop j = g.drop j)) ∧ Below w.heap.size w wr) (fun i _ => f.len - (intOf i).toNat)
      case atStart => exact ⟨0, Nat.zero_le _, rfl, rfl, Below.refl _ _⟩
      case round =>
        obtain ⟨j, hj, rfl, hq, hb⟩ := hrel
        by_cases hjl : j < f.len
        · obtain ⟨b, o, rfl, hat⟩ := hl (by rintro rfl; simp [Fo.len] at hjl)
          obtain ⟨b', o', rfl, hat'⟩ := hl' (by rintro rfl; have := HL.out; simp [Fo.len] at this; omega)
          have hatr := hat.later (w' := wr) (fun b o hlt => hb.cell (p := ⟨b, o, none⟩) hlt)
          have hatr' := hat'.later (w' := wr) (fun b o hlt => hb.cell (p := ⟨b, o, none⟩) hlt)
          obtain ⟨k, n, ks, r, A1, C1, e1, e2, c0, c1, c2, hl1⟩ := Fo.Lies.row hatr hjl
          obtain ⟨k', n', ks', r', A2, C2, e3, e4, d0, d1, d2, hl2⟩ := Fo.Lies.row hatr' (by rw [← HL.out]; exact hjl)
          have hfd := Fo.fits_drop hf j
          have hnd := f.nodes_drop j
          rw [e1.out] at hfd hnd
          have hks := hfd.1
          have hkf := hfd.2.1
          have hkn : ks.nodes < N := by simp only [Fo.nodes] at hnd; omega
          have ltb : b < wr.heap.size := World.block_lt_of_cell? _ _ c0
          have ltb' : b' < wr.heap.size := World.block_lt_of_cell? _ _ d0
          have hq' : Hid ((f = g) = (k = k' ∧ n = n' ∧ ks = ks' ∧ f.drop (j + 1) = g.drop (j + 1))) := by
            show _ = _
            rw [hq.out, e1.out, e3.out, ← e2.out, ← e4.out]
            simp
          clear hfd hnd hq
          have hj0 : (0 : Int) ≤ (j : Int) := Int.natCast_nonneg _
          have hj1 : (j : Int) < (f.len : Int) := by omega
          obtain ⟨q, hqe⟩ : ∃ q : Bool, q = decide (k = k' ∧ n = n' ∧ ks = ks') := ⟨_, rfl⟩
          have KC : Hid (∀ w2 : World, ks.Lies w2 A1 → ks'.Lies w2 A2 → Calls Tryz.prog 26 #[.agg #[.int .i64 k, .int .i64 n, .slice A1 ks.len C1], .agg #[.int .i64 k', .int .i64 n', .slice A2 ks'.len C2]] w2 fun e w' => e = .returned (.bool q) ∧ Below w2.heap.size w2 w') := by
            intro w2 h1 h2
            rw [hqe]
            exact eqExpr_of rfl (fun A C A' C' w => IH.out ks ks' hkn hks hkf A C A' C' w) k n k' n' A1 C1 A2 C2 w2 h1 h2
          have HQ := Lib.hid hqe; clear hqe
          go_wp2_with fail
          go_region_held3 (fun w' => w'.cell? ⟨b, o + j * 3, none⟩ = some (.int .i64 k) ∧ w'.cell? ⟨b, o + j * 3 + 1, none⟩ = some (.int .i64 n) ∧ w'.cell? ⟨b, o + j * 3 + 2, none⟩ = some (.slice A1 ks.len C1) ∧
              w'.cell? ⟨b', o' + j * 3, none⟩ = some (.int .i64 k') ∧ w'.cell? ⟨b', o' + j * 3 + 1, none⟩ = some (.int .i64 n') ∧ w'.cell? ⟨b', o' + j * 3 + 2, none⟩ = some (.slice A2 ks'.len C2))
            (first | go_keep | (refine ⟨?_, ?_, ?_, ?_, ?_, ?_⟩ <;> first | exact (m1 _ _ ltb).trans c0 | exact (m1 _ _ ltb).trans c1 | exact (m1 _ _ ltb).trans c2 | exact (m1 _ _ ltb').trans d0 | exact (m1 _ _ ltb').trans d1 | exact (m1 _ _ ltb').trans d2))
            (first | (go_at_call 26; refine (KC.out _ (hl1.later ?_) (hl2.later ?_)).mono ?_; (intro b o hlt; rfl); (intro b o hlt; rfl); rintro e w1 ⟨rfl, hb1⟩; obtain ⟨m1, m2, m3⟩ := bkeep hb1))
          have hb2 : Below w.heap.size w w1 := (Below.drew hb).trans (hb1.mono hb.size)
          clear hb hb1 m1 m2 m3 KC c0 c1 c2 d0 d1 d2 hat hat' hatr hatr' hl1 hl2
          cases q
          · go_wp2_with fail
            go_ret
            refine ⟨ret_bool ?_, hb2⟩
            have h1 := HQ.out
            have h2 := of_decide_eq_false h1.symm
            have h3 := hq'.out
            symm
            refine decide_eq_false (fun h4 => h2 ?_)
            rw [h3] at h4
            exact ⟨h4.1, h4.2.1, h4.2.2.1⟩
          · have hq2 : Hid ((f = g) = (f.drop (j + 1) = g.drop (j + 1))) := by
              show _ = _
              rw [hq'.out]
              have h2 := of_decide_eq_true HQ.out.symm
              simp [h2.1, h2.2.1, h2.2.2]
            clear HQ hq'
            go_wp2_with fail
            go_roundw
            case rel => exact ⟨j + 1, by omega, by go_num, hq2, hb2⟩
            case measure => simp [intOf]; omega
        · obtain rfl : j = f.len := by omega
          have hq2 : Hid (decide (f = g) = true) := by
            have h1 := hq.out
            rw [Fo.drop_len, HL.out, Fo.drop_len] at h1
            exact decide_eq_true (by rw [h1])
          clear hq
          go_wp2_with fail
          go_ret
          exact ⟨ret_bool hq2.out.symm, hb⟩
    · have hd : Hid (decide (f = g) = false) := by show _ = _; exact decide_eq_false (fun h => hlen (by rw [h]))
      have h1 : ((f.len : Int) != (g.len : Int)) = true := by rw [bne_iff_ne]; omega
      go_enter Tryz.func55, Tryz.ntmps55
      go_wp2_with fail
      go_ret
      exact ⟨ret_bool hd.out.symm, Below.refl _ _⟩

theorem eqExpr_any (f g : Fo) (hm : f.len ≤ 9223372036854775807) (hf : f.Fits) (k n k' n' : Int) (A : Option Addr) (C : Nat) (A' : Option Addr) (C' : Nat) (w : World) (hl : f.Lies w A) (hl' : g.Lies w A') :
    Calls Tryz.prog 26 #[.agg #[.int .i64 k, .int .i64 n, .slice A f.len C], .agg #[.int .i64 k', .int .i64 n', .slice A' g.len C']] w fun e w' => e = .returned (.bool (decide (k = k' ∧ n = n' ∧ f = g))) ∧ Below w.heap.size w w' :=
  eqExpr_of rfl (fun A C A' C' w => eqExprS_any (f.nodes + 1) f g (Nat.lt_succ_self _) hm hf A C A' C' w) k n k' n' A C A' C' w hl hl'

/-- Of an expression and itself: yes. -/
theorem eqExpr_same (f : Fo) (hm : f.len ≤ 9223372036854775807) (hf : f.Fits) (k n : Int) (A : Option Addr) (C : Nat) (A' : Option Addr) (C' : Nat) (w : World) (hl : f.Lies w A) (hl' : f.Lies w A') :
    Calls Tryz.prog 26 #[.agg #[.int .i64 k, .int .i64 n, .slice A f.len C], .agg #[.int .i64 k, .int .i64 n, .slice A' f.len C']] w fun e w' => e = .returned (.bool true) ∧ Below w.heap.size w w' := by
  have h := eqExpr_any f f hm hf k n k n A C A' C' w hl hl'
  simpa using h

end Go.Proofs.YtcgbepmhfimbjaaGreatDoor

