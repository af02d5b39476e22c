/- Contracts of laws.szExprS, laws.szExpr. -/
import Derived.Test.YtcgbepmhfimbjaaGreatDoorSig
import Derived.Test.YtcgbepmhfimbjaaGreatDoorFo
import Derived.Lib.Hide
namespace Go.Proofs.YtcgbepmhfimbjaaGreatDoor
open Go.RowKit

/-- What is left of a number when so many are counted, -1 if there are more. -/
def szR (n : Nat) (l : Int) : Int := if l - n < 0 then -1 else l - n

theorem szR_neg {n : Nat} {l : Int} (h : l < n) : szR n l = -1 := if_pos (by omega)
theorem szR_pos {n : Nat} {l : Int} (h : n ≤ l) : szR n l = l - n := if_neg (by omega)

theorem szExpr_of {f : Fo} (ihS : ∀ (l : Int) (A : Option Addr) (C : Nat) (w : World), f.Lies w A → -1 ≤ l → l ≤ 1048576 →
      Calls Tryz.prog 42 #[.slice A f.len C, .int .i64 l] w fun e w' => e = .returned (.int .i64 (szR f.nodes l)) ∧ Below w.heap.size w w')
    (k n l : Int) (A : Option Addr) (C : Nat) (w : World) (hl : f.Lies w A) (h1 : -1 ≤ l) (h2 : l ≤ 1048576) :
    Calls Tryz.prog 16 #[.agg #[.int .i64 k, .int .i64 n, .slice A f.len C], .int .i64 l] w fun e w' => e = .returned (.int .i64 (szR f.nodes l)) ∧ Below w.heap.size w w' := by
  by_cases hn : l < f.nodes
  all_goals
    have e1 : decide (szR f.nodes l < 0) = decide (l < f.nodes) := by unfold szR; split <;> simp <;> omega
    simp only [hn] at e1
    go_enter Tryz.func16, Tryz.ntmps16
    go_wp2_with fail
    refine (ihS _ _ _ _ (hl.later (fun b o hb => World.cell?_alloc_lt _ _ _ hb)) h1 h2).mono ?_; rintro e w1 ⟨rfl, hb1⟩
    go_wp2_with fail
    go_ret
    refine ⟨?_, ((Below.refl _ _).alloc (Nat.le_refl _) _).trans (hb1.mono (by simp))⟩
    first | rfl | (rw [szR_neg hn]; rfl)

set_option maxHeartbeats 400000 in
theorem szExprS_any : ∀ (N : Nat) (f : Fo), f.nodes < N → f.len ≤ 9223372036854775807 → f.Fits → ∀ (l : Int) (A : Option Addr) (C : Nat) (w : World), f.Lies w A → -1 ≤ l → l ≤ 1048576 →
      Calls Tryz.prog 42 #[.slice A f.len C, .int .i64 l] w fun e w' => e = .returned (.int .i64 (szR f.nodes l)) ∧ Below w.heap.size w w' := by
  intro N
  induction N with
  | zero => intro f hN; exact absurd hN (Nat.not_lt_zero _)
  | succ N ih =>
    intro f hN hm hf l A C w hl h1 h2
    have IH := Lib.hid ih; clear ih
    have hln := f.len_le_nodes
    by_cases hneg : l < f.len
    · rw [szR_neg (by omega)]
      go_enter Tryz.func42, Tryz.ntmps42
      go_wp2_with fail
      go_ret
      exact ⟨rfl, Below.refl _ _⟩
    · go_enter Tryz.func42, Tryz.ntmps42
      go_wp2_with fail
      go_loopw [1, 5] (fun x i wr => ∃ (j : Nat) (q : Int), j ≤ f.len ∧ 0 ≤ q ∧ q ≤ 1048576 ∧ x = .int .i64 q ∧ i = .int .i64 j ∧ Hid (q - (f.drop j).nodes + (f.drop j).len = l - f.nodes) ∧ Below w.heap.size w wr) (fun _ i _ => f.len - (intOf i).toNat)
      case atStart => exact ⟨0, _, Nat.zero_le _, by omega, by omega, rfl, rfl, by show _ = _; simp only [Fo.drop]; omega, Below.refl _ _⟩
      case round =>
        obtain ⟨j, q, hj, hq0, hq1, rfl, rfl, hq, hb⟩ := hrel
        by_cases hjl : j < f.len
        · obtain ⟨b, o, rfl, hat⟩ := hl (by rintro rfl; simp [Fo.len] at hjl)
          have hat' := hat.later (w' := wr) (fun b o hlt => hb.cell (p := ⟨b, o, none⟩) hlt)
          obtain ⟨k, n, ks, r, A', C', e1, e2, c0, c1, c2, hl'⟩ := Fo.Lies.row hat' hjl
          have hfd := Fo.fits_drop hf j
          have hnd := f.nodes_drop j
          have hlr := (f.drop (j + 1)).len_le_nodes
          rw [e1.out] at hfd hnd
          have hks := hfd.1
          have hkf := hfd.2.1
          have hkn : ks.nodes < N := by simp only [Fo.nodes] at hnd; omega
          have Q1 : Hid (szR ks.nodes q = -1 ∧ l < f.nodes ∨ 0 ≤ szR ks.nodes q ∧ szR ks.nodes q ≤ 1048576 ∧ szR ks.nodes q - (f.drop (j + 1)).nodes + (f.drop (j + 1)).len = l - f.nodes) := by
            have := hq.out
            rw [e1.out] at this
            simp only [Fo.nodes, Fo.len] at this
            rw [← e2.out] at this
            by_cases hx : q < ks.nodes
            · exact Or.inl ⟨szR_neg hx, by omega⟩
            · rw [szR_pos (by omega)]
              exact Or.inr ⟨by omega, by omega, by omega⟩
          clear hq hfd hnd hlr
          go_wp2_with fail
          refine (szExpr_of (fun l A C w => IH.out ks hkn hks hkf l A C w) k n q A' C' _ hl' (by omega) hq1).mono ?_; rintro e w1 ⟨rfl, hb1⟩
          have hb2 := hb.trans (hb1.mono hb.size)
          rcases Q1.out with ⟨hx, hy⟩ | ⟨hx0, hx1, hx2⟩
          · rw [hx]
            clear hx Q1
            go_wp2_with fail
            go_ret
            exact ⟨ret_int (szR_neg hy).symm, hb2⟩
          · have HX := Lib.hid hx2; clear hx2 Q1
            have hx3 : ¬ szR ks.nodes q < 0 := by omega
            go_wp2_with fail
            go_roundw
            case rel => exact ⟨j + 1, _, by omega, hx0, hx1, rfl, by go_num, HX.out, hb2⟩
            case measure => simp [intOf]; omega
        · obtain rfl : j = f.len := by omega
          have hq' := hq.out
          rw [Fo.drop_len] at hq'
          simp only [Fo.nodes, Fo.len] at hq'
          have hz : szR f.nodes l = q := by rw [szR_pos (by omega)]; omega
          clear hq' hq
          have HZ := Lib.hid hz; clear hz
          go_wp2_with fail
          go_ret
          exact ⟨ret_int HZ.out.symm, hb⟩

theorem szExpr_any (f : Fo) (hm : f.len ≤ 9223372036854775807) (hf : f.Fits) (k n l : Int) (A : Option Addr) (C : Nat) (w : World) (hl : f.Lies w A) (h1 : -1 ≤ l) (h2 : l ≤ 1048576) :
    Calls Tryz.prog 16 #[.agg #[.int .i64 k, .int .i64 n, .slice A f.len C], .int .i64 l] w fun e w' => e = .returned (.int .i64 (szR f.nodes l)) ∧ Below w.heap.size w w' :=
  szExpr_of (fun l A C w => szExprS_any (f.nodes + 1) f (Nat.lt_succ_self _) hm hf l A C w) k n l A C w hl h1 h2

end Go.Proofs.YtcgbepmhfimbjaaGreatDoor
