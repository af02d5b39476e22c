/- Contracts of laws.toExprS, laws.toExpr: copies, in memory of their own. -/
import Derived.Test.YtcgbepmhfimbjaaGreatDoorSig
import Derived.Test.YtcgbepmhfimbjaaGreatDoorFill
import Derived.Lib.Hide
import Derived.Laws.MakeOwn
import Derived.Laws.Tables
namespace Go.Proofs.YtcgbepmhfimbjaaGreatDoor
open Go.RowKit

theorem toExpr_of {f : Fo} (ihS : ∀ (A : Option Addr) (C : Nat) (w : World), f.Lies w A →
      Calls Tryz.prog 47 #[.slice A f.len C] w fun e w' => ∃ A', e = .returned (.slice A' f.len f.len) ∧ f.SepIn w' w.heap.size w'.heap.size A' ∧ Below w.heap.size w w')
    (k n : Int) (A : Option Addr) (C : Nat) (w : World) (hl : f.Lies w A) :
    Calls Tryz.prog 21 #[.agg #[.int .i64 k, .int .i64 n, .slice A f.len C]] w fun e w' => ∃ A', e = .returned (.agg #[.int .i64 k, .int .i64 n, .slice A' f.len f.len]) ∧ f.SepIn w' w.heap.size w'.heap.size A' ∧ Below w.heap.size w w' := by
  have IH := Lib.hid ihS; clear ihS
  go_enter Tryz.func21, Tryz.ntmps21
  go_wp2_with fail
  refine (IH.out A C _ ?_).mono ?_
  · refine hl.below ?_
    go_grown
  rintro e w1 ⟨A', rfl, hs, hb⟩
  obtain ⟨c1, f1, z1⟩ := bkeep hb
  simp only [World.size_alloc] at z1 hs
  have HS := Lib.hid hs; clear hs
  have HB := Lib.hid hb; clear hb
  go_wp2_with fail
  refine bodyPost_ret (v := .agg #[.int .i64 k, .int .i64 n, .slice A' f.len f.len]) (by simp [results, Tryz.results21, go_sem, c1]) rfl ⟨A', rfl, ?_, ?_⟩
  · simp only [World.size_setCell]
    refine (HS.out.agree ?_).mono (by omega) (Nat.le_refl _)
    refine Fo.Agree.setCell (Fo.Agree.setCell (Fo.Agree.setCell (Fo.Agree.setCell (Fo.Agree.refl _ _ _) _ ?_ _) _ ?_ _) _ ?_ _) _ ?_ _
    all_goals (left; simp)
  · have hb := HB.out.mono (B' := w.heap.size) (by simp; omega)
    have hp : Below w.heap.size w w1 := by
      refine Below.trans ?_ hb
      go_grown
    go_grown

/-- What a make of expressions lays. -/
def zeroRows (n : Nat) : Array Value := madeCells (Value.agg #[.int .i64 0, .int .i64 0, .slice none 0 0]).cells (n * 3)
theorem size_zeroRows (n : Nat) : (zeroRows n).size = n * 3 := size_madeCells _ _

theorem Tryz.infoE : (Tryz.prog.info? 38).map (fun i => (i.zero, i.size, i.bytes)) = some (some (.agg #[.int .i64 0, .int .i64 0, .slice none 0 0]), 3, 40) := by kernel_rfl

theorem make_exprs (n : Nat) (hn : n ≤ 1048576) (w : World) :
    (Instr.makeSlice 36 (.int .i64 (n : Int)) (.int .i64 (n : Int))).run Tryz.prog w = .ok (.slice (some ⟨w.heap.size, 0, none⟩) n n) (w.alloc (.cells (zeroRows n) 38)) := by
  obtain ⟨i, hi, hz, hs, hb⟩ := info_parts Tryz.infoE
  have h := run_make (P := Tryz.prog) w 36 38 i _ Tryz.underlying36 hi hz .i64 .i64 (n : Int) (n : Int) (by omega) (Int.le_refl _) (by rw [hb]; omega) (by omega)
  rw [hs] at h
  exact h

theorem toExprS_any : ∀ (N : Nat) (f : Fo), f.nodes < N → f.nodes ≤ 1048576 → ∀ (A : Option Addr) (C : Nat) (w : World), f.Lies w A →
      Calls Tryz.prog 47 #[.slice A f.len C] w fun e w' => ∃ A', e = .returned (.slice A' f.len f.len) ∧ f.SepIn w' w.heap.size w'.heap.size A' ∧ Below w.heap.size w w' := by
  intro N
  induction N with
  | zero => intro f hN; exact absurd hN (Nat.not_lt_zero _)
  | succ N ih =>
    intro f hN hm A C w hl
    have IH := Lib.hid ih; clear ih
    have hln := f.len_le_nodes
    have hmk := make_exprs f.len (by omega)
    go_enter Tryz.func47, Tryz.ntmps47
    go_wp2_with fail
    go_loopw [4] (fun i wr => ∃ j : Nat, j ≤ f.len ∧ i = .int .i64 j ∧ Fo.Rows 38 f w.heap.size wr j ∧ Below w.heap.size w wr) (fun i _ => f.len - (intOf i).toNat)
    case atStart => exact ⟨0, Nat.zero_le _, rfl, Fo.rows_start (size_zeroRows _), (Below.refl _ _).alloc (Nat.le_refl _) _⟩
    case round =>
      obtain ⟨j, hj, rfl, hR, hb⟩ := hrel
      by_cases hjl : j < f.len
      · obtain ⟨b, o, rfl, hat⟩ := hl (by rintro rfl; simp [Fo.len] at hjl)
        have hat' := hat.later (w' := wr) (fun b o hlt => hb.cell (p := ⟨b, o, none⟩) hlt)
        obtain ⟨k, n, ks, r, A', C', e1, e2, c0, c1, c2, hl'⟩ := Fo.Lies.row hat' hjl
        have hnd := f.nodes_drop j
        rw [e1.out] at hnd
        have hkn : ks.nodes < N ∧ ks.nodes ≤ 1048576 := by simp only [Fo.nodes] at hnd; omega
        clear hnd
        go_wp2_with fail
        refine (toExpr_of (fun A C w => IH.out ks hkn.1 hkn.2 A C w) k n A' C' _ hl').mono ?_
        rintro e w1 ⟨A1, rfl, hs1, hb1⟩
        obtain ⟨⟨v0, g0⟩, ⟨v1, g1⟩, ⟨v2, g2⟩, fz⟩ := hR.cells hb1 hjl
        have hR' := Fo.rows_step hR hb1 e1.out e2.out hjl (Nat.le_refl _) hs1
        have hb2 := hb.trans (hb1.mono hb.size)
        clear hs1 hR hb hb1 c0 c1 c2
        go_wp2_with fail
        go_roundw
        case rel => exact ⟨j + 1, by omega, by go_num, hR', by go_grown⟩
        case measure => simp [intOf]; omega
      · obtain rfl : j = f.len := by omega
        go_wp2_with fail
        go_ret
        exact ⟨_, rfl, Fo.rows_end hR (Nat.le_refl _), hb⟩

theorem toExpr_any (f : Fo) (hm : f.nodes ≤ 1048576) (k n : Int) (A : Option Addr) (C : Nat) (w : World) (hl : f.Lies w A) :
    Calls Tryz.prog 21 #[.agg #[.int .i64 k, .int .i64 n, .slice A f.len C]] w fun e w' => ∃ A', e = .returned (.agg #[.int .i64 k, .int .i64 n, .slice A' f.len f.len]) ∧ f.SepIn w' w.heap.size w'.heap.size A' ∧ Below w.heap.size w w' :=
  toExpr_of (fun A C w => toExprS_any (f.nodes + 1) f (Nat.lt_succ_self _) hm A C w) k n A C w hl

end Go.Proofs.YtcgbepmhfimbjaaGreatDoor
