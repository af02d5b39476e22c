/- Contract of impl.ValidExpr. -/
import Derived.Test.YtcgbepmhfimbjaaGreatDoorFits
namespace Go.Proofs.YtcgbepmhfimbjaaGreatDoor
open Go.RowKit

set_option maxHeartbeats 1000000 in
theorem implValidExpr_any (t a k n : Int) (f : Fo) (hm : f.nodes ≤ 1048576) (A : Option Addr) (C : Nat) (w : World) (hl : f.Lies w A) :
    Calls Tryz.prog 51 #[.agg #[.int .i64 t, .int .i64 a], .agg #[.int .i64 k, .int .i64 n, .slice A f.len C]] w fun e w' => e = .returned (.bool (validE t a k n f)) ∧ Below w.heap.size w w' := by
  obtain ⟨q1, hq1⟩ : ∃ q1 : Bool, q1 = sigOk t a := ⟨_, rfl⟩
  have K1 : Hid (∀ W : World, Calls Tryz.prog 63 #[.agg #[.int .i64 t, .int .i64 a]] W fun e w' => e = .returned (.bool q1) ∧ Below W.heap.size W w') := fun W => by rw [hq1]; exact implValidSig_any t a W
  obtain ⟨q2, hq2⟩ : ∃ q2 : Bool, q2 = okE t a 200 40 false k n f := ⟨_, rfl⟩
  have K2 : Hid (∀ (W : World) (sb : Nat), Sees w W → w.heap.size ≤ sb → W.heap[sb]? = some (.cells #[.int .i64 t, .int .i64 a, .int .i64 200] 157 (0, 0)) →
      Calls Tryz.prog 81 #[.pointer (some ⟨sb, 0, none⟩), .agg #[.int .i64 k, .int .i64 n, .slice A f.len C], .int .i64 40, .bool false] W (FitsPost t a 200 q2 f.nodes sb W)) :=
    fun W sb h1 h2 h3 => by rw [hq2]; exact fits_any (f.nodes + 1) f (Nat.lt_succ_self _) hm t a 200 40 k n false A C sb w W (by omega) (by omega) (by omega) (by omega) hl h1 h2 h3
  have HD : Hid (validE t a k n f = (q1 && q2)) := by show _ = _; rw [validE_okE, hq1, hq2]
  clear hq1 hq2
  cases q1
  · go_enter Tryz.func51, Tryz.ntmps51
    go_wp2_with fail
    refine (K1.out _).mono ?_
    rintro e w1 ⟨rfl, hb⟩
    have B1 : Sees w w1 := Sees.below (by unfold Sees; go_grown) hb
    clear hb
    go_wp2_with fail
    go_ret
    exact ⟨ret_bool HD.out.symm, B1⟩
  · go_enter Tryz.func51, Tryz.ntmps51
    go_wp2_with fail
    refine (K1.out _).mono ?_
    rintro e w1 ⟨rfl, hb⟩
    have B1 : Sees w w1 := Sees.below (by unfold Sees; go_grown) hb
    have hB : Hid (w1.heap[w.heap.size + 2]? = some (.cells #[.int .i64 t, .int .i64 a, .int .i64 200] 157 (0, 0))) := by
      refine (hb.block _ (by simp)).trans ?_
      exact heap_new _ _ _ (by simp)
    obtain ⟨x0, x1, x2⟩ := box3 hb (b := w.heap.size + 1) (u := .int .i64 k) (v := .int .i64 n) (x := .slice A f.len C) (by simp [go_sem])
    clear hb
    go_wp2_with fail
    refine (K2.out _ _ B1 (by omega) hB.out).mono ?_
    intro e w2 hp
    obtain ⟨rfl, hbut, c', hblk, hc'⟩ := hp
    have B2 : Sees w w2 := Below.trans B1 (hbut.below B1.size (by omega))
    clear hbut hblk hc' x0 x1 x2
    go_wp2_with fail
    go_ret
    exact ⟨ret_bool HD.out.symm, B2⟩

end Go.Proofs.YtcgbepmhfimbjaaGreatDoor
