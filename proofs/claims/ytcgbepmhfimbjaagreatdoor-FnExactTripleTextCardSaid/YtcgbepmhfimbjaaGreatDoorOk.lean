/- Contracts of spec.l01Ok, spec.ValidExpr. -/
import Derived.Test.YtcgbepmhfimbjaaGreatDoorTree
namespace Go.Proofs.YtcgbepmhfimbjaaGreatDoor
open Go.RowKit

set_option maxHeartbeats 1000000 in
theorem l01Ok_any (f : Fo) (hm : f.nodes ≤ 1048576) (hf : f.Fits) (t a k n : Int) (A : Option Addr) (C b o : Nat) (w : World) (hl : f.Lies w A)
      (h0 : w.cell? ⟨b, o, none⟩ = some (.int .i64 k)) (h1 : w.cell? ⟨b, o + 1, none⟩ = some (.int .i64 n)) (h2 : w.cell? ⟨b, o + 2, none⟩ = some (.slice A f.len C)) :
      Calls Tryz.prog 72 #[.agg #[.int .i64 t, .int .i64 a], .pointer (some ⟨b, o, none⟩)] w fun e w' => e = .returned (.bool (validE t a k n f)) ∧ Below w.heap.size w w' := by
  have lb : b < w.heap.size := World.block_lt_of_cell? _ _ h0
  obtain ⟨q1, hq1⟩ : ∃ q1 : Bool, q1 = sigOk t a := ⟨_, rfl⟩
  have K1 : Hid (∀ W : World, Calls Tryz.prog 58 #[.agg #[.int .i64 t, .int .i64 a]] W fun e w' => e = .returned (.bool q1) ∧ Below W.heap.size W w') := fun W => by rw [hq1]; exact l01Sig_any t a W
  cases q1
  · have HD : Hid (validE t a k n f = false) := by show _ = _; unfold validE; rw [← hq1]; rfl
    clear hq1
    go_enter Tryz.func72, Tryz.ntmps72
    go_wp2_with fail
    refine (K1.out _).mono ?_
    rintro e w1 ⟨rfl, hb⟩
    have B1 : Sees w w1 := Sees.below (by unfold Sees; go_grown) hb
    clear hb
    go_wp2_with fail
    go_ret
    exact ⟨ret_bool HD.out.symm, B1⟩
  have hs := sigOk_of hq1.symm
  obtain ⟨x, hx⟩ : ∃ x : Int, x = f.left (200 - 1) := ⟨_, rfl⟩
  have hx2 := f.left_ok 200 (by omega)
  rw [← hx] at hx2
  have K2 : Hid (∀ W : World, Sees w W → Calls Tryz.prog 106 #[.pointer (some ⟨b, o, none⟩), .int .i64 200] W fun e w' => e = .returned (.int .i64 x) ∧ W = w') := fun W h => by rw [hx]; exact l01Left_any (f.nodes + 1) f (Nat.lt_succ_self _) hm 200 A C b o W (by omega) (by omega) (hl.sees h) (kc h h2)
  rcases (Decidable.em (0 ≤ x)).symm with hx0 | hx0
  · have HD : Hid (validE t a k n f = false) := by
      show _ = _
      unfold validE
      rw [show decide (1 + f.nodes ≤ 200) = false from by
        rw [decide_eq_false hx0] at hx2
        have := of_decide_eq_false hx2.symm
        exact decide_eq_false (by omega)]
      simp
    clear hq1 hx hx2 hs
    go_enter Tryz.func72, Tryz.ntmps72
    go_wp2_with fail
    refine (K1.out _).mono ?_
    rintro e w1 ⟨rfl, hb⟩
    have B1 : Sees w w1 := Sees.below (by unfold Sees; go_grown) hb
    clear hb
    go_wp2_with fail
    refine (K2.out _ B1).mono ?_
    rintro e w' ⟨rfl, rfl⟩
    go_wp2_with fail
    go_ret
    exact ⟨ret_bool HD.out.symm, B1⟩
  have hn : 1 + f.nodes ≤ 200 := by
    rw [decide_eq_true hx0] at hx2
    have := of_decide_eq_true hx2.symm
    omega
  obtain ⟨y, hy⟩ : ∃ y : Int, y = (f.deep : Int) + 1 := ⟨_, rfl⟩
  have K3 : Hid (∀ W : World, Sees w W → Calls Tryz.prog 107 #[.pointer (some ⟨b, o, none⟩)] W fun e w' => e = .returned (.int .i64 y) ∧ W = w') := fun W h => by rw [hy]; exact l01Depth_any (f.nodes + 1) f (Nat.lt_succ_self _) hm A C b o W (hl.sees h) (kc h h2)
  rcases (Decidable.em (y ≤ 40)).symm with hy0 | hy0
  · have HD : Hid (validE t a k n f = false) := by
      show _ = _
      unfold validE
      rw [show decide (1 + f.deep ≤ 40) = false from decide_eq_false (by omega)]
      simp
    clear hq1 hx hx2 hs hn hy
    go_enter Tryz.func72, Tryz.ntmps72
    go_wp2_with fail
    refine (K1.out _).mono ?_
    rintro e w1 ⟨rfl, hb⟩
    have B1 : Sees w w1 := Sees.below (by unfold Sees; go_grown) hb
    clear hb
    go_wp2_with fail
    refine (K2.out _ B1).mono ?_
    rintro e w' ⟨rfl, rfl⟩
    go_wp2_with fail
    refine (K3.out _ B1).mono ?_
    rintro e w' ⟨rfl, rfl⟩
    go_wp2_with fail
    go_ret
    exact ⟨ret_bool HD.out.symm, B1⟩
  obtain ⟨q4, hq4⟩ : ∃ q4 : Bool, q4 = treeE t a false k n f := ⟨_, rfl⟩
  have K4 : Hid (∀ W : World, Sees w W → Calls Tryz.prog 108 #[.agg #[.int .i64 t, .int .i64 a], .pointer (some ⟨b, o, none⟩)] W fun e w' => e = .returned (.bool q4) ∧ Below W.heap.size W w') := fun W h => by rw [hq4]; exact l01Tree_any (f.nodes + 1) f (Nat.lt_succ_self _) hm hf t a k n A C b o W hs.1 hs.2.1 hs.2.2.1 hs.2.2.2 (hl.sees h) (kc h h0) (kc h h1) (kc h h2)
  have HD : Hid (validE t a k n f = q4) := by
    show _ = _
    unfold validE
    rw [← hq1, ← hq4, decide_eq_true hn, decide_eq_true (show 1 + f.deep ≤ 40 by omega)]
    simp
  clear hq1 hx hx2 hs hn hy hq4
  go_enter Tryz.func72, Tryz.ntmps72
  go_wp2_with fail
  refine (K1.out _).mono ?_
  rintro e w1 ⟨rfl, hb⟩
  obtain ⟨x0, x1⟩ := box2 hb (b := w.heap.size) (u := .int .i64 t) (v := .int .i64 a) (by simp [go_sem])
  have B1 : Sees w w1 := Sees.below (by unfold Sees; go_grown) hb
  clear hb
  go_wp2_with fail
  refine (K2.out _ B1).mono ?_
  rintro e w' ⟨rfl, rfl⟩
  go_wp2_with fail
  refine (K3.out _ B1).mono ?_
  rintro e w' ⟨rfl, rfl⟩
  go_wp2_with fail
  refine (K4.out _ B1).mono ?_
  rintro e w2 ⟨rfl, hb⟩
  have B2 := B1.below hb
  clear hb
  go_wp2_with fail
  go_ret
  exact ⟨ret_bool HD.out.symm, B2⟩

end Go.Proofs.YtcgbepmhfimbjaaGreatDoor
