/- Contracts of spec.l01Kids, l01Left, l00Max, l01Depth, l01Tree, l01Ok, ValidExpr. -/
import Derived.Test.YtcgbepmhfimbjaaGreatDoorTreeD
import Derived.Deep.QuietTactic
import Derived.BigQuiet
import Derived.Deep.RegionHeld3
import Derived.Lib.SmallJoins
namespace Go.Proofs.YtcgbepmhfimbjaaGreatDoor
open Go.RowKit

theorem quiet_add {P : Program} {f : FuncId} {args : Array Value} {w : World} {a n : Nat} {v : Value}
    (h : Calls P f args (w.drewN (a + n)) fun e w' => e = .returned v ∧ ∃ m, w' = (w.drewN (a + n)).drewN m) :
    Calls P f args (w.drewN (a + n)) fun e w'' => e = .returned v ∧ ∃ m, w'' = w.drewN (a + m) :=
  h.mono fun _ _ ⟨he, m, hm⟩ => ⟨he, n + m, by rw [hm, World.drewN_drewN, Nat.add_assoc]⟩
theorem quiet_add_same {P : Program} {f : FuncId} {args : Array Value} {w : World} {a n : Nat} {v : Value}
    (h : Calls P f args (w.drewN (a + n)) fun e w' => e = .returned v ∧ w' = w.drewN (a + n)) :
    Calls P f args (w.drewN (a + n)) fun e w'' => e = .returned v ∧ ∃ m, w'' = w.drewN (a + m) :=
  h.mono fun _ _ ⟨he, hm⟩ => ⟨he, n, hm⟩

theorem kinds (k : Int) : (k = 1 ∨ k = 2 ∨ k = 3 ∨ k = 4 ∨ k = 5 ∨ k = 6 ∨ k = 7 ∨ k = 8) ∨ (kidC k = -1 ∧ (k == 1) = false ∧ (k == 2) = false ∧ (k == 3) = false ∧ (k == 4) = false ∧ (k == 5) = false ∧ (k == 6) = false ∧ (k == 7) = false ∧ (k == 8) = false) := by
  by_cases h : k = 1 ∨ k = 2 ∨ k = 3 ∨ k = 4 ∨ k = 5 ∨ k = 6 ∨ k = 7 ∨ k = 8
  · exact Or.inl h
  · refine Or.inr ⟨?_, ?_, ?_, ?_, ?_, ?_, ?_, ?_, ?_⟩
    · unfold kidC; rw [if_neg (by omega), if_neg (by omega), if_neg (by omega)]
    all_goals (rw [beq_eq_false_iff_ne]; omega)

theorem l01Kids_any (k : Int) (w : World) : Calls Tryz.prog 135 #[.int .i64 k] w fun e w' => e = .returned (.int .i64 (kidC k)) ∧ w = w' := by
  rcases kinds k with h | ⟨h0, h1, h2, h3, h4, h5, h6, h7, h8⟩
  · rcases h with rfl | rfl | rfl | rfl | rfl | rfl | rfl | rfl
    all_goals
      go_enter Tryz.func135, Tryz.ntmps135
      go_wp2
      go_ret
      exact ⟨rfl, rfl⟩
  · have H0 := Lib.hid h0; clear h0
    go_enter Tryz.func135, Tryz.ntmps135
    go_wp2
    go_ret
    exact ⟨ret_int H0.out.symm, rfl⟩

theorem l00Max_any (a b : Int) (w : World) : Calls Tryz.prog 92 #[.int .i64 a, .int .i64 b] w fun e w' => e = .returned (.int .i64 (max a b)) ∧ w = w' := by
  by_cases h : b < a
  · have H0 : Hid (max a b = a) := by show _ = _; omega
    go_enter Tryz.func92, Tryz.ntmps92
    go_wp2
    go_ret
    exact ⟨ret_int H0.out.symm, rfl⟩
  · have H0 : Hid (max a b = b) := by show _ = _; omega
    go_enter Tryz.func92, Tryz.ntmps92
    go_wp2
    go_ret
    exact ⟨ret_int H0.out.symm, rfl⟩

set_option maxHeartbeats 400000 in
theorem l01Left_any : ∀ (N : Nat) (f : Fo), f.nodes < N → f.nodes ≤ 1048576 → ∀ (l : Int) (A : Option Addr) (C b o : Nat) (w : World), 0 ≤ l → l ≤ 1048576 → f.Lies w A → w.cell? ⟨b, o + 2, none⟩ = some (.slice A f.len C) →
      Calls Tryz.prog 106 #[.pointer (some ⟨b, o, none⟩), .int .i64 l] w fun e w' => e = .returned (.int .i64 (f.left (l - 1))) ∧ w = w' := by
  intro N
  induction N with
  | zero => intro f hN; exact absurd hN (Nat.not_lt_zero _)
  | succ N ih =>
    intro f hN hm l A C b o w hl0 hl1 hl hc2
    have IH := Lib.hid ih; clear ih
    have hln := f.len_le_nodes
    go_enter Tryz.func106, Tryz.ntmps106
    go_wp2_with fail
    go_loop [1, 5] (fun x i => ∃ (j : Nat) (q : Int), j ≤ f.len ∧ i = .int .i64 j ∧ x = .int .i64 q ∧ -1 ≤ q ∧ q ≤ 1048576 ∧ Hid (f.left (l - 1) = (f.drop j).left q)) (fun _ i => f.len - (intOf i).toNat)
    case atStart => exact ⟨0, _, Nat.zero_le _, rfl, rfl, by omega, by omega, rfl⟩
    case round =>
      obtain ⟨j, q, hj, rfl, rfl, hq0, hq1, hq⟩ := hrel
      by_cases hjl : j < f.len
      · obtain ⟨b', o', rfl, hat⟩ := hl (by rintro rfl; simp [Fo.len] at hjl)
        obtain ⟨k', n', ks, r, A1, C1, e1, e2, c0, c1, c2, hl1'⟩ := Fo.Lies.row hat hjl
        by_cases hneg : q < 0
        · have hq2 : Hid (f.left (l - 1) = q) := by
            show _ = _
            rw [hq.out, Fo.left_neg _ hneg]
          clear hq
          go_wp2_with fail
          go_ret
          exact ⟨ret_int hq2.out.symm, rfl⟩
        · have hnd := f.nodes_drop j
          rw [e1.out] at hnd
          simp only [Fo.nodes] at hnd
          have hkn : ks.nodes < N ∧ ks.nodes ≤ 1048576 := by omega
          have hg := ks.left_ge (q - 1) (by omega)
          obtain ⟨x, hx, hx0, hx1⟩ : ∃ x : Int, x = ks.left (q - 1) ∧ -1 ≤ x ∧ x ≤ 1048576 := ⟨_, rfl, hg.1, by omega⟩
          have hq2 : Hid (f.left (l - 1) = (f.drop (j + 1)).left x) := by
            show _ = _
            rw [hq.out, e1.out, hx, e2.out]
            simp only [Fo.left]
            rw [if_neg hneg]
          have KC : Hid (∀ W : World, W = w → Calls Tryz.prog 106 #[.pointer (some ⟨b', o' + j * 3, none⟩), .int .i64 q] W fun e w' => e = .returned (.int .i64 x) ∧ W = w') := fun W h => by subst h; rw [hx]; exact IH.out ks hkn.1 hkn.2 q A1 C1 b' _ _ (by omega) hq1 hl1' c2
          clear hnd hq hx hg
          go_wp2_with fail
          refine (KC.out _ rfl).mono ?_
          rintro e w' ⟨rfl, rfl⟩
          go_wp2_with fail
          go_round
          case rel => exact ⟨j + 1, x, by omega, by go_num, rfl, hx0, hx1, hq2⟩
          case measure => simp [intOf]; omega
      · obtain rfl : j = f.len := by omega
        have hq2 : Hid (f.left (l - 1) = q) := by
          show _ = _
          rw [hq.out, Fo.drop_len]; rfl
        clear hq
        go_wp2_with fail
        go_ret
        exact ⟨ret_int hq2.out.symm, rfl⟩

set_option maxHeartbeats 400000 in
theorem l01Depth_any : ∀ (N : Nat) (f : Fo), f.nodes < N → f.nodes ≤ 1048576 → ∀ (A : Option Addr) (C b o : Nat) (w : World), f.Lies w A → w.cell? ⟨b, o + 2, none⟩ = some (.slice A f.len C) →
      Calls Tryz.prog 107 #[.pointer (some ⟨b, o, none⟩)] w fun e w' => e = .returned (.int .i64 (f.deep + 1)) ∧ w = w' := by
  intro N
  induction N with
  | zero => intro f hN; exact absurd hN (Nat.not_lt_zero _)
  | succ N ih =>
    intro f hN hm A C b o w hl hc2
    have IH := Lib.hid ih; clear ih
    have hln := f.len_le_nodes
    have hdp := f.deep_le
    go_enter Tryz.func107, Tryz.ntmps107
    go_wp2_with fail
    go_loop [3, 4] (fun x i => ∃ (j : Nat) (q : Int), j ≤ f.len ∧ i = .int .i64 j ∧ x = .int .i64 q ∧ 0 ≤ q ∧ q ≤ 1048576 ∧ Hid ((f.deep : Int) = max q (f.drop j).deep)) (fun _ i => f.len - (intOf i).toNat)
    case atStart => exact ⟨0, 0, Nat.zero_le _, rfl, rfl, by omega, by omega, by show _ = _; simp only [Fo.drop]; omega⟩
    case round =>
      obtain ⟨j, q, hj, rfl, rfl, hq0, hq1, hq⟩ := hrel
      by_cases hjl : j < f.len
      · obtain ⟨b', o', rfl, hat⟩ := hl (by rintro rfl; simp [Fo.len] at hjl)
        obtain ⟨k', n', ks, r, A1, C1, e1, e2, c0, c1, c2, hl1⟩ := Fo.Lies.row hat hjl
        have hnd := f.nodes_drop j
        have hq' := hq.out
        rw [e1.out] at hnd hq'
        simp only [Fo.nodes, Fo.deep] at hnd hq'
        have hkd := ks.deep_le
        have hkn : ks.nodes < N ∧ ks.nodes ≤ 1048576 := by omega
        obtain ⟨x, hx, hx0, hx1⟩ : ∃ x : Int, x = (ks.deep : Int) + 1 ∧ 0 ≤ x ∧ x ≤ 1048576 := ⟨_, rfl, by omega, by omega⟩
        have KC : Hid (∀ W : World, W = w → Calls Tryz.prog 107 #[.pointer (some ⟨b', o' + j * 3, none⟩)] W fun e w' => e = .returned (.int .i64 x) ∧ W = w') := fun W h => by subst h; rw [hx]; exact IH.out ks hkn.1 hkn.2 A1 C1 b' _ _ hl1 c2
        obtain ⟨y, hy, hy0, hy1⟩ : ∃ y : Int, y = max q x ∧ 0 ≤ y ∧ y ≤ 1048576 := ⟨_, rfl, by omega, by omega⟩
        have KM : Hid (∀ W : World, Calls Tryz.prog 92 #[.int .i64 q, .int .i64 x] W fun e w' => e = .returned (.int .i64 y) ∧ W = w') := fun W => by rw [hy]; exact l00Max_any q x W
        have hq2 : Hid ((f.deep : Int) = max y (f.drop (j + 1)).deep) := by
          show _ = _
          rw [e2.out]
          omega
        clear hnd hq hq' hx hy hkd
        go_wp2_with fail
        refine (KC.out _ rfl).mono ?_
        rintro e w' ⟨rfl, rfl⟩
        go_wp2_with fail
        refine (KM.out _).mono ?_
        rintro e w' ⟨rfl, rfl⟩
        go_wp2_with fail
        go_round
        case rel => exact ⟨j + 1, y, by omega, by go_num, rfl, hy0, hy1, hq2⟩
        case measure => simp [intOf]; omega
      · obtain rfl : j = f.len := by omega
        have hq2 : Hid ((f.deep : Int) + 1 = q + 1) := by
          have := hq.out
          rw [Fo.drop_len] at this
          simp only [Fo.deep] at this
          show _ = _
          omega
        clear hq
        go_wp2_with fail
        go_ret
        exact ⟨ret_int hq2.out.symm, rfl⟩

end Go.Proofs.YtcgbepmhfimbjaaGreatDoor
