/- DerivationSize: what it answers; contracts of both sides. -/
import Derived.Test.YtlpgkhdecccmlaaRDv
import Derived.Lib.Hide
namespace Go.Proofs.YtlpgkhdecccmlaaR
open Go.RowKit
set_option linter.unusedVariables false

def Dv.cnt : Dv → Nat
  | .nil => 0
  | .cons _ _ _ _ _ _ _ _ _ _ _ _ _ ks r => 1 + ks.cnt + r.cnt
theorem Dv.cnt_le (f : Dv) : f.cnt ≤ f.nodes := by
  induction f with
  | nil => exact Nat.le_refl _
  | cons ru pk pn pf gk gn gck gcn gcf gks qk qn qf ks r ihk ihr => simp only [Dv.cnt, Dv.nodes]; omega
theorem Dv.cnt_drop (f : Dv) (j : Nat) : (f.drop j).cnt ≤ f.cnt := by
  induction f generalizing j with
  | nil => cases j <;> exact Nat.le_refl _
  | cons ru pk pn pf gk gn gck gcn gcf gks qk qn qf ks r _ ih => cases j with
    | zero => exact Nat.le_refl _
    | succ j => have := ih j; simp only [Dv.drop, Dv.cnt]; omega
theorem Dv.drop_zero (f : Dv) : f.drop 0 = f := by cases f <;> rfl

set_option maxHeartbeats 4000000 in
set_option maxRecDepth 100000 in
theorem implDerivationSize_any : ∀ (N : Nat) (ks : Dv), ks.nodes < N → ks.nodes ≤ 1048576 → ∀ (ru : Int) (pk : Int) (pn : Int) (pf : Fo) (gk : Int) (gn : Int) (gck : Int) (gcn : Int) (gcf : Fo) (gks : Pg) (qk : Int) (qn : Int) (qf : Fo) (Apf Agcf Agks Aqf Aks : Option Addr) (Cpf Cgcf Cgks Cqf Cks : Nat) (w : World), ks.Lies w Aks →
    Calls Try.prog 45 #[.agg #[.int .i64 ru, .int .i64 pk, .int .i64 pn, .slice Apf pf.len Cpf, .int .i64 gk, .int .i64 gn, .int .i64 gck, .int .i64 gcn, .slice Agcf gcf.len Cgcf, .slice Agks gks.len Cgks, .int .i64 qk, .int .i64 qn, .slice Aqf qf.len Cqf, .slice Aks ks.len Cks]] w fun e w' => e = .returned (.int .i64 (1 + (ks.cnt : Int))) ∧ Below w.heap.size w w' := by
  intro N
  induction N with
  | zero => intro f hN; exact absurd hN (Nat.not_lt_zero _)
  | succ N ih =>
    intro f hN hm ru pk pn pf gk gn gck gcn gcf gks qk qn qf Apf Agcf Agks Aqf Af Cpf Cgcf Cgks Cqf Cf w hl
    have IH := Lib.hid ih; clear ih
    have hln := f.len_le_nodes
    have hcn := f.cnt_le
    have HL := Lib.hid hl
    clear hl
    go_enter Try.func45, Try.ntmps45
    go_wp2_with fail
    go_loopw [3, 9] (fun x i wr => ∃ j k : Nat, j ≤ f.len ∧ i = .int .i64 j ∧ x = .int .i64 k ∧ Hid (k + (f.drop j).cnt = 1 + f.cnt) ∧ Hid (Sees w wr)) (fun _ i _ => f.len - (intOf i).toNat)
    case atStart => exact ⟨0, 1, Nat.zero_le _, rfl, rfl, by show _ = _; rw [Dv.drop_zero], by show Sees _ _; unfold Sees; go_grown⟩
    case round =>
      obtain ⟨j, k, hj, rfl, rfl, hk, hS⟩ := hrel
      by_cases hjl : j < f.len
      · obtain ⟨b, o, rfl, hat⟩ := HL.out (by rintro rfl; simp [Dv.len] at hjl)
        have hat' := hat.later (w' := wr) (fun b o hlt => hS.out.cell (p := ⟨b, o, none⟩) hlt)
        obtain ⟨ru, pk, pn, pf, gk, gn, gck, gcn, gcf, gks, qk, qn, qf, ks, r, Apf, Cpf, Agcf, Cgcf, Agks, Cgks, Aqf, Cqf, Aks, Cks, e1, e2, c0, c1, c2, c3, hl_pf, c4, c5, c6, c7, c8, hl_gcf, c9, hl_gks, c10, c11, c12, hl_qf, c13, hl_ks⟩ := Dv.Lies.row hat' hjl
        have hnd := f.nodes_drop j
        have hcd := f.cnt_drop j
        have hk0 := hk.out
        rw [e1.out] at hnd hcd hk0
        have hkn : ks.nodes < N ∧ ks.nodes ≤ 1048576 := by simp only [Dv.nodes] at hnd; omega
        have hk1 : Hid (k + (1 + ks.cnt) + (f.drop (j + 1)).cnt = 1 + f.cnt) := by show _ = _; rw [e2.out]; simp only [Dv.cnt] at hk0; omega
        have hkb : k + (1 + ks.cnt) ≤ 1048577 := by have := hk1.out; omega
        have hkb2 : k ≤ 1048577 := by omega
        obtain ⟨z, hz⟩ : ∃ z : Nat, z = ks.cnt := ⟨_, rfl⟩
        have KC : Hid (∀ W : World, Sees wr W → Calls Try.prog 45 #[.agg #[.int .i64 ru, .int .i64 pk, .int .i64 pn, .slice Apf pf.len Cpf, .int .i64 gk, .int .i64 gn, .int .i64 gck, .int .i64 gcn, .slice Agcf gcf.len Cgcf, .slice Agks gks.len Cgks, .int .i64 qk, .int .i64 qn, .slice Aqf qf.len Cqf, .slice Aks ks.len Cks]] W fun e w' => e = .returned (.int .i64 (1 + (z : Int))) ∧ Below W.heap.size W w') := fun W h => by
          rw [hz]
          exact IH.out ks hkn.1 hkn.2 ru pk pn pf gk gn gck gcn gcf gks qk qn qf Apf Agcf Agks Aqf Aks Cpf Cgcf Cgks Cqf Cks W (hl_ks.sees h)
        rw [← hz] at hk1 hkb
        have w1 : IntKind.i64.wrap ((k : Int) + (1 + (z : Int))) = ((k + (1 + z) : Nat) : Int) := by rw [IntWalk.i64_in _ (by omega)]; omega
        have JL := Lib.hid hjl
        have j0 : (0 : Int) ≤ (j : Int) := Int.natCast_nonneg _
        have j1 : (j : Int) < (f.len : Int) := by omega
        clear hz hat hat' hnd hcd hk0 hkn hk e1 e2 IH hl_pf hl_gcf hl_gks hl_qf hl_ks hjl
        go_wp2_with fail
        refine (KC.out _ (by unfold Sees; go_grown)).mono ?_
        rintro e w1 ⟨rfl, hb⟩
        have hS2 : Hid (Sees w w1) := Sees.below (Sees.below hS.out (show Below wr.heap.size wr _ by go_grown)) hb
        clear hb hS KC c0 c1 c2 c3 c4 c5 c6 c7 c8 c9 c10 c11 c12 c13
        go_wp2_with fail
        go_roundw
        case rel => exact ⟨j + 1, k + (1 + z), JL.out, by go_num, by go_num, hk1, hS2⟩
        case measure => have := JL.out; simp [intOf]; omega
      · obtain rfl : j = f.len := by omega
        have hk2 : Hid ((k : Int) = 1 + (f.cnt : Int)) := by have := hk.out; rw [Dv.drop_len] at this; show _ = _; simp only [Dv.cnt] at this; omega
        clear hk hjl
        go_wp2_with fail
        go_ret
        exact ⟨ret_int hk2.out, hS.out⟩

set_option maxHeartbeats 4000000 in
set_option maxRecDepth 100000 in
theorem l07Size_any : ∀ (N : Nat) (f : Dv), f.nodes < N → f.nodes ≤ 1048576 → ∀ (b o : Nat) (A : Option Addr) (C : Nat) (w : World), w.cell? ⟨b, o + 13, none⟩ = some (.slice A f.len C) → f.Lies w A →
    Calls Try.prog 103 #[.pointer (some ⟨b, o, none⟩)] w fun e w' => e = .returned (.int .i64 (1 + (f.cnt : Int))) ∧ Below w.heap.size w w' := by
  intro N
  induction N with
  | zero => intro f hN; exact absurd hN (Nat.not_lt_zero _)
  | succ N ih =>
    intro f hN hm b0 o0 Af Cf w hc hl
    have IH := Lib.hid ih; clear ih
    have hln := f.len_le_nodes
    have hcn := f.cnt_le
    have HL := Lib.hid hl
    have HC := Lib.hid hc
    clear hl hc
    go_enter Try.func103, Try.ntmps103
    go_wp2_with fail
    go_loopw [3, 4] (fun x i wr => ∃ j k : Nat, j ≤ f.len ∧ i = .int .i64 j ∧ x = .int .i64 k ∧ Hid (k + (f.drop j).cnt = 1 + f.cnt) ∧ Hid (Sees w wr)) (fun _ i _ => f.len - (intOf i).toNat)
    case atStart => exact ⟨0, 1, Nat.zero_le _, rfl, rfl, by show _ = _; rw [Dv.drop_zero], Sees.refl _⟩
    case round =>
      obtain ⟨j, k, hj, rfl, rfl, hk, hS⟩ := hrel
      have hc0 := kc hS.out HC.out
      by_cases hjl : j < f.len
      · obtain ⟨b, o, rfl, hat⟩ := HL.out (by rintro rfl; simp [Dv.len] at hjl)
        have hat' := hat.later (w' := wr) (fun b o hlt => hS.out.cell (p := ⟨b, o, none⟩) hlt)
        obtain ⟨ru, pk, pn, pf, gk, gn, gck, gcn, gcf, gks, qk, qn, qf, ks, r, Apf, Cpf, Agcf, Cgcf, Agks, Cgks, Aqf, Cqf, Aks, Cks, e1, e2, c0, c1, c2, c3, hl_pf, c4, c5, c6, c7, c8, hl_gcf, c9, hl_gks, c10, c11, c12, hl_qf, c13, hl_ks⟩ := Dv.Lies.row hat' hjl
        have hnd := f.nodes_drop j
        have hcd := f.cnt_drop j
        have hk0 := hk.out
        rw [e1.out] at hnd hcd hk0
        have hkn : ks.nodes < N ∧ ks.nodes ≤ 1048576 := by simp only [Dv.nodes] at hnd; omega
        have hk1 : Hid (k + (1 + ks.cnt) + (f.drop (j + 1)).cnt = 1 + f.cnt) := by show _ = _; rw [e2.out]; simp only [Dv.cnt] at hk0; omega
        have hkb : k + (1 + ks.cnt) ≤ 1048577 := by have := hk1.out; omega
        have hkb2 : k ≤ 1048577 := by omega
        obtain ⟨z, hz⟩ : ∃ z : Nat, z = ks.cnt := ⟨_, rfl⟩
        have KC : Hid (∀ W : World, Sees wr W → Calls Try.prog 103 #[.pointer (some ⟨b, o + j * 14, none⟩)] W fun e w' => e = .returned (.int .i64 (1 + (z : Int))) ∧ Below W.heap.size W w') := fun W h => by
          rw [hz]
          exact IH.out ks hkn.1 hkn.2 b (o + j * 14) Aks Cks W (kc h c13) (hl_ks.sees h)
        rw [← hz] at hk1 hkb
        have w1 : IntKind.i64.wrap ((k : Int) + (1 + (z : Int))) = ((k + (1 + z) : Nat) : Int) := by rw [IntWalk.i64_in _ (by omega)]; omega
        have JL := Lib.hid hjl
        have j0 : (0 : Int) ≤ (j : Int) := Int.natCast_nonneg _
        have j1 : (j : Int) < (f.len : Int) := by omega
        clear hz hat hat' hnd hcd hk0 hkn hk e1 e2 IH hl_pf hl_gcf hl_gks hl_qf hl_ks hjl c0 c1 c2 c3 c4 c5 c6 c7 c8 c9 c10 c11 c12 c13
        go_wp2_with fail
        refine (KC.out _ (Sees.refl _)).mono ?_
        rintro e w1 ⟨rfl, hb⟩
        have hS2 : Hid (Sees w w1) := Sees.below hS.out hb
        clear hb hS KC hc0
        go_wp2_with fail
        go_roundw
        case rel => exact ⟨j + 1, k + (1 + z), JL.out, by go_num, by go_num, hk1, hS2⟩
        case measure => have := JL.out; simp [intOf]; omega
      · obtain rfl : j = f.len := by omega
        have hk2 : Hid ((k : Int) = 1 + (f.cnt : Int)) := by have := hk.out; rw [Dv.drop_len] at this; show _ = _; simp only [Dv.cnt] at this; omega
        clear hk hjl
        go_wp2_with fail
        go_ret
        exact ⟨ret_int hk2.out, hS.out⟩

set_option maxHeartbeats 4000000 in
set_option maxRecDepth 100000 in
theorem specDerivationSize_any (ru : Int) (pk : Int) (pn : Int) (pf : Fo) (gk : Int) (gn : Int) (gck : Int) (gcn : Int) (gcf : Fo) (gks : Pg) (qk : Int) (qn : Int) (qf : Fo) (ks : Dv) (hm : ks.nodes ≤ 1048576) (Apf Agcf Agks Aqf Aks : Option Addr) (Cpf Cgcf Cgks Cqf Cks : Nat) (w : World) (hl : ks.Lies w Aks) :
    Calls Try.prog 43 #[.agg #[.int .i64 ru, .int .i64 pk, .int .i64 pn, .slice Apf pf.len Cpf, .int .i64 gk, .int .i64 gn, .int .i64 gck, .int .i64 gcn, .slice Agcf gcf.len Cgcf, .slice Agks gks.len Cgks, .int .i64 qk, .int .i64 qn, .slice Aqf qf.len Cqf, .slice Aks ks.len Cks]] w fun e w' => e = .returned (.int .i64 (1 + (ks.cnt : Int))) ∧ Below w.heap.size w w' := by
  have K : Hid (∀ W : World, Sees w W → W.cell? ⟨w.heap.size, 13, none⟩ = some (.slice Aks ks.len Cks) → Calls Try.prog 103 #[.pointer (some ⟨w.heap.size, 0, none⟩)] W fun e w' => e = .returned (.int .i64 (1 + (ks.cnt : Int))) ∧ Below W.heap.size W w') := fun W h hc =>
    l07Size_any (ks.nodes + 1) ks (Nat.lt_succ_self _) hm w.heap.size 0 Aks Cks W (by rw [Nat.zero_add]; exact hc) (hl.sees h)
  clear hl
  go_enter Try.func43, Try.ntmps43
  go_wp2_with fail
  refine (K.out _ (by unfold Sees; go_grown) (by simp [go_sem])).mono ?_
  rintro e w1 ⟨rfl, hb⟩
  have hS : Hid (Sees w w1) := Sees.below (by unfold Sees; go_grown) hb
  clear hb
  go_wp2_with fail
  go_ret
  exact ⟨rfl, hS.out⟩
end Go.Proofs.YtlpgkhdecccmlaaR
