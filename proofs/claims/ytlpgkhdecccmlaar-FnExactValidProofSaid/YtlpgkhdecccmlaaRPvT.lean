/- Contracts of spec.l04Valid, l04Conditions, l04AxiomTexts, l04Step. -/
import Derived.Test.YtlpgkhdecccmlaaRPvD
import Derived.Test.YtlpgkhdecccmlaaRPvJ
import Derived.Test.YtlpgkhdecccmlaaROk
import Derived.Test.YtlpgkhdecccmlaaRQuietC
import Derived.Deep.RegionHeld3
import Derived.Deep.DrawnRows
import Derived.Deep.DeepCutAuto
namespace Go.Proofs.YtlpgkhdecccmlaaR
open Go.RowKit
set_option linter.unusedVariables false
attribute [local go_sem ↓] Go.wp_at_zero Go.wp_at_succ

set_option maxHeartbeats 1500000 in
set_option maxRecDepth 100000 in
theorem l04Valid_any (t a : Int) (xs : Fo) (hf : xs.len ≤ 9223372036854775807 ∧ xs.Fits) (hn : xs.nodes ≤ 1048576) (A : Option Addr) (C : Nat) (w : World) (hl : xs.Lies w A) :
    Calls Try.prog 217 #[.agg #[.int .i64 t, .int .i64 a], .slice A xs.len C] w fun e w' => e = .returned (.bool (xs.allG (validE t a))) ∧ Below w.heap.size w w' := by
  have hm := hf.1
  have HA := Lib.hid hl
  have HQ0 : Hid (xs.allG (validE t a) = ((xs.drop 0).allG (validE t a) && true)) := by show _ = _; cases xs <;> simp [Fo.drop]
  have HS0 : Hid (St w [(w.heap.size, 0, .int .i64 t), (w.heap.size, 1, .int .i64 a)] (w.alloc (.cells #[.int .i64 t, .int .i64 a] 31))) := ⟨(by unfold Sees; go_grown), (by simp [go_sem]), (by simp [go_sem]), trivial⟩
  have HF := Lib.hid hf; have HN := Lib.hid hn
  clear hl hf hn
  go_enter Try.func217, Try.ntmps217
  go_wp2_with fail
  go_loopw [5] (fun i wr => ∃ j : Nat, j ≤ xs.len ∧ i = .int .i64 j ∧ Hid (xs.allG (validE t a) = ((xs.drop j).allG (validE t a) && true)) ∧ Hid (St w [(w.heap.size, 0, .int .i64 t), (w.heap.size, 1, .int .i64 a)] wr)) (fun i _ => xs.len - (intOf i).toNat)
  case atStart => exact ⟨0, Nat.zero_le _, rfl, HQ0, HS0⟩
  case round =>
    obtain ⟨j, hj, rfl, hq, hS⟩ := hrel
    clear HQ0 HS0
    obtain ⟨hb, y0, y1, _⟩ := hS.out
    by_cases hjl : j < xs.len
    · obtain ⟨c, p, rfl, hat⟩ := HA.out (by rintro rfl; simp [Fo.len] at hjl)
      obtain ⟨k, n, ks, r, Aks, Cks, e1, e2, c0, c1, c2, hl_ks⟩ := Fo.rowG hat hjl
      obtain ⟨q, hqe⟩ : ∃ q : Bool, q = (validE t a) k n ks := ⟨_, rfl⟩
      have KV : Hid (∀ W : World, Sees w W → Calls Try.prog 60 #[.agg #[.int .i64 t, .int .i64 a], .pointer (some ⟨c, p + j * 3, none⟩)] W fun e w' => e = .returned (.bool q) ∧ Below W.heap.size W w') := fun W h => by
        rw [hqe]
        exact l01Ok_any ks (Fo.elem HF.out HN.out e1.out).2 (Fo.elem HF.out HN.out e1.out).1.2 t a k n Aks Cks c (p + j * 3) W (hl_ks.sees h) (kc h c0) (kc h c1) (kc h c2)
      have HST : Hid (xs.allG (validE t a) = ((q && (xs.drop (j + 1)).allG (validE t a)) && true)) := by
        show _ = _
        rw [hq.out, e1.out, e2.out, hqe]; rfl
      have HAT := Lib.hid hat
      have j0 : (0 : Int) ≤ (j : Int) := Int.natCast_nonneg _
      have j1 : (j : Int) < (xs.len : Int) := by omega
      clear hat c0 c1 c2 hl_ks hqe hq e1 e2
      cases q
      · have HE : Hid (xs.allG (validE t a) = false) := by show _ = _; rw [HST.out]; rfl
        clear HST
        go_wp2_with fail
        refine wp_region_quietC wr [(w.heap.size, 0, .int .i64 t), (w.heap.size, 1, .int .i64 a)] (by kernel_rfl) (by kernel_rfl) ⟨Below.refl _ _, y0, y1, trivial⟩ ?_
        repeat (first | go_big_quiet_skip | (go_big_quiet_want; apply Exists.intro; refine ⟨fun W hW => ?_, ?_⟩; focus (have hK := Lib.hid hW; obtain ⟨hs, hc⟩ := hW; simp only [Has, and_true] at hc; go_simp; (first | rfl | exact ⟨rfl, rfl⟩ | ((with_reducible refine quietC_call hK.out (KV.out _ ?_)); exact Sees.below hb hs)))) | (go_simp; go_big_quiet_on))
        refine wpQuiet_nil ?_
        intro w2 H1
        have hb2 : Hid (St w [(w.heap.size, 0, .int .i64 t), (w.heap.size, 1, .int .i64 a)] w2) := ⟨Sees.below hb H1.1, H1.2⟩
        clear H1 hb y0 y1 KV hS
        go_wp2_with fail
        go_ret
        exact ⟨ret_bool HE.out.symm, hb2.out.1⟩
      · have HE : Hid (xs.allG (validE t a) = ((xs.drop (j + 1)).allG (validE t a) && true)) := by show _ = _; rw [HST.out]; rfl
        clear HST
        go_wp2_with fail
        refine wp_region_quietC wr [(w.heap.size, 0, .int .i64 t), (w.heap.size, 1, .int .i64 a)] (by kernel_rfl) (by kernel_rfl) ⟨Below.refl _ _, y0, y1, trivial⟩ ?_
        repeat (first | go_big_quiet_skip | (go_big_quiet_want; apply Exists.intro; refine ⟨fun W hW => ?_, ?_⟩; focus (have hK := Lib.hid hW; obtain ⟨hs, hc⟩ := hW; simp only [Has, and_true] at hc; go_simp; (first | rfl | exact ⟨rfl, rfl⟩ | ((with_reducible refine quietC_call hK.out (KV.out _ ?_)); exact Sees.below hb hs)))) | (go_simp; go_big_quiet_on))
        refine wpQuiet_nil ?_
        intro w2 H1
        have hb2 : Hid (St w [(w.heap.size, 0, .int .i64 t), (w.heap.size, 1, .int .i64 a)] w2) := ⟨Sees.below hb H1.1, H1.2⟩
        clear H1 hb y0 y1 KV hS
        go_wp2_with fail
        go_roundw
        case rel => exact ⟨j + 1, by omega, by go_num, HE, hb2⟩
        case measure => simp [intOf]; omega
    · obtain rfl : j = xs.len := by omega
      have HE : Hid (xs.allG (validE t a) = true) := by show _ = _; rw [hq.out, Fo.drop_len]; simp [Fo.allG]
      clear hq
      go_wp2_with fail
      go_ret
      exact ⟨ret_bool (by rw [HE.out]), hb⟩

set_option maxHeartbeats 1500000 in
set_option maxRecDepth 100000 in
theorem l04Conditions_any (xs : Fo) (hf : xs.len ≤ 9223372036854775807 ∧ xs.Fits) (hn : xs.nodes ≤ 1048576) (A : Option Addr) (C : Nat) (w : World) (hl : xs.Lies w A) :
    Calls Try.prog 218 #[.slice A xs.len C] w fun e w' => e = .returned (.bool (xs.allG condB)) ∧ Below w.heap.size w w' := by
  have hm := hf.1
  have HA := Lib.hid hl
  have HQ0 : Hid (xs.allG condB = ((xs.drop 0).allG condB && true)) := by show _ = _; cases xs <;> simp [Fo.drop]
  have HS0 : Hid (Below w.heap.size w w) := Below.refl _ _
  have HF := Lib.hid hf; have HN := Lib.hid hn
  clear hl hf hn
  go_enter Try.func218, Try.ntmps218
  go_wp2_with fail
  go_loopw [3] (fun i wr => ∃ j : Nat, j ≤ xs.len ∧ i = .int .i64 j ∧ Hid (xs.allG condB = ((xs.drop j).allG condB && true)) ∧ Hid (Below w.heap.size w wr)) (fun i _ => xs.len - (intOf i).toNat)
  case atStart => exact ⟨0, Nat.zero_le _, rfl, HQ0, HS0⟩
  case round =>
    obtain ⟨j, hj, rfl, hq, hS⟩ := hrel
    clear HQ0 HS0
    have hb : Sees w wr := hS.out
    by_cases hjl : j < xs.len
    · obtain ⟨c, p, rfl, hat⟩ := HA.out (by rintro rfl; simp [Fo.len] at hjl)
      obtain ⟨k, n, ks, r, Aks, Cks, e1, e2, c0, c1, c2, hl_ks⟩ := Fo.rowG hat hjl
      obtain ⟨q, hqe⟩ : ∃ q : Bool, q = condB k n ks := ⟨_, rfl⟩
      have KV : Hid (∀ W : World, Sees w W → Calls Try.prog 61 #[.pointer (some ⟨c, p + j * 3, none⟩)] W fun e w' => e = .returned (.bool q) ∧ Below W.heap.size W w') := fun W h => by
        rw [hqe]
        exact (l01Condition_any (ks.nodes + 1) ks (Nat.lt_succ_self _) (Fo.elem HF.out HN.out e1.out).1.1 (Fo.elem HF.out HN.out e1.out).1.2 k Aks Cks c (p + j * 3) W (hl_ks.sees h) (kc h c0) (kc h c2)).mono fun e w' ⟨he, hw⟩ => ⟨he, by rw [← hw]; exact Below.refl _ _⟩
      have HST : Hid (xs.allG condB = ((q && (xs.drop (j + 1)).allG condB) && true)) := by
        show _ = _
        rw [hq.out, e1.out, e2.out, hqe]; rfl
      have HAT := Lib.hid hat
      have j0 : (0 : Int) ≤ (j : Int) := Int.natCast_nonneg _
      have j1 : (j : Int) < (xs.len : Int) := by omega
      clear hat c0 c1 c2 hl_ks hqe hq e1 e2
      cases q
      · have HE : Hid (xs.allG condB = false) := by show _ = _; rw [HST.out]; rfl
        clear HST
        go_wp2_with fail
        refine (KV.out _ hb).mono ?_
        rintro e w2 ⟨rfl, hb1⟩
        have hb2 : Hid (Sees w w2) := Sees.below hb hb1
        clear hb1
        clear hb KV hS
        go_wp2_with fail
        go_ret
        exact ⟨ret_bool HE.out.symm, hb2.out⟩
      · have HE : Hid (xs.allG condB = ((xs.drop (j + 1)).allG condB && true)) := by show _ = _; rw [HST.out]; rfl
        clear HST
        go_wp2_with fail
        refine (KV.out _ hb).mono ?_
        rintro e w2 ⟨rfl, hb1⟩
        have hb2 : Hid (Sees w w2) := Sees.below hb hb1
        clear hb1
        clear hb KV hS
        go_wp2_with fail
        go_roundw
        case rel => exact ⟨j + 1, by omega, by go_num, HE, hb2⟩
        case measure => simp [intOf]; omega
    · obtain rfl : j = xs.len := by omega
      have HE : Hid (xs.allG condB = true) := by show _ = _; rw [hq.out, Fo.drop_len]; simp [Fo.allG]
      clear hq
      go_wp2_with fail
      go_ret
      exact ⟨ret_bool (by rw [HE.out]), hb⟩
set_option maxHeartbeats 1500000 in
set_option maxRecDepth 100000 in
theorem l04AxiomTexts_any (w : World) :
    Calls Try.prog 216 #[] w fun e w' => (∃ A, e = .returned (.slice A 24 24)) ∧ Below w.heap.size w w' := by
  go_enter Try.func216, Try.ntmps216
  go_wp2_with fail
  go_ret
  exact ⟨⟨_, rfl⟩, by go_grown⟩

end Go.Proofs.YtlpgkhdecccmlaaR

namespace Go.Proofs.YtlpgkhdecccmlaaR
open Go.RowKit
set_option linter.unusedVariables false
attribute [local go_sem ↓] Go.wp_at_zero Go.wp_at_succ

set_option maxHeartbeats 1500000 in
set_option maxRecDepth 100000 in
theorem l04Step_any (t a : Int) (us : Int) (bk : Bool) (pa : Il) (te : Fo) (ac : Fo) (hf_pa : pa.len ≤ 9223372036854775807 ∧ pa.Fits) (hf_te : te.len ≤ 9223372036854775807 ∧ te.Fits) (hf_ac : ac.len ≤ 9223372036854775807 ∧ ac.Fits) (hn_te : te.nodes ≤ 1048576) (hn_ac : ac.nodes ≤ 1048576) (Apa Ate Aac : Option Addr) (Cpa Cte Cac : Nat) (b o : Nat) (w : World) (hl_pa : pa.Lies w Apa) (hl_te : te.Lies w Ate) (hl_ac : ac.Lies w Aac) (g0 : w.cell? ⟨b, o, none⟩ = some (.int .i64 us)) (g1 : w.cell? ⟨b, o + 1, none⟩ = some (.bool bk)) (g2 : w.cell? ⟨b, o + 2, none⟩ = some (.slice Apa pa.len Cpa)) (g3 : w.cell? ⟨b, o + 3, none⟩ = some (.slice Ate te.len Cte)) (g4 : w.cell? ⟨b, o + 4, none⟩ = some (.slice Aac ac.len Cac)) :
    Calls Try.prog 196 #[.agg #[.int .i64 t, .int .i64 a], .pointer (some ⟨b, o, none⟩)] w fun e w' => e = .returned (.bool (stepB t a us bk pa te ac)) ∧ Below w.heap.size w w' := by
  have HA : Hid (IntsL 0 w pa.l Apa) := IntsL.of hl_pa
  obtain ⟨q0, hq0⟩ : ∃ q : Bool, q = inB us (-40) 23 := ⟨_, rfl⟩
  obtain ⟨q5, hq5⟩ : ∃ q : Bool, q = te.allG (validE t a) := ⟨_, rfl⟩
  obtain ⟨q6, hq6⟩ : ∃ q : Bool, q = te.allG condB := ⟨_, rfl⟩
  obtain ⟨q7, hq7⟩ : ∃ q : Bool, q = ac.allG (validE t a) := ⟨_, rfl⟩
  have KA : Hid (∀ W : World, Calls Try.prog 216 #[] W fun e w' => (∃ A, e = .returned (.slice A 24 24)) ∧ Below W.heap.size W w') := fun W => l04AxiomTexts_any W
  have KI : Hid (∀ W : World, Calls Try.prog 81 #[.int .i64 us, .int .i64 (-40), .int .i64 23] W fun e w' => e = .returned (.bool q0) ∧ Below W.heap.size W w') := fun W => (in_any us (-40) 23 W).mono fun e w' h => ⟨by rw [hq0]; exact h.1, by rw [← h.2]; exact Below.refl _ _⟩
  have K5 : Hid (∀ W : World, Sees w W → Calls Try.prog 217 #[.agg #[.int .i64 t, .int .i64 a], .slice Ate te.len Cte] W fun e w' => e = .returned (.bool q5) ∧ Below W.heap.size W w') := fun W h => by rw [hq5]; exact l04Valid_any t a te hf_te hn_te Ate Cte W (hl_te.sees h)
  have K6 : Hid (∀ W : World, Sees w W → Calls Try.prog 218 #[.slice Ate te.len Cte] W fun e w' => e = .returned (.bool q6) ∧ Below W.heap.size W w') := fun W h => by rw [hq6]; exact l04Conditions_any te hf_te hn_te Ate Cte W (hl_te.sees h)
  have K7 : Hid (∀ W : World, Sees w W → Calls Try.prog 217 #[.agg #[.int .i64 t, .int .i64 a], .slice Aac ac.len Cac] W fun e w' => e = .returned (.bool q7) ∧ Below W.heap.size W w') := fun W h => by rw [hq7]; exact l04Valid_any t a ac hf_ac hn_ac Aac Cac W (hl_ac.sees h)
  have HD : Hid (stepB t a us bk pa te ac = (q0 && (!decide ((40 : Int) < (pa.len : Int)) && (!decide ((3 : Int) < (te.len : Int)) && (!decide ((4 : Int) < (ac.len : Int)) && (allG (fun i => inB i 0 1) pa.l 0 && (q5 && (q6 && q7)))))))) := by
    show _ = _
    unfold stepB
    rw [hq0, hq5, hq6, hq7, ← allG_zero, show (fun i => inB i 0 1) = (fun i => belowB i 2) from funext fun i => by unfold inB belowB; rw [Bool.eq_iff_iff]; simp; omega, show inB us (-40) 23 = (!decide (us < -40) && !decide ((24 : Int) ≤ us)) from by unfold inB; rw [Bool.eq_iff_iff]; simp; omega]
    cases te.allG (validE t a) <;> cases te.allG condB <;> cases ac.allG (validE t a) <;> simp [Bool.and_assoc]
  have l4 : pa.l.length ≤ 9223372036854775807 := hf_pa.1
  have l1 := hf_pa.1; have l2 := hf_te.1; have l3 := hf_ac.1
  have HS0 : Hid (St w [(w.heap.size, 0, .int .i64 t), (w.heap.size, 1, .int .i64 a), (b, o, .int .i64 us), (b, o + 2, .slice Apa pa.len Cpa), (b, o + 3, .slice Ate te.len Cte), (b, o + 4, .slice Aac ac.len Cac)] (w.alloc (.cells #[.int .i64 t, .int .i64 a] 31))) := ⟨(by unfold Sees; go_grown), (by simp [go_sem]), (by simp [go_sem]), ka _ g0, ka _ g2, ka _ g3, ka _ g4, trivial⟩
  clear hq0 hq5 hq6 hq7 hl_pa hl_te hl_ac hf_pa hf_te hf_ac hn_te hn_ac g0 g1 g2 g3 g4
  cases q0
  case false =>
    have HE : Hid (stepB t a us bk pa te ac = false) := by show _ = _; rw [HD.out]; rfl
    clear HD
    go_enter Try.func196, Try.ntmps196
    go_wp2_with fail
    refine wp_region_held_drew (S := fun w' => St w [(w.heap.size, 0, .int .i64 t), (w.heap.size, 1, .int .i64 a), (b, o, .int .i64 us), (b, o + 2, .slice Apa pa.len Cpa), (b, o + 3, .slice Ate te.len Cte), (b, o + 4, .slice Aac ac.len Cac)] w') (by kernel_rfl) HS0.out.drew (fun HS => ?_)
    refine wpAnyH_take (i := 0) (oi := { dst := some 6, op := Op.move (Operand.tmp 1), type := 218, pos := "l04_proofs.go:323", after := #[], guard := none }) (v := .pointer (some ⟨b, o, none⟩)) rfl (by kernel_rfl) (by kernel_rfl) (by kernel_rfl) (fun _ _ _ h => h) (Or.inl ⟨rfl, fun W hW => by (obtain ⟨_, y0, y1, y2, y3, y4, y5, _⟩ := hW; go_simp; try rfl)⟩) HS ?_
    try simp only [Act.put, List.setIfInBounds_toArray, List.set_cons_zero, List.set_cons_succ]
    refine wpAnyH_take (i := 1) (oi := { dst := some 7, op := Op.nilCheck (Operand.tmp 6), type := 0, pos := "l04_proofs.go:323", after := #[{ on := 0, ground := Ground.data }], guard := none }) (v := .pointer (some ⟨b, o, none⟩)) rfl (by kernel_rfl) (by kernel_rfl) (by kernel_rfl) (fun _ _ _ h => h) (Or.inl ⟨rfl, fun W hW => by (obtain ⟨_, y0, y1, y2, y3, y4, y5, _⟩ := hW; go_simp; try rfl)⟩) HS ?_
    try simp only [Act.put, List.setIfInBounds_toArray, List.set_cons_zero, List.set_cons_succ]
    refine wpAnyH_take (i := 2) (oi := { dst := some 8, op := Op.fieldAddr 220 (Operand.tmp 7) 0, type := 0, pos := "l04_proofs.go:323", after := #[{ on := 1, ground := Ground.data }], guard := none }) (v := .pointer (some ⟨b, o, none⟩)) rfl (by kernel_rfl) (by kernel_rfl) (by kernel_rfl) (fun _ _ _ h => h) (Or.inl ⟨rfl, fun W hW => by (obtain ⟨_, y0, y1, y2, y3, y4, y5, _⟩ := hW; go_simp; try rfl)⟩) HS ?_
    try simp only [Act.put, List.setIfInBounds_toArray, List.set_cons_zero, List.set_cons_succ]
    refine wpAnyH_take (i := 3) (oi := { dst := some 9, op := Op.load 2 (Operand.tmp 8), type := 2, pos := "l04_proofs.go:323", after := #[{ on := 2, ground := Ground.data }], guard := none }) (v := .int .i64 us) rfl (by kernel_rfl) (by kernel_rfl) (by kernel_rfl) (fun _ _ _ h => h) (Or.inl ⟨rfl, fun W hW => by (obtain ⟨_, y0, y1, y2, y3, y4, y5, _⟩ := hW; go_simp; try rfl)⟩) HS ?_
    try simp only [Act.put, List.setIfInBounds_toArray, List.set_cons_zero, List.set_cons_succ]
    refine wpAnyH_ready (rs := [4]) (by kernel_rfl) (by simp) ?_
    refine AllReadyH.cons (o := { dst := some 10, op := Op.call { callee := Callee.value (Operand.func 216), args := #[], argTypes := #[] }, type := 288, pos := "l04_proofs.go:323", after := #[], guard := none }) rfl (fun K hK => ?_) AllReadyH.nil
    go_simp
    refine (KA.out _).mono ?_
    rintro e w4 ⟨⟨AX, rfl⟩, hba⟩
    have HS' := St.below HS hba
    clear HS hba
    have HS := HS'
    clear HS'
    go_wp2_with fail
    refine hK.out _ _ HS (fun _ => ?_)
    clear hK K
    try simp only [Act.put, List.setIfInBounds_toArray, List.set_cons_zero, List.set_cons_succ]
    refine wpAnyH_take (i := 5) (oi := { dst := some 11, op := Op.call { callee := Callee.builtin Builtin.len, args := #[Operand.tmp 10], argTypes := #[288] }, type := 3, pos := "l04_proofs.go:323", after := #[{ on := 4, ground := Ground.data }], guard := none }) (v := .int .i64 24) rfl (by kernel_rfl) (by kernel_rfl) (by kernel_rfl) (fun _ _ _ h => h) (Or.inl ⟨rfl, fun W hW => by (obtain ⟨_, y0, y1, y2, y3, y4, y5, _⟩ := hW; go_simp; try rfl)⟩) HS ?_
    try simp only [Act.put, List.setIfInBounds_toArray, List.set_cons_zero, List.set_cons_succ]
    refine wpAnyH_take (i := 6) (oi := { dst := some 12, op := Op.binOp BinOp.sub 2 (Operand.tmp 11) (Operand.const (Value.int IntKind.i64 1)) 2, type := 2, pos := "l04_proofs.go:323", after := #[{ on := 5, ground := Ground.data }], guard := none }) (v := .int .i64 (IntKind.i64.wrap 23)) rfl (by kernel_rfl) (by kernel_rfl) (by kernel_rfl) (fun _ _ _ h => h) (Or.inl ⟨rfl, fun W hW => by (obtain ⟨_, y0, y1, y2, y3, y4, y5, _⟩ := hW; go_simp; try rfl)⟩) HS ?_
    try simp only [Act.put, List.setIfInBounds_toArray, List.set_cons_zero, List.set_cons_succ]
    refine wpAnyH_ready (rs := [7]) (by kernel_rfl) (by simp) ?_
    refine AllReadyH.cons (o := { dst := some 13, op := Op.call { callee := Callee.value (Operand.func 81), args := #[Operand.tmp 9, Operand.const (Value.int IntKind.i64 (-40)), Operand.tmp 12], argTypes := #[2, 2, 2] }, type := 4, pos := "l04_proofs.go:323", after := #[{ on := 3, ground := Ground.data }, { on := 6, ground := Ground.data }, { on := 4, ground := Ground.chain }], guard := none }) rfl (fun K hK => ?_) AllReadyH.nil
    go_simp
    refine (KI.out _).mono ?_
    rintro e w7 ⟨rfl, hbi⟩
    have HS' := St.below HS hbi
    clear HS hbi
    have HS := HS'
    clear HS'
    go_wp2_with fail
    refine hK.out _ _ HS (fun _ => ?_)
    clear hK K
    try simp only [Act.put, List.setIfInBounds_toArray, List.set_cons_zero, List.set_cons_succ]
    refine wpAnyH_take (i := 8) (oi := { dst := some 14, op := Op.unOp UnOp.not 4 (Operand.tmp 13), type := 4, pos := "l04_proofs.go:323", after := #[{ on := 7, ground := Ground.data }], guard := none }) (v := .bool true) rfl (by kernel_rfl) (by kernel_rfl) (by kernel_rfl) (fun _ _ _ h => h) (Or.inl ⟨rfl, fun W hW => by (obtain ⟨_, y0, y1, y2, y3, y4, y5, _⟩ := hW; go_simp; try rfl)⟩) HS ?_
    try simp only [Act.put, List.setIfInBounds_toArray, List.set_cons_zero, List.set_cons_succ]
    refine wpAnyH_take (i := 9) (oi := { dst := some 15, op := Op.move (Operand.tmp 14), type := 4, pos := "l04_proofs.go:323", after := #[{ on := 8, ground := Ground.data }, { on := 7, ground := Ground.chain }], guard := none }) (v := .bool true) rfl (by kernel_rfl) (by kernel_rfl) (by kernel_rfl) (fun _ _ _ h => h) (Or.inl ⟨rfl, fun W hW => by (obtain ⟨_, y0, y1, y2, y3, y4, y5, _⟩ := hW; go_simp; try rfl)⟩) HS ?_
    try simp only [Act.put, List.setIfInBounds_toArray, List.set_cons_zero, List.set_cons_succ]
    refine wpAnyH_take (i := 10) (oi := { dst := some 16, op := Op.move (Operand.tmp 1), type := 218, pos := "l04_proofs.go:323", after := #[{ on := 9, ground := Ground.guard }], guard := some (9, false) }) (v := undef) rfl (by kernel_rfl) (by kernel_rfl) (by kernel_rfl) (fun _ _ _ h => h) (Or.inr ⟨rfl, rfl⟩) HS ?_
    try simp only [Act.put, List.setIfInBounds_toArray, List.set_cons_zero, List.set_cons_succ]
    refine wpAnyH_take (i := 11) (oi := { dst := some 17, op := Op.nilCheck (Operand.tmp 16), type := 0, pos := "l04_proofs.go:323", after := #[{ on := 10, ground := Ground.data }, { on := 9, ground := Ground.guard }], guard := some (9, false) }) (v := undef) rfl (by kernel_rfl) (by kernel_rfl) (by kernel_rfl) (fun _ _ _ h => h) (Or.inr ⟨rfl, rfl⟩) HS ?_
    try simp only [Act.put, List.setIfInBounds_toArray, List.set_cons_zero, List.set_cons_succ]
    refine wpAnyH_take (i := 12) (oi := { dst := some 18, op := Op.fieldAddr 220 (Operand.tmp 17) 2, type := 0, pos := "l04_proofs.go:323", after := #[{ on := 11, ground := Ground.data }, { on := 9, ground := Ground.guard }], guard := some (9, false) }) (v := undef) rfl (by kernel_rfl) (by kernel_rfl) (by kernel_rfl) (fun _ _ _ h => h) (Or.inr ⟨rfl, rfl⟩) HS ?_
    try simp only [Act.put, List.setIfInBounds_toArray, List.set_cons_zero, List.set_cons_succ]
    refine wpAnyH_take (i := 13) (oi := { dst := some 19, op := Op.load 28 (Operand.tmp 18), type := 28, pos := "l04_proofs.go:323", after := #[{ on := 12, ground := Ground.data }, { on := 9, ground := Ground.guard }], guard := some (9, false) }) (v := undef) rfl (by kernel_rfl) (by kernel_rfl) (by kernel_rfl) (fun _ _ _ h => h) (Or.inr ⟨rfl, rfl⟩) HS ?_
    try simp only [Act.put, List.setIfInBounds_toArray, List.set_cons_zero, List.set_cons_succ]
    refine wpAnyH_take (i := 14) (oi := { dst := some 20, op := Op.call { callee := Callee.builtin Builtin.len, args := #[Operand.tmp 19], argTypes := #[28] }, type := 3, pos := "l04_proofs.go:323", after := #[{ on := 13, ground := Ground.data }, { on := 9, ground := Ground.guard }], guard := some (9, false) }) (v := undef) rfl (by kernel_rfl) (by kernel_rfl) (by kernel_rfl) (fun _ _ _ h => h) (Or.inr ⟨rfl, rfl⟩) HS ?_
    try simp only [Act.put, List.setIfInBounds_toArray, List.set_cons_zero, List.set_cons_succ]
    refine wpAnyH_take (i := 15) (oi := { dst := some 21, op := Op.binOp BinOp.gtr 3 (Operand.tmp 20) (Operand.const (Value.int IntKind.i64 40)) 3, type := 4, pos := "l04_proofs.go:323", after := #[{ on := 14, ground := Ground.data }, { on := 9, ground := Ground.guard }], guard := some (9, false) }) (v := undef) rfl (by kernel_rfl) (by kernel_rfl) (by kernel_rfl) (fun _ _ _ h => h) (Or.inr ⟨rfl, rfl⟩) HS ?_
    try simp only [Act.put, List.setIfInBounds_toArray, List.set_cons_zero, List.set_cons_succ]
    refine wpAnyH_take (i := 16) (oi := { dst := some 22, op := Op.pick (Operand.tmp 15) (Operand.const (Value.bool true)) (Operand.tmp 21), type := 4, pos := "l04_proofs.go:323", after := #[{ on := 9, ground := Ground.data }, { on := 15, ground := Ground.data }], guard := none }) (v := .bool true) rfl (by kernel_rfl) (by kernel_rfl) (by kernel_rfl) (fun _ _ _ h => h) (Or.inl ⟨rfl, fun W hW => by (obtain ⟨_, y0, y1, y2, y3, y4, y5, _⟩ := hW; go_simp; try rfl)⟩) HS ?_
    try simp only [Act.put, List.setIfInBounds_toArray, List.set_cons_zero, List.set_cons_succ]
    refine wpAnyH_take (i := 17) (oi := { dst := some 23, op := Op.move (Operand.tmp 22), type := 4, pos := "l04_proofs.go:323", after := #[{ on := 16, ground := Ground.data }, { on := 9, ground := Ground.chain }], guard := none }) (v := .bool true) rfl (by kernel_rfl) (by kernel_rfl) (by kernel_rfl) (fun _ _ _ h => h) (Or.inl ⟨rfl, fun W hW => by (obtain ⟨_, y0, y1, y2, y3, y4, y5, _⟩ := hW; go_simp; try rfl)⟩) HS ?_
    try simp only [Act.put, List.setIfInBounds_toArray, List.set_cons_zero, List.set_cons_succ]
    refine wpAnyH_take (i := 18) (oi := { dst := some 24, op := Op.move (Operand.tmp 1), type := 218, pos := "l04_proofs.go:323", after := #[{ on := 17, ground := Ground.guard }], guard := some (17, false) }) (v := undef) rfl (by kernel_rfl) (by kernel_rfl) (by kernel_rfl) (fun _ _ _ h => h) (Or.inr ⟨rfl, rfl⟩) HS ?_
    try simp only [Act.put, List.setIfInBounds_toArray, List.set_cons_zero, List.set_cons_succ]
    refine wpAnyH_take (i := 19) (oi := { dst := some 25, op := Op.nilCheck (Operand.tmp 24), type := 0, pos := "l04_proofs.go:323", after := #[{ on := 18, ground := Ground.data }, { on := 17, ground := Ground.guard }], guard := some (17, false) }) (v := undef) rfl (by kernel_rfl) (by kernel_rfl) (by kernel_rfl) (fun _ _ _ h => h) (Or.inr ⟨rfl, rfl⟩) HS ?_
    try simp only [Act.put, List.setIfInBounds_toArray, List.set_cons_zero, List.set_cons_succ]
    refine wpAnyH_take (i := 20) (oi := { dst := some 26, op := Op.fieldAddr 220 (Operand.tmp 25) 3, type := 0, pos := "l04_proofs.go:323", after := #[{ on := 19, ground := Ground.data }, { on := 17, ground := Ground.guard }], guard := some (17, false) }) (v := undef) rfl (by kernel_rfl) (by kernel_rfl) (by kernel_rfl) (fun _ _ _ h => h) (Or.inr ⟨rfl, rfl⟩) HS ?_
    try simp only [Act.put, List.setIfInBounds_toArray, List.set_cons_zero, List.set_cons_succ]
    refine wpAnyH_take (i := 21) (oi := { dst := some 27, op := Op.load 33 (Operand.tmp 26), type := 33, pos := "l04_proofs.go:323", after := #[{ on := 20, ground := Ground.data }, { on := 17, ground := Ground.guard }], guard := some (17, false) }) (v := undef) rfl (by kernel_rfl) (by kernel_rfl) (by kernel_rfl) (fun _ _ _ h => h) (Or.inr ⟨rfl, rfl⟩) HS ?_
    try simp only [Act.put, List.setIfInBounds_toArray, List.set_cons_zero, List.set_cons_succ]
    refine wpAnyH_take (i := 22) (oi := { dst := some 28, op := Op.call { callee := Callee.builtin Builtin.len, args := #[Operand.tmp 27], argTypes := #[33] }, type := 3, pos := "l04_proofs.go:323", after := #[{ on := 21, ground := Ground.data }, { on := 17, ground := Ground.guard }], guard := some (17, false) }) (v := undef) rfl (by kernel_rfl) (by kernel_rfl) (by kernel_rfl) (fun _ _ _ h => h) (Or.inr ⟨rfl, rfl⟩) HS ?_
    try simp only [Act.put, List.setIfInBounds_toArray, List.set_cons_zero, List.set_cons_succ]
    refine wpAnyH_take (i := 23) (oi := { dst := some 29, op := Op.binOp BinOp.gtr 3 (Operand.tmp 28) (Operand.const (Value.int IntKind.i64 3)) 3, type := 4, pos := "l04_proofs.go:323", after := #[{ on := 22, ground := Ground.data }, { on := 17, ground := Ground.guard }], guard := some (17, false) }) (v := undef) rfl (by kernel_rfl) (by kernel_rfl) (by kernel_rfl) (fun _ _ _ h => h) (Or.inr ⟨rfl, rfl⟩) HS ?_
    try simp only [Act.put, List.setIfInBounds_toArray, List.set_cons_zero, List.set_cons_succ]
    refine wpAnyH_take (i := 24) (oi := { dst := some 30, op := Op.pick (Operand.tmp 23) (Operand.const (Value.bool true)) (Operand.tmp 29), type := 4, pos := "l04_proofs.go:323", after := #[{ on := 17, ground := Ground.data }, { on := 23, ground := Ground.data }], guard := none }) (v := .bool true) rfl (by kernel_rfl) (by kernel_rfl) (by kernel_rfl) (fun _ _ _ h => h) (Or.inl ⟨rfl, fun W hW => by (obtain ⟨_, y0, y1, y2, y3, y4, y5, _⟩ := hW; go_simp; try rfl)⟩) HS ?_
    try simp only [Act.put, List.setIfInBounds_toArray, List.set_cons_zero, List.set_cons_succ]
    refine wpAnyH_take (i := 25) (oi := { dst := some 31, op := Op.move (Operand.tmp 30), type := 4, pos := "l04_proofs.go:323", after := #[{ on := 24, ground := Ground.data }, { on := 17, ground := Ground.chain }], guard := none }) (v := .bool true) rfl (by kernel_rfl) (by kernel_rfl) (by kernel_rfl) (fun _ _ _ h => h) (Or.inl ⟨rfl, fun W hW => by (obtain ⟨_, y0, y1, y2, y3, y4, y5, _⟩ := hW; go_simp; try rfl)⟩) HS ?_
    try simp only [Act.put, List.setIfInBounds_toArray, List.set_cons_zero, List.set_cons_succ]
    refine wpAnyH_take (i := 26) (oi := { dst := some 32, op := Op.move (Operand.tmp 1), type := 218, pos := "l04_proofs.go:323", after := #[{ on := 25, ground := Ground.guard }], guard := some (25, false) }) (v := undef) rfl (by kernel_rfl) (by kernel_rfl) (by kernel_rfl) (fun _ _ _ h => h) (Or.inr ⟨rfl, rfl⟩) HS ?_
    try simp only [Act.put, List.setIfInBounds_toArray, List.set_cons_zero, List.set_cons_succ]
    refine wpAnyH_take (i := 27) (oi := { dst := some 33, op := Op.nilCheck (Operand.tmp 32), type := 0, pos := "l04_proofs.go:323", after := #[{ on := 26, ground := Ground.data }, { on := 25, ground := Ground.guard }], guard := some (25, false) }) (v := undef) rfl (by kernel_rfl) (by kernel_rfl) (by kernel_rfl) (fun _ _ _ h => h) (Or.inr ⟨rfl, rfl⟩) HS ?_
    try simp only [Act.put, List.setIfInBounds_toArray, List.set_cons_zero, List.set_cons_succ]
    refine wpAnyH_take (i := 28) (oi := { dst := some 34, op := Op.fieldAddr 220 (Operand.tmp 33) 4, type := 0, pos := "l04_proofs.go:323", after := #[{ on := 27, ground := Ground.data }, { on := 25, ground := Ground.guard }], guard := some (25, false) }) (v := undef) rfl (by kernel_rfl) (by kernel_rfl) (by kernel_rfl) (fun _ _ _ h => h) (Or.inr ⟨rfl, rfl⟩) HS ?_
    try simp only [Act.put, List.setIfInBounds_toArray, List.set_cons_zero, List.set_cons_succ]
    refine wpAnyH_take (i := 29) (oi := { dst := some 35, op := Op.load 33 (Operand.tmp 34), type := 33, pos := "l04_proofs.go:323", after := #[{ on := 28, ground := Ground.data }, { on := 25, ground := Ground.guard }], guard := some (25, false) }) (v := undef) rfl (by kernel_rfl) (by kernel_rfl) (by kernel_rfl) (fun _ _ _ h => h) (Or.inr ⟨rfl, rfl⟩) HS ?_
    try simp only [Act.put, List.setIfInBounds_toArray, List.set_cons_zero, List.set_cons_succ]
    refine wpAnyH_take (i := 30) (oi := { dst := some 36, op := Op.call { callee := Callee.builtin Builtin.len, args := #[Operand.tmp 35], argTypes := #[33] }, type := 3, pos := "l04_proofs.go:323", after := #[{ on := 29, ground := Ground.data }, { on := 25, ground := Ground.guard }], guard := some (25, false) }) (v := undef) rfl (by kernel_rfl) (by kernel_rfl) (by kernel_rfl) (fun _ _ _ h => h) (Or.inr ⟨rfl, rfl⟩) HS ?_
    try simp only [Act.put, List.setIfInBounds_toArray, List.set_cons_zero, List.set_cons_succ]
    refine wpAnyH_take (i := 31) (oi := { dst := some 37, op := Op.binOp BinOp.gtr 3 (Operand.tmp 36) (Operand.const (Value.int IntKind.i64 4)) 3, type := 4, pos := "l04_proofs.go:323", after := #[{ on := 30, ground := Ground.data }, { on := 25, ground := Ground.guard }], guard := some (25, false) }) (v := undef) rfl (by kernel_rfl) (by kernel_rfl) (by kernel_rfl) (fun _ _ _ h => h) (Or.inr ⟨rfl, rfl⟩) HS ?_
    try simp only [Act.put, List.setIfInBounds_toArray, List.set_cons_zero, List.set_cons_succ]
    refine wpAnyH_take (i := 32) (oi := { dst := some 38, op := Op.pick (Operand.tmp 31) (Operand.const (Value.bool true)) (Operand.tmp 37), type := 4, pos := "l04_proofs.go:323", after := #[{ on := 25, ground := Ground.data }, { on := 31, ground := Ground.data }], guard := none }) (v := .bool true) rfl (by kernel_rfl) (by kernel_rfl) (by kernel_rfl) (fun _ _ _ h => h) (Or.inl ⟨rfl, fun W hW => by (obtain ⟨_, y0, y1, y2, y3, y4, y5, _⟩ := hW; go_simp; try rfl)⟩) HS ?_
    try simp only [Act.put, List.setIfInBounds_toArray, List.set_cons_zero, List.set_cons_succ]
    refine wpAnyH_done (by kernel_rfl) ?_ _
    have HT := Lib.hid HS
    clear HS KA KI HS0
    go_wp2_with fail
    go_ret
    exact ⟨ret_bool HE.out.symm, HT.out.1⟩
  by_cases hk1 : (40 : Int) < (pa.len : Int)
  case pos =>
    have tl1 : decide ((40 : Int) < (pa.len : Int)) = true := decide_eq_true hk1
    have HE : Hid (stepB t a us bk pa te ac = false) := by show _ = _; rw [HD.out, tl1]; simp
    clear HD
    go_enter Try.func196, Try.ntmps196
    go_wp2_with fail
    refine wp_region_held_drew (S := fun w' => St w [(w.heap.size, 0, .int .i64 t), (w.heap.size, 1, .int .i64 a), (b, o, .int .i64 us), (b, o + 2, .slice Apa pa.len Cpa), (b, o + 3, .slice Ate te.len Cte), (b, o + 4, .slice Aac ac.len Cac)] w') (by kernel_rfl) HS0.out.drew (fun HS => ?_)
    refine wpAnyH_take (i := 0) (oi := { dst := some 6, op := Op.move (Operand.tmp 1), type := 218, pos := "l04_proofs.go:323", after := #[], guard := none }) (v := .pointer (some ⟨b, o, none⟩)) rfl (by kernel_rfl) (by kernel_rfl) (by kernel_rfl) (fun _ _ _ h => h) (Or.inl ⟨rfl, fun W hW => by (obtain ⟨_, y0, y1, y2, y3, y4, y5, _⟩ := hW; go_simp; try rfl)⟩) HS ?_
    try simp only [Act.put, List.setIfInBounds_toArray, List.set_cons_zero, List.set_cons_succ]
    refine wpAnyH_take (i := 1) (oi := { dst := some 7, op := Op.nilCheck (Operand.tmp 6), type := 0, pos := "l04_proofs.go:323", after := #[{ on := 0, ground := Ground.data }], guard := none }) (v := .pointer (some ⟨b, o, none⟩)) rfl (by kernel_rfl) (by kernel_rfl) (by kernel_rfl) (fun _ _ _ h => h) (Or.inl ⟨rfl, fun W hW => by (obtain ⟨_, y0, y1, y2, y3, y4, y5, _⟩ := hW; go_simp; try rfl)⟩) HS ?_
    try simp only [Act.put, List.setIfInBounds_toArray, List.set_cons_zero, List.set_cons_succ]
    refine wpAnyH_take (i := 2) (oi := { dst := some 8, op := Op.fieldAddr 220 (Operand.tmp 7) 0, type := 0, pos := "l04_proofs.go:323", after := #[{ on := 1, ground := Ground.data }], guard := none }) (v := .pointer (some ⟨b, o, none⟩)) rfl (by kernel_rfl) (by kernel_rfl) (by kernel_rfl) (fun _ _ _ h => h) (Or.inl ⟨rfl, fun W hW => by (obtain ⟨_, y0, y1, y2, y3, y4, y5, _⟩ := hW; go_simp; try rfl)⟩) HS ?_
    try simp only [Act.put, List.setIfInBounds_toArray, List.set_cons_zero, List.set_cons_succ]
    refine wpAnyH_take (i := 3) (oi := { dst := some 9, op := Op.load 2 (Operand.tmp 8), type := 2, pos := "l04_proofs.go:323", after := #[{ on := 2, ground := Ground.data }], guard := none }) (v := .int .i64 us) rfl (by kernel_rfl) (by kernel_rfl) (by kernel_rfl) (fun _ _ _ h => h) (Or.inl ⟨rfl, fun W hW => by (obtain ⟨_, y0, y1, y2, y3, y4, y5, _⟩ := hW; go_simp; try rfl)⟩) HS ?_
    try simp only [Act.put, List.setIfInBounds_toArray, List.set_cons_zero, List.set_cons_succ]
    refine wpAnyH_ready (rs := [4]) (by kernel_rfl) (by simp) ?_
    refine AllReadyH.cons (o := { dst := some 10, op := Op.call { callee := Callee.value (Operand.func 216), args := #[], argTypes := #[] }, type := 288, pos := "l04_proofs.go:323", after := #[], guard := none }) rfl (fun K hK => ?_) AllReadyH.nil
    go_simp
    refine (KA.out _).mono ?_
    rintro e w4 ⟨⟨AX, rfl⟩, hba⟩
    have HS' := St.below HS hba
    clear HS hba
    have HS := HS'
    clear HS'
    go_wp2_with fail
    refine hK.out _ _ HS (fun _ => ?_)
    clear hK K
    try simp only [Act.put, List.setIfInBounds_toArray, List.set_cons_zero, List.set_cons_succ]
    refine wpAnyH_take (i := 5) (oi := { dst := some 11, op := Op.call { callee := Callee.builtin Builtin.len, args := #[Operand.tmp 10], argTypes := #[288] }, type := 3, pos := "l04_proofs.go:323", after := #[{ on := 4, ground := Ground.data }], guard := none }) (v := .int .i64 24) rfl (by kernel_rfl) (by kernel_rfl) (by kernel_rfl) (fun _ _ _ h => h) (Or.inl ⟨rfl, fun W hW => by (obtain ⟨_, y0, y1, y2, y3, y4, y5, _⟩ := hW; go_simp; try rfl)⟩) HS ?_
    try simp only [Act.put, List.setIfInBounds_toArray, List.set_cons_zero, List.set_cons_succ]
    refine wpAnyH_take (i := 6) (oi := { dst := some 12, op := Op.binOp BinOp.sub 2 (Operand.tmp 11) (Operand.const (Value.int IntKind.i64 1)) 2, type := 2, pos := "l04_proofs.go:323", after := #[{ on := 5, ground := Ground.data }], guard := none }) (v := .int .i64 (IntKind.i64.wrap 23)) rfl (by kernel_rfl) (by kernel_rfl) (by kernel_rfl) (fun _ _ _ h => h) (Or.inl ⟨rfl, fun W hW => by (obtain ⟨_, y0, y1, y2, y3, y4, y5, _⟩ := hW; go_simp; try rfl)⟩) HS ?_
    try simp only [Act.put, List.setIfInBounds_toArray, List.set_cons_zero, List.set_cons_succ]
    refine wpAnyH_ready (rs := [7]) (by kernel_rfl) (by simp) ?_
    refine AllReadyH.cons (o := { dst := some 13, op := Op.call { callee := Callee.value (Operand.func 81), args := #[Operand.tmp 9, Operand.const (Value.int IntKind.i64 (-40)), Operand.tmp 12], argTypes := #[2, 2, 2] }, type := 4, pos := "l04_proofs.go:323", after := #[{ on := 3, ground := Ground.data }, { on := 6, ground := Ground.data }, { on := 4, ground := Ground.chain }], guard := none }) rfl (fun K hK => ?_) AllReadyH.nil
    go_simp
    refine (KI.out _).mono ?_
    rintro e w7 ⟨rfl, hbi⟩
    have HS' := St.below HS hbi
    clear HS hbi
    have HS := HS'
    clear HS'
    go_wp2_with fail
    refine hK.out _ _ HS (fun _ => ?_)
    clear hK K
    try simp only [Act.put, List.setIfInBounds_toArray, List.set_cons_zero, List.set_cons_succ]
    refine wpAnyH_take (i := 8) (oi := { dst := some 14, op := Op.unOp UnOp.not 4 (Operand.tmp 13), type := 4, pos := "l04_proofs.go:323", after := #[{ on := 7, ground := Ground.data }], guard := none }) (v := .bool false) rfl (by kernel_rfl) (by kernel_rfl) (by kernel_rfl) (fun _ _ _ h => h) (Or.inl ⟨rfl, fun W hW => by (obtain ⟨_, y0, y1, y2, y3, y4, y5, _⟩ := hW; go_simp; try rfl)⟩) HS ?_
    try simp only [Act.put, List.setIfInBounds_toArray, List.set_cons_zero, List.set_cons_succ]
    refine wpAnyH_take (i := 9) (oi := { dst := some 15, op := Op.move (Operand.tmp 14), type := 4, pos := "l04_proofs.go:323", after := #[{ on := 8, ground := Ground.data }, { on := 7, ground := Ground.chain }], guard := none }) (v := .bool false) rfl (by kernel_rfl) (by kernel_rfl) (by kernel_rfl) (fun _ _ _ h => h) (Or.inl ⟨rfl, fun W hW => by (obtain ⟨_, y0, y1, y2, y3, y4, y5, _⟩ := hW; go_simp; try rfl)⟩) HS ?_
    try simp only [Act.put, List.setIfInBounds_toArray, List.set_cons_zero, List.set_cons_succ]
    refine wpAnyH_take (i := 10) (oi := { dst := some 16, op := Op.move (Operand.tmp 1), type := 218, pos := "l04_proofs.go:323", after := #[{ on := 9, ground := Ground.guard }], guard := some (9, false) }) (v := .pointer (some ⟨b, o, none⟩)) rfl (by kernel_rfl) (by kernel_rfl) (by kernel_rfl) (fun _ _ _ h => h) (Or.inl ⟨rfl, fun W hW => by (obtain ⟨_, y0, y1, y2, y3, y4, y5, _⟩ := hW; go_simp; try rfl)⟩) HS ?_
    try simp only [Act.put, List.setIfInBounds_toArray, List.set_cons_zero, List.set_cons_succ]
    refine wpAnyH_take (i := 11) (oi := { dst := some 17, op := Op.nilCheck (Operand.tmp 16), type := 0, pos := "l04_proofs.go:323", after := #[{ on := 10, ground := Ground.data }, { on := 9, ground := Ground.guard }], guard := some (9, false) }) (v := .pointer (some ⟨b, o, none⟩)) rfl (by kernel_rfl) (by kernel_rfl) (by kernel_rfl) (fun _ _ _ h => h) (Or.inl ⟨rfl, fun W hW => by (obtain ⟨_, y0, y1, y2, y3, y4, y5, _⟩ := hW; go_simp; try rfl)⟩) HS ?_
    try simp only [Act.put, List.setIfInBounds_toArray, List.set_cons_zero, List.set_cons_succ]
    refine wpAnyH_take (i := 12) (oi := { dst := some 18, op := Op.fieldAddr 220 (Operand.tmp 17) 2, type := 0, pos := "l04_proofs.go:323", after := #[{ on := 11, ground := Ground.data }, { on := 9, ground := Ground.guard }], guard := some (9, false) }) (v := .pointer (some ⟨b, o + 2, none⟩)) rfl (by kernel_rfl) (by kernel_rfl) (by kernel_rfl) (fun _ _ _ h => h) (Or.inl ⟨rfl, fun W hW => by (obtain ⟨_, y0, y1, y2, y3, y4, y5, _⟩ := hW; go_simp; try rfl)⟩) HS ?_
    try simp only [Act.put, List.setIfInBounds_toArray, List.set_cons_zero, List.set_cons_succ]
    refine wpAnyH_take (i := 13) (oi := { dst := some 19, op := Op.load 28 (Operand.tmp 18), type := 28, pos := "l04_proofs.go:323", after := #[{ on := 12, ground := Ground.data }, { on := 9, ground := Ground.guard }], guard := some (9, false) }) (v := .slice Apa pa.len Cpa) rfl (by kernel_rfl) (by kernel_rfl) (by kernel_rfl) (fun _ _ _ h => h) (Or.inl ⟨rfl, fun W hW => by (obtain ⟨_, y0, y1, y2, y3, y4, y5, _⟩ := hW; go_simp; try rfl)⟩) HS ?_
    try simp only [Act.put, List.setIfInBounds_toArray, List.set_cons_zero, List.set_cons_succ]
    refine wpAnyH_take (i := 14) (oi := { dst := some 20, op := Op.call { callee := Callee.builtin Builtin.len, args := #[Operand.tmp 19], argTypes := #[28] }, type := 3, pos := "l04_proofs.go:323", after := #[{ on := 13, ground := Ground.data }, { on := 9, ground := Ground.guard }], guard := some (9, false) }) (v := .int .i64 pa.len) rfl (by kernel_rfl) (by kernel_rfl) (by kernel_rfl) (fun _ _ _ h => h) (Or.inl ⟨rfl, fun W hW => by (obtain ⟨_, y0, y1, y2, y3, y4, y5, _⟩ := hW; go_simp; try rfl)⟩) HS ?_
    try simp only [Act.put, List.setIfInBounds_toArray, List.set_cons_zero, List.set_cons_succ]
    refine wpAnyH_take (i := 15) (oi := { dst := some 21, op := Op.binOp BinOp.gtr 3 (Operand.tmp 20) (Operand.const (Value.int IntKind.i64 40)) 3, type := 4, pos := "l04_proofs.go:323", after := #[{ on := 14, ground := Ground.data }, { on := 9, ground := Ground.guard }], guard := some (9, false) }) (v := .bool true) rfl (by kernel_rfl) (by kernel_rfl) (by kernel_rfl) (fun _ _ _ h => h) (Or.inl ⟨rfl, fun W hW => by (obtain ⟨_, y0, y1, y2, y3, y4, y5, _⟩ := hW; go_simp; try rfl)⟩) HS ?_
    try simp only [Act.put, List.setIfInBounds_toArray, List.set_cons_zero, List.set_cons_succ]
    refine wpAnyH_take (i := 16) (oi := { dst := some 22, op := Op.pick (Operand.tmp 15) (Operand.const (Value.bool true)) (Operand.tmp 21), type := 4, pos := "l04_proofs.go:323", after := #[{ on := 9, ground := Ground.data }, { on := 15, ground := Ground.data }], guard := none }) (v := .bool true) rfl (by kernel_rfl) (by kernel_rfl) (by kernel_rfl) (fun _ _ _ h => h) (Or.inl ⟨rfl, fun W hW => by (obtain ⟨_, y0, y1, y2, y3, y4, y5, _⟩ := hW; go_simp; try rfl)⟩) HS ?_
    try simp only [Act.put, List.setIfInBounds_toArray, List.set_cons_zero, List.set_cons_succ]
    refine wpAnyH_take (i := 17) (oi := { dst := some 23, op := Op.move (Operand.tmp 22), type := 4, pos := "l04_proofs.go:323", after := #[{ on := 16, ground := Ground.data }, { on := 9, ground := Ground.chain }], guard := none }) (v := .bool true) rfl (by kernel_rfl) (by kernel_rfl) (by kernel_rfl) (fun _ _ _ h => h) (Or.inl ⟨rfl, fun W hW => by (obtain ⟨_, y0, y1, y2, y3, y4, y5, _⟩ := hW; go_simp; try rfl)⟩) HS ?_
    try simp only [Act.put, List.setIfInBounds_toArray, List.set_cons_zero, List.set_cons_succ]
    refine wpAnyH_take (i := 18) (oi := { dst := some 24, op := Op.move (Operand.tmp 1), type := 218, pos := "l04_proofs.go:323", after := #[{ on := 17, ground := Ground.guard }], guard := some (17, false) }) (v := undef) rfl (by kernel_rfl) (by kernel_rfl) (by kernel_rfl) (fun _ _ _ h => h) (Or.inr ⟨rfl, rfl⟩) HS ?_
    try simp only [Act.put, List.setIfInBounds_toArray, List.set_cons_zero, List.set_cons_succ]
    refine wpAnyH_take (i := 19) (oi := { dst := some 25, op := Op.nilCheck (Operand.tmp 24), type := 0, pos := "l04_proofs.go:323", after := #[{ on := 18, ground := Ground.data }, { on := 17, ground := Ground.guard }], guard := some (17, false) }) (v := undef) rfl (by kernel_rfl) (by kernel_rfl) (by kernel_rfl) (fun _ _ _ h => h) (Or.inr ⟨rfl, rfl⟩) HS ?_
    try simp only [Act.put, List.setIfInBounds_toArray, List.set_cons_zero, List.set_cons_succ]
    refine wpAnyH_take (i := 20) (oi := { dst := some 26, op := Op.fieldAddr 220 (Operand.tmp 25) 3, type := 0, pos := "l04_proofs.go:323", after := #[{ on := 19, ground := Ground.data }, { on := 17, ground := Ground.guard }], guard := some (17, false) }) (v := undef) rfl (by kernel_rfl) (by kernel_rfl) (by kernel_rfl) (fun _ _ _ h => h) (Or.inr ⟨rfl, rfl⟩) HS ?_
    try simp only [Act.put, List.setIfInBounds_toArray, List.set_cons_zero, List.set_cons_succ]
    refine wpAnyH_take (i := 21) (oi := { dst := some 27, op := Op.load 33 (Operand.tmp 26), type := 33, pos := "l04_proofs.go:323", after := #[{ on := 20, ground := Ground.data }, { on := 17, ground := Ground.guard }], guard := some (17, false) }) (v := undef) rfl (by kernel_rfl) (by kernel_rfl) (by kernel_rfl) (fun _ _ _ h => h) (Or.inr ⟨rfl, rfl⟩) HS ?_
    try simp only [Act.put, List.setIfInBounds_toArray, List.set_cons_zero, List.set_cons_succ]
    refine wpAnyH_take (i := 22) (oi := { dst := some 28, op := Op.call { callee := Callee.builtin Builtin.len, args := #[Operand.tmp 27], argTypes := #[33] }, type := 3, pos := "l04_proofs.go:323", after := #[{ on := 21, ground := Ground.data }, { on := 17, ground := Ground.guard }], guard := some (17, false) }) (v := undef) rfl (by kernel_rfl) (by kernel_rfl) (by kernel_rfl) (fun _ _ _ h => h) (Or.inr ⟨rfl, rfl⟩) HS ?_
    try simp only [Act.put, List.setIfInBounds_toArray, List.set_cons_zero, List.set_cons_succ]
    refine wpAnyH_take (i := 23) (oi := { dst := some 29, op := Op.binOp BinOp.gtr 3 (Operand.tmp 28) (Operand.const (Value.int IntKind.i64 3)) 3, type := 4, pos := "l04_proofs.go:323", after := #[{ on := 22, ground := Ground.data }, { on := 17, ground := Ground.guard }], guard := some (17, false) }) (v := undef) rfl (by kernel_rfl) (by kernel_rfl) (by kernel_rfl) (fun _ _ _ h => h) (Or.inr ⟨rfl, rfl⟩) HS ?_
    try simp only [Act.put, List.setIfInBounds_toArray, List.set_cons_zero, List.set_cons_succ]
    refine wpAnyH_take (i := 24) (oi := { dst := some 30, op := Op.pick (Operand.tmp 23) (Operand.const (Value.bool true)) (Operand.tmp 29), type := 4, pos := "l04_proofs.go:323", after := #[{ on := 17, ground := Ground.data }, { on := 23, ground := Ground.data }], guard := none }) (v := .bool true) rfl (by kernel_rfl) (by kernel_rfl) (by kernel_rfl) (fun _ _ _ h => h) (Or.inl ⟨rfl, fun W hW => by (obtain ⟨_, y0, y1, y2, y3, y4, y5, _⟩ := hW; go_simp; try rfl)⟩) HS ?_
    try simp only [Act.put, List.setIfInBounds_toArray, List.set_cons_zero, List.set_cons_succ]
    refine wpAnyH_take (i := 25) (oi := { dst := some 31, op := Op.move (Operand.tmp 30), type := 4, pos := "l04_proofs.go:323", after := #[{ on := 24, ground := Ground.data }, { on := 17, ground := Ground.chain }], guard := none }) (v := .bool true) rfl (by kernel_rfl) (by kernel_rfl) (by kernel_rfl) (fun _ _ _ h => h) (Or.inl ⟨rfl, fun W hW => by (obtain ⟨_, y0, y1, y2, y3, y4, y5, _⟩ := hW; go_simp; try rfl)⟩) HS ?_
    try simp only [Act.put, List.setIfInBounds_toArray, List.set_cons_zero, List.set_cons_succ]
    refine wpAnyH_take (i := 26) (oi := { dst := some 32, op := Op.move (Operand.tmp 1), type := 218, pos := "l04_proofs.go:323", after := #[{ on := 25, ground := Ground.guard }], guard := some (25, false) }) (v := undef) rfl (by kernel_rfl) (by kernel_rfl) (by kernel_rfl) (fun _ _ _ h => h) (Or.inr ⟨rfl, rfl⟩) HS ?_
    try simp only [Act.put, List.setIfInBounds_toArray, List.set_cons_zero, List.set_cons_succ]
    refine wpAnyH_take (i := 27) (oi := { dst := some 33, op := Op.nilCheck (Operand.tmp 32), type := 0, pos := "l04_proofs.go:323", after := #[{ on := 26, ground := Ground.data }, { on := 25, ground := Ground.guard }], guard := some (25, false) }) (v := undef) rfl (by kernel_rfl) (by kernel_rfl) (by kernel_rfl) (fun _ _ _ h => h) (Or.inr ⟨rfl, rfl⟩) HS ?_
    try simp only [Act.put, List.setIfInBounds_toArray, List.set_cons_zero, List.set_cons_succ]
    refine wpAnyH_take (i := 28) (oi := { dst := some 34, op := Op.fieldAddr 220 (Operand.tmp 33) 4, type := 0, pos := "l04_proofs.go:323", after := #[{ on := 27, ground := Ground.data }, { on := 25, ground := Ground.guard }], guard := some (25, false) }) (v := undef) rfl (by kernel_rfl) (by kernel_rfl) (by kernel_rfl) (fun _ _ _ h => h) (Or.inr ⟨rfl, rfl⟩) HS ?_
    try simp only [Act.put, List.setIfInBounds_toArray, List.set_cons_zero, List.set_cons_succ]
    refine wpAnyH_take (i := 29) (oi := { dst := some 35, op := Op.load 33 (Operand.tmp 34), type := 33, pos := "l04_proofs.go:323", after := #[{ on := 28, ground := Ground.data }, { on := 25, ground := Ground.guard }], guard := some (25, false) }) (v := undef) rfl (by kernel_rfl) (by kernel_rfl) (by kernel_rfl) (fun _ _ _ h => h) (Or.inr ⟨rfl, rfl⟩) HS ?_
    try simp only [Act.put, List.setIfInBounds_toArray, List.set_cons_zero, List.set_cons_succ]
    refine wpAnyH_take (i := 30) (oi := { dst := some 36, op := Op.call { callee := Callee.builtin Builtin.len, args := #[Operand.tmp 35], argTypes := #[33] }, type := 3, pos := "l04_proofs.go:323", after := #[{ on := 29, ground := Ground.data }, { on := 25, ground := Ground.guard }], guard := some (25, false) }) (v := undef) rfl (by kernel_rfl) (by kernel_rfl) (by kernel_rfl) (fun _ _ _ h => h) (Or.inr ⟨rfl, rfl⟩) HS ?_
    try simp only [Act.put, List.setIfInBounds_toArray, List.set_cons_zero, List.set_cons_succ]
    refine wpAnyH_take (i := 31) (oi := { dst := some 37, op := Op.binOp BinOp.gtr 3 (Operand.tmp 36) (Operand.const (Value.int IntKind.i64 4)) 3, type := 4, pos := "l04_proofs.go:323", after := #[{ on := 30, ground := Ground.data }, { on := 25, ground := Ground.guard }], guard := some (25, false) }) (v := undef) rfl (by kernel_rfl) (by kernel_rfl) (by kernel_rfl) (fun _ _ _ h => h) (Or.inr ⟨rfl, rfl⟩) HS ?_
    try simp only [Act.put, List.setIfInBounds_toArray, List.set_cons_zero, List.set_cons_succ]
    refine wpAnyH_take (i := 32) (oi := { dst := some 38, op := Op.pick (Operand.tmp 31) (Operand.const (Value.bool true)) (Operand.tmp 37), type := 4, pos := "l04_proofs.go:323", after := #[{ on := 25, ground := Ground.data }, { on := 31, ground := Ground.data }], guard := none }) (v := .bool true) rfl (by kernel_rfl) (by kernel_rfl) (by kernel_rfl) (fun _ _ _ h => h) (Or.inl ⟨rfl, fun W hW => by (obtain ⟨_, y0, y1, y2, y3, y4, y5, _⟩ := hW; go_simp; try rfl)⟩) HS ?_
    try simp only [Act.put, List.setIfInBounds_toArray, List.set_cons_zero, List.set_cons_succ]
    refine wpAnyH_done (by kernel_rfl) ?_ _
    have HT := Lib.hid HS
    clear HS KA KI HS0
    go_wp2_with fail
    go_ret
    exact ⟨ret_bool HE.out.symm, HT.out.1⟩
  have tl1 : decide ((40 : Int) < (pa.len : Int)) = false := decide_eq_false hk1
  rw [tl1] at HD
  by_cases hk2 : (3 : Int) < (te.len : Int)
  case pos =>
    have tl2 : decide ((3 : Int) < (te.len : Int)) = true := decide_eq_true hk2
    have HE : Hid (stepB t a us bk pa te ac = false) := by show _ = _; rw [HD.out, tl2]; simp
    clear HD
    go_enter Try.func196, Try.ntmps196
    go_wp2_with fail
    refine wp_region_held_drew (S := fun w' => St w [(w.heap.size, 0, .int .i64 t), (w.heap.size, 1, .int .i64 a), (b, o, .int .i64 us), (b, o + 2, .slice Apa pa.len Cpa), (b, o + 3, .slice Ate te.len Cte), (b, o + 4, .slice Aac ac.len Cac)] w') (by kernel_rfl) HS0.out.drew (fun HS => ?_)
    refine wpAnyH_take (i := 0) (oi := { dst := some 6, op := Op.move (Operand.tmp 1), type := 218, pos := "l04_proofs.go:323", after := #[], guard := none }) (v := .pointer (some ⟨b, o, none⟩)) rfl (by kernel_rfl) (by kernel_rfl) (by kernel_rfl) (fun _ _ _ h => h) (Or.inl ⟨rfl, fun W hW => by (obtain ⟨_, y0, y1, y2, y3, y4, y5, _⟩ := hW; go_simp; try rfl)⟩) HS ?_
    try simp only [Act.put, List.setIfInBounds_toArray, List.set_cons_zero, List.set_cons_succ]
    refine wpAnyH_take (i := 1) (oi := { dst := some 7, op := Op.nilCheck (Operand.tmp 6), type := 0, pos := "l04_proofs.go:323", after := #[{ on := 0, ground := Ground.data }], guard := none }) (v := .pointer (some ⟨b, o, none⟩)) rfl (by kernel_rfl) (by kernel_rfl) (by kernel_rfl) (fun _ _ _ h => h) (Or.inl ⟨rfl, fun W hW => by (obtain ⟨_, y0, y1, y2, y3, y4, y5, _⟩ := hW; go_simp; try rfl)⟩) HS ?_
    try simp only [Act.put, List.setIfInBounds_toArray, List.set_cons_zero, List.set_cons_succ]
    refine wpAnyH_take (i := 2) (oi := { dst := some 8, op := Op.fieldAddr 220 (Operand.tmp 7) 0, type := 0, pos := "l04_proofs.go:323", after := #[{ on := 1, ground := Ground.data }], guard := none }) (v := .pointer (some ⟨b, o, none⟩)) rfl (by kernel_rfl) (by kernel_rfl) (by kernel_rfl) (fun _ _ _ h => h) (Or.inl ⟨rfl, fun W hW => by (obtain ⟨_, y0, y1, y2, y3, y4, y5, _⟩ := hW; go_simp; try rfl)⟩) HS ?_
    try simp only [Act.put, List.setIfInBounds_toArray, List.set_cons_zero, List.set_cons_succ]
    refine wpAnyH_take (i := 3) (oi := { dst := some 9, op := Op.load 2 (Operand.tmp 8), type := 2, pos := "l04_proofs.go:323", after := #[{ on := 2, ground := Ground.data }], guard := none }) (v := .int .i64 us) rfl (by kernel_rfl) (by kernel_rfl) (by kernel_rfl) (fun _ _ _ h => h) (Or.inl ⟨rfl, fun W hW => by (obtain ⟨_, y0, y1, y2, y3, y4, y5, _⟩ := hW; go_simp; try rfl)⟩) HS ?_
    try simp only [Act.put, List.setIfInBounds_toArray, List.set_cons_zero, List.set_cons_succ]
    refine wpAnyH_ready (rs := [4]) (by kernel_rfl) (by simp) ?_
    refine AllReadyH.cons (o := { dst := some 10, op := Op.call { callee := Callee.value (Operand.func 216), args := #[], argTypes := #[] }, type := 288, pos := "l04_proofs.go:323", after := #[], guard := none }) rfl (fun K hK => ?_) AllReadyH.nil
    go_simp
    refine (KA.out _).mono ?_
    rintro e w4 ⟨⟨AX, rfl⟩, hba⟩
    have HS' := St.below HS hba
    clear HS hba
    have HS := HS'
    clear HS'
    go_wp2_with fail
    refine hK.out _ _ HS (fun _ => ?_)
    clear hK K
    try simp only [Act.put, List.setIfInBounds_toArray, List.set_cons_zero, List.set_cons_succ]
    refine wpAnyH_take (i := 5) (oi := { dst := some 11, op := Op.call { callee := Callee.builtin Builtin.len, args := #[Operand.tmp 10], argTypes := #[288] }, type := 3, pos := "l04_proofs.go:323", after := #[{ on := 4, ground := Ground.data }], guard := none }) (v := .int .i64 24) rfl (by kernel_rfl) (by kernel_rfl) (by kernel_rfl) (fun _ _ _ h => h) (Or.inl ⟨rfl, fun W hW => by (obtain ⟨_, y0, y1, y2, y3, y4, y5, _⟩ := hW; go_simp; try rfl)⟩) HS ?_
    try simp only [Act.put, List.setIfInBounds_toArray, List.set_cons_zero, List.set_cons_succ]
    refine wpAnyH_take (i := 6) (oi := { dst := some 12, op := Op.binOp BinOp.sub 2 (Operand.tmp 11) (Operand.const (Value.int IntKind.i64 1)) 2, type := 2, pos := "l04_proofs.go:323", after := #[{ on := 5, ground := Ground.data }], guard := none }) (v := .int .i64 (IntKind.i64.wrap 23)) rfl (by kernel_rfl) (by kernel_rfl) (by kernel_rfl) (fun _ _ _ h => h) (Or.inl ⟨rfl, fun W hW => by (obtain ⟨_, y0, y1, y2, y3, y4, y5, _⟩ := hW; go_simp; try rfl)⟩) HS ?_
    try simp only [Act.put, List.setIfInBounds_toArray, List.set_cons_zero, List.set_cons_succ]
    refine wpAnyH_ready (rs := [7]) (by kernel_rfl) (by simp) ?_
    refine AllReadyH.cons (o := { dst := some 13, op := Op.call { callee := Callee.value (Operand.func 81), args := #[Operand.tmp 9, Operand.const (Value.int IntKind.i64 (-40)), Operand.tmp 12], argTypes := #[2, 2, 2] }, type := 4, pos := "l04_proofs.go:323", after := #[{ on := 3, ground := Ground.data }, { on := 6, ground := Ground.data }, { on := 4, ground := Ground.chain }], guard := none }) rfl (fun K hK => ?_) AllReadyH.nil
    go_simp
    refine (KI.out _).mono ?_
    rintro e w7 ⟨rfl, hbi⟩
    have HS' := St.below HS hbi
    clear HS hbi
    have HS := HS'
    clear HS'
    go_wp2_with fail
    refine hK.out _ _ HS (fun _ => ?_)
    clear hK K
    try simp only [Act.put, List.setIfInBounds_toArray, List.set_cons_zero, List.set_cons_succ]
    refine wpAnyH_take (i := 8) (oi := { dst := some 14, op := Op.unOp UnOp.not 4 (Operand.tmp 13), type := 4, pos := "l04_proofs.go:323", after := #[{ on := 7, ground := Ground.data }], guard := none }) (v := .bool false) rfl (by kernel_rfl) (by kernel_rfl) (by kernel_rfl) (fun _ _ _ h => h) (Or.inl ⟨rfl, fun W hW => by (obtain ⟨_, y0, y1, y2, y3, y4, y5, _⟩ := hW; go_simp; try rfl)⟩) HS ?_
    try simp only [Act.put, List.setIfInBounds_toArray, List.set_cons_zero, List.set_cons_succ]
    refine wpAnyH_take (i := 9) (oi := { dst := some 15, op := Op.move (Operand.tmp 14), type := 4, pos := "l04_proofs.go:323", after := #[{ on := 8, ground := Ground.data }, { on := 7, ground := Ground.chain }], guard := none }) (v := .bool false) rfl (by kernel_rfl) (by kernel_rfl) (by kernel_rfl) (fun _ _ _ h => h) (Or.inl ⟨rfl, fun W hW => by (obtain ⟨_, y0, y1, y2, y3, y4, y5, _⟩ := hW; go_simp; try rfl)⟩) HS ?_
    try simp only [Act.put, List.setIfInBounds_toArray, List.set_cons_zero, List.set_cons_succ]
    refine wpAnyH_take (i := 10) (oi := { dst := some 16, op := Op.move (Operand.tmp 1), type := 218, pos := "l04_proofs.go:323", after := #[{ on := 9, ground := Ground.guard }], guard := some (9, false) }) (v := .pointer (some ⟨b, o, none⟩)) rfl (by kernel_rfl) (by kernel_rfl) (by kernel_rfl) (fun _ _ _ h => h) (Or.inl ⟨rfl, fun W hW => by (obtain ⟨_, y0, y1, y2, y3, y4, y5, _⟩ := hW; go_simp; try rfl)⟩) HS ?_
    try simp only [Act.put, List.setIfInBounds_toArray, List.set_cons_zero, List.set_cons_succ]
    refine wpAnyH_take (i := 11) (oi := { dst := some 17, op := Op.nilCheck (Operand.tmp 16), type := 0, pos := "l04_proofs.go:323", after := #[{ on := 10, ground := Ground.data }, { on := 9, ground := Ground.guard }], guard := some (9, false) }) (v := .pointer (some ⟨b, o, none⟩)) rfl (by kernel_rfl) (by kernel_rfl) (by kernel_rfl) (fun _ _ _ h => h) (Or.inl ⟨rfl, fun W hW => by (obtain ⟨_, y0, y1, y2, y3, y4, y5, _⟩ := hW; go_simp; try rfl)⟩) HS ?_
    try simp only [Act.put, List.setIfInBounds_toArray, List.set_cons_zero, List.set_cons_succ]
    refine wpAnyH_take (i := 12) (oi := { dst := some 18, op := Op.fieldAddr 220 (Operand.tmp 17) 2, type := 0, pos := "l04_proofs.go:323", after := #[{ on := 11, ground := Ground.data }, { on := 9, ground := Ground.guard }], guard := some (9, false) }) (v := .pointer (some ⟨b, o + 2, none⟩)) rfl (by kernel_rfl) (by kernel_rfl) (by kernel_rfl) (fun _ _ _ h => h) (Or.inl ⟨rfl, fun W hW => by (obtain ⟨_, y0, y1, y2, y3, y4, y5, _⟩ := hW; go_simp; try rfl)⟩) HS ?_
    try simp only [Act.put, List.setIfInBounds_toArray, List.set_cons_zero, List.set_cons_succ]
    refine wpAnyH_take (i := 13) (oi := { dst := some 19, op := Op.load 28 (Operand.tmp 18), type := 28, pos := "l04_proofs.go:323", after := #[{ on := 12, ground := Ground.data }, { on := 9, ground := Ground.guard }], guard := some (9, false) }) (v := .slice Apa pa.len Cpa) rfl (by kernel_rfl) (by kernel_rfl) (by kernel_rfl) (fun _ _ _ h => h) (Or.inl ⟨rfl, fun W hW => by (obtain ⟨_, y0, y1, y2, y3, y4, y5, _⟩ := hW; go_simp; try rfl)⟩) HS ?_
    try simp only [Act.put, List.setIfInBounds_toArray, List.set_cons_zero, List.set_cons_succ]
    refine wpAnyH_take (i := 14) (oi := { dst := some 20, op := Op.call { callee := Callee.builtin Builtin.len, args := #[Operand.tmp 19], argTypes := #[28] }, type := 3, pos := "l04_proofs.go:323", after := #[{ on := 13, ground := Ground.data }, { on := 9, ground := Ground.guard }], guard := some (9, false) }) (v := .int .i64 pa.len) rfl (by kernel_rfl) (by kernel_rfl) (by kernel_rfl) (fun _ _ _ h => h) (Or.inl ⟨rfl, fun W hW => by (obtain ⟨_, y0, y1, y2, y3, y4, y5, _⟩ := hW; go_simp; try rfl)⟩) HS ?_
    try simp only [Act.put, List.setIfInBounds_toArray, List.set_cons_zero, List.set_cons_succ]
    refine wpAnyH_take (i := 15) (oi := { dst := some 21, op := Op.binOp BinOp.gtr 3 (Operand.tmp 20) (Operand.const (Value.int IntKind.i64 40)) 3, type := 4, pos := "l04_proofs.go:323", after := #[{ on := 14, ground := Ground.data }, { on := 9, ground := Ground.guard }], guard := some (9, false) }) (v := .bool false) rfl (by kernel_rfl) (by kernel_rfl) (by kernel_rfl) (fun _ _ _ h => h) (Or.inl ⟨rfl, fun W hW => by (obtain ⟨_, y0, y1, y2, y3, y4, y5, _⟩ := hW; go_simp; try rfl)⟩) HS ?_
    try simp only [Act.put, List.setIfInBounds_toArray, List.set_cons_zero, List.set_cons_succ]
    refine wpAnyH_take (i := 16) (oi := { dst := some 22, op := Op.pick (Operand.tmp 15) (Operand.const (Value.bool true)) (Operand.tmp 21), type := 4, pos := "l04_proofs.go:323", after := #[{ on := 9, ground := Ground.data }, { on := 15, ground := Ground.data }], guard := none }) (v := .bool false) rfl (by kernel_rfl) (by kernel_rfl) (by kernel_rfl) (fun _ _ _ h => h) (Or.inl ⟨rfl, fun W hW => by (obtain ⟨_, y0, y1, y2, y3, y4, y5, _⟩ := hW; go_simp; try rfl)⟩) HS ?_
    try simp only [Act.put, List.setIfInBounds_toArray, List.set_cons_zero, List.set_cons_succ]
    refine wpAnyH_take (i := 17) (oi := { dst := some 23, op := Op.move (Operand.tmp 22), type := 4, pos := "l04_proofs.go:323", after := #[{ on := 16, ground := Ground.data }, { on := 9, ground := Ground.chain }], guard := none }) (v := .bool false) rfl (by kernel_rfl) (by kernel_rfl) (by kernel_rfl) (fun _ _ _ h => h) (Or.inl ⟨rfl, fun W hW => by (obtain ⟨_, y0, y1, y2, y3, y4, y5, _⟩ := hW; go_simp; try rfl)⟩) HS ?_
    try simp only [Act.put, List.setIfInBounds_toArray, List.set_cons_zero, List.set_cons_succ]
    refine wpAnyH_take (i := 18) (oi := { dst := some 24, op := Op.move (Operand.tmp 1), type := 218, pos := "l04_proofs.go:323", after := #[{ on := 17, ground := Ground.guard }], guard := some (17, false) }) (v := .pointer (some ⟨b, o, none⟩)) rfl (by kernel_rfl) (by kernel_rfl) (by kernel_rfl) (fun _ _ _ h => h) (Or.inl ⟨rfl, fun W hW => by (obtain ⟨_, y0, y1, y2, y3, y4, y5, _⟩ := hW; go_simp; try rfl)⟩) HS ?_
    try simp only [Act.put, List.setIfInBounds_toArray, List.set_cons_zero, List.set_cons_succ]
    refine wpAnyH_take (i := 19) (oi := { dst := some 25, op := Op.nilCheck (Operand.tmp 24), type := 0, pos := "l04_proofs.go:323", after := #[{ on := 18, ground := Ground.data }, { on := 17, ground := Ground.guard }], guard := some (17, false) }) (v := .pointer (some ⟨b, o, none⟩)) rfl (by kernel_rfl) (by kernel_rfl) (by kernel_rfl) (fun _ _ _ h => h) (Or.inl ⟨rfl, fun W hW => by (obtain ⟨_, y0, y1, y2, y3, y4, y5, _⟩ := hW; go_simp; try rfl)⟩) HS ?_
    try simp only [Act.put, List.setIfInBounds_toArray, List.set_cons_zero, List.set_cons_succ]
    refine wpAnyH_take (i := 20) (oi := { dst := some 26, op := Op.fieldAddr 220 (Operand.tmp 25) 3, type := 0, pos := "l04_proofs.go:323", after := #[{ on := 19, ground := Ground.data }, { on := 17, ground := Ground.guard }], guard := some (17, false) }) (v := .pointer (some ⟨b, o + 3, none⟩)) rfl (by kernel_rfl) (by kernel_rfl) (by kernel_rfl) (fun _ _ _ h => h) (Or.inl ⟨rfl, fun W hW => by (obtain ⟨_, y0, y1, y2, y3, y4, y5, _⟩ := hW; go_simp; try rfl)⟩) HS ?_
    try simp only [Act.put, List.setIfInBounds_toArray, List.set_cons_zero, List.set_cons_succ]
    refine wpAnyH_take (i := 21) (oi := { dst := some 27, op := Op.load 33 (Operand.tmp 26), type := 33, pos := "l04_proofs.go:323", after := #[{ on := 20, ground := Ground.data }, { on := 17, ground := Ground.guard }], guard := some (17, false) }) (v := .slice Ate te.len Cte) rfl (by kernel_rfl) (by kernel_rfl) (by kernel_rfl) (fun _ _ _ h => h) (Or.inl ⟨rfl, fun W hW => by (obtain ⟨_, y0, y1, y2, y3, y4, y5, _⟩ := hW; go_simp; try rfl)⟩) HS ?_
    try simp only [Act.put, List.setIfInBounds_toArray, List.set_cons_zero, List.set_cons_succ]
    refine wpAnyH_take (i := 22) (oi := { dst := some 28, op := Op.call { callee := Callee.builtin Builtin.len, args := #[Operand.tmp 27], argTypes := #[33] }, type := 3, pos := "l04_proofs.go:323", after := #[{ on := 21, ground := Ground.data }, { on := 17, ground := Ground.guard }], guard := some (17, false) }) (v := .int .i64 te.len) rfl (by kernel_rfl) (by kernel_rfl) (by kernel_rfl) (fun _ _ _ h => h) (Or.inl ⟨rfl, fun W hW => by (obtain ⟨_, y0, y1, y2, y3, y4, y5, _⟩ := hW; go_simp; try rfl)⟩) HS ?_
    try simp only [Act.put, List.setIfInBounds_toArray, List.set_cons_zero, List.set_cons_succ]
    refine wpAnyH_take (i := 23) (oi := { dst := some 29, op := Op.binOp BinOp.gtr 3 (Operand.tmp 28) (Operand.const (Value.int IntKind.i64 3)) 3, type := 4, pos := "l04_proofs.go:323", after := #[{ on := 22, ground := Ground.data }, { on := 17, ground := Ground.guard }], guard := some (17, false) }) (v := .bool true) rfl (by kernel_rfl) (by kernel_rfl) (by kernel_rfl) (fun _ _ _ h => h) (Or.inl ⟨rfl, fun W hW => by (obtain ⟨_, y0, y1, y2, y3, y4, y5, _⟩ := hW; go_simp; try rfl)⟩) HS ?_
    try simp only [Act.put, List.setIfInBounds_toArray, List.set_cons_zero, List.set_cons_succ]
    refine wpAnyH_take (i := 24) (oi := { dst := some 30, op := Op.pick (Operand.tmp 23) (Operand.const (Value.bool true)) (Operand.tmp 29), type := 4, pos := "l04_proofs.go:323", after := #[{ on := 17, ground := Ground.data }, { on := 23, ground := Ground.data }], guard := none }) (v := .bool true) rfl (by kernel_rfl) (by kernel_rfl) (by kernel_rfl) (fun _ _ _ h => h) (Or.inl ⟨rfl, fun W hW => by (obtain ⟨_, y0, y1, y2, y3, y4, y5, _⟩ := hW; go_simp; try rfl)⟩) HS ?_
    try simp only [Act.put, List.setIfInBounds_toArray, List.set_cons_zero, List.set_cons_succ]
    refine wpAnyH_take (i := 25) (oi := { dst := some 31, op := Op.move (Operand.tmp 30), type := 4, pos := "l04_proofs.go:323", after := #[{ on := 24, ground := Ground.data }, { on := 17, ground := Ground.chain }], guard := none }) (v := .bool true) rfl (by kernel_rfl) (by kernel_rfl) (by kernel_rfl) (fun _ _ _ h => h) (Or.inl ⟨rfl, fun W hW => by (obtain ⟨_, y0, y1, y2, y3, y4, y5, _⟩ := hW; go_simp; try rfl)⟩) HS ?_
    try simp only [Act.put, List.setIfInBounds_toArray, List.set_cons_zero, List.set_cons_succ]
    refine wpAnyH_take (i := 26) (oi := { dst := some 32, op := Op.move (Operand.tmp 1), type := 218, pos := "l04_proofs.go:323", after := #[{ on := 25, ground := Ground.guard }], guard := some (25, false) }) (v := undef) rfl (by kernel_rfl) (by kernel_rfl) (by kernel_rfl) (fun _ _ _ h => h) (Or.inr ⟨rfl, rfl⟩) HS ?_
    try simp only [Act.put, List.setIfInBounds_toArray, List.set_cons_zero, List.set_cons_succ]
    refine wpAnyH_take (i := 27) (oi := { dst := some 33, op := Op.nilCheck (Operand.tmp 32), type := 0, pos := "l04_proofs.go:323", after := #[{ on := 26, ground := Ground.data }, { on := 25, ground := Ground.guard }], guard := some (25, false) }) (v := undef) rfl (by kernel_rfl) (by kernel_rfl) (by kernel_rfl) (fun _ _ _ h => h) (Or.inr ⟨rfl, rfl⟩) HS ?_
    try simp only [Act.put, List.setIfInBounds_toArray, List.set_cons_zero, List.set_cons_succ]
    refine wpAnyH_take (i := 28) (oi := { dst := some 34, op := Op.fieldAddr 220 (Operand.tmp 33) 4, type := 0, pos := "l04_proofs.go:323", after := #[{ on := 27, ground := Ground.data }, { on := 25, ground := Ground.guard }], guard := some (25, false) }) (v := undef) rfl (by kernel_rfl) (by kernel_rfl) (by kernel_rfl) (fun _ _ _ h => h) (Or.inr ⟨rfl, rfl⟩) HS ?_
    try simp only [Act.put, List.setIfInBounds_toArray, List.set_cons_zero, List.set_cons_succ]
    refine wpAnyH_take (i := 29) (oi := { dst := some 35, op := Op.load 33 (Operand.tmp 34), type := 33, pos := "l04_proofs.go:323", after := #[{ on := 28, ground := Ground.data }, { on := 25, ground := Ground.guard }], guard := some (25, false) }) (v := undef) rfl (by kernel_rfl) (by kernel_rfl) (by kernel_rfl) (fun _ _ _ h => h) (Or.inr ⟨rfl, rfl⟩) HS ?_
    try simp only [Act.put, List.setIfInBounds_toArray, List.set_cons_zero, List.set_cons_succ]
    refine wpAnyH_take (i := 30) (oi := { dst := some 36, op := Op.call { callee := Callee.builtin Builtin.len, args := #[Operand.tmp 35], argTypes := #[33] }, type := 3, pos := "l04_proofs.go:323", after := #[{ on := 29, ground := Ground.data }, { on := 25, ground := Ground.guard }], guard := some (25, false) }) (v := undef) rfl (by kernel_rfl) (by kernel_rfl) (by kernel_rfl) (fun _ _ _ h => h) (Or.inr ⟨rfl, rfl⟩) HS ?_
    try simp only [Act.put, List.setIfInBounds_toArray, List.set_cons_zero, List.set_cons_succ]
    refine wpAnyH_take (i := 31) (oi := { dst := some 37, op := Op.binOp BinOp.gtr 3 (Operand.tmp 36) (Operand.const (Value.int IntKind.i64 4)) 3, type := 4, pos := "l04_proofs.go:323", after := #[{ on := 30, ground := Ground.data }, { on := 25, ground := Ground.guard }], guard := some (25, false) }) (v := undef) rfl (by kernel_rfl) (by kernel_rfl) (by kernel_rfl) (fun _ _ _ h => h) (Or.inr ⟨rfl, rfl⟩) HS ?_
    try simp only [Act.put, List.setIfInBounds_toArray, List.set_cons_zero, List.set_cons_succ]
    refine wpAnyH_take (i := 32) (oi := { dst := some 38, op := Op.pick (Operand.tmp 31) (Operand.const (Value.bool true)) (Operand.tmp 37), type := 4, pos := "l04_proofs.go:323", after := #[{ on := 25, ground := Ground.data }, { on := 31, ground := Ground.data }], guard := none }) (v := .bool true) rfl (by kernel_rfl) (by kernel_rfl) (by kernel_rfl) (fun _ _ _ h => h) (Or.inl ⟨rfl, fun W hW => by (obtain ⟨_, y0, y1, y2, y3, y4, y5, _⟩ := hW; go_simp; try rfl)⟩) HS ?_
    try simp only [Act.put, List.setIfInBounds_toArray, List.set_cons_zero, List.set_cons_succ]
    refine wpAnyH_done (by kernel_rfl) ?_ _
    have HT := Lib.hid HS
    clear HS KA KI HS0
    go_wp2_with fail
    go_ret
    exact ⟨ret_bool HE.out.symm, HT.out.1⟩
  have tl2 : decide ((3 : Int) < (te.len : Int)) = false := decide_eq_false hk2
  rw [tl2] at HD
  by_cases hk3 : (4 : Int) < (ac.len : Int)
  case pos =>
    have tl3 : decide ((4 : Int) < (ac.len : Int)) = true := decide_eq_true hk3
    have HE : Hid (stepB t a us bk pa te ac = false) := by show _ = _; rw [HD.out, tl3]; simp
    clear HD
    go_enter Try.func196, Try.ntmps196
    go_wp2_with fail
    refine wp_region_held_drew (S := fun w' => St w [(w.heap.size, 0, .int .i64 t), (w.heap.size, 1, .int .i64 a), (b, o, .int .i64 us), (b, o + 2, .slice Apa pa.len Cpa), (b, o + 3, .slice Ate te.len Cte), (b, o + 4, .slice Aac ac.len Cac)] w') (by kernel_rfl) HS0.out.drew (fun HS => ?_)
    refine wpAnyH_take (i := 0) (oi := { dst := some 6, op := Op.move (Operand.tmp 1), type := 218, pos := "l04_proofs.go:323", after := #[], guard := none }) (v := .pointer (some ⟨b, o, none⟩)) rfl (by kernel_rfl) (by kernel_rfl) (by kernel_rfl) (fun _ _ _ h => h) (Or.inl ⟨rfl, fun W hW => by (obtain ⟨_, y0, y1, y2, y3, y4, y5, _⟩ := hW; go_simp; try rfl)⟩) HS ?_
    try simp only [Act.put, List.setIfInBounds_toArray, List.set_cons_zero, List.set_cons_succ]
    refine wpAnyH_take (i := 1) (oi := { dst := some 7, op := Op.nilCheck (Operand.tmp 6), type := 0, pos := "l04_proofs.go:323", after := #[{ on := 0, ground := Ground.data }], guard := none }) (v := .pointer (some ⟨b, o, none⟩)) rfl (by kernel_rfl) (by kernel_rfl) (by kernel_rfl) (fun _ _ _ h => h) (Or.inl ⟨rfl, fun W hW => by (obtain ⟨_, y0, y1, y2, y3, y4, y5, _⟩ := hW; go_simp; try rfl)⟩) HS ?_
    try simp only [Act.put, List.setIfInBounds_toArray, List.set_cons_zero, List.set_cons_succ]
    refine wpAnyH_take (i := 2) (oi := { dst := some 8, op := Op.fieldAddr 220 (Operand.tmp 7) 0, type := 0, pos := "l04_proofs.go:323", after := #[{ on := 1, ground := Ground.data }], guard := none }) (v := .pointer (some ⟨b, o, none⟩)) rfl (by kernel_rfl) (by kernel_rfl) (by kernel_rfl) (fun _ _ _ h => h) (Or.inl ⟨rfl, fun W hW => by (obtain ⟨_, y0, y1, y2, y3, y4, y5, _⟩ := hW; go_simp; try rfl)⟩) HS ?_
    try simp only [Act.put, List.setIfInBounds_toArray, List.set_cons_zero, List.set_cons_succ]
    refine wpAnyH_take (i := 3) (oi := { dst := some 9, op := Op.load 2 (Operand.tmp 8), type := 2, pos := "l04_proofs.go:323", after := #[{ on := 2, ground := Ground.data }], guard := none }) (v := .int .i64 us) rfl (by kernel_rfl) (by kernel_rfl) (by kernel_rfl) (fun _ _ _ h => h) (Or.inl ⟨rfl, fun W hW => by (obtain ⟨_, y0, y1, y2, y3, y4, y5, _⟩ := hW; go_simp; try rfl)⟩) HS ?_
    try simp only [Act.put, List.setIfInBounds_toArray, List.set_cons_zero, List.set_cons_succ]
    refine wpAnyH_ready (rs := [4]) (by kernel_rfl) (by simp) ?_
    refine AllReadyH.cons (o := { dst := some 10, op := Op.call { callee := Callee.value (Operand.func 216), args := #[], argTypes := #[] }, type := 288, pos := "l04_proofs.go:323", after := #[], guard := none }) rfl (fun K hK => ?_) AllReadyH.nil
    go_simp
    refine (KA.out _).mono ?_
    rintro e w4 ⟨⟨AX, rfl⟩, hba⟩
    have HS' := St.below HS hba
    clear HS hba
    have HS := HS'
    clear HS'
    go_wp2_with fail
    refine hK.out _ _ HS (fun _ => ?_)
    clear hK K
    try simp only [Act.put, List.setIfInBounds_toArray, List.set_cons_zero, List.set_cons_succ]
    refine wpAnyH_take (i := 5) (oi := { dst := some 11, op := Op.call { callee := Callee.builtin Builtin.len, args := #[Operand.tmp 10], argTypes := #[288] }, type := 3, pos := "l04_proofs.go:323", after := #[{ on := 4, ground := Ground.data }], guard := none }) (v := .int .i64 24) rfl (by kernel_rfl) (by kernel_rfl) (by kernel_rfl) (fun _ _ _ h => h) (Or.inl ⟨rfl, fun W hW => by (obtain ⟨_, y0, y1, y2, y3, y4, y5, _⟩ := hW; go_simp; try rfl)⟩) HS ?_
    try simp only [Act.put, List.setIfInBounds_toArray, List.set_cons_zero, List.set_cons_succ]
    refine wpAnyH_take (i := 6) (oi := { dst := some 12, op := Op.binOp BinOp.sub 2 (Operand.tmp 11) (Operand.const (Value.int IntKind.i64 1)) 2, type := 2, pos := "l04_proofs.go:323", after := #[{ on := 5, ground := Ground.data }], guard := none }) (v := .int .i64 (IntKind.i64.wrap 23)) rfl (by kernel_rfl) (by kernel_rfl) (by kernel_rfl) (fun _ _ _ h => h) (Or.inl ⟨rfl, fun W hW => by (obtain ⟨_, y0, y1, y2, y3, y4, y5, _⟩ := hW; go_simp; try rfl)⟩) HS ?_
    try simp only [Act.put, List.setIfInBounds_toArray, List.set_cons_zero, List.set_cons_succ]
    refine wpAnyH_ready (rs := [7]) (by kernel_rfl) (by simp) ?_
    refine AllReadyH.cons (o := { dst := some 13, op := Op.call { callee := Callee.value (Operand.func 81), args := #[Operand.tmp 9, Operand.const (Value.int IntKind.i64 (-40)), Operand.tmp 12], argTypes := #[2, 2, 2] }, type := 4, pos := "l04_proofs.go:323", after := #[{ on := 3, ground := Ground.data }, { on := 6, ground := Ground.data }, { on := 4, ground := Ground.chain }], guard := none }) rfl (fun K hK => ?_) AllReadyH.nil
    go_simp
    refine (KI.out _).mono ?_
    rintro e w7 ⟨rfl, hbi⟩
    have HS' := St.below HS hbi
    clear HS hbi
    have HS := HS'
    clear HS'
    go_wp2_with fail
    refine hK.out _ _ HS (fun _ => ?_)
    clear hK K
    try simp only [Act.put, List.setIfInBounds_toArray, List.set_cons_zero, List.set_cons_succ]
    refine wpAnyH_take (i := 8) (oi := { dst := some 14, op := Op.unOp UnOp.not 4 (Operand.tmp 13), type := 4, pos := "l04_proofs.go:323", after := #[{ on := 7, ground := Ground.data }], guard := none }) (v := .bool false) rfl (by kernel_rfl) (by kernel_rfl) (by kernel_rfl) (fun _ _ _ h => h) (Or.inl ⟨rfl, fun W hW => by (obtain ⟨_, y0, y1, y2, y3, y4, y5, _⟩ := hW; go_simp; try rfl)⟩) HS ?_
    try simp only [Act.put, List.setIfInBounds_toArray, List.set_cons_zero, List.set_cons_succ]
    refine wpAnyH_take (i := 9) (oi := { dst := some 15, op := Op.move (Operand.tmp 14), type := 4, pos := "l04_proofs.go:323", after := #[{ on := 8, ground := Ground.data }, { on := 7, ground := Ground.chain }], guard := none }) (v := .bool false) rfl (by kernel_rfl) (by kernel_rfl) (by kernel_rfl) (fun _ _ _ h => h) (Or.inl ⟨rfl, fun W hW => by (obtain ⟨_, y0, y1, y2, y3, y4, y5, _⟩ := hW; go_simp; try rfl)⟩) HS ?_
    try simp only [Act.put, List.setIfInBounds_toArray, List.set_cons_zero, List.set_cons_succ]
    refine wpAnyH_take (i := 10) (oi := { dst := some 16, op := Op.move (Operand.tmp 1), type := 218, pos := "l04_proofs.go:323", after := #[{ on := 9, ground := Ground.guard }], guard := some (9, false) }) (v := .pointer (some ⟨b, o, none⟩)) rfl (by kernel_rfl) (by kernel_rfl) (by kernel_rfl) (fun _ _ _ h => h) (Or.inl ⟨rfl, fun W hW => by (obtain ⟨_, y0, y1, y2, y3, y4, y5, _⟩ := hW; go_simp; try rfl)⟩) HS ?_
    try simp only [Act.put, List.setIfInBounds_toArray, List.set_cons_zero, List.set_cons_succ]
    refine wpAnyH_take (i := 11) (oi := { dst := some 17, op := Op.nilCheck (Operand.tmp 16), type := 0, pos := "l04_proofs.go:323", after := #[{ on := 10, ground := Ground.data }, { on := 9, ground := Ground.guard }], guard := some (9, false) }) (v := .pointer (some ⟨b, o, none⟩)) rfl (by kernel_rfl) (by kernel_rfl) (by kernel_rfl) (fun _ _ _ h => h) (Or.inl ⟨rfl, fun W hW => by (obtain ⟨_, y0, y1, y2, y3, y4, y5, _⟩ := hW; go_simp; try rfl)⟩) HS ?_
    try simp only [Act.put, List.setIfInBounds_toArray, List.set_cons_zero, List.set_cons_succ]
    refine wpAnyH_take (i := 12) (oi := { dst := some 18, op := Op.fieldAddr 220 (Operand.tmp 17) 2, type := 0, pos := "l04_proofs.go:323", after := #[{ on := 11, ground := Ground.data }, { on := 9, ground := Ground.guard }], guard := some (9, false) }) (v := .pointer (some ⟨b, o + 2, none⟩)) rfl (by kernel_rfl) (by kernel_rfl) (by kernel_rfl) (fun _ _ _ h => h) (Or.inl ⟨rfl, fun W hW => by (obtain ⟨_, y0, y1, y2, y3, y4, y5, _⟩ := hW; go_simp; try rfl)⟩) HS ?_
    try simp only [Act.put, List.setIfInBounds_toArray, List.set_cons_zero, List.set_cons_succ]
    refine wpAnyH_take (i := 13) (oi := { dst := some 19, op := Op.load 28 (Operand.tmp 18), type := 28, pos := "l04_proofs.go:323", after := #[{ on := 12, ground := Ground.data }, { on := 9, ground := Ground.guard }], guard := some (9, false) }) (v := .slice Apa pa.len Cpa) rfl (by kernel_rfl) (by kernel_rfl) (by kernel_rfl) (fun _ _ _ h => h) (Or.inl ⟨rfl, fun W hW => by (obtain ⟨_, y0, y1, y2, y3, y4, y5, _⟩ := hW; go_simp; try rfl)⟩) HS ?_
    try simp only [Act.put, List.setIfInBounds_toArray, List.set_cons_zero, List.set_cons_succ]
    refine wpAnyH_take (i := 14) (oi := { dst := some 20, op := Op.call { callee := Callee.builtin Builtin.len, args := #[Operand.tmp 19], argTypes := #[28] }, type := 3, pos := "l04_proofs.go:323", after := #[{ on := 13, ground := Ground.data }, { on := 9, ground := Ground.guard }], guard := some (9, false) }) (v := .int .i64 pa.len) rfl (by kernel_rfl) (by kernel_rfl) (by kernel_rfl) (fun _ _ _ h => h) (Or.inl ⟨rfl, fun W hW => by (obtain ⟨_, y0, y1, y2, y3, y4, y5, _⟩ := hW; go_simp; try rfl)⟩) HS ?_
    try simp only [Act.put, List.setIfInBounds_toArray, List.set_cons_zero, List.set_cons_succ]
    refine wpAnyH_take (i := 15) (oi := { dst := some 21, op := Op.binOp BinOp.gtr 3 (Operand.tmp 20) (Operand.const (Value.int IntKind.i64 40)) 3, type := 4, pos := "l04_proofs.go:323", after := #[{ on := 14, ground := Ground.data }, { on := 9, ground := Ground.guard }], guard := some (9, false) }) (v := .bool false) rfl (by kernel_rfl) (by kernel_rfl) (by kernel_rfl) (fun _ _ _ h => h) (Or.inl ⟨rfl, fun W hW => by (obtain ⟨_, y0, y1, y2, y3, y4, y5, _⟩ := hW; go_simp; try rfl)⟩) HS ?_
    try simp only [Act.put, List.setIfInBounds_toArray, List.set_cons_zero, List.set_cons_succ]
    refine wpAnyH_take (i := 16) (oi := { dst := some 22, op := Op.pick (Operand.tmp 15) (Operand.const (Value.bool true)) (Operand.tmp 21), type := 4, pos := "l04_proofs.go:323", after := #[{ on := 9, ground := Ground.data }, { on := 15, ground := Ground.data }], guard := none }) (v := .bool false) rfl (by kernel_rfl) (by kernel_rfl) (by kernel_rfl) (fun _ _ _ h => h) (Or.inl ⟨rfl, fun W hW => by (obtain ⟨_, y0, y1, y2, y3, y4, y5, _⟩ := hW; go_simp; try rfl)⟩) HS ?_
    try simp only [Act.put, List.setIfInBounds_toArray, List.set_cons_zero, List.set_cons_succ]
    refine wpAnyH_take (i := 17) (oi := { dst := some 23, op := Op.move (Operand.tmp 22), type := 4, pos := "l04_proofs.go:323", after := #[{ on := 16, ground := Ground.data }, { on := 9, ground := Ground.chain }], guard := none }) (v := .bool false) rfl (by kernel_rfl) (by kernel_rfl) (by kernel_rfl) (fun _ _ _ h => h) (Or.inl ⟨rfl, fun W hW => by (obtain ⟨_, y0, y1, y2, y3, y4, y5, _⟩ := hW; go_simp; try rfl)⟩) HS ?_
    try simp only [Act.put, List.setIfInBounds_toArray, List.set_cons_zero, List.set_cons_succ]
    refine wpAnyH_take (i := 18) (oi := { dst := some 24, op := Op.move (Operand.tmp 1), type := 218, pos := "l04_proofs.go:323", after := #[{ on := 17, ground := Ground.guard }], guard := some (17, false) }) (v := .pointer (some ⟨b, o, none⟩)) rfl (by kernel_rfl) (by kernel_rfl) (by kernel_rfl) (fun _ _ _ h => h) (Or.inl ⟨rfl, fun W hW => by (obtain ⟨_, y0, y1, y2, y3, y4, y5, _⟩ := hW; go_simp; try rfl)⟩) HS ?_
    try simp only [Act.put, List.setIfInBounds_toArray, List.set_cons_zero, List.set_cons_succ]
    refine wpAnyH_take (i := 19) (oi := { dst := some 25, op := Op.nilCheck (Operand.tmp 24), type := 0, pos := "l04_proofs.go:323", after := #[{ on := 18, ground := Ground.data }, { on := 17, ground := Ground.guard }], guard := some (17, false) }) (v := .pointer (some ⟨b, o, none⟩)) rfl (by kernel_rfl) (by kernel_rfl) (by kernel_rfl) (fun _ _ _ h => h) (Or.inl ⟨rfl, fun W hW => by (obtain ⟨_, y0, y1, y2, y3, y4, y5, _⟩ := hW; go_simp; try rfl)⟩) HS ?_
    try simp only [Act.put, List.setIfInBounds_toArray, List.set_cons_zero, List.set_cons_succ]
    refine wpAnyH_take (i := 20) (oi := { dst := some 26, op := Op.fieldAddr 220 (Operand.tmp 25) 3, type := 0, pos := "l04_proofs.go:323", after := #[{ on := 19, ground := Ground.data }, { on := 17, ground := Ground.guard }], guard := some (17, false) }) (v := .pointer (some ⟨b, o + 3, none⟩)) rfl (by kernel_rfl) (by kernel_rfl) (by kernel_rfl) (fun _ _ _ h => h) (Or.inl ⟨rfl, fun W hW => by (obtain ⟨_, y0, y1, y2, y3, y4, y5, _⟩ := hW; go_simp; try rfl)⟩) HS ?_
    try simp only [Act.put, List.setIfInBounds_toArray, List.set_cons_zero, List.set_cons_succ]
    refine wpAnyH_take (i := 21) (oi := { dst := some 27, op := Op.load 33 (Operand.tmp 26), type := 33, pos := "l04_proofs.go:323", after := #[{ on := 20, ground := Ground.data }, { on := 17, ground := Ground.guard }], guard := some (17, false) }) (v := .slice Ate te.len Cte) rfl (by kernel_rfl) (by kernel_rfl) (by kernel_rfl) (fun _ _ _ h => h) (Or.inl ⟨rfl, fun W hW => by (obtain ⟨_, y0, y1, y2, y3, y4, y5, _⟩ := hW; go_simp; try rfl)⟩) HS ?_
    try simp only [Act.put, List.setIfInBounds_toArray, List.set_cons_zero, List.set_cons_succ]
    refine wpAnyH_take (i := 22) (oi := { dst := some 28, op := Op.call { callee := Callee.builtin Builtin.len, args := #[Operand.tmp 27], argTypes := #[33] }, type := 3, pos := "l04_proofs.go:323", after := #[{ on := 21, ground := Ground.data }, { on := 17, ground := Ground.guard }], guard := some (17, false) }) (v := .int .i64 te.len) rfl (by kernel_rfl) (by kernel_rfl) (by kernel_rfl) (fun _ _ _ h => h) (Or.inl ⟨rfl, fun W hW => by (obtain ⟨_, y0, y1, y2, y3, y4, y5, _⟩ := hW; go_simp; try rfl)⟩) HS ?_
    try simp only [Act.put, List.setIfInBounds_toArray, List.set_cons_zero, List.set_cons_succ]
    refine wpAnyH_take (i := 23) (oi := { dst := some 29, op := Op.binOp BinOp.gtr 3 (Operand.tmp 28) (Operand.const (Value.int IntKind.i64 3)) 3, type := 4, pos := "l04_proofs.go:323", after := #[{ on := 22, ground := Ground.data }, { on := 17, ground := Ground.guard }], guard := some (17, false) }) (v := .bool false) rfl (by kernel_rfl) (by kernel_rfl) (by kernel_rfl) (fun _ _ _ h => h) (Or.inl ⟨rfl, fun W hW => by (obtain ⟨_, y0, y1, y2, y3, y4, y5, _⟩ := hW; go_simp; try rfl)⟩) HS ?_
    try simp only [Act.put, List.setIfInBounds_toArray, List.set_cons_zero, List.set_cons_succ]
    refine wpAnyH_take (i := 24) (oi := { dst := some 30, op := Op.pick (Operand.tmp 23) (Operand.const (Value.bool true)) (Operand.tmp 29), type := 4, pos := "l04_proofs.go:323", after := #[{ on := 17, ground := Ground.data }, { on := 23, ground := Ground.data }], guard := none }) (v := .bool false) rfl (by kernel_rfl) (by kernel_rfl) (by kernel_rfl) (fun _ _ _ h => h) (Or.inl ⟨rfl, fun W hW => by (obtain ⟨_, y0, y1, y2, y3, y4, y5, _⟩ := hW; go_simp; try rfl)⟩) HS ?_
    try simp only [Act.put, List.setIfInBounds_toArray, List.set_cons_zero, List.set_cons_succ]
    refine wpAnyH_take (i := 25) (oi := { dst := some 31, op := Op.move (Operand.tmp 30), type := 4, pos := "l04_proofs.go:323", after := #[{ on := 24, ground := Ground.data }, { on := 17, ground := Ground.chain }], guard := none }) (v := .bool false) rfl (by kernel_rfl) (by kernel_rfl) (by kernel_rfl) (fun _ _ _ h => h) (Or.inl ⟨rfl, fun W hW => by (obtain ⟨_, y0, y1, y2, y3, y4, y5, _⟩ := hW; go_simp; try rfl)⟩) HS ?_
    try simp only [Act.put, List.setIfInBounds_toArray, List.set_cons_zero, List.set_cons_succ]
    refine wpAnyH_take (i := 26) (oi := { dst := some 32, op := Op.move (Operand.tmp 1), type := 218, pos := "l04_proofs.go:323", after := #[{ on := 25, ground := Ground.guard }], guard := some (25, false) }) (v := .pointer (some ⟨b, o, none⟩)) rfl (by kernel_rfl) (by kernel_rfl) (by kernel_rfl) (fun _ _ _ h => h) (Or.inl ⟨rfl, fun W hW => by (obtain ⟨_, y0, y1, y2, y3, y4, y5, _⟩ := hW; go_simp; try rfl)⟩) HS ?_
    try simp only [Act.put, List.setIfInBounds_toArray, List.set_cons_zero, List.set_cons_succ]
    refine wpAnyH_take (i := 27) (oi := { dst := some 33, op := Op.nilCheck (Operand.tmp 32), type := 0, pos := "l04_proofs.go:323", after := #[{ on := 26, ground := Ground.data }, { on := 25, ground := Ground.guard }], guard := some (25, false) }) (v := .pointer (some ⟨b, o, none⟩)) rfl (by kernel_rfl) (by kernel_rfl) (by kernel_rfl) (fun _ _ _ h => h) (Or.inl ⟨rfl, fun W hW => by (obtain ⟨_, y0, y1, y2, y3, y4, y5, _⟩ := hW; go_simp; try rfl)⟩) HS ?_
    try simp only [Act.put, List.setIfInBounds_toArray, List.set_cons_zero, List.set_cons_succ]
    refine wpAnyH_take (i := 28) (oi := { dst := some 34, op := Op.fieldAddr 220 (Operand.tmp 33) 4, type := 0, pos := "l04_proofs.go:323", after := #[{ on := 27, ground := Ground.data }, { on := 25, ground := Ground.guard }], guard := some (25, false) }) (v := .pointer (some ⟨b, o + 4, none⟩)) rfl (by kernel_rfl) (by kernel_rfl) (by kernel_rfl) (fun _ _ _ h => h) (Or.inl ⟨rfl, fun W hW => by (obtain ⟨_, y0, y1, y2, y3, y4, y5, _⟩ := hW; go_simp; try rfl)⟩) HS ?_
    try simp only [Act.put, List.setIfInBounds_toArray, List.set_cons_zero, List.set_cons_succ]
    refine wpAnyH_take (i := 29) (oi := { dst := some 35, op := Op.load 33 (Operand.tmp 34), type := 33, pos := "l04_proofs.go:323", after := #[{ on := 28, ground := Ground.data }, { on := 25, ground := Ground.guard }], guard := some (25, false) }) (v := .slice Aac ac.len Cac) rfl (by kernel_rfl) (by kernel_rfl) (by kernel_rfl) (fun _ _ _ h => h) (Or.inl ⟨rfl, fun W hW => by (obtain ⟨_, y0, y1, y2, y3, y4, y5, _⟩ := hW; go_simp; try rfl)⟩) HS ?_
    try simp only [Act.put, List.setIfInBounds_toArray, List.set_cons_zero, List.set_cons_succ]
    refine wpAnyH_take (i := 30) (oi := { dst := some 36, op := Op.call { callee := Callee.builtin Builtin.len, args := #[Operand.tmp 35], argTypes := #[33] }, type := 3, pos := "l04_proofs.go:323", after := #[{ on := 29, ground := Ground.data }, { on := 25, ground := Ground.guard }], guard := some (25, false) }) (v := .int .i64 ac.len) rfl (by kernel_rfl) (by kernel_rfl) (by kernel_rfl) (fun _ _ _ h => h) (Or.inl ⟨rfl, fun W hW => by (obtain ⟨_, y0, y1, y2, y3, y4, y5, _⟩ := hW; go_simp; try rfl)⟩) HS ?_
    try simp only [Act.put, List.setIfInBounds_toArray, List.set_cons_zero, List.set_cons_succ]
    refine wpAnyH_take (i := 31) (oi := { dst := some 37, op := Op.binOp BinOp.gtr 3 (Operand.tmp 36) (Operand.const (Value.int IntKind.i64 4)) 3, type := 4, pos := "l04_proofs.go:323", after := #[{ on := 30, ground := Ground.data }, { on := 25, ground := Ground.guard }], guard := some (25, false) }) (v := .bool true) rfl (by kernel_rfl) (by kernel_rfl) (by kernel_rfl) (fun _ _ _ h => h) (Or.inl ⟨rfl, fun W hW => by (obtain ⟨_, y0, y1, y2, y3, y4, y5, _⟩ := hW; go_simp; try rfl)⟩) HS ?_
    try simp only [Act.put, List.setIfInBounds_toArray, List.set_cons_zero, List.set_cons_succ]
    refine wpAnyH_take (i := 32) (oi := { dst := some 38, op := Op.pick (Operand.tmp 31) (Operand.const (Value.bool true)) (Operand.tmp 37), type := 4, pos := "l04_proofs.go:323", after := #[{ on := 25, ground := Ground.data }, { on := 31, ground := Ground.data }], guard := none }) (v := .bool true) rfl (by kernel_rfl) (by kernel_rfl) (by kernel_rfl) (fun _ _ _ h => h) (Or.inl ⟨rfl, fun W hW => by (obtain ⟨_, y0, y1, y2, y3, y4, y5, _⟩ := hW; go_simp; try rfl)⟩) HS ?_
    try simp only [Act.put, List.setIfInBounds_toArray, List.set_cons_zero, List.set_cons_succ]
    refine wpAnyH_done (by kernel_rfl) ?_ _
    have HT := Lib.hid HS
    clear HS KA KI HS0
    go_wp2_with fail
    go_ret
    exact ⟨ret_bool HE.out.symm, HT.out.1⟩
  have tl3 : decide ((4 : Int) < (ac.len : Int)) = false := decide_eq_false hk3
  rw [tl3] at HD
  simp only [Bool.not_false, Bool.true_and] at HD
  go_enter Try.func196, Try.ntmps196
  go_wp2_with fail
  refine wp_region_held_drew (S := fun w' => St w [(w.heap.size, 0, .int .i64 t), (w.heap.size, 1, .int .i64 a), (b, o, .int .i64 us), (b, o + 2, .slice Apa pa.len Cpa), (b, o + 3, .slice Ate te.len Cte), (b, o + 4, .slice Aac ac.len Cac)] w') (by kernel_rfl) HS0.out.drew (fun HS => ?_)
  refine wpAnyH_take (i := 0) (oi := { dst := some 6, op := Op.move (Operand.tmp 1), type := 218, pos := "l04_proofs.go:323", after := #[], guard := none }) (v := .pointer (some ⟨b, o, none⟩)) rfl (by kernel_rfl) (by kernel_rfl) (by kernel_rfl) (fun _ _ _ h => h) (Or.inl ⟨rfl, fun W hW => by (obtain ⟨_, y0, y1, y2, y3, y4, y5, _⟩ := hW; go_simp; try rfl)⟩) HS ?_
  try simp only [Act.put, List.setIfInBounds_toArray, List.set_cons_zero, List.set_cons_succ]
  refine wpAnyH_take (i := 1) (oi := { dst := some 7, op := Op.nilCheck (Operand.tmp 6), type := 0, pos := "l04_proofs.go:323", after := #[{ on := 0, ground := Ground.data }], guard := none }) (v := .pointer (some ⟨b, o, none⟩)) rfl (by kernel_rfl) (by kernel_rfl) (by kernel_rfl) (fun _ _ _ h => h) (Or.inl ⟨rfl, fun W hW => by (obtain ⟨_, y0, y1, y2, y3, y4, y5, _⟩ := hW; go_simp; try rfl)⟩) HS ?_
  try simp only [Act.put, List.setIfInBounds_toArray, List.set_cons_zero, List.set_cons_succ]
  refine wpAnyH_take (i := 2) (oi := { dst := some 8, op := Op.fieldAddr 220 (Operand.tmp 7) 0, type := 0, pos := "l04_proofs.go:323", after := #[{ on := 1, ground := Ground.data }], guard := none }) (v := .pointer (some ⟨b, o, none⟩)) rfl (by kernel_rfl) (by kernel_rfl) (by kernel_rfl) (fun _ _ _ h => h) (Or.inl ⟨rfl, fun W hW => by (obtain ⟨_, y0, y1, y2, y3, y4, y5, _⟩ := hW; go_simp; try rfl)⟩) HS ?_
  try simp only [Act.put, List.setIfInBounds_toArray, List.set_cons_zero, List.set_cons_succ]
  refine wpAnyH_take (i := 3) (oi := { dst := some 9, op := Op.load 2 (Operand.tmp 8), type := 2, pos := "l04_proofs.go:323", after := #[{ on := 2, ground := Ground.data }], guard := none }) (v := .int .i64 us) rfl (by kernel_rfl) (by kernel_rfl) (by kernel_rfl) (fun _ _ _ h => h) (Or.inl ⟨rfl, fun W hW => by (obtain ⟨_, y0, y1, y2, y3, y4, y5, _⟩ := hW; go_simp; try rfl)⟩) HS ?_
  try simp only [Act.put, List.setIfInBounds_toArray, List.set_cons_zero, List.set_cons_succ]
  refine wpAnyH_ready (rs := [4]) (by kernel_rfl) (by simp) ?_
  refine AllReadyH.cons (o := { dst := some 10, op := Op.call { callee := Callee.value (Operand.func 216), args := #[], argTypes := #[] }, type := 288, pos := "l04_proofs.go:323", after := #[], guard := none }) rfl (fun K hK => ?_) AllReadyH.nil
  go_simp
  refine (KA.out _).mono ?_
  rintro e w4 ⟨⟨AX, rfl⟩, hba⟩
  have HS' := St.below HS hba
  clear HS hba
  have HS := HS'
  clear HS'
  go_wp2_with fail
  refine hK.out _ _ HS (fun _ => ?_)
  clear hK K
  try simp only [Act.put, List.setIfInBounds_toArray, List.set_cons_zero, List.set_cons_succ]
  refine wpAnyH_take (i := 5) (oi := { dst := some 11, op := Op.call { callee := Callee.builtin Builtin.len, args := #[Operand.tmp 10], argTypes := #[288] }, type := 3, pos := "l04_proofs.go:323", after := #[{ on := 4, ground := Ground.data }], guard := none }) (v := .int .i64 24) rfl (by kernel_rfl) (by kernel_rfl) (by kernel_rfl) (fun _ _ _ h => h) (Or.inl ⟨rfl, fun W hW => by (obtain ⟨_, y0, y1, y2, y3, y4, y5, _⟩ := hW; go_simp; try rfl)⟩) HS ?_
  try simp only [Act.put, List.setIfInBounds_toArray, List.set_cons_zero, List.set_cons_succ]
  refine wpAnyH_take (i := 6) (oi := { dst := some 12, op := Op.binOp BinOp.sub 2 (Operand.tmp 11) (Operand.const (Value.int IntKind.i64 1)) 2, type := 2, pos := "l04_proofs.go:323", after := #[{ on := 5, ground := Ground.data }], guard := none }) (v := .int .i64 (IntKind.i64.wrap 23)) rfl (by kernel_rfl) (by kernel_rfl) (by kernel_rfl) (fun _ _ _ h => h) (Or.inl ⟨rfl, fun W hW => by (obtain ⟨_, y0, y1, y2, y3, y4, y5, _⟩ := hW; go_simp; try rfl)⟩) HS ?_
  try simp only [Act.put, List.setIfInBounds_toArray, List.set_cons_zero, List.set_cons_succ]
  refine wpAnyH_ready (rs := [7]) (by kernel_rfl) (by simp) ?_
  refine AllReadyH.cons (o := { dst := some 13, op := Op.call { callee := Callee.value (Operand.func 81), args := #[Operand.tmp 9, Operand.const (Value.int IntKind.i64 (-40)), Operand.tmp 12], argTypes := #[2, 2, 2] }, type := 4, pos := "l04_proofs.go:323", after := #[{ on := 3, ground := Ground.data }, { on := 6, ground := Ground.data }, { on := 4, ground := Ground.chain }], guard := none }) rfl (fun K hK => ?_) AllReadyH.nil
  go_simp
  refine (KI.out _).mono ?_
  rintro e w7 ⟨rfl, hbi⟩
  have HS' := St.below HS hbi
  clear HS hbi
  have HS := HS'
  clear HS'
  go_wp2_with fail
  refine hK.out _ _ HS (fun _ => ?_)
  clear hK K
  try simp only [Act.put, List.setIfInBounds_toArray, List.set_cons_zero, List.set_cons_succ]
  refine wpAnyH_take (i := 8) (oi := { dst := some 14, op := Op.unOp UnOp.not 4 (Operand.tmp 13), type := 4, pos := "l04_proofs.go:323", after := #[{ on := 7, ground := Ground.data }], guard := none }) (v := .bool false) rfl (by kernel_rfl) (by kernel_rfl) (by kernel_rfl) (fun _ _ _ h => h) (Or.inl ⟨rfl, fun W hW => by (obtain ⟨_, y0, y1, y2, y3, y4, y5, _⟩ := hW; go_simp; try rfl)⟩) HS ?_
  try simp only [Act.put, List.setIfInBounds_toArray, List.set_cons_zero, List.set_cons_succ]
  refine wpAnyH_take (i := 9) (oi := { dst := some 15, op := Op.move (Operand.tmp 14), type := 4, pos := "l04_proofs.go:323", after := #[{ on := 8, ground := Ground.data }, { on := 7, ground := Ground.chain }], guard := none }) (v := .bool false) rfl (by kernel_rfl) (by kernel_rfl) (by kernel_rfl) (fun _ _ _ h => h) (Or.inl ⟨rfl, fun W hW => by (obtain ⟨_, y0, y1, y2, y3, y4, y5, _⟩ := hW; go_simp; try rfl)⟩) HS ?_
  try simp only [Act.put, List.setIfInBounds_toArray, List.set_cons_zero, List.set_cons_succ]
  refine wpAnyH_take (i := 10) (oi := { dst := some 16, op := Op.move (Operand.tmp 1), type := 218, pos := "l04_proofs.go:323", after := #[{ on := 9, ground := Ground.guard }], guard := some (9, false) }) (v := .pointer (some ⟨b, o, none⟩)) rfl (by kernel_rfl) (by kernel_rfl) (by kernel_rfl) (fun _ _ _ h => h) (Or.inl ⟨rfl, fun W hW => by (obtain ⟨_, y0, y1, y2, y3, y4, y5, _⟩ := hW; go_simp; try rfl)⟩) HS ?_
  try simp only [Act.put, List.setIfInBounds_toArray, List.set_cons_zero, List.set_cons_succ]
  refine wpAnyH_take (i := 11) (oi := { dst := some 17, op := Op.nilCheck (Operand.tmp 16), type := 0, pos := "l04_proofs.go:323", after := #[{ on := 10, ground := Ground.data }, { on := 9, ground := Ground.guard }], guard := some (9, false) }) (v := .pointer (some ⟨b, o, none⟩)) rfl (by kernel_rfl) (by kernel_rfl) (by kernel_rfl) (fun _ _ _ h => h) (Or.inl ⟨rfl, fun W hW => by (obtain ⟨_, y0, y1, y2, y3, y4, y5, _⟩ := hW; go_simp; try rfl)⟩) HS ?_
  try simp only [Act.put, List.setIfInBounds_toArray, List.set_cons_zero, List.set_cons_succ]
  refine wpAnyH_take (i := 12) (oi := { dst := some 18, op := Op.fieldAddr 220 (Operand.tmp 17) 2, type := 0, pos := "l04_proofs.go:323", after := #[{ on := 11, ground := Ground.data }, { on := 9, ground := Ground.guard }], guard := some (9, false) }) (v := .pointer (some ⟨b, o + 2, none⟩)) rfl (by kernel_rfl) (by kernel_rfl) (by kernel_rfl) (fun _ _ _ h => h) (Or.inl ⟨rfl, fun W hW => by (obtain ⟨_, y0, y1, y2, y3, y4, y5, _⟩ := hW; go_simp; try rfl)⟩) HS ?_
  try simp only [Act.put, List.setIfInBounds_toArray, List.set_cons_zero, List.set_cons_succ]
  refine wpAnyH_take (i := 13) (oi := { dst := some 19, op := Op.load 28 (Operand.tmp 18), type := 28, pos := "l04_proofs.go:323", after := #[{ on := 12, ground := Ground.data }, { on := 9, ground := Ground.guard }], guard := some (9, false) }) (v := .slice Apa pa.len Cpa) rfl (by kernel_rfl) (by kernel_rfl) (by kernel_rfl) (fun _ _ _ h => h) (Or.inl ⟨rfl, fun W hW => by (obtain ⟨_, y0, y1, y2, y3, y4, y5, _⟩ := hW; go_simp; try rfl)⟩) HS ?_
  try simp only [Act.put, List.setIfInBounds_toArray, List.set_cons_zero, List.set_cons_succ]
  refine wpAnyH_take (i := 14) (oi := { dst := some 20, op := Op.call { callee := Callee.builtin Builtin.len, args := #[Operand.tmp 19], argTypes := #[28] }, type := 3, pos := "l04_proofs.go:323", after := #[{ on := 13, ground := Ground.data }, { on := 9, ground := Ground.guard }], guard := some (9, false) }) (v := .int .i64 pa.len) rfl (by kernel_rfl) (by kernel_rfl) (by kernel_rfl) (fun _ _ _ h => h) (Or.inl ⟨rfl, fun W hW => by (obtain ⟨_, y0, y1, y2, y3, y4, y5, _⟩ := hW; go_simp; try rfl)⟩) HS ?_
  try simp only [Act.put, List.setIfInBounds_toArray, List.set_cons_zero, List.set_cons_succ]
  refine wpAnyH_take (i := 15) (oi := { dst := some 21, op := Op.binOp BinOp.gtr 3 (Operand.tmp 20) (Operand.const (Value.int IntKind.i64 40)) 3, type := 4, pos := "l04_proofs.go:323", after := #[{ on := 14, ground := Ground.data }, { on := 9, ground := Ground.guard }], guard := some (9, false) }) (v := .bool false) rfl (by kernel_rfl) (by kernel_rfl) (by kernel_rfl) (fun _ _ _ h => h) (Or.inl ⟨rfl, fun W hW => by (obtain ⟨_, y0, y1, y2, y3, y4, y5, _⟩ := hW; go_simp; try rfl)⟩) HS ?_
  try simp only [Act.put, List.setIfInBounds_toArray, List.set_cons_zero, List.set_cons_succ]
  refine wpAnyH_take (i := 16) (oi := { dst := some 22, op := Op.pick (Operand.tmp 15) (Operand.const (Value.bool true)) (Operand.tmp 21), type := 4, pos := "l04_proofs.go:323", after := #[{ on := 9, ground := Ground.data }, { on := 15, ground := Ground.data }], guard := none }) (v := .bool false) rfl (by kernel_rfl) (by kernel_rfl) (by kernel_rfl) (fun _ _ _ h => h) (Or.inl ⟨rfl, fun W hW => by (obtain ⟨_, y0, y1, y2, y3, y4, y5, _⟩ := hW; go_simp; try rfl)⟩) HS ?_
  try simp only [Act.put, List.setIfInBounds_toArray, List.set_cons_zero, List.set_cons_succ]
  refine wpAnyH_take (i := 17) (oi := { dst := some 23, op := Op.move (Operand.tmp 22), type := 4, pos := "l04_proofs.go:323", after := #[{ on := 16, ground := Ground.data }, { on := 9, ground := Ground.chain }], guard := none }) (v := .bool false) rfl (by kernel_rfl) (by kernel_rfl) (by kernel_rfl) (fun _ _ _ h => h) (Or.inl ⟨rfl, fun W hW => by (obtain ⟨_, y0, y1, y2, y3, y4, y5, _⟩ := hW; go_simp; try rfl)⟩) HS ?_
  try simp only [Act.put, List.setIfInBounds_toArray, List.set_cons_zero, List.set_cons_succ]
  refine wpAnyH_take (i := 18) (oi := { dst := some 24, op := Op.move (Operand.tmp 1), type := 218, pos := "l04_proofs.go:323", after := #[{ on := 17, ground := Ground.guard }], guard := some (17, false) }) (v := .pointer (some ⟨b, o, none⟩)) rfl (by kernel_rfl) (by kernel_rfl) (by kernel_rfl) (fun _ _ _ h => h) (Or.inl ⟨rfl, fun W hW => by (obtain ⟨_, y0, y1, y2, y3, y4, y5, _⟩ := hW; go_simp; try rfl)⟩) HS ?_
  try simp only [Act.put, List.setIfInBounds_toArray, List.set_cons_zero, List.set_cons_succ]
  refine wpAnyH_take (i := 19) (oi := { dst := some 25, op := Op.nilCheck (Operand.tmp 24), type := 0, pos := "l04_proofs.go:323", after := #[{ on := 18, ground := Ground.data }, { on := 17, ground := Ground.guard }], guard := some (17, false) }) (v := .pointer (some ⟨b, o, none⟩)) rfl (by kernel_rfl) (by kernel_rfl) (by kernel_rfl) (fun _ _ _ h => h) (Or.inl ⟨rfl, fun W hW => by (obtain ⟨_, y0, y1, y2, y3, y4, y5, _⟩ := hW; go_simp; try rfl)⟩) HS ?_
  try simp only [Act.put, List.setIfInBounds_toArray, List.set_cons_zero, List.set_cons_succ]
  refine wpAnyH_take (i := 20) (oi := { dst := some 26, op := Op.fieldAddr 220 (Operand.tmp 25) 3, type := 0, pos := "l04_proofs.go:323", after := #[{ on := 19, ground := Ground.data }, { on := 17, ground := Ground.guard }], guard := some (17, false) }) (v := .pointer (some ⟨b, o + 3, none⟩)) rfl (by kernel_rfl) (by kernel_rfl) (by kernel_rfl) (fun _ _ _ h => h) (Or.inl ⟨rfl, fun W hW => by (obtain ⟨_, y0, y1, y2, y3, y4, y5, _⟩ := hW; go_simp; try rfl)⟩) HS ?_
  try simp only [Act.put, List.setIfInBounds_toArray, List.set_cons_zero, List.set_cons_succ]
  refine wpAnyH_take (i := 21) (oi := { dst := some 27, op := Op.load 33 (Operand.tmp 26), type := 33, pos := "l04_proofs.go:323", after := #[{ on := 20, ground := Ground.data }, { on := 17, ground := Ground.guard }], guard := some (17, false) }) (v := .slice Ate te.len Cte) rfl (by kernel_rfl) (by kernel_rfl) (by kernel_rfl) (fun _ _ _ h => h) (Or.inl ⟨rfl, fun W hW => by (obtain ⟨_, y0, y1, y2, y3, y4, y5, _⟩ := hW; go_simp; try rfl)⟩) HS ?_
  try simp only [Act.put, List.setIfInBounds_toArray, List.set_cons_zero, List.set_cons_succ]
  refine wpAnyH_take (i := 22) (oi := { dst := some 28, op := Op.call { callee := Callee.builtin Builtin.len, args := #[Operand.tmp 27], argTypes := #[33] }, type := 3, pos := "l04_proofs.go:323", after := #[{ on := 21, ground := Ground.data }, { on := 17, ground := Ground.guard }], guard := some (17, false) }) (v := .int .i64 te.len) rfl (by kernel_rfl) (by kernel_rfl) (by kernel_rfl) (fun _ _ _ h => h) (Or.inl ⟨rfl, fun W hW => by (obtain ⟨_, y0, y1, y2, y3, y4, y5, _⟩ := hW; go_simp; try rfl)⟩) HS ?_
  try simp only [Act.put, List.setIfInBounds_toArray, List.set_cons_zero, List.set_cons_succ]
  refine wpAnyH_take (i := 23) (oi := { dst := some 29, op := Op.binOp BinOp.gtr 3 (Operand.tmp 28) (Operand.const (Value.int IntKind.i64 3)) 3, type := 4, pos := "l04_proofs.go:323", after := #[{ on := 22, ground := Ground.data }, { on := 17, ground := Ground.guard }], guard := some (17, false) }) (v := .bool false) rfl (by kernel_rfl) (by kernel_rfl) (by kernel_rfl) (fun _ _ _ h => h) (Or.inl ⟨rfl, fun W hW => by (obtain ⟨_, y0, y1, y2, y3, y4, y5, _⟩ := hW; go_simp; try rfl)⟩) HS ?_
  try simp only [Act.put, List.setIfInBounds_toArray, List.set_cons_zero, List.set_cons_succ]
  refine wpAnyH_take (i := 24) (oi := { dst := some 30, op := Op.pick (Operand.tmp 23) (Operand.const (Value.bool true)) (Operand.tmp 29), type := 4, pos := "l04_proofs.go:323", after := #[{ on := 17, ground := Ground.data }, { on := 23, ground := Ground.data }], guard := none }) (v := .bool false) rfl (by kernel_rfl) (by kernel_rfl) (by kernel_rfl) (fun _ _ _ h => h) (Or.inl ⟨rfl, fun W hW => by (obtain ⟨_, y0, y1, y2, y3, y4, y5, _⟩ := hW; go_simp; try rfl)⟩) HS ?_
  try simp only [Act.put, List.setIfInBounds_toArray, List.set_cons_zero, List.set_cons_succ]
  refine wpAnyH_take (i := 25) (oi := { dst := some 31, op := Op.move (Operand.tmp 30), type := 4, pos := "l04_proofs.go:323", after := #[{ on := 24, ground := Ground.data }, { on := 17, ground := Ground.chain }], guard := none }) (v := .bool false) rfl (by kernel_rfl) (by kernel_rfl) (by kernel_rfl) (fun _ _ _ h => h) (Or.inl ⟨rfl, fun W hW => by (obtain ⟨_, y0, y1, y2, y3, y4, y5, _⟩ := hW; go_simp; try rfl)⟩) HS ?_
  try simp only [Act.put, List.setIfInBounds_toArray, List.set_cons_zero, List.set_cons_succ]
  refine wpAnyH_take (i := 26) (oi := { dst := some 32, op := Op.move (Operand.tmp 1), type := 218, pos := "l04_proofs.go:323", after := #[{ on := 25, ground := Ground.guard }], guard := some (25, false) }) (v := .pointer (some ⟨b, o, none⟩)) rfl (by kernel_rfl) (by kernel_rfl) (by kernel_rfl) (fun _ _ _ h => h) (Or.inl ⟨rfl, fun W hW => by (obtain ⟨_, y0, y1, y2, y3, y4, y5, _⟩ := hW; go_simp; try rfl)⟩) HS ?_
  try simp only [Act.put, List.setIfInBounds_toArray, List.set_cons_zero, List.set_cons_succ]
  refine wpAnyH_take (i := 27) (oi := { dst := some 33, op := Op.nilCheck (Operand.tmp 32), type := 0, pos := "l04_proofs.go:323", after := #[{ on := 26, ground := Ground.data }, { on := 25, ground := Ground.guard }], guard := some (25, false) }) (v := .pointer (some ⟨b, o, none⟩)) rfl (by kernel_rfl) (by kernel_rfl) (by kernel_rfl) (fun _ _ _ h => h) (Or.inl ⟨rfl, fun W hW => by (obtain ⟨_, y0, y1, y2, y3, y4, y5, _⟩ := hW; go_simp; try rfl)⟩) HS ?_
  try simp only [Act.put, List.setIfInBounds_toArray, List.set_cons_zero, List.set_cons_succ]
  refine wpAnyH_take (i := 28) (oi := { dst := some 34, op := Op.fieldAddr 220 (Operand.tmp 33) 4, type := 0, pos := "l04_proofs.go:323", after := #[{ on := 27, ground := Ground.data }, { on := 25, ground := Ground.guard }], guard := some (25, false) }) (v := .pointer (some ⟨b, o + 4, none⟩)) rfl (by kernel_rfl) (by kernel_rfl) (by kernel_rfl) (fun _ _ _ h => h) (Or.inl ⟨rfl, fun W hW => by (obtain ⟨_, y0, y1, y2, y3, y4, y5, _⟩ := hW; go_simp; try rfl)⟩) HS ?_
  try simp only [Act.put, List.setIfInBounds_toArray, List.set_cons_zero, List.set_cons_succ]
  refine wpAnyH_take (i := 29) (oi := { dst := some 35, op := Op.load 33 (Operand.tmp 34), type := 33, pos := "l04_proofs.go:323", after := #[{ on := 28, ground := Ground.data }, { on := 25, ground := Ground.guard }], guard := some (25, false) }) (v := .slice Aac ac.len Cac) rfl (by kernel_rfl) (by kernel_rfl) (by kernel_rfl) (fun _ _ _ h => h) (Or.inl ⟨rfl, fun W hW => by (obtain ⟨_, y0, y1, y2, y3, y4, y5, _⟩ := hW; go_simp; try rfl)⟩) HS ?_
  try simp only [Act.put, List.setIfInBounds_toArray, List.set_cons_zero, List.set_cons_succ]
  refine wpAnyH_take (i := 30) (oi := { dst := some 36, op := Op.call { callee := Callee.builtin Builtin.len, args := #[Operand.tmp 35], argTypes := #[33] }, type := 3, pos := "l04_proofs.go:323", after := #[{ on := 29, ground := Ground.data }, { on := 25, ground := Ground.guard }], guard := some (25, false) }) (v := .int .i64 ac.len) rfl (by kernel_rfl) (by kernel_rfl) (by kernel_rfl) (fun _ _ _ h => h) (Or.inl ⟨rfl, fun W hW => by (obtain ⟨_, y0, y1, y2, y3, y4, y5, _⟩ := hW; go_simp; try rfl)⟩) HS ?_
  try simp only [Act.put, List.setIfInBounds_toArray, List.set_cons_zero, List.set_cons_succ]
  refine wpAnyH_take (i := 31) (oi := { dst := some 37, op := Op.binOp BinOp.gtr 3 (Operand.tmp 36) (Operand.const (Value.int IntKind.i64 4)) 3, type := 4, pos := "l04_proofs.go:323", after := #[{ on := 30, ground := Ground.data }, { on := 25, ground := Ground.guard }], guard := some (25, false) }) (v := .bool false) rfl (by kernel_rfl) (by kernel_rfl) (by kernel_rfl) (fun _ _ _ h => h) (Or.inl ⟨rfl, fun W hW => by (obtain ⟨_, y0, y1, y2, y3, y4, y5, _⟩ := hW; go_simp; try rfl)⟩) HS ?_
  try simp only [Act.put, List.setIfInBounds_toArray, List.set_cons_zero, List.set_cons_succ]
  refine wpAnyH_take (i := 32) (oi := { dst := some 38, op := Op.pick (Operand.tmp 31) (Operand.const (Value.bool true)) (Operand.tmp 37), type := 4, pos := "l04_proofs.go:323", after := #[{ on := 25, ground := Ground.data }, { on := 31, ground := Ground.data }], guard := none }) (v := .bool false) rfl (by kernel_rfl) (by kernel_rfl) (by kernel_rfl) (fun _ _ _ h => h) (Or.inl ⟨rfl, fun W hW => by (obtain ⟨_, y0, y1, y2, y3, y4, y5, _⟩ := hW; go_simp; try rfl)⟩) HS ?_
  try simp only [Act.put, List.setIfInBounds_toArray, List.set_cons_zero, List.set_cons_succ]
  refine wpAnyH_done (by kernel_rfl) ?_ _
  have HT := Lib.hid HS
  clear HS KA KI HS0
  obtain ⟨hbq, y0, y1, y2, y3, y4, y5, _⟩ := HT.out
  go_wp2_with fail
  clear hbq y0 y1 y2 y3 y4 y5
  go_loopw [5] (fun i wr => ∃ j : Nat, j ≤ pa.l.length ∧ i = .int .i64 j ∧ Hid (stepB t a us bk pa te ac = (allG (fun i => inB i 0 1) pa.l j && (q5 && (q6 && q7)))) ∧ Hid (St w [(w.heap.size, 0, .int .i64 t), (w.heap.size, 1, .int .i64 a), (b, o, .int .i64 us), (b, o + 2, .slice Apa pa.len Cpa), (b, o + 3, .slice Ate te.len Cte), (b, o + 4, .slice Aac ac.len Cac)] wr)) (fun i _ => pa.l.length - (intOf i).toNat)
  case atStart => exact ⟨0, Nat.zero_le _, rfl, HD, HT⟩
  case round =>
    obtain ⟨j, hj, rfl, hq, hS⟩ := hrel
    clear HD HT
    obtain ⟨hb, y0, y1, y2, y3, y4, y5, _⟩ := hS.out
    by_cases hjl : j < pa.l.length
    · obtain ⟨c, p, _, rfl, hat⟩ := HA.out (by intro hh; rw [hh] at hjl; simp at hjl)
      have c0' := hat j pa.l[j] (List.getElem?_eq_getElem hjl)
      have hst0 := allG_step (fun i => inB i 0 1) pa.l hjl
      obtain ⟨x, hx⟩ : ∃ x, x = pa.l[j] := ⟨_, rfl⟩
      rw [← hx] at c0' hst0
      have c0 := kc hb c0'
      obtain ⟨q, hqe⟩ : ∃ q : Bool, q = inB x 0 1 := ⟨_, rfl⟩
      have KX : Hid (∀ W : World, Calls Try.prog 81 #[.int .i64 x, .int .i64 0, .int .i64 1] W fun e w' => e = .returned (.bool q) ∧ W = w') := fun W => by rw [hqe]; exact in_any x 0 1 W
      have HST : Hid (stepB t a us bk pa te ac = ((q && allG (fun i => inB i 0 1) pa.l (j + 1)) && (q5 && (q6 && q7)))) := by show _ = _; rw [hq.out, hst0, hqe]
      have j0 : (0 : Int) ≤ (j : Int) := Int.natCast_nonneg _
      have j1 : (j : Int) < (pa.l.length : Int) := by omega
      clear hat c0' hst0 hx hqe hq
      cases q
      · have HE : Hid (stepB t a us bk pa te ac = false) := by show _ = _; rw [HST.out]; rfl
        clear HST
        go_wp2_with fail
        refine (KX.out _).mono ?_
        rintro e w2 ⟨rfl, rfl⟩
        go_wp2_with fail
        go_ret
        exact ⟨ret_bool HE.out.symm, hb⟩
      · have HE : Hid (stepB t a us bk pa te ac = (allG (fun i => inB i 0 1) pa.l (j + 1) && (q5 && (q6 && q7)))) := by show _ = _; rw [HST.out]; rfl
        clear HST
        go_wp2_with fail
        refine (KX.out _).mono ?_
        rintro e w2 ⟨rfl, rfl⟩
        go_wp2_with fail
        go_roundw
        case rel => exact ⟨j + 1, by omega, by go_num, HE, hS⟩
        case measure => simp [intOf]; omega
    · obtain rfl : j = pa.l.length := by omega
      have HD : Hid (stepB t a us bk pa te ac = (q5 && (q6 && q7))) := by show _ = _; rw [hq.out, allG_end]; rfl
      clear hq
      cases q5
      case false =>
        have HE : Hid (stepB t a us bk pa te ac = false) := by show _ = _; rw [HD.out]; rfl
        clear HD
        go_wp2_with fail
        refine wp_region_quietC wr [(w.heap.size, 0, .int .i64 t), (w.heap.size, 1, .int .i64 a), (b, o, .int .i64 us), (b, o + 2, .slice Apa pa.len Cpa), (b, o + 3, .slice Ate te.len Cte), (b, o + 4, .slice Aac ac.len Cac)] (by kernel_rfl) (by kernel_rfl) ⟨Below.refl _ _, y0, y1, y2, y3, y4, y5, trivial⟩ ?_
        repeat (first | go_big_quiet_skip | (go_big_quiet_want; apply Exists.intro; refine ⟨fun W hW => ?_, ?_⟩; focus (have hK := Lib.hid hW; obtain ⟨hs, hc⟩ := hW; simp only [Has, and_true] at hc; go_simp; (first | rfl | exact ⟨rfl, rfl⟩ | ((with_reducible refine quietC_call hK.out (K5.out _ ?_)); exact Sees.below hb hs) | ((with_reducible refine quietC_call hK.out (K6.out _ ?_)); exact Sees.below hb hs) | ((with_reducible refine quietC_call hK.out (K7.out _ ?_)); exact Sees.below hb hs)))) | (go_simp; go_big_quiet_on))
        refine wpQuiet_nil ?_
        intro w2 H1
        have hb2 : Hid (St w [(w.heap.size, 0, .int .i64 t), (w.heap.size, 1, .int .i64 a), (b, o, .int .i64 us), (b, o + 2, .slice Apa pa.len Cpa), (b, o + 3, .slice Ate te.len Cte), (b, o + 4, .slice Aac ac.len Cac)] w2) := ⟨Sees.below hb H1.1, H1.2⟩
        clear H1
        go_wp2_with fail
        go_ret
        exact ⟨ret_bool HE.out.symm, hb2.out.1⟩
      cases q6
      case false =>
        have HE : Hid (stepB t a us bk pa te ac = false) := by show _ = _; rw [HD.out]; rfl
        clear HD
        go_wp2_with fail
        refine wp_region_quietC wr [(w.heap.size, 0, .int .i64 t), (w.heap.size, 1, .int .i64 a), (b, o, .int .i64 us), (b, o + 2, .slice Apa pa.len Cpa), (b, o + 3, .slice Ate te.len Cte), (b, o + 4, .slice Aac ac.len Cac)] (by kernel_rfl) (by kernel_rfl) ⟨Below.refl _ _, y0, y1, y2, y3, y4, y5, trivial⟩ ?_
        repeat (first | go_big_quiet_skip | (go_big_quiet_want; apply Exists.intro; refine ⟨fun W hW => ?_, ?_⟩; focus (have hK := Lib.hid hW; obtain ⟨hs, hc⟩ := hW; simp only [Has, and_true] at hc; go_simp; (first | rfl | exact ⟨rfl, rfl⟩ | ((with_reducible refine quietC_call hK.out (K5.out _ ?_)); exact Sees.below hb hs) | ((with_reducible refine quietC_call hK.out (K6.out _ ?_)); exact Sees.below hb hs) | ((with_reducible refine quietC_call hK.out (K7.out _ ?_)); exact Sees.below hb hs)))) | (go_simp; go_big_quiet_on))
        refine wpQuiet_nil ?_
        intro w2 H1
        have hb2 : Hid (St w [(w.heap.size, 0, .int .i64 t), (w.heap.size, 1, .int .i64 a), (b, o, .int .i64 us), (b, o + 2, .slice Apa pa.len Cpa), (b, o + 3, .slice Ate te.len Cte), (b, o + 4, .slice Aac ac.len Cac)] w2) := ⟨Sees.below hb H1.1, H1.2⟩
        clear H1
        go_wp2_with fail
        go_ret
        exact ⟨ret_bool HE.out.symm, hb2.out.1⟩
      cases q7
      case false =>
        have HE : Hid (stepB t a us bk pa te ac = false) := by show _ = _; rw [HD.out]; rfl
        clear HD
        go_wp2_with fail
        refine wp_region_quietC wr [(w.heap.size, 0, .int .i64 t), (w.heap.size, 1, .int .i64 a), (b, o, .int .i64 us), (b, o + 2, .slice Apa pa.len Cpa), (b, o + 3, .slice Ate te.len Cte), (b, o + 4, .slice Aac ac.len Cac)] (by kernel_rfl) (by kernel_rfl) ⟨Below.refl _ _, y0, y1, y2, y3, y4, y5, trivial⟩ ?_
        repeat (first | go_big_quiet_skip | (go_big_quiet_want; apply Exists.intro; refine ⟨fun W hW => ?_, ?_⟩; focus (have hK := Lib.hid hW; obtain ⟨hs, hc⟩ := hW; simp only [Has, and_true] at hc; go_simp; (first | rfl | exact ⟨rfl, rfl⟩ | ((with_reducible refine quietC_call hK.out (K5.out _ ?_)); exact Sees.below hb hs) | ((with_reducible refine quietC_call hK.out (K6.out _ ?_)); exact Sees.below hb hs) | ((with_reducible refine quietC_call hK.out (K7.out _ ?_)); exact Sees.below hb hs)))) | (go_simp; go_big_quiet_on))
        refine wpQuiet_nil ?_
        intro w2 H1
        have hb2 : Hid (St w [(w.heap.size, 0, .int .i64 t), (w.heap.size, 1, .int .i64 a), (b, o, .int .i64 us), (b, o + 2, .slice Apa pa.len Cpa), (b, o + 3, .slice Ate te.len Cte), (b, o + 4, .slice Aac ac.len Cac)] w2) := ⟨Sees.below hb H1.1, H1.2⟩
        clear H1
        go_wp2_with fail
        go_ret
        exact ⟨ret_bool HE.out.symm, hb2.out.1⟩
      have HE : Hid (stepB t a us bk pa te ac = true) := by show _ = _; rw [HD.out]; rfl
      clear HD
      go_wp2_with fail
      refine wp_region_quietC wr [(w.heap.size, 0, .int .i64 t), (w.heap.size, 1, .int .i64 a), (b, o, .int .i64 us), (b, o + 2, .slice Apa pa.len Cpa), (b, o + 3, .slice Ate te.len Cte), (b, o + 4, .slice Aac ac.len Cac)] (by kernel_rfl) (by kernel_rfl) ⟨Below.refl _ _, y0, y1, y2, y3, y4, y5, trivial⟩ ?_
      repeat (first | go_big_quiet_skip | (go_big_quiet_want; apply Exists.intro; refine ⟨fun W hW => ?_, ?_⟩; focus (have hK := Lib.hid hW; obtain ⟨hs, hc⟩ := hW; simp only [Has, and_true] at hc; go_simp; (first | rfl | exact ⟨rfl, rfl⟩ | ((with_reducible refine quietC_call hK.out (K5.out _ ?_)); exact Sees.below hb hs) | ((with_reducible refine quietC_call hK.out (K6.out _ ?_)); exact Sees.below hb hs) | ((with_reducible refine quietC_call hK.out (K7.out _ ?_)); exact Sees.below hb hs)))) | (go_simp; go_big_quiet_on))
      refine wpQuiet_nil ?_
      intro w2 H1
      have hb2 : Hid (St w [(w.heap.size, 0, .int .i64 t), (w.heap.size, 1, .int .i64 a), (b, o, .int .i64 us), (b, o + 2, .slice Apa pa.len Cpa), (b, o + 3, .slice Ate te.len Cte), (b, o + 4, .slice Aac ac.len Cac)] w2) := ⟨Sees.below hb H1.1, H1.2⟩
      clear H1
      go_wp2_with fail
      go_ret
      exact ⟨ret_bool HE.out.symm, hb2.out.1⟩

end Go.Proofs.YtlpgkhdecccmlaaR
