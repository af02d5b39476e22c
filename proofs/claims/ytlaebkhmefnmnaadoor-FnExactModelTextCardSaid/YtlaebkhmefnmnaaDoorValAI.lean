/- Contracts of spec.ValidAutomaton, impl.ValidAutomaton. -/
import Derived.Test.YtlaebkhmefnmnaaDoorValA
namespace Go.Proofs.YtlaebkhmefnmnaaDoor
open Go.RowKit
attribute [local go_sem ↓] Go.wp_at_zero Go.wp_at_succ

theorem inB_below (v : Int) (n : Nat) : inB v (-1) ((n : Int) - 1) = (decide (v = -1) || belowB v n) := by
  unfold inB belowB
  rw [Bool.eq_iff_iff]
  simp
  omega

set_option maxHeartbeats 4000000 in
set_option maxRecDepth 100000 in
theorem implValidAutomaton_any (t a : Int) (ac : List (List Bool)) (nx : List (List (List Int))) (hs : SmallA ac nx) (A B : Option Addr) (C D : Nat) (w : World) (hA0 : BB 0 w ac A) (hB0 : III 0 w nx B) :
    Calls Tryd.prog 41 #[.agg #[.int .i64 t, .int .i64 a, .slice A ac.length C, .slice B nx.length D]] w fun e w' => e = .returned (.bool (validA t a ac nx)) ∧ Below w.heap.size w w' := by
  obtain ⟨f1, f2, f3, f4⟩ := hs
  obtain ⟨w0, hw0⟩ : ∃ w0, w0 = w.alloc (.cells #[.int .i64 t, .int .i64 a, .slice A ac.length C, .slice B nx.length D] 42) := ⟨_, rfl⟩
  have fin : ∀ W : World, Below w0.heap.size w0 W → Below w.heap.size w W := fun W h => Sees.below (show Sees w w0 by rw [hw0]; exact (Sees.refl w).alloc _) h
  have g0 : w0.cell? ⟨w.heap.size, 0, none⟩ = some (.int .i64 t) := by rw [hw0]; simp [go_sem]
  have g1 : w0.cell? ⟨w.heap.size, 1, none⟩ = some (.int .i64 a) := by rw [hw0]; simp [go_sem]
  have g2 : w0.cell? ⟨w.heap.size, 2, none⟩ = some (.slice A ac.length C) := by rw [hw0]; simp [go_sem]
  have g3 : w0.cell? ⟨w.heap.size, 3, none⟩ = some (.slice B nx.length D) := by rw [hw0]; simp [go_sem]
  have hA : BB 0 w0 ac A := by rw [hw0]; exact bb_ok.alloc hA0 _
  have hB : III 0 w0 nx B := by rw [hw0]; exact iii_ok.alloc hB0 _
  obtain ⟨q1, hq1⟩ : ∃ q1 : Bool, q1 = sigOk t a := ⟨_, rfl⟩
  have K1 : Hid (∀ W : World, Calls Tryd.prog 66 #[.agg #[.int .i64 t, .int .i64 a]] W fun e w' => e = .returned (.bool q1) ∧ Below W.heap.size W w') := fun W => by rw [hq1]; exact implValidSig_any t a W
  have HA := Lib.hid hA; have HB := Lib.hid hB; have HF := Lib.hid (And.intro f2 f4); have FIN := Lib.hid fin
  clear hA hB hA0 hB0 f2 f4 fin
  cases q1
  · have HD : Hid (validA t a ac nx = false) := by show _ = _; unfold validA; rw [← hq1]; rfl
    clear hq1
    go_enter Tryd.func41, Tryd.ntmps41
    go_wp2_with fail
    rw [← hw0]
    refine (K1.out _).mono ?_
    rintro e w1 ⟨rfl, hb⟩
    have x0 := kc hb g0; have x1 := kc hb g1; have x2 := kc hb g2; have x3 := kc hb g3
    have HW0 := Lib.hid hw0; clear hw0
    go_wp2_with fail
    go_ret
    exact ⟨ret_bool HD.out.symm, FIN.out _ hb⟩
  by_cases hlo : (ac.length : Int) < 1
  · have HD : Hid (validA t a ac nx = false) := by show _ = _; unfold validA; rw [← hq1, show inB ac.length 1 60 = false from by unfold inB; simp; omega]; rfl
    have t1 : decide ((ac.length : Int) < 1) = true := decide_eq_true hlo
    clear hq1 hlo
    go_enter Tryd.func41, Tryd.ntmps41
    go_wp2_with fail
    rw [← hw0]
    refine (K1.out _).mono ?_
    rintro e w1 ⟨rfl, hb⟩
    have x0 := kc hb g0; have x1 := kc hb g1; have x2 := kc hb g2; have x3 := kc hb g3
    have HW0 := Lib.hid hw0; clear hw0
    go_wp2_with fail
    go_ret
    exact ⟨ret_bool HD.out.symm, FIN.out _ hb⟩
  have t1 : decide ((ac.length : Int) < 1) = false := decide_eq_false hlo
  by_cases hhi : (60 : Int) < (ac.length : Int)
  · have HD : Hid (validA t a ac nx = false) := by show _ = _; unfold validA; rw [← hq1, show inB ac.length 1 60 = false from by unfold inB; simp; omega]; rfl
    have t2 : decide ((60 : Int) < (ac.length : Int)) = true := decide_eq_true hhi
    clear hq1 hlo hhi
    go_enter Tryd.func41, Tryd.ntmps41
    go_wp2_with fail
    rw [← hw0]
    refine (K1.out _).mono ?_
    rintro e w1 ⟨rfl, hb⟩
    have x0 := kc hb g0; have x1 := kc hb g1; have x2 := kc hb g2; have x3 := kc hb g3
    have HW0 := Lib.hid hw0; clear hw0
    go_wp2_with fail
    go_ret
    exact ⟨ret_bool HD.out.symm, FIN.out _ hb⟩
  have t2 : decide ((60 : Int) < (ac.length : Int)) = false := decide_eq_false hhi
  have hq2 : inB ac.length 1 60 = true := by unfold inB; simp; omega
  by_cases hlen : nx.length = ac.length
  case neg =>
    have HD : Hid (validA t a ac nx = false) := by show _ = _; unfold validA; rw [← hq1, hq2, decide_eq_false hlen]; rfl
    have tn : ((nx.length : Int) != (ac.length : Int)) = true := by rw [bne_iff_ne]; omega
    clear hq1 hq2 hlen hlo hhi
    go_enter Tryd.func41, Tryd.ntmps41
    go_wp2_with fail
    rw [← hw0]
    refine (K1.out _).mono ?_
    rintro e w1 ⟨rfl, hb⟩
    have x0 := kc hb g0; have x1 := kc hb g1; have x2 := kc hb g2; have x3 := kc hb g3
    have HW0 := Lib.hid hw0; clear hw0
    go_wp2_with fail
    go_ret
    exact ⟨ret_bool HD.out.symm, FIN.out _ hb⟩
  have HD : Hid (validA t a ac nx = statesOk t a ac.length ac nx 0) := by show _ = _; unfold validA; rw [← hq1, hq2, decide_eq_true hlen]; rfl
  have tn : ((nx.length : Int) != (ac.length : Int)) = false := by simp [hlen]
  have hn60 : 1 ≤ ac.length ∧ ac.length ≤ 60 := by omega
  have hsg := sigOk_of hq1.symm
  obtain ⟨na, hna, hn1, hn8⟩ : ∃ na : Int, Hid (na = atomsN t) ∧ 1 ≤ na ∧ na ≤ 8 := ⟨_, rfl, (atomsN_bd t).1, (atomsN_bd t).2⟩
  have KA : Hid (∀ W : World, Calls Tryd.prog 67 #[.agg #[.int .i64 t, .int .i64 a]] W fun e w' => e = .returned (.int .i64 na) ∧ Below W.heap.size W w') := fun W => by rw [hna.out]; exact atomCount_any t a W hsg.1 hsg.2.1
  obtain ⟨yA, zA, _, rfl, hatA⟩ := HA.out (by rintro rfl; simp at hn60)
  obtain ⟨yB, zB, _, rfl, hatB⟩ := HB.out (by intro h; rw [h] at hlen; simp only [List.length_nil] at hlen; omega)
  have HatA := Lib.hid hatA; have HatB := Lib.hid hatB
  have HN := Lib.hid hlen; have HN60 := Lib.hid hn60
  have hnn : nx.length ≤ 60 := by omega
  clear hatA hatB hlen hq1 hq2 hsg HA HB hlo hhi hn60
  go_enter Tryd.func41, Tryd.ntmps41
  go_wp2_with fail
  rw [← hw0]
  refine (K1.out _).mono ?_
  rintro e w1 ⟨rfl, hb⟩
  have x0 := kc hb g0; have x1 := kc hb g1; have x2 := kc hb g2; have x3 := kc hb g3
  have HW0 := Lib.hid hw0; clear hw0
  go_wp2_with fail
  have HB3 := Lib.hid hb; clear hb x0 x1 x2 x3 tn
  go_loopw [35] (fun i wr => ∃ j : Nat, j ≤ nx.length ∧ i = .int .i64 j ∧ Hid (validA t a ac nx = statesOk t a ac.length ac nx j) ∧ Hid (Below w0.heap.size w0 wr)) (fun i _ => nx.length - (intOf i).toNat)
  case atStart => exact ⟨0, Nat.zero_le _, rfl, HD, HB3⟩
  case round =>
    obtain ⟨j, hj, rfl, hq, hB'⟩ := hrel
    clear HD HB3
    by_cases hjn : j < nx.length
    · have hjl : j < ac.length := by rw [← HN.out]; exact hjn
      obtain ⟨Aj, Cj, cA, _⟩ := HatA.out j ac[j] (List.getElem?_eq_getElem hjl)
      obtain ⟨Bj, Dj, cB, hRows⟩ := HatB.out j nx[j] (List.getElem?_eq_getElem hjn)
      have hst := statesOk_step (t := t) (a := a) (n := ac.length) hjl hjn
      have hfx := HF.out.1 ac[j] (List.getElem_mem hjl)
      have hfr := HF.out.2 nx[j] (List.getElem_mem hjn)
      obtain ⟨x, hx⟩ : ∃ x, x = ac[j] := ⟨_, rfl⟩
      obtain ⟨rows, hr⟩ : ∃ rows, rows = nx[j] := ⟨_, rfl⟩
      rw [← hx] at cA hst hfx
      rw [← hr] at cB hRows hst hfr
      have hb := hB'.out
      have x0 := kc hb g0; have x1 := kc hb g1; have x2 := kc hb g2; have x3 := kc hb g3
      have xA := kc hb cA; have xB := kc hb cB
      have HX := Lib.hid (And.intro hx hr)
      have HST : Hid (validA t a ac nx = (stateOk t a ac.length x rows && statesOk t a ac.length ac nx (j + 1))) := hq.out.trans hst
      have HROWS := Lib.hid hRows; have HFR := Lib.hid hfr
      have j0 : (0 : Int) ≤ (j : Int) := Int.natCast_nonneg _
      have j1 : (j : Int) < (ac.length : Int) := by omega
      have j2 : (j : Int) < (nx.length : Int) := by omega
      clear hx hr hst hq hRows hfr
      by_cases hax : (x.length : Int) = na
      case neg =>
        have ta : ((x.length : Int) != na) = true := by rw [bne_iff_ne]; exact hax
        have HE : Hid (validA t a ac nx = false) := by show _ = _; rw [HST.out]; unfold stateOk; rw [← hna.out, decide_eq_false hax]; rfl
        clear hax
        go_wp2_with fail
        refine wp_region_quietC w0 [(w.heap.size, 0, .int .i64 t), (w.heap.size, 1, .int .i64 a), (w.heap.size, 2, .slice (some ⟨yA, zA, none⟩) ac.length C), (w.heap.size, 3, .slice (some ⟨yB, zB, none⟩) nx.length D), (yA, zA + j, .slice Aj x.length Cj), (yB, zB + j, .slice Bj rows.length Dj)] (by kernel_rfl) (by kernel_rfl) ⟨hb, x0, x1, x2, x3, xA, xB, trivial⟩ ?_
        repeat (first | go_big_quiet_skip | (go_big_quiet_want; apply Exists.intro; refine ⟨fun W hW => ?_, ?_⟩; focus (have hK := Lib.hid hW; obtain ⟨hs, hc⟩ := hW; simp only [Has, and_true] at hc; go_simp; (first | rfl | exact ⟨rfl, rfl⟩ | exact quietC_call hK.out (KA.out _)))) | (go_simp; go_big_quiet_on))
        refine wpQuiet_nil ?_
        intro w1 H1
        have hb1 : Below w0.heap.size w0 w1 := H1.1
        clear hb x0 x1 x2 x3 xA xB H1
        go_wp2_with fail
        go_ret
        exact ⟨ret_bool HE.out.symm, FIN.out _ hb1⟩
      have ta : ((x.length : Int) != na) = false := by simp [hax]
      by_cases har : (rows.length : Int) = na
      case neg =>
        have tb : ((rows.length : Int) != na) = true := by rw [bne_iff_ne]; exact har
        have HE : Hid (validA t a ac nx = false) := by show _ = _; rw [HST.out]; unfold stateOk; rw [← hna.out, decide_eq_false har]; simp
        clear hax har
        go_wp2_with fail
        refine wp_region_quietC w0 [(w.heap.size, 0, .int .i64 t), (w.heap.size, 1, .int .i64 a), (w.heap.size, 2, .slice (some ⟨yA, zA, none⟩) ac.length C), (w.heap.size, 3, .slice (some ⟨yB, zB, none⟩) nx.length D), (yA, zA + j, .slice Aj x.length Cj), (yB, zB + j, .slice Bj rows.length Dj)] (by kernel_rfl) (by kernel_rfl) ⟨hb, x0, x1, x2, x3, xA, xB, trivial⟩ ?_
        repeat (first | go_big_quiet_skip | (go_big_quiet_want; apply Exists.intro; refine ⟨fun W hW => ?_, ?_⟩; focus (have hK := Lib.hid hW; obtain ⟨hs, hc⟩ := hW; simp only [Has, and_true] at hc; go_simp; (first | rfl | exact ⟨rfl, rfl⟩ | exact quietC_call hK.out (KA.out _)))) | (go_simp; go_big_quiet_on))
        refine wpQuiet_nil ?_
        intro w1 H1
        have hb1 : Below w0.heap.size w0 w1 := H1.1
        clear hb x0 x1 x2 x3 xA xB H1
        go_wp2_with fail
        go_ret
        exact ⟨ret_bool HE.out.symm, FIN.out _ hb1⟩
      have tb : ((rows.length : Int) != na) = false := by simp [har]
      have HE : Hid (validA t a ac nx = ((rows.drop 0).all (rowOk a ac.length) && statesOk t a ac.length ac nx (j + 1))) := by
        show _ = _
        rw [HST.out]
        unfold stateOk
        rw [← hna.out, decide_eq_true hax, decide_eq_true har, List.drop_zero]
        rfl
      have hrl : rows.length ≤ 8 := by omega
      clear hax har
      go_wp2_with fail
      refine wp_region_quietC w0 [(w.heap.size, 0, .int .i64 t), (w.heap.size, 1, .int .i64 a), (w.heap.size, 2, .slice (some ⟨yA, zA, none⟩) ac.length C), (w.heap.size, 3, .slice (some ⟨yB, zB, none⟩) nx.length D), (yA, zA + j, .slice Aj x.length Cj), (yB, zB + j, .slice Bj rows.length Dj)] (by kernel_rfl) (by kernel_rfl) ⟨hb, x0, x1, x2, x3, xA, xB, trivial⟩ ?_
      repeat (first | go_big_quiet_skip | (go_big_quiet_want; apply Exists.intro; refine ⟨fun W hW => ?_, ?_⟩; focus (have hK := Lib.hid hW; obtain ⟨hs, hc⟩ := hW; simp only [Has, and_true] at hc; go_simp; (first | rfl | exact ⟨rfl, rfl⟩ | exact quietC_call hK.out (KA.out _)))) | (go_simp; go_big_quiet_on))
      refine wpQuiet_nil ?_
      intro w1 H1
      have hb1 : Below w0.heap.size w0 w1 := H1.1
      clear hb x0 x1 x2 x3 xA xB H1
      have HB1 := Lib.hid hb1; clear hb1 ta tb
      go_wp2_with fail
      go_loopw [60] (fun i wr => ∃ k : Nat, k ≤ rows.length ∧ i = .int .i64 k ∧ Hid (validA t a ac nx = ((rows.drop k).all (rowOk a ac.length) && statesOk t a ac.length ac nx (j + 1))) ∧ Hid (Below w0.heap.size w0 wr)) (fun i _ => rows.length - (intOf i).toNat)
      case atStart => exact ⟨0, Nat.zero_le _, rfl, HE, HB1⟩
      case round =>
        obtain ⟨k, hk, rfl, hq, hB2⟩ := hrel
        clear HE HB1 hB'
        have hb := hB2.out
        have x0 := kc hb g0; have x1 := kc hb g1; have x3 := kc hb g3
        have xB := kc hb cB
        by_cases hkl : k < rows.length
        · obtain ⟨yR, zR, _, rfl, hatR⟩ := HROWS.out (by rintro rfl; simp at hkl)
          obtain ⟨Rk, Ek, cR, hrow⟩ := hatR k rows[k] (List.getElem?_eq_getElem hkl)
          have hst := all_drop (f := rowOk a ac.length) hkl
          have hfw := HFR.out.2 rows[k] (List.getElem_mem hkl)
          obtain ⟨row, hr⟩ : ∃ row, row = rows[k] := ⟨_, rfl⟩
          rw [← hr] at cR hrow hst hfw
          have xR := kc hb cR
          have HR := Lib.hid hr; have HROW := Lib.hid hrow; have HATR := Lib.hid hatR
          have HST : Hid (validA t a ac nx = (rowOk a ac.length row && ((rows.drop (k + 1)).all (rowOk a ac.length) && statesOk t a ac.length ac nx (j + 1)))) := by
            show _ = _
            rw [hq.out, hst, Bool.and_assoc]
          have k0 : (0 : Int) ≤ (k : Int) := Int.natCast_nonneg _
          have k1 : (k : Int) < (rows.length : Int) := by omega
          clear hr hrow hatR hst hq
          by_cases hra : (row.length : Int) = a
          case neg =>
            have ta : ((row.length : Int) != a) = true := by rw [bne_iff_ne]; exact hra
            have HE : Hid (validA t a ac nx = false) := by show _ = _; rw [HST.out]; unfold rowOk; rw [decide_eq_false hra]; rfl
            clear hra
            go_wp2_with fail
            go_ret
            exact ⟨ret_bool HE.out.symm, FIN.out _ hb⟩
          have ta : ((row.length : Int) != a) = false := by simp [hra]
          have HE : Hid (validA t a ac nx = ((row.drop 0).all (fun v => inB v (-1) ((ac.length : Int) - 1)) && ((rows.drop (k + 1)).all (rowOk a ac.length) && statesOk t a ac.length ac nx (j + 1)))) := by
            show _ = _
            rw [HST.out]
            unfold rowOk
            rw [decide_eq_true hra, List.drop_zero]
            rfl
          have HRA := Lib.hid hra
          clear hra
          go_wp2_with fail
          clear hb x0 x1 x3 xB xR ta
          go_loopw [72] (fun i wr => ∃ m : Nat, m ≤ row.length ∧ i = .int .i64 m ∧ Hid (validA t a ac nx = ((row.drop m).all (fun v => inB v (-1) ((ac.length : Int) - 1)) && ((rows.drop (k + 1)).all (rowOk a ac.length) && statesOk t a ac.length ac nx (j + 1)))) ∧ Hid (Below w0.heap.size w0 wr)) (fun i _ => row.length - (intOf i).toNat)
          case atStart => exact ⟨0, Nat.zero_le _, rfl, HE, hB2⟩
          case round =>
            obtain ⟨m, hm, rfl, hq, hB3⟩ := hrel
            clear HE hB2
            have hb := hB3.out
            by_cases hml : m < row.length
            · obtain ⟨yv, zv, _, rfl, hatv⟩ := HROW.out (by rintro rfl; simp at hml)
              have cv := hatv m row[m] (List.getElem?_eq_getElem hml)
              have hst := all_drop (f := fun v => inB v (-1) ((ac.length : Int) - 1)) hml
              obtain ⟨v, hv⟩ : ∃ v, v = row[m] := ⟨_, rfl⟩
              rw [← hv] at cv hst
              have xv := kc hb cv
              have HV := Lib.hid hv; have HATV := Lib.hid hatv
              have m0 : (0 : Int) ≤ (m : Int) := Int.natCast_nonneg _
              have m1 : (m : Int) < (row.length : Int) := by omega
              have HST : Hid (validA t a ac nx = ((decide (v = -1) || belowB v ac.length) && ((row.drop (m + 1)).all (fun v => inB v (-1) ((ac.length : Int) - 1)) && ((rows.drop (k + 1)).all (rowOk a ac.length) && statesOk t a ac.length ac nx (j + 1))))) := by
                show _ = _
                rw [hq.out, hst, inB_below, Bool.and_assoc]
              clear hv hatv hst hq
              by_cases hv1 : v = -1
              · have tv : (v != -1) = false := by simp [hv1]
                have HE : Hid (validA t a ac nx = ((row.drop (m + 1)).all (fun v => inB v (-1) ((ac.length : Int) - 1)) && ((rows.drop (k + 1)).all (rowOk a ac.length) && statesOk t a ac.length ac nx (j + 1)))) := by show _ = _; rw [HST.out, decide_eq_true hv1]; rfl
                clear hv1
                go_wp2_with fail
                go_roundw
                case rel => exact ⟨m + 1, by omega, by go_num, HE, hB3⟩
                case measure => simp [intOf]; omega
              have tv : (v != -1) = true := by rw [bne_iff_ne]; exact hv1
              obtain ⟨q3, hq3⟩ : ∃ q3 : Bool, q3 = belowB v ac.length := ⟨_, rfl⟩
              have K3 : Hid (∀ W : World, Calls Tryd.prog 68 #[.int .i64 v, .int .i64 (ac.length : Int)] W fun e w' => e = .returned (.bool q3) ∧ Below W.heap.size W w') := fun W => (below_any v ac.length W).mono fun e w' h => ⟨by rw [hq3]; exact h.1, by rw [← h.2]; exact Below.refl _ _⟩
              have HST2 : Hid (validA t a ac nx = (q3 && ((row.drop (m + 1)).all (fun v => inB v (-1) ((ac.length : Int) - 1)) && ((rows.drop (k + 1)).all (rowOk a ac.length) && statesOk t a ac.length ac nx (j + 1))))) := by
                show _ = _
                rw [HST.out, decide_eq_false hv1, hq3]
                rfl
              clear hv1 HST hq3
              cases q3
              · have HE : Hid (validA t a ac nx = false) := by show _ = _; rw [HST2.out]; rfl
                go_wp2_with fail
                refine (K3.out _).mono ?_
                rintro e w1 ⟨rfl, hb1⟩
                have hb2 := hb.trans (hb1.mono hb.size)
                clear hb hb1
                go_wp2_with fail
                go_ret
                exact ⟨ret_bool HE.out.symm, FIN.out _ hb2⟩
              · have HE : Hid (validA t a ac nx = ((row.drop (m + 1)).all (fun v => inB v (-1) ((ac.length : Int) - 1)) && ((rows.drop (k + 1)).all (rowOk a ac.length) && statesOk t a ac.length ac nx (j + 1)))) := by show _ = _; rw [HST2.out]; rfl
                go_wp2_with fail
                refine (K3.out _).mono ?_
                rintro e w1 ⟨rfl, hb1⟩
                have hb2 := Lib.hid (hb.trans (hb1.mono hb.size))
                clear hb hb1 xv
                go_wp2_with fail
                go_roundw
                case rel => exact ⟨m + 1, by omega, by go_num, HE, hb2⟩
                case measure => simp [intOf]; omega
            · obtain rfl : m = row.length := by omega
              have HE : Hid (validA t a ac nx = ((rows.drop (k + 1)).all (rowOk a ac.length) && statesOk t a ac.length ac nx (j + 1))) := by
                show _ = _
                rw [hq.out, List.drop_length]
                rfl
              clear hq
              go_wp2_with fail
              go_roundw
              case rel => exact ⟨k + 1, by omega, by go_num, HE, hB3⟩
              case measure => simp [intOf]; omega
        · obtain rfl : k = rows.length := by omega
          have HE : Hid (validA t a ac nx = statesOk t a ac.length ac nx (j + 1)) := by
            show _ = _
            rw [hq.out, List.drop_length]
            rfl
          clear hq
          go_wp2_with fail
          go_roundw
          case rel => exact ⟨j + 1, by omega, by go_num, HE, hB2⟩
          case measure => simp [intOf]; omega
    · obtain rfl : j = nx.length := by omega
      have HE : Hid (validA t a ac nx = true) := by show _ = _; rw [hq.out, HN.out, statesOk_end]
      clear hq
      go_wp2_with fail
      go_ret
      exact ⟨ret_bool HE.out.symm, FIN.out _ hB'.out⟩
end Go.Proofs.YtlaebkhmefnmnaaDoor
