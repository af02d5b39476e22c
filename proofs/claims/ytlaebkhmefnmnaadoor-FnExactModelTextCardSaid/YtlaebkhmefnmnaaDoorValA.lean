/- Contracts of spec.l02Ok, spec.ValidAutomaton. -/
import Derived.Test.YtlaebkhmefnmnaaDoorValAD
import Derived.Test.YtlaebkhmefnmnaaDoorQuietC
import Derived.Deep.RegionHeld3
import Derived.Deep.DrawnRows
namespace Go.Proofs.YtlaebkhmefnmnaaDoor
open Go.RowKit
attribute [local go_sem ↓] Go.wp_at_zero Go.wp_at_succ

set_option maxHeartbeats 4000000 in
set_option maxRecDepth 100000 in
theorem l02Ok_any (t a : Int) (ac : List (List Bool)) (nx : List (List (List Int))) (hs : SmallA ac nx) (A B : Option Addr) (C D : Nat) (b : Nat) (w : World) (hA : BB 0 w ac A) (hB : III 0 w nx B)
    (g0 : w.cell? ⟨b, 0, none⟩ = some (.int .i64 t)) (g1 : w.cell? ⟨b, 1, none⟩ = some (.int .i64 a)) (g2 : w.cell? ⟨b, 2, none⟩ = some (.slice A ac.length C)) (g3 : w.cell? ⟨b, 3, none⟩ = some (.slice B nx.length D)) :
    Calls Tryd.prog 38 #[.pointer (some ⟨b, 0, none⟩)] w fun e w' => e = .returned (.bool (validA t a ac nx)) ∧ Below w.heap.size w w' := by
  obtain ⟨f1, f2, f3, f4⟩ := hs
  obtain ⟨q1, hq1⟩ : ∃ q1 : Bool, q1 = sigOk t a := ⟨_, rfl⟩
  have K1 : Hid (∀ W : World, Calls Tryd.prog 62 #[.agg #[.int .i64 t, .int .i64 a]] W fun e w' => e = .returned (.bool q1) ∧ Below W.heap.size W w') := fun W => by rw [hq1]; exact l01Sig_any t a W
  obtain ⟨q2, hq2⟩ : ∃ q2 : Bool, q2 = inB ac.length 1 60 := ⟨_, rfl⟩
  have K2 : Hid (∀ W : World, Calls Tryd.prog 63 #[.int .i64 ac.length, .int .i64 1, .int .i64 60] W fun e w' => e = .returned (.bool q2) ∧ Below W.heap.size W w') := fun W => (in_any ac.length 1 60 W).mono fun e w' h => ⟨by rw [hq2]; exact h.1, by rw [← h.2]; exact Below.refl _ _⟩
  have HA := Lib.hid hA; have HB := Lib.hid hB; have HF := Lib.hid (And.intro f2 f4)
  clear hA hB f2 f4
  cases q1
  · have HD : Hid (validA t a ac nx = false) := by show _ = _; unfold validA; rw [← hq1]; rfl
    clear hq1 hq2
    go_enter Tryd.func38, Tryd.ntmps38
    go_wp2_with fail
    refine (K1.out _).mono ?_
    rintro e w1 ⟨rfl, hb⟩
    go_wp2_with fail
    go_ret
    exact ⟨ret_bool HD.out.symm, hb⟩
  cases q2
  · have HD : Hid (validA t a ac nx = false) := by show _ = _; unfold validA; rw [← hq1, ← hq2]; rfl
    clear hq1 hq2
    go_enter Tryd.func38, Tryd.ntmps38
    go_wp2_with fail
    refine (K1.out _).mono ?_
    rintro e w1 ⟨rfl, hb⟩
    go_wp2_with fail
    refine (K2.out _).mono ?_
    rintro e w2 ⟨rfl, hb2⟩
    have hb3 := hb.trans (hb2.mono hb.size)
    clear hb hb2
    go_wp2_with fail
    go_ret
    exact ⟨ret_bool HD.out.symm, hb3⟩
  by_cases hlen : nx.length = ac.length
  case neg =>
    have HD : Hid (validA t a ac nx = false) := by show _ = _; unfold validA; rw [← hq1, ← hq2, decide_eq_false hlen]; rfl
    have tn : ((nx.length : Int) != (ac.length : Int)) = true := by rw [bne_iff_ne]; omega
    clear hq1 hq2 hlen
    go_enter Tryd.func38, Tryd.ntmps38
    go_wp2_with fail
    refine (K1.out _).mono ?_
    rintro e w1 ⟨rfl, hb⟩
    go_wp2_with fail
    refine (K2.out _).mono ?_
    rintro e w2 ⟨rfl, hb2⟩
    have hb3 := hb.trans (hb2.mono hb.size)
    have x3 := kc hb3 g3
    clear hb hb2
    go_wp2_with fail
    go_ret
    exact ⟨ret_bool HD.out.symm, hb3⟩
  have HD : Hid (validA t a ac nx = statesOk t a ac.length ac nx 0) := by show _ = _; unfold validA; rw [← hq1, ← hq2, decide_eq_true hlen]; rfl
  have tn : ((nx.length : Int) != (ac.length : Int)) = false := by simp [hlen]
  have hn60 : 1 ≤ ac.length ∧ ac.length ≤ 60 := by
    have h := hq2.symm
    unfold inB at h
    simp at h
    omega
  have hsg := sigOk_of hq1.symm
  obtain ⟨na, hna, hn1, hn8⟩ : ∃ na : Int, Hid (na = atomsN t) ∧ 1 ≤ na ∧ na ≤ 8 := ⟨_, rfl, (atomsN_bd t).1, (atomsN_bd t).2⟩
  have KA : Hid (∀ W : World, Calls Tryd.prog 64 #[.agg #[.int .i64 t, .int .i64 a]] W fun e w' => e = .returned (.int .i64 na) ∧ Below W.heap.size W w') := fun W => by rw [hna.out]; exact atoms_any t a W hsg.1 hsg.2.1
  obtain ⟨yA, zA, _, rfl, hatA⟩ := HA.out (by rintro rfl; simp at hn60)
  obtain ⟨yB, zB, _, rfl, hatB⟩ := HB.out (by intro h; rw [h] at hlen; simp only [List.length_nil] at hlen; omega)
  have HatA := Lib.hid hatA; have HatB := Lib.hid hatB
  have HN := Lib.hid hlen
  have wn : IntKind.i64.wrap ((ac.length : Int) - 1) = (ac.length : Int) - 1 := IntWalk.i64_in _ (by omega)
  clear hatA hatB hlen hq1 hq2 hsg HA HB
  go_enter Tryd.func38, Tryd.ntmps38
  go_wp2_with fail
  refine (K1.out _).mono ?_
  rintro e w1 ⟨rfl, hb⟩
  go_wp2_with fail
  refine (K2.out _).mono ?_
  rintro e w2 ⟨rfl, hb2⟩
  have hb3 := hb.trans (hb2.mono hb.size)
  have x3 := kc hb3 g3
  clear hb hb2
  go_wp2_with fail
  have HB3 := Lib.hid hb3; clear hb3 x3 tn
  go_loopw [4] (fun i wr => ∃ j : Nat, j ≤ ac.length ∧ i = .int .i64 j ∧ Hid (validA t a ac nx = statesOk t a ac.length ac nx j) ∧ Hid (Below w.heap.size w wr)) (fun i _ => ac.length - (intOf i).toNat)
  case atStart => exact ⟨0, Nat.zero_le _, rfl, HD, HB3⟩
  case round =>
    obtain ⟨j, hj, rfl, hq, hB'⟩ := hrel
    clear HD HB3
    by_cases hjl : j < ac.length
    · have hjn : j < nx.length := by rw [HN.out]; exact hjl
      obtain ⟨Aj, Cj, cA, _⟩ := HatA.out j ac[j] (List.getElem?_eq_getElem hjl)
      obtain ⟨Bj, Dj, cB, hRows⟩ := HatB.out j nx[j] (List.getElem?_eq_getElem hjn)
      have hst := statesOk_step (t := t) (a := a) (n := ac.length) hjl hjn
      have hfx := HF.out.1 ac[j] (List.getElem_mem hjl)
      have hfr := HF.out.2 nx[j] (List.getElem_mem hjn)
      obtain ⟨x, hx⟩ : ∃ x, x = ac[j] := ⟨_, rfl⟩
      obtain ⟨rows, hr⟩ : ∃ rows, rows = nx[j] := ⟨_, rfl⟩
      rw [← hx] at cA hst hfx
      rw [← hr] at cB hRows hst hfr
      have hb := hB'.out
      have x0 := kc hb g0; have x1 := kc hb g1; have x2 := kc hb g2; have x3 := kc hb g3
      have xA := kc hb cA; have xB := kc hb cB
      have HX := Lib.hid (And.intro hx hr)
      have HST : Hid (validA t a ac nx = (stateOk t a ac.length x rows && statesOk t a ac.length ac nx (j + 1))) := hq.out.trans hst
      have HROWS := Lib.hid hRows; have HFR := Lib.hid hfr
      have j0 : (0 : Int) ≤ (j : Int) := Int.natCast_nonneg _
      have j1 : (j : Int) < (ac.length : Int) := by omega
      have j2 : (j : Int) < (nx.length : Int) := by omega
      clear hx hr hst hq hRows hfr
      by_cases hax : (x.length : Int) = na
      case neg =>
        have ta : ((x.length : Int) != na) = true := by rw [bne_iff_ne]; exact hax
        have HE : Hid (validA t a ac nx = false) := by show _ = _; rw [HST.out]; unfold stateOk; rw [← hna.out, decide_eq_false hax]; rfl
        clear hax
        go_wp2_with fail
        refine wp_region_quietC w [(b, 0, .int .i64 t), (b, 1, .int .i64 a), (b, 2, .slice (some ⟨yA, zA, none⟩) ac.length C), (b, 3, .slice (some ⟨yB, zB, none⟩) nx.length D), (yA, zA + j, .slice Aj x.length Cj), (yB, zB + j, .slice Bj rows.length Dj)] (by kernel_rfl) (by kernel_rfl) ⟨hb, x0, x1, x2, x3, xA, xB, trivial⟩ ?_
        repeat (first | go_big_quiet_skip | (go_big_quiet_want; apply Exists.intro; refine ⟨fun W hW => ?_, ?_⟩; focus (have hK := Lib.hid hW; obtain ⟨hs, hc⟩ := hW; simp only [Has, and_true] at hc; go_simp; (first | rfl | exact ⟨rfl, rfl⟩ | exact quietC_call hK.out (KA.out _)))) | (go_simp; go_big_quiet_on))
        refine wpQuiet_nil ?_
        intro w1 H1
        have hb1 : Below w.heap.size w w1 := H1.1
        clear hb x0 x1 x2 x3 xA xB H1
        go_wp2_with fail
        go_ret
        exact ⟨ret_bool HE.out.symm, hb1⟩
      have ta : ((x.length : Int) != na) = false := by simp [hax]
      by_cases har : (rows.length : Int) = na
      case neg =>
        have tb : ((rows.length : Int) != na) = true := by rw [bne_iff_ne]; exact har
        have HE : Hid (validA t a ac nx = false) := by show _ = _; rw [HST.out]; unfold stateOk; rw [← hna.out, decide_eq_false har]; simp
        clear hax har
        go_wp2_with fail
        refine wp_region_quietC w [(b, 0, .int .i64 t), (b, 1, .int .i64 a), (b, 2, .slice (some ⟨yA, zA, none⟩) ac.length C), (b, 3, .slice (some ⟨yB, zB, none⟩) nx.length D), (yA, zA + j, .slice Aj x.length Cj), (yB, zB + j, .slice Bj rows.length Dj)] (by kernel_rfl) (by kernel_rfl) ⟨hb, x0, x1, x2, x3, xA, xB, trivial⟩ ?_
        repeat (first | go_big_quiet_skip | (go_big_quiet_want; apply Exists.intro; refine ⟨fun W hW => ?_, ?_⟩; focus (have hK := Lib.hid hW; obtain ⟨hs, hc⟩ := hW; simp only [Has, and_true] at hc; go_simp; (first | rfl | exact ⟨rfl, rfl⟩ | exact quietC_call hK.out (KA.out _)))) | (go_simp; go_big_quiet_on))
        refine wpQuiet_nil ?_
        intro w1 H1
        have hb1 : Below w.heap.size w w1 := H1.1
        clear hb x0 x1 x2 x3 xA xB H1
        go_wp2_with fail
        go_ret
        exact ⟨ret_bool HE.out.symm, hb1⟩
      have tb : ((rows.length : Int) != na) = false := by simp [har]
      have HE : Hid (validA t a ac nx = ((rows.drop 0).all (rowOk a ac.length) && statesOk t a ac.length ac nx (j + 1))) := by
        show _ = _
        rw [HST.out]
        unfold stateOk
        rw [← hna.out, decide_eq_true hax, decide_eq_true har, List.drop_zero]
        rfl
      have hrl : rows.length ≤ 8 := by omega
      clear hax har
      go_wp2_with fail
      refine wp_region_quietC w [(b, 0, .int .i64 t), (b, 1, .int .i64 a), (b, 2, .slice (some ⟨yA, zA, none⟩) ac.length C), (b, 3, .slice (some ⟨yB, zB, none⟩) nx.length D), (yA, zA + j, .slice Aj x.length Cj), (yB, zB + j, .slice Bj rows.length Dj)] (by kernel_rfl) (by kernel_rfl) ⟨hb, x0, x1, x2, x3, xA, xB, trivial⟩ ?_
      repeat (first | go_big_quiet_skip | (go_big_quiet_want; apply Exists.intro; refine ⟨fun W hW => ?_, ?_⟩; focus (have hK := Lib.hid hW; obtain ⟨hs, hc⟩ := hW; simp only [Has, and_true] at hc; go_simp; (first | rfl | exact ⟨rfl, rfl⟩ | exact quietC_call hK.out (KA.out _)))) | (go_simp; go_big_quiet_on))
      refine wpQuiet_nil ?_
      intro w1 H1
      have hb1 : Below w.heap.size w w1 := H1.1
      clear hb x0 x1 x2 x3 xA xB H1
      have HB1 := Lib.hid hb1; clear hb1 ta tb
      go_wp2_with fail
      go_loopw [5] (fun i wr => ∃ k : Nat, k ≤ rows.length ∧ i = .int .i64 k ∧ Hid (validA t a ac nx = ((rows.drop k).all (rowOk a ac.length) && statesOk t a ac.length ac nx (j + 1))) ∧ Hid (Below w.heap.size w wr)) (fun i _ => rows.length - (intOf i).toNat)
      case atStart => exact ⟨0, Nat.zero_le _, rfl, HE, HB1⟩
      case round =>
        obtain ⟨k, hk, rfl, hq, hB2⟩ := hrel
        clear HE HB1 hB'
        have hb := hB2.out
        have x0 := kc hb g0; have x1 := kc hb g1; have x3 := kc hb g3
        have xB := kc hb cB
        by_cases hkl : k < rows.length
        · obtain ⟨yR, zR, _, rfl, hatR⟩ := HROWS.out (by rintro rfl; simp at hkl)
          obtain ⟨Rk, Ek, cR, hrow⟩ := hatR k rows[k] (List.getElem?_eq_getElem hkl)
          have hst := all_drop (f := rowOk a ac.length) hkl
          have hfw := HFR.out.2 rows[k] (List.getElem_mem hkl)
          obtain ⟨row, hr⟩ : ∃ row, row = rows[k] := ⟨_, rfl⟩
          rw [← hr] at cR hrow hst hfw
          have xR := kc hb cR
          have HR := Lib.hid hr; have HROW := Lib.hid hrow; have HATR := Lib.hid hatR
          have HST : Hid (validA t a ac nx = (rowOk a ac.length row && ((rows.drop (k + 1)).all (rowOk a ac.length) && statesOk t a ac.length ac nx (j + 1)))) := by
            show _ = _
            rw [hq.out, hst, Bool.and_assoc]
          have k0 : (0 : Int) ≤ (k : Int) := Int.natCast_nonneg _
          have k1 : (k : Int) < (rows.length : Int) := by omega
          clear hr hrow hatR hst hq
          by_cases hra : (row.length : Int) = a
          case neg =>
            have ta : ((row.length : Int) != a) = true := by rw [bne_iff_ne]; exact hra
            have HE : Hid (validA t a ac nx = false) := by show _ = _; rw [HST.out]; unfold rowOk; rw [decide_eq_false hra]; rfl
            clear hra
            go_wp2_with fail
            go_region_held3 (fun w' => w'.cell? ⟨b, 1, none⟩ = some (.int .i64 a) ∧ w'.cell? ⟨b, 3, none⟩ = some (.slice (some ⟨yB, zB, none⟩) nx.length D) ∧ w'.cell? ⟨yB, zB + j, none⟩ = some (.slice (some ⟨yR, zR, none⟩) rows.length Dj) ∧ w'.cell? ⟨yR, zR + k, none⟩ = some (.slice Rk row.length Ek)) (go_keep) (fail)
            go_wp2_with fail
            go_ret
            exact ⟨ret_bool HE.out.symm, hb.drew⟩
          have ta : ((row.length : Int) != a) = false := by simp [hra]
          have HE : Hid (validA t a ac nx = ((row.drop 0).all (fun v => inB v (-1) ((ac.length : Int) - 1)) && ((rows.drop (k + 1)).all (rowOk a ac.length) && statesOk t a ac.length ac nx (j + 1)))) := by
            show _ = _
            rw [HST.out]
            unfold rowOk
            rw [decide_eq_true hra, List.drop_zero]
            rfl
          have HRA := Lib.hid hra
          clear hra
          go_wp2_with fail
          go_region_held3 (fun w' => w'.cell? ⟨b, 1, none⟩ = some (.int .i64 a) ∧ w'.cell? ⟨b, 3, none⟩ = some (.slice (some ⟨yB, zB, none⟩) nx.length D) ∧ w'.cell? ⟨yB, zB + j, none⟩ = some (.slice (some ⟨yR, zR, none⟩) rows.length Dj) ∧ w'.cell? ⟨yR, zR + k, none⟩ = some (.slice Rk row.length Ek)) (go_keep) (fail)
          have HB4 : Hid (Below w.heap.size w wr.drew) := hb.drew
          clear hb x0 x1 x3 xB xR ta
          go_wp2_with fail
          go_loopw [6] (fun i wr => ∃ m : Nat, m ≤ row.length ∧ i = .int .i64 m ∧ Hid (validA t a ac nx = ((row.drop m).all (fun v => inB v (-1) ((ac.length : Int) - 1)) && ((rows.drop (k + 1)).all (rowOk a ac.length) && statesOk t a ac.length ac nx (j + 1)))) ∧ Hid (Below w.heap.size w wr)) (fun i _ => row.length - (intOf i).toNat)
          case atStart => exact ⟨0, Nat.zero_le _, rfl, HE, HB4⟩
          case round =>
            obtain ⟨m, hm, rfl, hq, hB3⟩ := hrel
            clear HE HB4 hB2
            have hb := hB3.out
            have x3 := kc hb g3
            have xB := kc hb cB
            have xR := kc hb cR
            by_cases hml : m < row.length
            · obtain ⟨yv, zv, _, rfl, hatv⟩ := HROW.out (by rintro rfl; simp at hml)
              have cv := hatv m row[m] (List.getElem?_eq_getElem hml)
              have hst := all_drop (f := fun v => inB v (-1) ((ac.length : Int) - 1)) hml
              obtain ⟨v, hv⟩ : ∃ v, v = row[m] := ⟨_, rfl⟩
              rw [← hv] at cv hst
              have xv := kc hb cv
              have HV := Lib.hid hv; have HATV := Lib.hid hatv
              have m0 : (0 : Int) ≤ (m : Int) := Int.natCast_nonneg _
              have m1 : (m : Int) < (row.length : Int) := by omega
              obtain ⟨q3, hq3⟩ : ∃ q3 : Bool, q3 = inB v (-1) ((ac.length : Int) - 1) := ⟨_, rfl⟩
              have K3 : Hid (∀ W : World, Calls Tryd.prog 63 #[.int .i64 v, .int .i64 (-1), .int .i64 ((ac.length : Int) - 1)] W fun e w' => e = .returned (.bool q3) ∧ Below W.heap.size W w') := fun W => (in_any v (-1) ((ac.length : Int) - 1) W).mono fun e w' h => ⟨by rw [hq3]; exact h.1, by rw [← h.2]; exact Below.refl _ _⟩
              have HST : Hid (validA t a ac nx = (q3 && ((row.drop (m + 1)).all (fun v => inB v (-1) ((ac.length : Int) - 1)) && ((rows.drop (k + 1)).all (rowOk a ac.length) && statesOk t a ac.length ac nx (j + 1))))) := by
                show _ = _
                rw [hq.out, hst, hq3, Bool.and_assoc]
              clear hv hatv hst hq hq3
              cases q3
              · have HE : Hid (validA t a ac nx = false) := by show _ = _; rw [HST.out]; rfl
                go_wp2_with fail
                refine (K3.out _).mono ?_
                rintro e w1 ⟨rfl, hb1⟩
                have hb2 := hb.trans (hb1.mono hb.size)
                clear hb hb1
                go_wp2_with fail
                go_ret
                exact ⟨ret_bool HE.out.symm, hb2⟩
              · have HE : Hid (validA t a ac nx = ((row.drop (m + 1)).all (fun v => inB v (-1) ((ac.length : Int) - 1)) && ((rows.drop (k + 1)).all (rowOk a ac.length) && statesOk t a ac.length ac nx (j + 1)))) := by show _ = _; rw [HST.out]; rfl
                go_wp2_with fail
                refine (K3.out _).mono ?_
                rintro e w1 ⟨rfl, hb1⟩
                have hb2 := Lib.hid (hb.trans (hb1.mono hb.size))
                clear hb hb1 x3 xB xR xv
                go_wp2_with fail
                go_roundw
                case rel => exact ⟨m + 1, by omega, by go_num, HE, hb2⟩
                case measure => simp [intOf]; omega
            · obtain rfl : m = row.length := by omega
              have HE : Hid (validA t a ac nx = ((rows.drop (k + 1)).all (rowOk a ac.length) && statesOk t a ac.length ac nx (j + 1))) := by
                show _ = _
                rw [hq.out, List.drop_length]
                rfl
              clear hq
              go_wp2_with fail
              go_roundw
              case rel => exact ⟨k + 1, by omega, by go_num, HE, hB3⟩
              case measure => simp [intOf]; omega
        · obtain rfl : k = rows.length := by omega
          have HE : Hid (validA t a ac nx = statesOk t a ac.length ac nx (j + 1)) := by
            show _ = _
            rw [hq.out, List.drop_length]
            rfl
          clear hq
          go_wp2_with fail
          go_roundw
          case rel => exact ⟨j + 1, by omega, by go_num, HE, hB2⟩
          case measure => simp [intOf]; omega
    · obtain rfl : j = ac.length := by omega
      have HE : Hid (validA t a ac nx = true) := by show _ = _; rw [hq.out, statesOk_end]
      clear hq
      go_wp2_with fail
      go_ret
      exact ⟨ret_bool HE.out.symm, hB'.out⟩
end Go.Proofs.YtlaebkhmefnmnaaDoor
