/- Contracts of spec.l05CostsOk, spec.ValidCosts. -/
import Derived.Test.YtlmbcggfoaaibaaVMS
namespace Go.Proofs.Ytlmbcggfoaaibaa
open Go.RowKit
attribute [local go_sem ↓] Go.wp_at_zero Go.wp_at_succ

set_option maxHeartbeats 4000000 in
set_option maxRecDepth 100000 in
theorem l05CostsOk_any (t a p : Int) (ac : List (List Bool)) (nx : List (List (List Int))) (hs : SmallA ac nx) (A B : Option Addr) (C D : Nat) (b : Nat) (w : World) (hA : BB 0 w ac A) (hB : III 0 w nx B)
    (g0 : w.cell? ⟨b, 0, none⟩ = some (.int .i64 t)) (g1 : w.cell? ⟨b, 1, none⟩ = some (.int .i64 a)) (g2 : w.cell? ⟨b, 2, none⟩ = some (.int .i64 p)) (g3 : w.cell? ⟨b, 3, none⟩ = some (.slice A ac.length C)) (g4 : w.cell? ⟨b, 4, none⟩ = some (.slice B nx.length D)) :
    Calls Try.prog 69 #[.pointer (some ⟨b, 0, none⟩)] w fun e w' => e = .returned (.bool (validC t a p ac nx)) ∧ Below w.heap.size w w' := by
  obtain ⟨f1, f2, f3, f4⟩ := hs
  obtain ⟨q1, hq1⟩ : ∃ q1 : Bool, q1 = validT t a p ac := ⟨_, rfl⟩
  have K1 : Hid (∀ W : World, Sees w W → Calls Try.prog 107 #[.agg #[.int .i64 t, .int .i64 a], .int .i64 p, .slice A ac.length C] W fun e w' => e = .returned (.bool q1) ∧ Below W.heap.size W w') := fun W h => by rw [hq1]; exact l05Tests_any t a p ac f1 f2 A C W (bb_ok.below hA h)
  have HB := Lib.hid hB; have HF := Lib.hid f4
  clear hA hB f2 f4
  cases q1
  · have HD : Hid (validC t a p ac nx = false) := by show _ = _; unfold validC; rw [← hq1]; rfl
    clear hq1
    go_enter Try.func69, Try.ntmps69
    go_wp2_with fail
    refine wp_region_quietC w [(b, 0, .int .i64 t), (b, 1, .int .i64 a), (b, 2, .int .i64 p), (b, 3, .slice A ac.length C), (b, 4, .slice B nx.length D)] (by kernel_rfl) (by kernel_rfl) ⟨Below.refl _ _, g0, g1, g2, g3, g4, trivial⟩ ?_
    repeat (first | go_big_quiet_skip | (go_big_quiet_want; apply Exists.intro; refine ⟨fun W hW => ?_, ?_⟩; focus (have hK := Lib.hid hW; obtain ⟨hs, hc⟩ := hW; simp only [Has, and_true] at hc; go_simp; (first | rfl | exact ⟨rfl, rfl⟩ | exact quietC_call hK.out (K1.out _ hs)))) | (go_simp; go_big_quiet_on))
    refine wpQuiet_nil ?_
    intro w1 H1
    have hb : Below w.heap.size w w1 := H1.1
    clear H1
    go_wp2_with fail
    go_ret
    exact ⟨ret_bool HD.out.symm, hb⟩
  have HBD := Lib.hid (validT_bd hq1.symm)
  by_cases hlen : (nx.length : Int) = a
  case neg =>
    have HD : Hid (validC t a p ac nx = false) := by show _ = _; unfold validC; rw [← hq1, decide_eq_false hlen]; rfl
    have tn : ((nx.length : Int) != a) = true := by rw [bne_iff_ne]; exact hlen
    clear hq1 hlen
    go_enter Try.func69, Try.ntmps69
    go_wp2_with fail
    refine wp_region_quietC w [(b, 0, .int .i64 t), (b, 1, .int .i64 a), (b, 2, .int .i64 p), (b, 3, .slice A ac.length C), (b, 4, .slice B nx.length D)] (by kernel_rfl) (by kernel_rfl) ⟨Below.refl _ _, g0, g1, g2, g3, g4, trivial⟩ ?_
    repeat (first | go_big_quiet_skip | (go_big_quiet_want; apply Exists.intro; refine ⟨fun W hW => ?_, ?_⟩; focus (have hK := Lib.hid hW; obtain ⟨hs, hc⟩ := hW; simp only [Has, and_true] at hc; go_simp; (first | rfl | exact ⟨rfl, rfl⟩ | exact quietC_call hK.out (K1.out _ hs)))) | (go_simp; go_big_quiet_on))
    refine wpQuiet_nil ?_
    intro w1 H1
    have hb : Below w.heap.size w w1 := H1.1
    clear H1
    go_wp2_with fail
    go_ret
    exact ⟨ret_bool HD.out.symm, hb⟩
  have HD : Hid (validC t a p ac nx = allF (actC p) nx 0) := by show _ = _; unfold validC; rw [← hq1, decide_eq_true hlen, allF_zero]; rfl
  have tn : ((nx.length : Int) != a) = false := by simp [hlen]
  have hn4 : nx.length ≤ 4 := by have := HBD.out; omega
  clear hq1 hlen
  go_enter Try.func69, Try.ntmps69
  go_wp2_with fail
  refine wp_region_quietC w [(b, 0, .int .i64 t), (b, 1, .int .i64 a), (b, 2, .int .i64 p), (b, 3, .slice A ac.length C), (b, 4, .slice B nx.length D)] (by kernel_rfl) (by kernel_rfl) ⟨Below.refl _ _, g0, g1, g2, g3, g4, trivial⟩ ?_
  repeat (first | go_big_quiet_skip | (go_big_quiet_want; apply Exists.intro; refine ⟨fun W hW => ?_, ?_⟩; focus (have hK := Lib.hid hW; obtain ⟨hs, hc⟩ := hW; simp only [Has, and_true] at hc; go_simp; (first | rfl | exact ⟨rfl, rfl⟩ | exact quietC_call hK.out (K1.out _ hs)))) | (go_simp; go_big_quiet_on))
  refine wpQuiet_nil ?_
  intro w1 H1
  have hb : Below w.heap.size w w1 := H1.1
  have x4 := kc hb g4
  clear H1
  go_wp2_with fail
  have HB3 := Lib.hid hb; clear hb x4 tn
  go_loopw [3] (fun i wr => ∃ j : Nat, j ≤ nx.length ∧ i = .int .i64 j ∧ Hid (validC t a p ac nx = allF (actC p) nx j) ∧ Hid (Below w.heap.size w wr)) (fun i _ => nx.length - (intOf i).toNat)
  case atStart => exact ⟨0, Nat.zero_le _, rfl, HD, HB3⟩
  case round =>
    obtain ⟨j, hj, rfl, hq, hB'⟩ := hrel
    clear HD HB3
    by_cases hjn : j < nx.length
    · obtain ⟨yB, zB, _, rfl, hatB⟩ := HB.out (by rintro rfl; simp at hjn)
      obtain ⟨Bj, Dj, cB, hRows⟩ := hatB j nx[j] (List.getElem?_eq_getElem hjn)
      have hst := allF_step (actC p) nx hjn
      have hfr := HF.out nx[j] (List.getElem_mem hjn)
      obtain ⟨rows, hr⟩ : ∃ rows, rows = nx[j] := ⟨_, rfl⟩
      rw [← hr] at cB hRows hst hfr
      have hb := hB'.out
      have x2 := kc hb g2; have x4 := kc hb g4; have xB := kc hb cB
      have HAT := Lib.hid hatB; have HR := Lib.hid hr; have HROWS := Lib.hid hRows; have HFR := Lib.hid hfr; have HCB := Lib.hid cB
      have HST : Hid (validC t a p ac nx = (actC p rows && allF (actC p) nx (j + 1))) := hq.out.trans hst
      have j0 : (0 : Int) ≤ (j : Int) := Int.natCast_nonneg _
      have j1 : (j : Int) < (nx.length : Int) := by omega
      have hrl := hfr.1
      clear hatB hr hst hq hRows hfr cB
      by_cases hrp : (rows.length : Int) = p
      case neg =>
        have tb : ((rows.length : Int) != p) = true := by rw [bne_iff_ne]; exact hrp
        have HE : Hid (validC t a p ac nx = false) := by show _ = _; rw [HST.out]; unfold actC; rw [isRow_neg hrp]; rfl
        clear hrp
        go_wp2_with fail
        go_region_held3 (fun w' => Sees w w' ∧ w'.cell? ⟨b, 2, none⟩ = some (.int .i64 p) ∧ w'.cell? ⟨b, 4, none⟩ = some (.slice (some ⟨yB, zB, none⟩) nx.length D) ∧ w'.cell? ⟨yB, zB + j, none⟩ = some (.slice Bj rows.length Dj) ∧ True) (first | exact ⟨Sees.drew hb, x2, x4, xB, trivial⟩ | (go_keep; done)) (fail)
        go_wp2_with fail
        go_ret
        exact ⟨ret_bool HE.out.symm, Below.drew hb⟩
      have tb : ((rows.length : Int) != p) = false := by simp [hrp]
      have HE : Hid (validC t a p ac nx = (allF (rowV p) rows 0 && allF (actC p) nx (j + 1))) := by
        show _ = _
        rw [HST.out]
        unfold actC
        rw [isRow_pos hrp, allF_zero]
        rfl
      have HRP := Lib.hid hrp
      clear hrp HST
      go_wp2_with fail
      go_region_held3 (fun w' => Sees w w' ∧ w'.cell? ⟨b, 2, none⟩ = some (.int .i64 p) ∧ w'.cell? ⟨b, 4, none⟩ = some (.slice (some ⟨yB, zB, none⟩) nx.length D) ∧ w'.cell? ⟨yB, zB + j, none⟩ = some (.slice Bj rows.length Dj) ∧ True) (first | exact ⟨Sees.drew hb, x2, x4, xB, trivial⟩ | (go_keep; done)) (fail)
      have HB4 : Hid (Below w.heap.size w wr.drew) := Below.drew hb
      clear hb x2 x4 xB tb hB'
      go_wp2_with fail
      go_loopw [4] (fun i wr => ∃ k : Nat, k ≤ rows.length ∧ i = .int .i64 k ∧ Hid (validC t a p ac nx = (allF (rowV p) rows k && allF (actC p) nx (j + 1))) ∧ Hid (Below w.heap.size w wr)) (fun i _ => rows.length - (intOf i).toNat)
      case atStart => exact ⟨0, Nat.zero_le _, rfl, HE, HB4⟩
      case round =>
        obtain ⟨k, hk, rfl, hq, hB'⟩ := hrel
        clear HE HB4
        have hb := hB'.out
        have x2 := kc hb g2; have x4 := kc hb g4; have xB := kc hb HCB.out
        by_cases hkl : k < rows.length
        · obtain ⟨yR, zR, _, rfl, hatR⟩ := HROWS.out (by rintro rfl; simp at hkl)
          obtain ⟨Bk, Dk, cR, hRow⟩ := hatR k rows[k] (List.getElem?_eq_getElem hkl)
          have hst := allF_step (rowV p) rows hkl
          have hfr := HFR.out.2 rows[k] (List.getElem_mem hkl)
          obtain ⟨row, hrow⟩ : ∃ row, row = rows[k] := ⟨_, rfl⟩
          rw [← hrow] at cR hRow hst hfr
          have xR := kc hb cR
          have HAT2 := Lib.hid hatR; have HRW := Lib.hid hrow; have HROW := Lib.hid hRow; have HCR := Lib.hid cR
          have HST : Hid (validC t a p ac nx = (rowV p row && (allF (rowV p) rows (k + 1) && allF (actC p) nx (j + 1)))) := by
            show _ = _
            rw [hq.out, hst, Bool.and_assoc]
          have k0 : (0 : Int) ≤ (k : Int) := Int.natCast_nonneg _
          have k1 : (k : Int) < (rows.length : Int) := by omega
          clear hatR hrow hst hq hRow cR
          by_cases hrp : (row.length : Int) = p
          case neg =>
            have tb : ((row.length : Int) != p) = true := by rw [bne_iff_ne]; exact hrp
            have HE : Hid (validC t a p ac nx = false) := by show _ = _; rw [HST.out]; unfold rowV; rw [isRow_neg hrp]; rfl
            clear hrp
            go_wp2_with fail
            go_region_held3 (fun w' => Sees w w' ∧ w'.cell? ⟨b, 2, none⟩ = some (.int .i64 p) ∧ w'.cell? ⟨b, 4, none⟩ = some (.slice (some ⟨yB, zB, none⟩) nx.length D) ∧ w'.cell? ⟨yB, zB + j, none⟩ = some (.slice (some ⟨yR, zR, none⟩) rows.length Dj) ∧ w'.cell? ⟨yR, zR + k, none⟩ = some (.slice Bk row.length Dk) ∧ True) (first | exact ⟨Sees.drew hb, x2, x4, xB, xR, trivial⟩ | (go_keep; done)) (fail)
            go_wp2_with fail
            go_ret
            exact ⟨ret_bool HE.out.symm, Below.drew hb⟩
          have tb : ((row.length : Int) != p) = false := by simp [hrp]
          have HE : Hid (validC t a p ac nx = ((allF (fun v => inB v (-1) 1000) row 0 && (allF (rowV p) rows (k + 1) && allF (actC p) nx (j + 1))))) := by
            show _ = _
            rw [HST.out]
            unfold rowV
            rw [isRow_pos hrp, allF_zero]
            rfl
          clear hrp HST
          go_wp2_with fail
          go_region_held3 (fun w' => Sees w w' ∧ w'.cell? ⟨b, 2, none⟩ = some (.int .i64 p) ∧ w'.cell? ⟨b, 4, none⟩ = some (.slice (some ⟨yB, zB, none⟩) nx.length D) ∧ w'.cell? ⟨yB, zB + j, none⟩ = some (.slice (some ⟨yR, zR, none⟩) rows.length Dj) ∧ w'.cell? ⟨yR, zR + k, none⟩ = some (.slice Bk row.length Dk) ∧ True) (first | exact ⟨Sees.drew hb, x2, x4, xB, xR, trivial⟩ | (go_keep; done)) (fail)
          have HB5 : Hid (Below w.heap.size w wr.drew) := Below.drew hb
          clear hb x2 x4 xB xR tb hB'
          go_wp2_with fail
          go_loopw [5] (fun i wr => ∃ m : Nat, m ≤ row.length ∧ i = .int .i64 m ∧ Hid (validC t a p ac nx = (allF (fun v => inB v (-1) 1000) row m && (allF (rowV p) rows (k + 1) && allF (actC p) nx (j + 1)))) ∧ Hid (Below w.heap.size w wr)) (fun i _ => row.length - (intOf i).toNat)
          case atStart => exact ⟨0, Nat.zero_le _, rfl, HE, HB5⟩
          case round =>
            obtain ⟨m, hm, rfl, hq, hB'⟩ := hrel
            clear HE HB5
            have hb := hB'.out
            have x4 := kc hb g4; have xB := kc hb HCB.out; have xR := kc hb HCR.out
            by_cases hml : m < row.length
            · obtain ⟨yv, zv, _, rfl, hatv⟩ := HROW.out (by rintro rfl; simp at hml)
              have cv := hatv m row[m] (List.getElem?_eq_getElem hml)
              have hst := allF_step (fun v => inB v (-1) 1000) row hml
              obtain ⟨v, hv⟩ : ∃ v, v = row[m] := ⟨_, rfl⟩
              rw [← hv] at cv hst
              have xv := kc hb cv
              obtain ⟨q, hqe⟩ : ∃ q : Bool, q = inB v (-1) 1000 := ⟨_, rfl⟩
              have KV : Hid (∀ W : World, Calls Try.prog 75 #[.int .i64 v, .int .i64 (-1), .int .i64 1000] W fun e w' => e = .returned (.bool q) ∧ Below W.heap.size W w') := fun W => (in_any v (-1) 1000 W).mono fun e w' h => ⟨by rw [hqe]; exact h.1, by rw [← h.2]; exact Below.refl _ _⟩
              have HV := Lib.hid hv; have HATV := Lib.hid hatv
              have m0 : (0 : Int) ≤ (m : Int) := Int.natCast_nonneg _
              have m1 : (m : Int) < (row.length : Int) := by omega
              have HST : Hid (validC t a p ac nx = (q && (allF (fun v => inB v (-1) 1000) row (m + 1) && (allF (rowV p) rows (k + 1) && allF (actC p) nx (j + 1))))) := by
                show _ = _
                rw [hq.out, hst, hqe, Bool.and_assoc]
              clear hv hatv hst hq hqe cv
              cases q
              · have HE : Hid (validC t a p ac nx = false) := by show _ = _; rw [HST.out]; rfl
                go_wp2_with fail
                refine (KV.out _).mono ?_
                rintro e w3 ⟨rfl, hb3⟩
                have hb4 := hb.trans (hb3.mono hb.size)
                clear hb hb3 x4 xB xR xv
                go_wp2_with fail
                go_ret
                exact ⟨ret_bool HE.out.symm, hb4⟩
              · have HE : Hid (validC t a p ac nx = (allF (fun v => inB v (-1) 1000) row (m + 1) && (allF (rowV p) rows (k + 1) && allF (actC p) nx (j + 1)))) := by show _ = _; rw [HST.out]; rfl
                go_wp2_with fail
                refine (KV.out _).mono ?_
                rintro e w3 ⟨rfl, hb3⟩
                have hb4 := Lib.hid (hb.trans (hb3.mono hb.size))
                clear hb hb3 x4 xB xR xv
                go_wp2_with fail
                go_roundw
                case rel => exact ⟨m + 1, by omega, by go_num, HE, hb4⟩
                case measure => simp [intOf]; omega
            · obtain rfl : m = row.length := by omega
              have HE : Hid (validC t a p ac nx = (allF (rowV p) rows (k + 1) && allF (actC p) nx (j + 1))) := by show _ = _; rw [hq.out, allF_end]; rfl
              clear hq
              go_wp2_with fail
              go_roundw
              case rel => exact ⟨k + 1, by omega, by go_num, HE, hB'⟩
              case measure => simp [intOf]; omega
        · obtain rfl : k = rows.length := by omega
          have HE : Hid (validC t a p ac nx = allF (actC p) nx (j + 1)) := by show _ = _; rw [hq.out, allF_end]; rfl
          clear hq
          go_wp2_with fail
          go_roundw
          case rel => exact ⟨j + 1, by omega, by go_num, HE, hB'⟩
          case measure => simp [intOf]; omega
    · obtain rfl : j = nx.length := by omega
      have HE : Hid (validC t a p ac nx = true) := by show _ = _; rw [hq.out, allF_end]
      have hb := hB'.out
      have x4 := kc hb g4
      clear hq
      go_wp2_with fail
      go_ret
      exact ⟨ret_bool HE.out.symm, hb⟩

set_option maxRecDepth 100000 in
theorem specValidCosts_any (t a p : Int) (ac : List (List Bool)) (nx : List (List (List Int))) (hs : SmallA ac nx) (A B : Option Addr) (C D : Nat) (w : World) (hA : BB 0 w ac A) (hB : III 0 w nx B) :
    Calls Try.prog 21 #[.agg #[.int .i64 t, .int .i64 a, .int .i64 p, .slice A ac.length C, .slice B nx.length D]] w fun e w' => e = .returned (.bool (validC t a p ac nx)) ∧ Below w.heap.size w w' := by
  obtain ⟨q, hq⟩ : ∃ q : Bool, q = validC t a p ac nx := ⟨_, rfl⟩
  have K : Hid (∀ W : World, St w [(w.heap.size, 0, .int .i64 t), (w.heap.size, 1, .int .i64 a), (w.heap.size, 2, .int .i64 p), (w.heap.size, 3, .slice A ac.length C), (w.heap.size, 4, .slice B nx.length D)] W → Calls Try.prog 69 #[.pointer (some ⟨w.heap.size, 0, none⟩)] W fun e w' => e = .returned (.bool q) ∧ Below W.heap.size W w') := fun W h => by
    rw [hq]
    exact l05CostsOk_any t a p ac nx hs A B C D _ W (bb_ok.below hA h.1) (iii_ok.below hB h.1) h.2.1 h.2.2.1 h.2.2.2.1 h.2.2.2.2.1 h.2.2.2.2.2.1
  rw [← hq]
  clear hq hA hB hs
  go_enter Try.func21, Try.ntmps21
  go_wp2_with fail
  refine (K.out _ ⟨(by unfold Sees; go_grown), (by simp [go_sem]), (by simp [go_sem]), (by simp [go_sem]), (by simp [go_sem]), (by simp [go_sem]), trivial⟩).mono ?_
  rintro e w1 ⟨rfl, hb⟩
  have B1 : Sees w w1 := Sees.below (by unfold Sees; go_grown) hb
  clear hb
  go_wp2_with fail
  go_ret
  exact ⟨rfl, B1⟩
end Go.Proofs.Ytlmbcggfoaaibaa
