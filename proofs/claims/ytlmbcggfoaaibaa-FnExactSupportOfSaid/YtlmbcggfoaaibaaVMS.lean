/- Contracts of spec.l05Tests, spec.l05Ok, spec.ValidModel, spec.l05CostsOk, spec.ValidCosts. -/
import Derived.Test.YtlmbcggfoaaibaaVMD
import Derived.Test.YtlmbcggfoaaibaaQuietC
import Derived.Deep.RegionHeld3
import Derived.Deep.DrawnRows
namespace Go.Proofs.Ytlmbcggfoaaibaa
open Go.RowKit
attribute [local go_sem ↓] Go.wp_at_zero Go.wp_at_succ

set_option maxHeartbeats 2000000 in
set_option maxRecDepth 100000 in
theorem l05Tests_any (t a p : Int) (ac : List (List Bool)) (f1 : ac.length ≤ 1048576) (f2 : ∀ x ∈ ac, x.length ≤ 1048576) (A : Option Addr) (C : Nat) (w : World) (hA : BB 0 w ac A) :
    Calls Try.prog 107 #[.agg #[.int .i64 t, .int .i64 a], .int .i64 p, .slice A ac.length C] w fun e w' => e = .returned (.bool (validT t a p ac)) ∧ Below w.heap.size w w' := by
  obtain ⟨q1, hq1⟩ : ∃ q1 : Bool, q1 = sigOk t a := ⟨_, rfl⟩
  have K1 : Hid (∀ W : World, Calls Try.prog 137 #[.agg #[.int .i64 t, .int .i64 a]] W fun e w' => e = .returned (.bool q1) ∧ Below W.heap.size W w') := fun W => by rw [hq1]; exact l01Sig_any t a W
  obtain ⟨q2, hq2⟩ : ∃ q2 : Bool, q2 = inB p 1 8 := ⟨_, rfl⟩
  have K2 : Hid (∀ W : World, Calls Try.prog 75 #[.int .i64 p, .int .i64 1, .int .i64 8] W fun e w' => e = .returned (.bool q2) ∧ Below W.heap.size W w') := fun W => (in_any p 1 8 W).mono fun e w' h => ⟨by rw [hq2]; exact h.1, by rw [← h.2]; exact Below.refl _ _⟩
  have HA := Lib.hid hA; have HF := Lib.hid f2
  obtain ⟨w0, hw0⟩ : ∃ w0, w0 = w.alloc (.cells #[.int .i64 t, .int .i64 a] 30) := ⟨_, rfl⟩
  have B0 : Sees w w0 := by rw [hw0]; exact (Sees.refl w).alloc _
  have g0 : w0.cell? ⟨w.heap.size, 0, none⟩ = some (.int .i64 t) := by rw [hw0]; simp [go_sem]
  clear hA f2
  cases q1
  · have HD : Hid (validT t a p ac = false) := by show _ = _; unfold validT; rw [← hq1]; rfl
    clear hq1 hq2
    go_enter Try.func107, Try.ntmps107
    go_wp2_with fail
    rw [← hw0]
    refine (K1.out _).mono ?_
    rintro e w1 ⟨rfl, hb⟩
    clear hw0
    go_wp2_with fail
    go_ret
    exact ⟨ret_bool HD.out.symm, B0.below hb⟩
  cases q2
  · have HD : Hid (validT t a p ac = false) := by show _ = _; unfold validT; rw [← hq1, ← hq2]; rfl
    clear hq1 hq2
    go_enter Try.func107, Try.ntmps107
    go_wp2_with fail
    rw [← hw0]
    refine (K1.out _).mono ?_
    rintro e w1 ⟨rfl, hb⟩
    clear hw0
    go_wp2_with fail
    refine (K2.out _).mono ?_
    rintro e w2 ⟨rfl, hb2⟩
    have hb3 := (B0.below hb).below hb2
    clear hb hb2
    go_wp2_with fail
    go_ret
    exact ⟨ret_bool HD.out.symm, hb3⟩
  by_cases hlen : (ac.length : Int) = t
  case neg =>
    have HD : Hid (validT t a p ac = false) := by show _ = _; unfold validT; rw [← hq1, ← hq2, decide_eq_false hlen]; rfl
    have tn : ((ac.length : Int) != t) = true := by rw [bne_iff_ne]; exact hlen
    clear hq1 hq2 hlen
    go_enter Try.func107, Try.ntmps107
    go_wp2_with fail
    rw [← hw0]
    refine (K1.out _).mono ?_
    rintro e w1 ⟨rfl, hb⟩
    clear hw0
    go_wp2_with fail
    refine (K2.out _).mono ?_
    rintro e w2 ⟨rfl, hb2⟩
    have x0 := kc hb2 (kc hb g0)
    have hb3 := (B0.below hb).below hb2
    clear hb hb2
    go_wp2_with fail
    go_ret
    exact ⟨ret_bool HD.out.symm, hb3⟩
  have HD : Hid (validT t a p ac = allF (isRow p) ac 0) := by show _ = _; unfold validT; rw [← hq1, ← hq2, decide_eq_true hlen, allF_zero]; rfl
  have tn : ((ac.length : Int) != t) = false := by simp [hlen]
  clear hq1 hq2 hlen
  go_enter Try.func107, Try.ntmps107
  go_wp2_with fail
  rw [← hw0]
  refine (K1.out _).mono ?_
  rintro e w1 ⟨rfl, hb⟩
  clear hw0
  go_wp2_with fail
  refine (K2.out _).mono ?_
  rintro e w2 ⟨rfl, hb2⟩
  have x0 := kc hb2 (kc hb g0)
  have hb3 := (B0.below hb).below hb2
  clear hb hb2
  go_wp2_with fail
  have HB3 := Lib.hid hb3; clear hb3 x0 tn
  go_loopw [7] (fun i wr => ∃ j : Nat, j ≤ ac.length ∧ i = .int .i64 j ∧ Hid (validT t a p ac = allF (isRow p) ac j) ∧ Hid (Sees w wr)) (fun i _ => ac.length - (intOf i).toNat)
  case atStart => exact ⟨0, Nat.zero_le _, rfl, HD, HB3⟩
  case round =>
    obtain ⟨j, hj, rfl, hq, hB'⟩ := hrel
    clear HD HB3
    by_cases hjl : j < ac.length
    · obtain ⟨yA, zA, _, rfl, hat⟩ := HA.out (by rintro rfl; simp at hjl)
      obtain ⟨Aj, Cj, cA, _⟩ := hat j ac[j] (List.getElem?_eq_getElem hjl)
      have hst := allF_step (isRow p) ac hjl
      have hfx := HF.out ac[j] (List.getElem_mem hjl)
      obtain ⟨x, hx⟩ : ∃ x, x = ac[j] := ⟨_, rfl⟩
      rw [← hx] at cA hst hfx
      have hb := hB'.out
      have xA := kc hb cA
      have HAT := Lib.hid hat; have HX := Lib.hid hx
      have HST : Hid (validT t a p ac = (isRow p x && allF (isRow p) ac (j + 1))) := hq.out.trans hst
      have j0 : (0 : Int) ≤ (j : Int) := Int.natCast_nonneg _
      have j1 : (j : Int) < (ac.length : Int) := by omega
      clear hat hx hst hq cA
      by_cases hxp : (x.length : Int) = p
      · have tb : ((x.length : Int) != p) = false := by simp [hxp]
        have HE : Hid (validT t a p ac = allF (isRow p) ac (j + 1)) := by show _ = _; rw [HST.out, isRow_pos hxp]; rfl
        clear hxp HST
        go_wp2_with fail
        go_roundw
        case rel => exact ⟨j + 1, by omega, by go_num, HE, hB'⟩
        case measure => simp [intOf]; omega
      · have tb : ((x.length : Int) != p) = true := by rw [bne_iff_ne]; exact hxp
        have HE : Hid (validT t a p ac = false) := by show _ = _; rw [HST.out, isRow_neg hxp]; rfl
        clear hxp HST
        go_wp2_with fail
        go_ret
        exact ⟨ret_bool HE.out.symm, hb⟩
    · obtain rfl : j = ac.length := by omega
      have HE : Hid (validT t a p ac = true) := by show _ = _; rw [hq.out, allF_end]
      have hb := hB'.out
      clear hq
      go_wp2_with fail
      go_ret
      exact ⟨ret_bool HE.out.symm, hb⟩

set_option maxHeartbeats 4000000 in
set_option maxRecDepth 100000 in
theorem l05Ok_any (t a p : Int) (ac : List (List Bool)) (nx : List (List (List Bool))) (hs : SmallM ac nx) (A B : Option Addr) (C D : Nat) (b : Nat) (w : World) (hA : BB 0 w ac A) (hB : BBB 0 w nx B)
    (g0 : w.cell? ⟨b, 0, none⟩ = some (.int .i64 t)) (g1 : w.cell? ⟨b, 1, none⟩ = some (.int .i64 a)) (g2 : w.cell? ⟨b, 2, none⟩ = some (.int .i64 p)) (g3 : w.cell? ⟨b, 3, none⟩ = some (.slice A ac.length C)) (g4 : w.cell? ⟨b, 4, none⟩ = some (.slice B nx.length D)) :
    Calls Try.prog 57 #[.pointer (some ⟨b, 0, none⟩)] w fun e w' => e = .returned (.bool (validM t a p ac nx)) ∧ Below w.heap.size w w' := by
  obtain ⟨f1, f2, f3, f4⟩ := hs
  obtain ⟨q1, hq1⟩ : ∃ q1 : Bool, q1 = validT t a p ac := ⟨_, rfl⟩
  have K1 : Hid (∀ W : World, Sees w W → Calls Try.prog 107 #[.agg #[.int .i64 t, .int .i64 a], .int .i64 p, .slice A ac.length C] W fun e w' => e = .returned (.bool q1) ∧ Below W.heap.size W w') := fun W h => by rw [hq1]; exact l05Tests_any t a p ac f1 f2 A C W (bb_ok.below hA h)
  have HB := Lib.hid hB; have HF := Lib.hid f4
  clear hA hB f2 f4
  cases q1
  · have HD : Hid (validM t a p ac nx = false) := by show _ = _; unfold validM; rw [← hq1]; rfl
    clear hq1
    go_enter Try.func57, Try.ntmps57
    go_wp2_with fail
    refine wp_region_quietC w [(b, 0, .int .i64 t), (b, 1, .int .i64 a), (b, 2, .int .i64 p), (b, 3, .slice A ac.length C), (b, 4, .slice B nx.length D)] (by kernel_rfl) (by kernel_rfl) ⟨Below.refl _ _, g0, g1, g2, g3, g4, trivial⟩ ?_
    repeat (first | go_big_quiet_skip | (go_big_quiet_want; apply Exists.intro; refine ⟨fun W hW => ?_, ?_⟩; focus (have hK := Lib.hid hW; obtain ⟨hs, hc⟩ := hW; simp only [Has, and_true] at hc; go_simp; (first | rfl | exact ⟨rfl, rfl⟩ | exact quietC_call hK.out (K1.out _ hs)))) | (go_simp; go_big_quiet_on))
    refine wpQuiet_nil ?_
    intro w1 H1
    have hb : Below w.heap.size w w1 := H1.1
    clear H1
    go_wp2_with fail
    go_ret
    exact ⟨ret_bool HD.out.symm, hb⟩
  have HBD := Lib.hid (validT_bd hq1.symm)
  by_cases hlen : (nx.length : Int) = a
  case neg =>
    have HD : Hid (validM t a p ac nx = false) := by show _ = _; unfold validM; rw [← hq1, decide_eq_false hlen]; rfl
    have tn : ((nx.length : Int) != a) = true := by rw [bne_iff_ne]; exact hlen
    clear hq1 hlen
    go_enter Try.func57, Try.ntmps57
    go_wp2_with fail
    refine wp_region_quietC w [(b, 0, .int .i64 t), (b, 1, .int .i64 a), (b, 2, .int .i64 p), (b, 3, .slice A ac.length C), (b, 4, .slice B nx.length D)] (by kernel_rfl) (by kernel_rfl) ⟨Below.refl _ _, g0, g1, g2, g3, g4, trivial⟩ ?_
    repeat (first | go_big_quiet_skip | (go_big_quiet_want; apply Exists.intro; refine ⟨fun W hW => ?_, ?_⟩; focus (have hK := Lib.hid hW; obtain ⟨hs, hc⟩ := hW; simp only [Has, and_true] at hc; go_simp; (first | rfl | exact ⟨rfl, rfl⟩ | exact quietC_call hK.out (K1.out _ hs)))) | (go_simp; go_big_quiet_on))
    refine wpQuiet_nil ?_
    intro w1 H1
    have hb : Below w.heap.size w w1 := H1.1
    clear H1
    go_wp2_with fail
    go_ret
    exact ⟨ret_bool HD.out.symm, hb⟩
  have HD : Hid (validM t a p ac nx = allF (actM p) nx 0) := by show _ = _; unfold validM; rw [← hq1, decide_eq_true hlen, allF_zero]; rfl
  have tn : ((nx.length : Int) != a) = false := by simp [hlen]
  have hn4 : nx.length ≤ 4 := by have := HBD.out; omega
  clear hq1 hlen
  go_enter Try.func57, Try.ntmps57
  go_wp2_with fail
  refine wp_region_quietC w [(b, 0, .int .i64 t), (b, 1, .int .i64 a), (b, 2, .int .i64 p), (b, 3, .slice A ac.length C), (b, 4, .slice B nx.length D)] (by kernel_rfl) (by kernel_rfl) ⟨Below.refl _ _, g0, g1, g2, g3, g4, trivial⟩ ?_
  repeat (first | go_big_quiet_skip | (go_big_quiet_want; apply Exists.intro; refine ⟨fun W hW => ?_, ?_⟩; focus (have hK := Lib.hid hW; obtain ⟨hs, hc⟩ := hW; simp only [Has, and_true] at hc; go_simp; (first | rfl | exact ⟨rfl, rfl⟩ | exact quietC_call hK.out (K1.out _ hs)))) | (go_simp; go_big_quiet_on))
  refine wpQuiet_nil ?_
  intro w1 H1
  have hb : Below w.heap.size w w1 := H1.1
  have x4 := kc hb g4
  clear H1
  go_wp2_with fail
  have HB3 := Lib.hid hb; clear hb x4 tn
  go_loopw [3] (fun i wr => ∃ j : Nat, j ≤ nx.length ∧ i = .int .i64 j ∧ Hid (validM t a p ac nx = allF (actM p) nx j) ∧ Hid (Below w.heap.size w wr)) (fun i _ => nx.length - (intOf i).toNat)
  case atStart => exact ⟨0, Nat.zero_le _, rfl, HD, HB3⟩
  case round =>
    obtain ⟨j, hj, rfl, hq, hB'⟩ := hrel
    clear HD HB3
    by_cases hjn : j < nx.length
    · obtain ⟨yB, zB, _, rfl, hatB⟩ := HB.out (by rintro rfl; simp at hjn)
      obtain ⟨Bj, Dj, cB, hRows⟩ := hatB j nx[j] (List.getElem?_eq_getElem hjn)
      have hst := allF_step (actM p) nx hjn
      have hfr := HF.out nx[j] (List.getElem_mem hjn)
      obtain ⟨rows, hr⟩ : ∃ rows, rows = nx[j] := ⟨_, rfl⟩
      rw [← hr] at cB hRows hst hfr
      have hb := hB'.out
      have x2 := kc hb g2; have x4 := kc hb g4; have xB := kc hb cB
      have HAT := Lib.hid hatB; have HR := Lib.hid hr; have HROWS := Lib.hid hRows; have HFR := Lib.hid hfr; have HCB := Lib.hid cB
      have HST : Hid (validM t a p ac nx = (actM p rows && allF (actM p) nx (j + 1))) := hq.out.trans hst
      have j0 : (0 : Int) ≤ (j : Int) := Int.natCast_nonneg _
      have j1 : (j : Int) < (nx.length : Int) := by omega
      have hrl := hfr.1
      clear hatB hr hst hq hRows hfr cB
      by_cases hrp : (rows.length : Int) = p
      case neg =>
        have tb : ((rows.length : Int) != p) = true := by rw [bne_iff_ne]; exact hrp
        have HE : Hid (validM t a p ac nx = false) := by show _ = _; rw [HST.out]; unfold actM; rw [isRow_neg hrp]; rfl
        clear hrp
        go_wp2_with fail
        go_region_held3 (fun w' => Sees w w' ∧ w'.cell? ⟨b, 2, none⟩ = some (.int .i64 p) ∧ w'.cell? ⟨b, 4, none⟩ = some (.slice (some ⟨yB, zB, none⟩) nx.length D) ∧ w'.cell? ⟨yB, zB + j, none⟩ = some (.slice Bj rows.length Dj) ∧ True) (first | exact ⟨Sees.drew hb, x2, x4, xB, trivial⟩ | (go_keep; done)) (fail)
        go_wp2_with fail
        go_ret
        exact ⟨ret_bool HE.out.symm, Below.drew hb⟩
      have tb : ((rows.length : Int) != p) = false := by simp [hrp]
      have HE : Hid (validM t a p ac nx = (allF (isRow p) rows 0 && allF (actM p) nx (j + 1))) := by
        show _ = _
        rw [HST.out]
        unfold actM
        rw [isRow_pos hrp, allF_zero]
        rfl
      have HRP := Lib.hid hrp
      clear hrp HST
      go_wp2_with fail
      go_region_held3 (fun w' => Sees w w' ∧ w'.cell? ⟨b, 2, none⟩ = some (.int .i64 p) ∧ w'.cell? ⟨b, 4, none⟩ = some (.slice (some ⟨yB, zB, none⟩) nx.length D) ∧ w'.cell? ⟨yB, zB + j, none⟩ = some (.slice Bj rows.length Dj) ∧ True) (first | exact ⟨Sees.drew hb, x2, x4, xB, trivial⟩ | (go_keep; done)) (fail)
      have HB4 : Hid (Below w.heap.size w wr.drew) := Below.drew hb
      clear hb x2 x4 xB tb hB'
      go_wp2_with fail
      go_loopw [4] (fun i wr => ∃ k : Nat, k ≤ rows.length ∧ i = .int .i64 k ∧ Hid (validM t a p ac nx = (allF (isRow p) rows k && allF (actM p) nx (j + 1))) ∧ Hid (Below w.heap.size w wr)) (fun i _ => rows.length - (intOf i).toNat)
      case atStart => exact ⟨0, Nat.zero_le _, rfl, HE, HB4⟩
      case round =>
        obtain ⟨k, hk, rfl, hq, hB'⟩ := hrel
        clear HE HB4
        have hb := hB'.out
        have x2 := kc hb g2; have x4 := kc hb g4; have xB := kc hb HCB.out
        by_cases hkl : k < rows.length
        · obtain ⟨yR, zR, _, rfl, hatR⟩ := HROWS.out (by rintro rfl; simp at hkl)
          obtain ⟨Bk, Dk, cR, hRow⟩ := hatR k rows[k] (List.getElem?_eq_getElem hkl)
          have hst := allF_step (isRow p) rows hkl
          have hfr := HFR.out.2 rows[k] (List.getElem_mem hkl)
          obtain ⟨row, hrow⟩ : ∃ row, row = rows[k] := ⟨_, rfl⟩
          rw [← hrow] at cR hRow hst hfr
          have xR := kc hb cR
          have HAT2 := Lib.hid hatR; have HRW := Lib.hid hrow; have HROW := Lib.hid hRow; have HCR := Lib.hid cR
          have HST : Hid (validM t a p ac nx = (isRow p row && (allF (isRow p) rows (k + 1) && allF (actM p) nx (j + 1)))) := by
            show _ = _
            rw [hq.out, hst, Bool.and_assoc]
          have k0 : (0 : Int) ≤ (k : Int) := Int.natCast_nonneg _
          have k1 : (k : Int) < (rows.length : Int) := by omega
          clear hatR hrow hst hq hRow cR
          by_cases hrp : (row.length : Int) = p
          case neg =>
            have tb : ((row.length : Int) != p) = true := by rw [bne_iff_ne]; exact hrp
            have HE : Hid (validM t a p ac nx = false) := by show _ = _; rw [HST.out]; rw [isRow_neg hrp]; rfl
            clear hrp
            go_wp2_with fail
            go_region_held3 (fun w' => Sees w w' ∧ w'.cell? ⟨b, 2, none⟩ = some (.int .i64 p) ∧ w'.cell? ⟨b, 4, none⟩ = some (.slice (some ⟨yB, zB, none⟩) nx.length D) ∧ w'.cell? ⟨yB, zB + j, none⟩ = some (.slice (some ⟨yR, zR, none⟩) rows.length Dj) ∧ w'.cell? ⟨yR, zR + k, none⟩ = some (.slice Bk row.length Dk) ∧ True) (first | exact ⟨Sees.drew hb, x2, x4, xB, xR, trivial⟩ | (go_keep; done)) (fail)
            go_wp2_with fail
            go_ret
            exact ⟨ret_bool HE.out.symm, Below.drew hb⟩
          have tb : ((row.length : Int) != p) = false := by simp [hrp]
          have HE : Hid (validM t a p ac nx = ((allF (isRow p) rows (k + 1) && allF (actM p) nx (j + 1)))) := by
            show _ = _
            rw [HST.out]
            skip
            rw [isRow_pos hrp]
            rfl
          clear hrp HST
          go_wp2_with fail
          go_region_held3 (fun w' => Sees w w' ∧ w'.cell? ⟨b, 2, none⟩ = some (.int .i64 p) ∧ w'.cell? ⟨b, 4, none⟩ = some (.slice (some ⟨yB, zB, none⟩) nx.length D) ∧ w'.cell? ⟨yB, zB + j, none⟩ = some (.slice (some ⟨yR, zR, none⟩) rows.length Dj) ∧ w'.cell? ⟨yR, zR + k, none⟩ = some (.slice Bk row.length Dk) ∧ True) (first | exact ⟨Sees.drew hb, x2, x4, xB, xR, trivial⟩ | (go_keep; done)) (fail)
          have HB5 : Hid (Below w.heap.size w wr.drew) := Below.drew hb
          clear hb x2 x4 xB xR tb hB'
          go_wp2_with fail
          go_roundw
          case rel => exact ⟨k + 1, by omega, by go_num, HE, HB5⟩
          case measure => simp [intOf]; omega
        · obtain rfl : k = rows.length := by omega
          have HE : Hid (validM t a p ac nx = allF (actM p) nx (j + 1)) := by show _ = _; rw [hq.out, allF_end]; rfl
          clear hq
          go_wp2_with fail
          go_roundw
          case rel => exact ⟨j + 1, by omega, by go_num, HE, hB'⟩
          case measure => simp [intOf]; omega
    · obtain rfl : j = nx.length := by omega
      have HE : Hid (validM t a p ac nx = true) := by show _ = _; rw [hq.out, allF_end]
      have hb := hB'.out
      have x4 := kc hb g4
      clear hq
      go_wp2_with fail
      go_ret
      exact ⟨ret_bool HE.out.symm, hb⟩

set_option maxRecDepth 100000 in
theorem specValidModel_any (t a p : Int) (ac : List (List Bool)) (nx : List (List (List Bool))) (hs : SmallM ac nx) (A B : Option Addr) (C D : Nat) (w : World) (hA : BB 0 w ac A) (hB : BBB 0 w nx B) :
    Calls Try.prog 14 #[.agg #[.int .i64 t, .int .i64 a, .int .i64 p, .slice A ac.length C, .slice B nx.length D]] w fun e w' => e = .returned (.bool (validM t a p ac nx)) ∧ Below w.heap.size w w' := by
  obtain ⟨q, hq⟩ : ∃ q : Bool, q = validM t a p ac nx := ⟨_, rfl⟩
  have K : Hid (∀ W : World, St w [(w.heap.size, 0, .int .i64 t), (w.heap.size, 1, .int .i64 a), (w.heap.size, 2, .int .i64 p), (w.heap.size, 3, .slice A ac.length C), (w.heap.size, 4, .slice B nx.length D)] W → Calls Try.prog 57 #[.pointer (some ⟨w.heap.size, 0, none⟩)] W fun e w' => e = .returned (.bool q) ∧ Below W.heap.size W w') := fun W h => by
    rw [hq]
    exact l05Ok_any t a p ac nx hs A B C D _ W (bb_ok.below hA h.1) (bbb_ok.below hB h.1) h.2.1 h.2.2.1 h.2.2.2.1 h.2.2.2.2.1 h.2.2.2.2.2.1
  rw [← hq]
  clear hq hA hB hs
  go_enter Try.func14, Try.ntmps14
  go_wp2_with fail
  refine (K.out _ ⟨(by unfold Sees; go_grown), (by simp [go_sem]), (by simp [go_sem]), (by simp [go_sem]), (by simp [go_sem]), (by simp [go_sem]), trivial⟩).mono ?_
  rintro e w1 ⟨rfl, hb⟩
  have B1 : Sees w w1 := Sees.below (by unfold Sees; go_grown) hb
  clear hb
  go_wp2_with fail
  go_ret
  exact ⟨rfl, B1⟩
end Go.Proofs.Ytlmbcggfoaaibaa
