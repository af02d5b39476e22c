/- Contracts of spec.l06World, spec.ValidWorld. -/
import Derived.Test.YtlfafcbieeambaaDoorWldD
import Derived.Test.YtlfafcbieeambaaDoorQuietC
import Derived.Deep.RegionHeld3
import Derived.Deep.DrawnRows
namespace Go.Proofs.YtlfafcbieeambaaDoor
open Go.RowKit
attribute [local go_sem ↓] Go.wp_at_zero Go.wp_at_succ

set_option maxHeartbeats 4000000 in
set_option maxRecDepth 100000 in
theorem l06World_any (t a : Int) (p : List Int) (nx : List (List Int)) (hs : SmallW p nx) (A B : Option Addr) (C D : Nat) (b : Nat) (w : World) (hA : Ints w p A) (hB : II 0 w nx B)
    (g0 : w.cell? ⟨b, 0, none⟩ = some (.slice A p.length C)) (g1 : w.cell? ⟨b, 1, none⟩ = some (.slice B nx.length D)) :
    Calls Tryd.prog 38 #[.agg #[.int .i64 t, .int .i64 a], .pointer (some ⟨b, 0, none⟩)] w fun e w' => e = .returned (.bool (validD t a p nx)) ∧ Below w.heap.size w w' := by
  obtain ⟨f1, f2, f3⟩ := hs
  obtain ⟨q1, hq1⟩ : ∃ q1 : Bool, q1 = sigOk t a := ⟨_, rfl⟩
  have K1 : Hid (∀ W : World, Calls Tryd.prog 61 #[.agg #[.int .i64 t, .int .i64 a]] W fun e w' => e = .returned (.bool q1) ∧ Below W.heap.size W w') := fun W => by rw [hq1]; exact l01Sig_any t a W
  obtain ⟨q2, hq2⟩ : ∃ q2 : Bool, q2 = inB p.length 1 12 := ⟨_, rfl⟩
  have K2 : Hid (∀ W : World, Calls Tryd.prog 40 #[.int .i64 (p.length : Int), .int .i64 1, .int .i64 12] W fun e w' => e = .returned (.bool q2) ∧ Below W.heap.size W w') := fun W => (in_any p.length 1 12 W).mono fun e w' h => ⟨by rw [hq2]; exact h.1, by rw [← h.2]; exact Below.refl _ _⟩
  obtain ⟨w0, hw0⟩ : ∃ w0, w0 = w.alloc (.cells #[.int .i64 t, .int .i64 a] 32) := ⟨_, rfl⟩
  have B0 : Sees w w0 := by rw [hw0]; exact (Sees.refl w).alloc _
  have s0 : w0.cell? ⟨w.heap.size, 0, none⟩ = some (.int .i64 t) := by rw [hw0]; simp [go_sem]
  have s1 : w0.cell? ⟨w.heap.size, 1, none⟩ = some (.int .i64 a) := by rw [hw0]; simp [go_sem]
  have x0 := kc B0 g0; have x1 := kc B0 g1
  have HA := Lib.hid hA; have HB := Lib.hid hB; have HF := Lib.hid f3
  clear hA hB f3
  cases q1
  · have HD : Hid (validD t a p nx = false) := by show _ = _; unfold validD; rw [← hq1]; rfl
    clear hq1 hq2
    have u0 := ka (.cells #[.int .i64 t, .int .i64 a] 32) g0; have u1 := ka (.cells #[.int .i64 t, .int .i64 a] 32) g1
    go_enter Tryd.func38, Tryd.ntmps38
    go_wp2_with fail
    rw [← hw0]
    clear hw0 u0 u1
    refine wp_region_quietC w0 [(b, 0, .slice A p.length C), (b, 1, .slice B nx.length D), (w.heap.size, 0, .int .i64 t), (w.heap.size, 1, .int .i64 a)] (by kernel_rfl) (by kernel_rfl) ⟨Below.refl _ _, x0, x1, s0, s1, trivial⟩ ?_
    repeat (first | go_big_quiet_skip | (go_big_quiet_want; apply Exists.intro; refine ⟨fun W hW => ?_, ?_⟩; focus (have hK := Lib.hid hW; obtain ⟨hs, hc⟩ := hW; simp only [Has, and_true] at hc; go_simp; (first | rfl | exact ⟨rfl, rfl⟩ | exact quietC_call hK.out (K1.out _) | exact quietC_call hK.out (K2.out _)))) | (go_simp; go_big_quiet_on))
    refine wpQuiet_nil ?_
    intro w1 H1
    have hb : Sees w w1 := B0.below H1.1
    clear H1
    go_wp2_with fail
    go_ret
    exact ⟨ret_bool HD.out.symm, hb⟩
  cases q2
  · have HD : Hid (validD t a p nx = false) := by show _ = _; unfold validD; rw [← hq1, ← hq2]; rfl
    clear hq1 hq2
    have u0 := ka (.cells #[.int .i64 t, .int .i64 a] 32) g0; have u1 := ka (.cells #[.int .i64 t, .int .i64 a] 32) g1
    go_enter Tryd.func38, Tryd.ntmps38
    go_wp2_with fail
    rw [← hw0]
    clear hw0 u0 u1
    refine wp_region_quietC w0 [(b, 0, .slice A p.length C), (b, 1, .slice B nx.length D), (w.heap.size, 0, .int .i64 t), (w.heap.size, 1, .int .i64 a)] (by kernel_rfl) (by kernel_rfl) ⟨Below.refl _ _, x0, x1, s0, s1, trivial⟩ ?_
    repeat (first | go_big_quiet_skip | (go_big_quiet_want; apply Exists.intro; refine ⟨fun W hW => ?_, ?_⟩; focus (have hK := Lib.hid hW; obtain ⟨hs, hc⟩ := hW; simp only [Has, and_true] at hc; go_simp; (first | rfl | exact ⟨rfl, rfl⟩ | exact quietC_call hK.out (K1.out _) | exact quietC_call hK.out (K2.out _)))) | (go_simp; go_big_quiet_on))
    refine wpQuiet_nil ?_
    intro w1 H1
    have hb : Sees w w1 := B0.below H1.1
    clear H1
    go_wp2_with fail
    go_ret
    exact ⟨ret_bool HD.out.symm, hb⟩
  by_cases hlen : (nx.length : Int) = a
  case neg =>
    have tn : ((nx.length : Int) != a) = true := by rw [bne_iff_ne]; exact hlen
    have HD : Hid (validD t a p nx = false) := by show _ = _; unfold validD; rw [← hq1, ← hq2, decide_eq_false hlen]; rfl
    clear hq1 hq2 hlen
    have u0 := ka (.cells #[.int .i64 t, .int .i64 a] 32) g0; have u1 := ka (.cells #[.int .i64 t, .int .i64 a] 32) g1
    go_enter Tryd.func38, Tryd.ntmps38
    go_wp2_with fail
    rw [← hw0]
    clear hw0 u0 u1
    refine wp_region_quietC w0 [(b, 0, .slice A p.length C), (b, 1, .slice B nx.length D), (w.heap.size, 0, .int .i64 t), (w.heap.size, 1, .int .i64 a)] (by kernel_rfl) (by kernel_rfl) ⟨Below.refl _ _, x0, x1, s0, s1, trivial⟩ ?_
    repeat (first | go_big_quiet_skip | (go_big_quiet_want; apply Exists.intro; refine ⟨fun W hW => ?_, ?_⟩; focus (have hK := Lib.hid hW; obtain ⟨hs, hc⟩ := hW; simp only [Has, and_true] at hc; go_simp; (first | rfl | exact ⟨rfl, rfl⟩ | exact quietC_call hK.out (K1.out _) | exact quietC_call hK.out (K2.out _)))) | (go_simp; go_big_quiet_on))
    refine wpQuiet_nil ?_
    intro w1 H1
    have hb : Sees w w1 := B0.below H1.1
    clear H1
    go_wp2_with fail
    go_ret
    exact ⟨ret_bool HD.out.symm, hb⟩
  have HD : Hid (validD t a p nx = (allW (atomB t) p 0 && allW (rowW p.length) nx 0)) := by show _ = _; unfold validD; rw [← hq1, ← hq2, decide_eq_true hlen, allW_zero, allW_zero]; rfl
  have tn : ((nx.length : Int) != a) = false := by simp [hlen]
  have HT := Lib.hid (sigOk_of hq1.symm)
  have hp12 : 1 ≤ p.length ∧ p.length ≤ 12 := by
    have h := hq2.symm
    unfold inB at h
    simp only [decide_eq_true_eq] at h
    omega
  have hn4 : nx.length ≤ 4 := by have := HT.out; omega
  clear hq1 hq2 hlen
  have u0 := ka (.cells #[.int .i64 t, .int .i64 a] 32) g0; have u1 := ka (.cells #[.int .i64 t, .int .i64 a] 32) g1
  go_enter Tryd.func38, Tryd.ntmps38
  go_wp2_with fail
  rw [← hw0]
  clear hw0 u0 u1
  refine wp_region_quietC w0 [(b, 0, .slice A p.length C), (b, 1, .slice B nx.length D), (w.heap.size, 0, .int .i64 t), (w.heap.size, 1, .int .i64 a)] (by kernel_rfl) (by kernel_rfl) ⟨Below.refl _ _, x0, x1, s0, s1, trivial⟩ ?_
  repeat (first | go_big_quiet_skip | (go_big_quiet_want; apply Exists.intro; refine ⟨fun W hW => ?_, ?_⟩; focus (have hK := Lib.hid hW; obtain ⟨hs, hc⟩ := hW; simp only [Has, and_true] at hc; go_simp; (first | rfl | exact ⟨rfl, rfl⟩ | exact quietC_call hK.out (K1.out _) | exact quietC_call hK.out (K2.out _)))) | (go_simp; go_big_quiet_on))
  refine wpQuiet_nil ?_
  intro w1 H1
  have hb : Sees w w1 := B0.below H1.1
  have S1 := H1.2
  simp only [Has, and_true] at S1
  obtain ⟨y0, y1, y2, y3⟩ := S1
  have HB0 : Hid (St w [(b, 0, .slice A p.length C), (b, 1, .slice B nx.length D), (w.heap.size, 0, .int .i64 t), (w.heap.size, 1, .int .i64 a)] w1) := ⟨hb, y0, y1, y2, y3, trivial⟩
  clear H1 hb s0 s1 x0 x1 tn K1 K2 B0
  go_wp2_with fail
  clear y0 y1 y2 y3
  go_loopw [6] (fun i wr => ∃ j : Nat, j ≤ p.length ∧ i = .int .i64 j ∧ Hid (validD t a p nx = (allW (atomB t) p j && allW (rowW p.length) nx 0)) ∧ Hid (St w [(b, 0, .slice A p.length C), (b, 1, .slice B nx.length D), (w.heap.size, 0, .int .i64 t), (w.heap.size, 1, .int .i64 a)] wr)) (fun i _ => p.length - (intOf i).toNat)
  case atStart => exact ⟨0, Nat.zero_le _, rfl, HD, HB0⟩
  case round =>
    obtain ⟨j, hj, rfl, hq, hS⟩ := hrel
    clear HD HB0
    obtain ⟨hb, y0, y1, y2, y3, _⟩ := hS.out
    by_cases hjl : j < p.length
    · obtain ⟨yA, zA, rfl, hat⟩ := HA.out (by rintro rfl; simp at hjl)
      have cv := hat j hjl
      have hnx : nth p j = p[j] := by simp [nth, List.getD, hjl]
      have hst := allW_step (atomB t) p hjl
      rw [hnx] at cv
      obtain ⟨v, hv⟩ : ∃ v, v = p[j] := ⟨_, rfl⟩
      rw [← hv] at cv hst
      have xv := kc hb cv
      obtain ⟨q, hqe⟩ : ∃ q : Bool, q = atomB t v := ⟨_, rfl⟩
      have KV : Hid (∀ W : World, Calls Tryd.prog 69 #[.agg #[.int .i64 t, .int .i64 a], .int .i64 v] W fun e w' => e = .returned (.bool q) ∧ Below W.heap.size W w') := fun W => by rw [hqe]; exact atom_any t a v W HT.out.1 HT.out.2.1
      have HV := Lib.hid hv; have HAT := Lib.hid hat
      have j0 : (0 : Int) ≤ (j : Int) := Int.natCast_nonneg _
      have j1 : (j : Int) < (p.length : Int) := by omega
      have HST : Hid (validD t a p nx = (q && (allW (atomB t) p (j + 1) && allW (rowW p.length) nx 0))) := by
        show _ = _
        rw [hq.out, hst, hqe, Bool.and_assoc]
      clear hv hat hst hq hqe cv hnx
      go_wp2_with fail
      go_region_held3 (fun w' => Sees w w' ∧ w'.cell? ⟨b, 0, none⟩ = some (.slice (some ⟨yA, zA, none⟩) p.length C) ∧ w'.cell? ⟨b, 1, none⟩ = some (.slice B nx.length D) ∧ w'.cell? ⟨w.heap.size, 0, none⟩ = some (.int .i64 t) ∧ w'.cell? ⟨w.heap.size, 1, none⟩ = some (.int .i64 a) ∧ w'.cell? ⟨yA, zA + j, none⟩ = some (.int .i64 v) ∧ True)
        (first | exact ⟨Sees.drew hb, y0, y1, y2, y3, xv, trivial⟩ | exact ⟨Sees.below (Sees.drew hb) hb1, kc hb1 y0, kc hb1 y1, kc hb1 y2, kc hb1 y3, kc hb1 xv, trivial⟩ | (go_keep; done))
        (first | (go_at_call 69; refine (KV.out _).mono ?_; rintro e w1 ⟨rfl, hb1⟩))
      have hb2 : Hid (St w [(b, 0, .slice (some ⟨yA, zA, none⟩) p.length C), (b, 1, .slice B nx.length D), (w.heap.size, 0, .int .i64 t), (w.heap.size, 1, .int .i64 a)] w1) := ⟨Sees.below (Sees.drew hb) hb1, kc hb1 y0, kc hb1 y1, kc hb1 y2, kc hb1 y3, trivial⟩
      clear hb hb1 y0 y1 y2 y3 xv KV hS
      cases q
      · have HE : Hid (validD t a p nx = false) := by show _ = _; rw [HST.out]; rfl
        clear HST
        go_wp2_with fail
        go_ret
        exact ⟨ret_bool HE.out.symm, hb2.out.1⟩
      · have HE : Hid (validD t a p nx = (allW (atomB t) p (j + 1) && allW (rowW p.length) nx 0)) := by show _ = _; rw [HST.out]; rfl
        clear HST
        go_wp2_with fail
        go_roundw
        case rel => exact ⟨j + 1, by omega, by go_num, HE, hb2⟩
        case measure => simp [intOf]; omega
    · obtain rfl : j = p.length := by omega
      have HE : Hid (validD t a p nx = allW (rowW p.length) nx 0) := by show _ = _; rw [hq.out, allW_end]; rfl
      have HS := Lib.hid hS.out
      clear hq hS hb
      go_wp2_with fail
      clear y0 y1 y2 y3
      go_loopw [7] (fun i wr => ∃ j : Nat, j ≤ nx.length ∧ i = .int .i64 j ∧ Hid (validD t a p nx = allW (rowW p.length) nx j) ∧ Hid (St w [(b, 0, .slice A p.length C), (b, 1, .slice B nx.length D), (w.heap.size, 0, .int .i64 t), (w.heap.size, 1, .int .i64 a)] wr)) (fun i _ => nx.length - (intOf i).toNat)
      case atStart => exact ⟨0, Nat.zero_le _, rfl, HE, HS⟩
      case round =>
        obtain ⟨j, hj, rfl, hq, hS⟩ := hrel
        clear HE HS
        obtain ⟨hb, y0, y1, y2, y3, _⟩ := hS.out
        by_cases hjn : j < nx.length
        · obtain ⟨yB, zB, _, rfl, hatB⟩ := HB.out (by rintro rfl; simp at hjn)
          obtain ⟨Bj, Dj, cB, hRow⟩ := hatB j nx[j] (List.getElem?_eq_getElem hjn)
          have hst := allW_step (rowW p.length) nx hjn
          have hfr := HF.out nx[j] (List.getElem_mem hjn)
          obtain ⟨row, hr⟩ : ∃ row, row = nx[j] := ⟨_, rfl⟩
          rw [← hr] at cB hRow hst hfr
          have xB := kc hb cB
          have HAT := Lib.hid hatB; have HR := Lib.hid hr; have HROW := Lib.hid hRow; have HCB := Lib.hid cB
          have HST : Hid (validD t a p nx = (rowW p.length row && allW (rowW p.length) nx (j + 1))) := hq.out.trans hst
          have j0 : (0 : Int) ≤ (j : Int) := Int.natCast_nonneg _
          have j1 : (j : Int) < (nx.length : Int) := by omega
          clear hatB hr hst hq hRow cB
          by_cases hrp : (row.length : Int) = (p.length : Int)
          case neg =>
            have tb : ((row.length : Int) != (p.length : Int)) = true := by rw [bne_iff_ne]; exact hrp
            have HE : Hid (validD t a p nx = false) := by show _ = _; rw [HST.out]; unfold rowW; rw [decide_eq_false hrp]; rfl
            clear hrp HST
            go_wp2_with fail
            go_ret
            exact ⟨ret_bool HE.out.symm, hb⟩
          have tb : ((row.length : Int) != (p.length : Int)) = false := by simp [hrp]
          have HE : Hid (validD t a p nx = (allW (nextB p.length) row 0 && allW (rowW p.length) nx (j + 1))) := by
            show _ = _
            rw [HST.out]
            unfold rowW
            rw [decide_eq_true hrp, allW_zero]
            rfl
          have HRP := Lib.hid hrp
          have HS := Lib.hid hS.out
          clear hrp HST hS hb
          go_wp2_with fail
          clear y0 y1 y2 y3 xB tb
          go_loopw [8] (fun i wr => ∃ k : Nat, k ≤ row.length ∧ i = .int .i64 k ∧ Hid (validD t a p nx = (allW (nextB p.length) row k && allW (rowW p.length) nx (j + 1))) ∧ Hid (St w [(b, 0, .slice A p.length C), (b, 1, .slice (some ⟨yB, zB, none⟩) nx.length D), (w.heap.size, 0, .int .i64 t), (w.heap.size, 1, .int .i64 a)] wr)) (fun i _ => row.length - (intOf i).toNat)
          case atStart => exact ⟨0, Nat.zero_le _, rfl, HE, HS⟩
          case round =>
            obtain ⟨k, hk, rfl, hq, hS⟩ := hrel
            clear HE HS
            obtain ⟨hb, y0, y1, y2, y3, _⟩ := hS.out
            have xB := kc hb HCB.out
            by_cases hkl : k < row.length
            · obtain ⟨yR, zR, _, rfl, hatR⟩ := HROW.out (by rintro rfl; simp at hkl)
              have cv := hatR k row[k] (List.getElem?_eq_getElem hkl)
              have hst := allW_step (nextB p.length) row hkl
              obtain ⟨v, hv⟩ : ∃ v, v = row[k] := ⟨_, rfl⟩
              rw [← hv] at cv hst
              have xv := kc hb cv
              obtain ⟨q, hqe⟩ : ∃ q : Bool, q = nextB p.length v := ⟨_, rfl⟩
              have KV : Hid (∀ W : World, Calls Tryd.prog 40 #[.int .i64 v, .int .i64 (-1), .int .i64 ((p.length : Int) - 1)] W fun e w' => e = .returned (.bool q) ∧ Below W.heap.size W w') := fun W => (in_any v (-1) ((p.length : Int) - 1) W).mono fun e w' h => ⟨by rw [hqe]; exact h.1, by rw [← h.2]; exact Below.refl _ _⟩
              have HV := Lib.hid hv; have HATR := Lib.hid hatR
              have k0 : (0 : Int) ≤ (k : Int) := Int.natCast_nonneg _
              have k1 : (k : Int) < (row.length : Int) := by omega
              have wn : IntKind.i64.wrap ((p.length : Int) - 1) = (p.length : Int) - 1 := IntWalk.i64_in _ (by omega)
              have HST : Hid (validD t a p nx = (q && (allW (nextB p.length) row (k + 1) && allW (rowW p.length) nx (j + 1)))) := by
                show _ = _
                rw [hq.out, hst, hqe, Bool.and_assoc]
              clear hv hatR hst hq hqe cv
              cases q
              all_goals
                go_wp2_with fail
                refine (KV.out _).mono ?_
                rintro e w1 ⟨rfl, hb1⟩
                have hb2 : Hid (St w [(b, 0, .slice A p.length C), (b, 1, .slice (some ⟨yB, zB, none⟩) nx.length D), (w.heap.size, 0, .int .i64 t), (w.heap.size, 1, .int .i64 a)] w1) := ⟨Sees.below hb hb1, kc hb1 y0, kc hb1 y1, kc hb1 y2, kc hb1 y3, trivial⟩
                clear hb hb1 y0 y1 y2 y3 xB xv KV hS
              · have HE : Hid (validD t a p nx = false) := by show _ = _; rw [HST.out]; rfl
                clear HST
                go_wp2_with fail
                go_ret
                exact ⟨ret_bool HE.out.symm, hb2.out.1⟩
              · have HE : Hid (validD t a p nx = (allW (nextB p.length) row (k + 1) && allW (rowW p.length) nx (j + 1))) := by show _ = _; rw [HST.out]; rfl
                clear HST
                go_wp2_with fail
                go_roundw
                case rel => exact ⟨k + 1, by omega, by go_num, HE, hb2⟩
                case measure => simp [intOf]; omega
            · obtain rfl : k = row.length := by omega
              have HE : Hid (validD t a p nx = allW (rowW p.length) nx (j + 1)) := by show _ = _; rw [hq.out, allW_end]; rfl
              clear hq
              go_wp2_with fail
              go_roundw
              case rel => exact ⟨j + 1, by omega, by go_num, HE, hS⟩
              case measure => simp [intOf]; omega
        · obtain rfl : j = nx.length := by omega
          have HE : Hid (validD t a p nx = true) := by show _ = _; rw [hq.out, allW_end]
          clear hq
          go_wp2_with fail
          go_ret
          exact ⟨ret_bool HE.out.symm, hb⟩

end Go.Proofs.YtlfafcbieeambaaDoor
