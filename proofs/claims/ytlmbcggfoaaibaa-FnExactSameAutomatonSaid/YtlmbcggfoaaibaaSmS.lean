/- Contract of spec.SameAutomaton. -/
import Derived.Test.YtlmbcggfoaaibaaSmF
import Derived.Deep.DrawnRows
namespace Go.Proofs.Ytlmbcggfoaaibaa
open Go.RowKit
attribute [local go_sem ↓] Go.wp_at_zero Go.wp_at_succ

set_option maxHeartbeats 4000000 in
set_option maxRecDepth 100000 in
theorem specSameAutomaton_any (t a : Int) (ac : List (List Bool)) (nx : List (List (List Int))) (t' a' : Int) (ac' : List (List Bool)) (nx' : List (List (List Int))) (hs : FitA ac nx) (A B A' B' : Option Addr) (C D C' D' : Nat) (w : World) (hA : BB 0 w ac A) (hB : III 0 w nx B) (hA' : BB 0 w ac' A') (hB' : III 0 w nx' B') :
    Calls Try.prog 28 #[.agg #[.int .i64 t, .int .i64 a, .slice A ac.length C, .slice B nx.length D], .agg #[.int .i64 t', .int .i64 a', .slice A' ac'.length C', .slice B' nx'.length D']] w fun e w' => e = .returned (.bool (sameA t a ac nx t' a' ac' nx')) ∧ Below w.heap.size w w' := by
  obtain ⟨f1, f2, f3, f4⟩ := hs
  by_cases ht : t = t'
  case neg =>
    have HE : Hid (sameA t a ac nx t' a' ac' nx' = false) := by show _ = _; unfold sameA; rw [decide_eq_false ht]; rfl
    clear f1 f2 f3 f4 hA hB hA' hB'
    go_enter Try.func28, Try.ntmps28
    go_wp2_with fail
    go_ret
    exact ⟨ret_bool HE.out.symm, by go_grown⟩
  subst ht
  by_cases ha : a = a'
  case neg =>
    have HE : Hid (sameA t a ac nx t a' ac' nx' = false) := by show _ = _; unfold sameA; rw [decide_eq_false ha]; simp
    clear f1 f2 f3 f4 hA hB hA' hB'
    go_enter Try.func28, Try.ntmps28
    go_wp2_with fail
    go_ret
    exact ⟨ret_bool HE.out.symm, by go_grown⟩
  subst ha
  by_cases hl1 : ac.length = ac'.length
  case neg =>
    have HE : Hid (sameA t a ac nx t a ac' nx' = false) := by show _ = _; unfold sameA; rw [decide_eq_false (p := ac = ac') (fun h => hl1 (by rw [h]))]; simp
    have tl : ((ac.length : Int) != (ac'.length : Int)) = true := by rw [bne_iff_ne]; omega
    clear f1 f2 f3 f4 hA hB hA' hB' hl1
    go_enter Try.func28, Try.ntmps28
    go_wp2_with fail
    go_ret
    exact ⟨ret_bool HE.out.symm, by go_grown⟩
  have tl : ((ac.length : Int) != (ac'.length : Int)) = false := by simp [hl1]
  by_cases hl2 : nx.length = nx'.length
  case neg =>
    have HE : Hid (sameA t a ac nx t a ac' nx' = false) := by show _ = _; unfold sameA; rw [decide_eq_false (p := nx = nx') (fun h => hl2 (by rw [h]))]; simp
    have tn : ((nx.length : Int) != (nx'.length : Int)) = true := by rw [bne_iff_ne]; omega
    clear f1 f2 f3 f4 hA hB hA' hB' hl1 hl2
    go_enter Try.func28, Try.ntmps28
    go_wp2_with fail
    go_ret
    exact ⟨ret_bool HE.out.symm, by go_grown⟩
  have tn : ((nx.length : Int) != (nx'.length : Int)) = false := by simp [hl2]
  have HD : Hid (sameA t a ac nx t a ac' nx' = (sameG ac ac' 0 && sameG nx nx' 0)) := by
    show _ = _
    unfold sameA
    rw [decide_eq_true (p := t = t) rfl, decide_eq_true (p := a = a) rfl, sameG_zero, sameG_zero]
    rfl
  obtain ⟨w0, hw0⟩ : ∃ w0, w0 = (w.alloc (.cells #[.int .i64 t, .int .i64 a, .slice A ac.length C, .slice B nx.length D] 55)).alloc (.cells #[.int .i64 t, .int .i64 a, .slice A' ac'.length C', .slice B' nx'.length D'] 55) := ⟨_, rfl⟩
  have B0 : Sees w w0 := by rw [hw0]; exact ((Sees.refl w).alloc _).alloc _
  have HS : Hid (St w0 [(w.heap.size, 2, .slice A ac.length C), (w.heap.size, 3, .slice B nx.length D), (w.heap.size + 1, 2, .slice A' ac'.length C'), (w.heap.size + 1, 3, .slice B' nx'.length D')] w0) := ⟨Below.refl _ _, by rw [hw0]; exact ⟨(by simp [go_sem]), (by simp [go_sem]), (by simp [go_sem]), (by simp [go_sem]), trivial⟩⟩
  have FIN : Hid (∀ W : World, Sees w0 W → Below w.heap.size w W) := fun W h => Sees.below B0 h
  have HA := Lib.hid (hA.sees B0); have HB := Lib.hid (hB.sees B0); have HA' := Lib.hid (hA'.sees B0); have HB' := Lib.hid (hB'.sees B0)
  have HL1 := Lib.hid hl1; have HL2 := Lib.hid hl2; have HF2 := Lib.hid f2; have HF4 := Lib.hid f4
  clear hA hB hA' hB' hl1 hl2 f2 f4 B0
  go_enter Try.func28, Try.ntmps28
  go_wp2_with fail
  rw [← hw0]
  clear hw0 tl tn
  go_loopw [5] (fun i wr => ∃ j : Nat, j ≤ ac.length ∧ i = .int .i64 j ∧ Hid (sameA t a ac nx t a ac' nx' = (sameG ac ac' j && sameG nx nx' 0)) ∧ Hid (St w0 [(w.heap.size, 2, .slice A ac.length C), (w.heap.size, 3, .slice B nx.length D), (w.heap.size + 1, 2, .slice A' ac'.length C'), (w.heap.size + 1, 3, .slice B' nx'.length D')] wr)) (fun i _ => ac.length - (intOf i).toNat)
  case atStart => exact ⟨0, Nat.zero_le _, rfl, HD, HS⟩
  case round =>
    obtain ⟨j, hj, rfl, hq, hS⟩ := hrel
    clear HD HS
    obtain ⟨sS, x0, x1, x2, x3, _⟩ := hS.out
    by_cases hjl : j < ac.length
    · have hjy : j < ac'.length := by rw [← HL1.out]; exact hjl
      obtain ⟨yA, zA, _, rfl, hat⟩ := HA.out (by rintro rfl; simp at hjl)
      obtain ⟨yA', zA', _, rfl, hat'⟩ := HA'.out (by rintro rfl; simp at hjy)
      obtain ⟨R1, E1, c1, hQ⟩ := hat j ac[j] (List.getElem?_eq_getElem hjl)
      obtain ⟨R2, E2, c2, hQ'⟩ := hat' j ac'[j] (List.getElem?_eq_getElem hjy)
      have hfx := HF2.out ac[j] (List.getElem_mem hjl)
      have hst0 := sameG_step ac ac' hjl hjy
      obtain ⟨x, hx⟩ : ∃ x, x = ac[j] := ⟨_, rfl⟩
      obtain ⟨y, hy⟩ : ∃ y, y = ac'[j] := ⟨_, rfl⟩
      rw [← hx] at c1 hst0 hQ hfx
      rw [← hy] at c2 hst0 hQ'
      have d1 := kc sS c1
      have d2 := kc sS c2
      obtain ⟨q, hqe⟩ : ∃ q : Bool, Hid (q = decide (x = y)) := ⟨_, rfl⟩
      have K : Hid (∀ W : World, Sees w0 W → Calls Try.prog 78 #[.slice R1 x.length E1, .slice R2 y.length E2] W fun e w' => e = .returned (.bool q) ∧ Below W.heap.size W w') := fun W h => by
        rw [hqe.out]
        exact l02SameRow_any x y hfx R1 R2 E1 E2 W (bools_ok.below hQ h) (bools_ok.below hQ' h)
      have hst : Hid (sameA t a ac nx t a ac' nx' = (q && (sameG ac ac' (j + 1) && sameG nx nx' 0))) := by
        show _ = _
        rw [hq.out, hst0, hqe.out, Bool.and_assoc]
      have HAT := Lib.hid hat; have HAT' := Lib.hid hat'
      have j0 : (0 : Int) ≤ (j : Int) := Int.natCast_nonneg _
      have j1 : (j : Int) < (ac.length : Int) := by omega
      have j2 : (j : Int) < (ac'.length : Int) := by omega
      clear hat hat' c1 c2 hQ hQ' hfx hst0 hx hy hq
      go_wp2_with fail
      go_region_held3 (fun w' => Sees w0 w' ∧ w'.cell? ⟨w.heap.size, 2, none⟩ = some (.slice (some ⟨yA, zA, none⟩) ac.length C) ∧ w'.cell? ⟨w.heap.size, 3, none⟩ = some (.slice B nx.length D) ∧ w'.cell? ⟨w.heap.size + 1, 2, none⟩ = some (.slice (some ⟨yA', zA', none⟩) ac'.length C') ∧ w'.cell? ⟨w.heap.size + 1, 3, none⟩ = some (.slice B' nx'.length D') ∧ w'.cell? ⟨yA, zA + j, none⟩ = some (.slice R1 x.length E1) ∧ w'.cell? ⟨yA', zA' + j, none⟩ = some (.slice R2 y.length E2) ∧ True)
        (first | exact ⟨sS.drew, x0, x1, x2, x3, d1, d2, trivial⟩ | exact T1 | (go_keep; done))
        ((go_at_call 78; refine (K.out _ ?_).mono ?_; exact sS.drew; rintro e w3 ⟨rfl, hb⟩; have T1 := St.below (w := w0) (l := [(w.heap.size, 2, .slice (some ⟨yA, zA, none⟩) ac.length C), (w.heap.size, 3, .slice B nx.length D), (w.heap.size + 1, 2, .slice (some ⟨yA', zA', none⟩) ac'.length C'), (w.heap.size + 1, 3, .slice B' nx'.length D'), (yA, zA + j, .slice R1 x.length E1), (yA', zA' + j, .slice R2 y.length E2)]) (by assumption) hb))
      have T2 : Hid (St w0 [(w.heap.size, 2, .slice (some ⟨yA, zA, none⟩) ac.length C), (w.heap.size, 3, .slice B nx.length D), (w.heap.size + 1, 2, .slice (some ⟨yA', zA', none⟩) ac'.length C'), (w.heap.size + 1, 3, .slice B' nx'.length D')] w3) := by
        obtain ⟨q0, q1, q2, q3, q4, _⟩ := T1
        exact ⟨q0, q1, q2, q3, q4, trivial⟩
      clear T1 hb x0 x1 x2 x3 d1 d2 sS hS
      cases q
      · have HE : Hid (sameA t a ac nx t a ac' nx' = false) := by show _ = _; rw [hst.out]; rfl
        go_wp2_with fail
        go_ret
        exact ⟨ret_bool HE.out.symm, FIN.out _ T2.out.1⟩
      · have HE : Hid (sameA t a ac nx t a ac' nx' = (sameG ac ac' (j + 1) && sameG nx nx' 0)) := by show _ = _; rw [hst.out]; rfl
        go_wp2_with fail
        go_roundw
        case rel => exact ⟨j + 1, by omega, by go_num, HE, T2⟩
        case measure => simp [intOf]; omega
    · obtain rfl : j = ac.length := by omega
      have HD : Hid (sameA t a ac nx t a ac' nx' = sameG nx nx' 0) := by
        show _ = _
        rw [hq.out, sameG_end ac ac' HL1.out]
        rfl
      clear hq hj hjl
      go_wp2_with fail
      clear x0 x1 x2 x3 sS
      go_loopw [6] (fun i wr => ∃ j : Nat, j ≤ nx.length ∧ i = .int .i64 j ∧ Hid (sameA t a ac nx t a ac' nx' = sameG nx nx' j) ∧ Hid (St w0 [(w.heap.size, 2, .slice A ac.length C), (w.heap.size, 3, .slice B nx.length D), (w.heap.size + 1, 2, .slice A' ac'.length C'), (w.heap.size + 1, 3, .slice B' nx'.length D')] wr)) (fun i _ => nx.length - (intOf i).toNat)
      case atStart => exact ⟨0, Nat.zero_le _, rfl, HD, hS⟩
      case round =>
        obtain ⟨j, hj, rfl, hq, hS2⟩ := hrel
        clear HD hS
        obtain ⟨sS, x0, x1, x2, x3, _⟩ := hS2.out
        by_cases hjl : j < nx.length
        · have hjy : j < nx'.length := by rw [← HL2.out]; exact hjl
          obtain ⟨yB, zB, _, rfl, hat⟩ := HB.out (by rintro rfl; simp at hjl)
          obtain ⟨yB', zB', _, rfl, hat'⟩ := HB'.out (by rintro rfl; simp at hjy)
          obtain ⟨R1, E1, c1, hQ⟩ := hat j nx[j] (List.getElem?_eq_getElem hjl)
          obtain ⟨R2, E2, c2, hQ'⟩ := hat' j nx'[j] (List.getElem?_eq_getElem hjy)
          have hfx := HF4.out nx[j] (List.getElem_mem hjl)
          have hst0 := sameG_step nx nx' hjl hjy
          obtain ⟨x, hx⟩ : ∃ x, x = nx[j] := ⟨_, rfl⟩
          obtain ⟨y, hy⟩ : ∃ y, y = nx'[j] := ⟨_, rfl⟩
          rw [← hx] at c1 hst0 hQ hfx
          rw [← hy] at c2 hst0 hQ'
          have d1 := kc sS c1
          have d2 := kc sS c2
          have HAT := Lib.hid hat; have HAT' := Lib.hid hat'
          have HQ := Lib.hid hQ; have HQ' := Lib.hid hQ'; have HFX := Lib.hid hfx.2
          have hst : Hid (sameA t a ac nx t a ac' nx' = (decide (x = y) && sameG nx nx' (j + 1))) := hq.out.trans hst0
          have HC := Lib.hid (And.intro c1 c2)
          have hxm := hfx.1
          have j0 : (0 : Int) ≤ (j : Int) := Int.natCast_nonneg _
          have j1 : (j : Int) < (nx.length : Int) := by omega
          have j2 : (j : Int) < (nx'.length : Int) := by omega
          clear hat hat' c1 c2 hQ hQ' hfx hst0 hx hy hq
          by_cases hxy : x.length = y.length
          case neg =>
            have tx : ((x.length : Int) != (y.length : Int)) = true := by rw [bne_iff_ne]; omega
            have HE : Hid (sameA t a ac nx t a ac' nx' = false) := by show _ = _; rw [hst.out, decide_eq_false (p := x = y) (fun h => hxy (by rw [h]))]; rfl
            clear hxy
            go_wp2_with fail
            go_region_held3 (fun w' => Sees w0 w' ∧ w'.cell? ⟨w.heap.size, 2, none⟩ = some (.slice A ac.length C) ∧ w'.cell? ⟨w.heap.size, 3, none⟩ = some (.slice (some ⟨yB, zB, none⟩) nx.length D) ∧ w'.cell? ⟨w.heap.size + 1, 2, none⟩ = some (.slice A' ac'.length C') ∧ w'.cell? ⟨w.heap.size + 1, 3, none⟩ = some (.slice (some ⟨yB', zB', none⟩) nx'.length D') ∧ w'.cell? ⟨yB, zB + j, none⟩ = some (.slice R1 x.length E1) ∧ w'.cell? ⟨yB', zB' + j, none⟩ = some (.slice R2 y.length E2) ∧ True) (first | exact ⟨sS.drew, x0, x1, x2, x3, d1, d2, trivial⟩ | (go_keep; done)) (fail)
            go_wp2_with fail
            go_ret
            exact ⟨ret_bool HE.out.symm, FIN.out _ sS.drew⟩
          have tx : ((x.length : Int) != (y.length : Int)) = false := by simp [hxy]
          have HXY := Lib.hid hxy
          have HE : Hid (sameA t a ac nx t a ac' nx' = (sameG x y 0 && sameG nx nx' (j + 1))) := by show _ = _; rw [hst.out, sameG_zero]
          clear hxy hst
          go_wp2_with fail
          go_region_held3 (fun w' => Sees w0 w' ∧ w'.cell? ⟨w.heap.size, 2, none⟩ = some (.slice A ac.length C) ∧ w'.cell? ⟨w.heap.size, 3, none⟩ = some (.slice (some ⟨yB, zB, none⟩) nx.length D) ∧ w'.cell? ⟨w.heap.size + 1, 2, none⟩ = some (.slice A' ac'.length C') ∧ w'.cell? ⟨w.heap.size + 1, 3, none⟩ = some (.slice (some ⟨yB', zB', none⟩) nx'.length D') ∧ w'.cell? ⟨yB, zB + j, none⟩ = some (.slice R1 x.length E1) ∧ w'.cell? ⟨yB', zB' + j, none⟩ = some (.slice R2 y.length E2) ∧ True) (first | exact ⟨sS.drew, x0, x1, x2, x3, d1, d2, trivial⟩ | (go_keep; done)) (fail)
          have HS3 : Hid (St w0 [(w.heap.size, 2, .slice A ac.length C), (w.heap.size, 3, .slice (some ⟨yB, zB, none⟩) nx.length D), (w.heap.size + 1, 2, .slice A' ac'.length C'), (w.heap.size + 1, 3, .slice (some ⟨yB', zB', none⟩) nx'.length D')] wr.drew) := ⟨sS.drew, x0, x1, x2, x3, trivial⟩
          clear sS x0 x1 x2 x3 d1 d2 tx hS2
          go_wp2_with fail
          go_loopw [7] (fun i wr => ∃ k : Nat, k ≤ x.length ∧ i = .int .i64 k ∧ Hid (sameA t a ac nx t a ac' nx' = (sameG x y k && sameG nx nx' (j + 1))) ∧ Hid (St w0 [(w.heap.size, 2, .slice A ac.length C), (w.heap.size, 3, .slice (some ⟨yB, zB, none⟩) nx.length D), (w.heap.size + 1, 2, .slice A' ac'.length C'), (w.heap.size + 1, 3, .slice (some ⟨yB', zB', none⟩) nx'.length D')] wr)) (fun i _ => x.length - (intOf i).toNat)
          case atStart => exact ⟨0, Nat.zero_le _, rfl, HE, HS3⟩
          case round =>
            obtain ⟨k, hk, rfl, hq, hS3⟩ := hrel
            clear HE HS3
            obtain ⟨sS, x0, x1, x2, x3, _⟩ := hS3.out
            have d1 := kc sS HC.out.1
            have d2 := kc sS HC.out.2
            by_cases hkl : k < x.length
            · have hky : k < y.length := by rw [← HXY.out]; exact hkl
              obtain ⟨yR, zR, _, rfl, hat⟩ := HQ.out (by rintro rfl; simp at hkl)
              obtain ⟨yR', zR', _, rfl, hat'⟩ := HQ'.out (by rintro rfl; simp at hky)
              obtain ⟨Q1, G1, c1, hQ⟩ := hat k x[k] (List.getElem?_eq_getElem hkl)
              obtain ⟨Q2, G2, c2, hQ'⟩ := hat' k y[k] (List.getElem?_eq_getElem hky)
              have hfx := HFX.out x[k] (List.getElem_mem hkl)
              have hst0 := sameG_step x y hkl hky
              obtain ⟨u, hu⟩ : ∃ u, u = x[k] := ⟨_, rfl⟩
              obtain ⟨v, hv⟩ : ∃ v, v = y[k] := ⟨_, rfl⟩
              rw [← hu] at c1 hst0 hQ hfx
              rw [← hv] at c2 hst0 hQ'
              have d3 := kc sS c1
              have d4 := kc sS c2
              obtain ⟨q, hqe⟩ : ∃ q : Bool, Hid (q = decide (u = v)) := ⟨_, rfl⟩
              have K : Hid (∀ W : World, Sees w0 W → Calls Try.prog 79 #[.slice Q1 u.length G1, .slice Q2 v.length G2] W fun e w' => e = .returned (.bool q) ∧ Below W.heap.size W w') := fun W h => by
                rw [hqe.out]
                exact l00Same_any u v hfx Q1 Q2 G1 G2 W (ints_ok.below hQ h) (ints_ok.below hQ' h)
              have hst : Hid (sameA t a ac nx t a ac' nx' = (q && (sameG x y (k + 1) && sameG nx nx' (j + 1)))) := by
                show _ = _
                rw [hq.out, hst0, hqe.out, Bool.and_assoc]
              have HAT2 := Lib.hid hat; have HAT3 := Lib.hid hat'
              have k0 : (0 : Int) ≤ (k : Int) := Int.natCast_nonneg _
              have k1 : (k : Int) < (x.length : Int) := by omega
              have k2 : (k : Int) < (y.length : Int) := by omega
              clear hat hat' c1 c2 hQ hQ' hfx hst0 hu hv hq
              go_wp2_with fail
              go_region_held3 (fun w' => Sees w0 w' ∧ w'.cell? ⟨w.heap.size, 2, none⟩ = some (.slice A ac.length C) ∧ w'.cell? ⟨w.heap.size, 3, none⟩ = some (.slice (some ⟨yB, zB, none⟩) nx.length D) ∧ w'.cell? ⟨w.heap.size + 1, 2, none⟩ = some (.slice A' ac'.length C') ∧ w'.cell? ⟨w.heap.size + 1, 3, none⟩ = some (.slice (some ⟨yB', zB', none⟩) nx'.length D') ∧ w'.cell? ⟨yB, zB + j, none⟩ = some (.slice (some ⟨yR, zR, none⟩) x.length E1) ∧ w'.cell? ⟨yB', zB' + j, none⟩ = some (.slice (some ⟨yR', zR', none⟩) y.length E2) ∧ w'.cell? ⟨yR, zR + k, none⟩ = some (.slice Q1 u.length G1) ∧ w'.cell? ⟨yR', zR' + k, none⟩ = some (.slice Q2 v.length G2) ∧ True)
                (first | exact ⟨sS.drew, x0, x1, x2, x3, d1, d2, d3, d4, trivial⟩ | exact T1 | (go_keep; done))
                ((go_at_call 79; refine (K.out _ ?_).mono ?_; exact sS.drew; rintro e w3 ⟨rfl, hb⟩; have T1 := St.below (w := w0) (l := [(w.heap.size, 2, .slice A ac.length C), (w.heap.size, 3, .slice (some ⟨yB, zB, none⟩) nx.length D), (w.heap.size + 1, 2, .slice A' ac'.length C'), (w.heap.size + 1, 3, .slice (some ⟨yB', zB', none⟩) nx'.length D'), (yB, zB + j, .slice (some ⟨yR, zR, none⟩) x.length E1), (yB', zB' + j, .slice (some ⟨yR', zR', none⟩) y.length E2), (yR, zR + k, .slice Q1 u.length G1), (yR', zR' + k, .slice Q2 v.length G2)]) (by assumption) hb))
              have T2 : Hid (St w0 [(w.heap.size, 2, .slice A ac.length C), (w.heap.size, 3, .slice (some ⟨yB, zB, none⟩) nx.length D), (w.heap.size + 1, 2, .slice A' ac'.length C'), (w.heap.size + 1, 3, .slice (some ⟨yB', zB', none⟩) nx'.length D')] w3) := by
                obtain ⟨q0, q1, q2, q3, q4, _⟩ := T1
                exact ⟨q0, q1, q2, q3, q4, trivial⟩
              clear T1 hb x0 x1 x2 x3 d1 d2 d3 d4 sS hS3
              cases q
              · have HE : Hid (sameA t a ac nx t a ac' nx' = false) := by show _ = _; rw [hst.out]; rfl
                go_wp2_with fail
                go_ret
                exact ⟨ret_bool HE.out.symm, FIN.out _ T2.out.1⟩
              · have HE : Hid (sameA t a ac nx t a ac' nx' = (sameG x y (k + 1) && sameG nx nx' (j + 1))) := by show _ = _; rw [hst.out]; rfl
                go_wp2_with fail
                go_roundw
                case rel => exact ⟨k + 1, by omega, by go_num, HE, T2⟩
                case measure => simp [intOf]; omega
            · obtain rfl : k = x.length := by omega
              have HE : Hid (sameA t a ac nx t a ac' nx' = sameG nx nx' (j + 1)) := by
                show _ = _
                rw [hq.out, sameG_end x y HXY.out]
                rfl
              clear hq
              go_wp2_with fail
              go_roundw
              case rel => exact ⟨j + 1, by omega, by go_num, HE, hS3⟩
              case measure => simp [intOf]; omega
        · obtain rfl : j = nx.length := by omega
          have HE : Hid (sameA t a ac nx t a ac' nx' = true) := by
            show _ = _
            rw [hq.out, sameG_end nx nx' HL2.out]
          clear hq
          go_wp2_with fail
          go_ret
          exact ⟨ret_bool HE.out.symm, FIN.out _ sS⟩
end Go.Proofs.Ytlmbcggfoaaibaa
