/- Contracts of spec.l05SameBits, spec.l05SameRows, spec.SameModel. -/
import Derived.Test.YtlmbcggfoaaibaaSmM
import Derived.Deep.DrawnRows
namespace Go.Proofs.Ytlmbcggfoaaibaa
open Go.RowKit
attribute [local go_sem ↓] Go.wp_at_zero Go.wp_at_succ

set_option maxHeartbeats 1000000 in
theorem l05SameBits_any (xs ys : List Bool) (hm : xs.length ≤ 9223372036854775807) (A A' : Option Addr) (C C' : Nat) (w : World) (hl : BoolsL 0 w xs A) (hl' : BoolsL 0 w ys A') :
    Calls Try.prog 116 #[.slice A xs.length C, .slice A' ys.length C'] w fun e w' => e = .returned (.bool (decide (xs = ys))) ∧ Below w.heap.size w w' := by
  by_cases hlen : xs.length = ys.length
  · have HL := Lib.hid hlen
    have tl : ((xs.length : Int) != (ys.length : Int)) = false := by simp [hlen]
    clear hlen
    have HD : Hid (decide (xs = ys) = sameG xs ys 0) := sameG_zero xs ys
    go_enter Try.func116, Try.ntmps116
    go_wp2_with fail
    go_loopw [5] (fun i wr => ∃ j : Nat, j ≤ xs.length ∧ i = .int .i64 j ∧ Hid (decide (xs = ys) = sameG xs ys j) ∧ Hid (Below w.heap.size w wr)) (fun i _ => xs.length - (intOf i).toNat)
    case atStart => exact ⟨0, Nat.zero_le _, rfl, HD, Below.refl _ _⟩
    case round =>
      obtain ⟨j, hj, rfl, hq, hw⟩ := hrel
      by_cases hjl : j < xs.length
      · obtain ⟨b, o, _, rfl, hat⟩ := hl (by rintro rfl; simp at hjl)
        obtain ⟨b', o', _, rfl, hat'⟩ := hl' (fun h => by have := HL.out; rw [h] at this; simp only [List.length_nil] at this; omega)
        have hjy : j < ys.length := by rw [← HL.out]; exact hjl
        have c0' := hat j xs[j] (List.getElem?_eq_getElem hjl)
        have d0' := hat' j ys[j] (List.getElem?_eq_getElem hjy)
        have hst0 := sameG_step xs ys hjl hjy
        obtain ⟨x, hx⟩ : ∃ x, x = xs[j] := ⟨_, rfl⟩
        obtain ⟨y, hy⟩ : ∃ y, y = ys[j] := ⟨_, rfl⟩
        rw [← hx] at c0' hst0
        rw [← hy] at d0' hst0
        have c0 := kc hw.out c0'
        have d0 := kc hw.out d0'
        have HA := Lib.hid hat; have HA2 := Lib.hid hat'
        have hst : Hid (decide (xs = ys) = (decide (x = y) && sameG xs ys (j + 1))) := hq.out.trans hst0
        clear hat hat' hst0 c0' d0' hx hy
        have hj0 : (0 : Int) ≤ (j : Int) := Int.natCast_nonneg _
        have hj1 : (j : Int) < (xs.length : Int) := by omega
        have hj2 : (j : Int) < (ys.length : Int) := by omega
        by_cases he : x = y
        · subst he
          have te : (x != x) = false := by simp
          have hq2 : Hid (decide (xs = ys) = sameG xs ys (j + 1)) := by show _ = _; rw [hst.out, decide_eq_true rfl]; rfl
          clear hst hq
          go_wp2_with fail
          go_quiet (fail)
          have hw2 : Hid (Below w.heap.size w (wr.drewN nq)) := ⟨hw.out.os, hw.out.tape, hw.out.output, hw.out.size, hw.out.block⟩
          go_wp2_with fail
          go_roundw
          case rel => exact ⟨j + 1, by omega, by go_num, hq2, hw2⟩
          case measure => simp [intOf]; omega
        · have hq2 : Hid (decide (xs = ys) = false) := by show _ = _; rw [hst.out, decide_eq_false he]; rfl
          obtain rfl : y = !x := by (cases x <;> cases y <;> simp_all)
          clear he hst hq
          go_wp2_with fail
          go_quiet (fail)
          have hw2 : Hid (Below w.heap.size w (wr.drewN nq)) := ⟨hw.out.os, hw.out.tape, hw.out.output, hw.out.size, hw.out.block⟩
          go_wp2_with fail
          go_ret
          exact ⟨ret_bool hq2.out.symm, hw2.out⟩
      · obtain rfl : j = xs.length := by omega
        have hq2 : Hid (decide (xs = ys) = true) := by show _ = _; rw [hq.out, sameG_end xs ys HL.out]
        clear hq
        go_wp2_with fail
        go_ret
        exact ⟨ret_bool hq2.out.symm, hw.out⟩
  · have tl : ((xs.length : Int) != (ys.length : Int)) = true := by rw [bne_iff_ne]; omega
    have HD : Hid (decide (xs = ys) = false) := decide_eq_false (fun h => hlen (by rw [h]))
    clear hlen
    go_enter Try.func116, Try.ntmps116
    go_wp2_with fail
    go_ret
    exact ⟨ret_bool HD.out.symm, Below.refl _ _⟩

set_option maxHeartbeats 1000000 in
theorem l05SameRows_any (xs ys : List (List Bool)) (hm : xs.length ≤ 9223372036854775807) (hf : ∀ x ∈ xs, x.length ≤ 9223372036854775807) (A A' : Option Addr) (C C' : Nat) (w : World) (hl : BB 0 w xs A) (hl' : BB 0 w ys A') :
    Calls Try.prog 65 #[.slice A xs.length C, .slice A' ys.length C'] w fun e w' => e = .returned (.bool (decide (xs = ys))) ∧ Below w.heap.size w w' := by
  by_cases hlen : xs.length = ys.length
  · have HL := Lib.hid hlen
    have tl : ((xs.length : Int) != (ys.length : Int)) = false := by simp [hlen]
    clear hlen
    have HD : Hid (decide (xs = ys) = sameG xs ys 0) := sameG_zero xs ys
    have HH := Lib.hid hl; have HH2 := Lib.hid hl'; have HF := Lib.hid hf
    clear hl hl' hf
    go_enter Try.func65, Try.ntmps65
    go_wp2_with fail
    go_loopw [5] (fun i wr => ∃ j : Nat, j ≤ xs.length ∧ i = .int .i64 j ∧ Hid (decide (xs = ys) = sameG xs ys j) ∧ Hid (Below w.heap.size w wr)) (fun i _ => xs.length - (intOf i).toNat)
    case atStart => exact ⟨0, Nat.zero_le _, rfl, HD, Below.refl _ _⟩
    case round =>
      obtain ⟨j, hj, rfl, hq, hw⟩ := hrel
      clear HD
      by_cases hjl : j < xs.length
      · obtain ⟨b, o, _, rfl, hat⟩ := HH.out (by rintro rfl; simp at hjl)
        obtain ⟨b', o', _, rfl, hat'⟩ := HH2.out (fun h => by have := HL.out; rw [h] at this; simp only [List.length_nil] at this; omega)
        have hjy : j < ys.length := by rw [← HL.out]; exact hjl
        obtain ⟨B, D, c0', hQ⟩ := hat j xs[j] (List.getElem?_eq_getElem hjl)
        obtain ⟨B', D', d0', hQ'⟩ := hat' j ys[j] (List.getElem?_eq_getElem hjy)
        have hfx := HF.out xs[j] (List.getElem_mem hjl)
        have hst0 := sameG_step xs ys hjl hjy
        obtain ⟨x, hx⟩ : ∃ x, x = xs[j] := ⟨_, rfl⟩
        obtain ⟨y, hy⟩ : ∃ y, y = ys[j] := ⟨_, rfl⟩
        rw [← hx] at c0' hst0 hQ hfx
        rw [← hy] at d0' hst0 hQ'
        have c0 := kc hw.out c0'
        have d0 := kc hw.out d0'
        have HA := Lib.hid hat; have HA2 := Lib.hid hat'
        have hst : Hid (decide (xs = ys) = (decide (x = y) && sameG xs ys (j + 1))) := hq.out.trans hst0
        obtain ⟨q, hqe⟩ : ∃ q : Bool, Hid (q = decide (x = y)) := ⟨_, rfl⟩
        have K : Hid (∀ W : World, Sees w W → Calls Try.prog 116 #[.slice B x.length D, .slice B' y.length D'] W fun e w' => e = .returned (.bool q) ∧ Below W.heap.size W w') := fun W h => by
          rw [hqe.out]
          exact l05SameBits_any x y hfx B B' D D' W (bools_ok.below hQ h) (bools_ok.below hQ' h)
        clear hat hat' hst0 c0' d0' hx hy hQ hQ' hfx
        have hj0 : (0 : Int) ≤ (j : Int) := Int.natCast_nonneg _
        have hj1 : (j : Int) < (xs.length : Int) := by omega
        have hj2 : (j : Int) < (ys.length : Int) := by omega
        have sS : Sees w wr := hw.out
        go_wp2_with fail
        go_region_held3 (fun w' => Sees w w' ∧ w'.cell? ⟨b, o + j, none⟩ = some (.slice B x.length D) ∧ w'.cell? ⟨b', o' + j, none⟩ = some (.slice B' y.length D') ∧ True)
          (first | exact ⟨sS.drew, c0, d0, trivial⟩ | exact T1 | (go_keep; done))
          ((go_at_call 116; refine (K.out _ ?_).mono ?_; exact sS.drew; rintro e w3 ⟨rfl, hb⟩; have T1 := St.below (w := w) (l := [(b, o + j, .slice B x.length D), (b', o' + j, .slice B' y.length D')]) (by assumption) hb))
        have hw2 := Lib.hid T1.1
        clear T1 hb c0 d0 sS
        cases q
        · have hq2 : Hid (decide (xs = ys) = false) := by show _ = _; rw [hst.out, ← hqe.out]; rfl
          go_wp2_with fail
          go_ret
          exact ⟨ret_bool hq2.out.symm, hw2.out⟩
        · have hq2 : Hid (decide (xs = ys) = sameG xs ys (j + 1)) := by show _ = _; rw [hst.out, ← hqe.out]; rfl
          go_wp2_with fail
          go_roundw
          case rel => exact ⟨j + 1, by omega, by go_num, hq2, hw2⟩
          case measure => simp [intOf]; omega
      · obtain rfl : j = xs.length := by omega
        have hq2 : Hid (decide (xs = ys) = true) := by show _ = _; rw [hq.out, sameG_end xs ys HL.out]
        clear hq
        go_wp2_with fail
        go_ret
        exact ⟨ret_bool hq2.out.symm, hw.out⟩
  · have tl : ((xs.length : Int) != (ys.length : Int)) = true := by rw [bne_iff_ne]; omega
    have HD : Hid (decide (xs = ys) = false) := decide_eq_false (fun h => hlen (by rw [h]))
    clear hlen
    go_enter Try.func65, Try.ntmps65
    go_wp2_with fail
    go_ret
    exact ⟨ret_bool HD.out.symm, Below.refl _ _⟩

set_option maxHeartbeats 4000000 in
set_option maxRecDepth 100000 in
theorem specSameModel_any (t a u : Int) (ac : List (List Bool)) (nx : List (List (List Bool))) (t' a' u' : Int) (ac' : List (List Bool)) (nx' : List (List (List Bool))) (hs : FitM ac nx) (A B A' B' : Option Addr) (C D C' D' : Nat) (w : World) (hA : BB 0 w ac A) (hB : BBB 0 w nx B) (hA' : BB 0 w ac' A') (hB' : BBB 0 w nx' B') :
    Calls Try.prog 18 #[.agg #[.int .i64 t, .int .i64 a, .int .i64 u, .slice A ac.length C, .slice B nx.length D], .agg #[.int .i64 t', .int .i64 a', .int .i64 u', .slice A' ac'.length C', .slice B' nx'.length D']] w fun e w' => e = .returned (.bool (sameM t a u ac nx t' a' u' ac' nx')) ∧ Below w.heap.size w w' := by
  obtain ⟨f1, f2, f3, f4⟩ := hs
  by_cases ht : t = t'
  case neg =>
    have HE : Hid (sameM t a u ac nx t' a' u' ac' nx' = false) := by show _ = _; unfold sameM; rw [decide_eq_false ht]; rfl
    clear f1 f2 f3 f4 hA hB hA' hB'
    go_enter Try.func18, Try.ntmps18
    go_wp2_with fail
    go_ret
    exact ⟨ret_bool HE.out.symm, by go_grown⟩
  subst ht
  by_cases ha : a = a'
  case neg =>
    have HE : Hid (sameM t a u ac nx t a' u' ac' nx' = false) := by show _ = _; unfold sameM; rw [decide_eq_false ha]; simp
    clear f1 f2 f3 f4 hA hB hA' hB'
    go_enter Try.func18, Try.ntmps18
    go_wp2_with fail
    go_ret
    exact ⟨ret_bool HE.out.symm, by go_grown⟩
  subst ha
  by_cases hu : u = u'
  case neg =>
    have HE : Hid (sameM t a u ac nx t a u' ac' nx' = false) := by show _ = _; unfold sameM; rw [decide_eq_false hu]; simp
    have tu : (u != u') = true := by rw [bne_iff_ne]; exact hu
    clear f1 f2 f3 f4 hA hB hA' hB'
    go_enter Try.func18, Try.ntmps18
    go_wp2_with fail
    go_ret
    exact ⟨ret_bool HE.out.symm, by go_grown⟩
  subst hu
  have tu : (u != u) = false := by simp
  obtain ⟨q1, hq1⟩ : ∃ q1 : Bool, q1 = decide (ac = ac') := ⟨_, rfl⟩
  have K1 : Hid (∀ W : World, Sees w W → Calls Try.prog 65 #[.slice A ac.length C, .slice A' ac'.length C'] W fun e w' => e = .returned (.bool q1) ∧ Below W.heap.size W w') := fun W h => by
    rw [hq1]
    exact l05SameRows_any ac ac' f1 f2 A A' C C' W (bb_ok.below hA h) (bb_ok.below hA' h)
  have HS0 : sameM t a u ac nx t a u ac' nx' = (q1 && decide (nx = nx')) := by unfold sameM; rw [hq1, decide_eq_true (p := t = t) rfl, decide_eq_true (p := a = a) rfl, decide_eq_true (p := u = u) rfl]; rfl
  cases q1
  · have HE : Hid (sameM t a u ac nx t a u ac' nx' = false) := by show _ = _; rw [HS0]; rfl
    clear f1 f2 f3 f4 hA hB hA' hB' hq1 HS0
    go_enter Try.func18, Try.ntmps18
    go_wp2_with fail
    refine (K1.out _ (by unfold Sees; go_grown)).mono ?_
    rintro e w1 ⟨rfl, hb⟩
    have B1 : Sees w w1 := Sees.below (by unfold Sees; go_grown) hb
    clear hb
    go_wp2_with fail
    go_ret
    exact ⟨ret_bool HE.out.symm, B1⟩
  by_cases hlen : nx.length = nx'.length
  case neg =>
    have tl : ((nx.length : Int) != (nx'.length : Int)) = true := by rw [bne_iff_ne]; omega
    have HE : Hid (sameM t a u ac nx t a u ac' nx' = false) := by show _ = _; rw [HS0, decide_eq_false (p := nx = nx') (fun h => hlen (by rw [h]))]; rfl
    clear f1 f2 f3 f4 hA hB hA' hB' hq1 HS0 hlen
    go_enter Try.func18, Try.ntmps18
    go_wp2_with fail
    refine (K1.out _ (by unfold Sees; go_grown)).mono ?_
    rintro e w1 ⟨rfl, hb⟩
    have B1 : Sees w w1 := Sees.below (by unfold Sees; go_grown) hb
    have x3 : w1.cell? ⟨w.heap.size, 4, none⟩ = some (.slice B nx.length D) := kc hb (by simp [go_sem])
    have y3 : w1.cell? ⟨w.heap.size + 1, 4, none⟩ = some (.slice B' nx'.length D') := kc hb (by simp [go_sem])
    clear hb
    go_wp2_with fail
    go_ret
    exact ⟨ret_bool HE.out.symm, B1⟩
  have tl : ((nx.length : Int) != (nx'.length : Int)) = false := by simp [hlen]
  have HD : Hid (sameM t a u ac nx t a u ac' nx' = sameG nx nx' 0) := by show _ = _; rw [HS0, ← sameG_zero]; rfl
  have HB := Lib.hid hB; have HB' := Lib.hid hB'; have HL := Lib.hid hlen; have HF := Lib.hid f4
  clear hA hA' hB hB' hq1 HS0 hlen f4 f2
  go_enter Try.func18, Try.ntmps18
  go_wp2_with fail
  refine (K1.out _ (by unfold Sees; go_grown)).mono ?_
  rintro e w1 ⟨rfl, hb⟩
  have S1 : Hid (St w [(w.heap.size, 4, .slice B nx.length D), (w.heap.size + 1, 4, .slice B' nx'.length D')] w1) := St.below ⟨(by unfold Sees; go_grown), (by simp [go_sem]), (by simp [go_sem]), trivial⟩ hb
  clear hb
  obtain ⟨_, x3, y3, _⟩ := S1.out
  go_wp2_with fail
  clear x3 y3 tl tu
  go_loopw [5] (fun i wr => ∃ j : Nat, j ≤ nx.length ∧ i = .int .i64 j ∧ Hid (sameM t a u ac nx t a u ac' nx' = sameG nx nx' j) ∧ Hid (St w [(w.heap.size, 4, .slice B nx.length D), (w.heap.size + 1, 4, .slice B' nx'.length D')] wr)) (fun i _ => nx.length - (intOf i).toNat)
  case atStart => exact ⟨0, Nat.zero_le _, rfl, HD, S1⟩
  case round =>
    obtain ⟨j, hj, rfl, hq, hS⟩ := hrel
    clear HD S1
    obtain ⟨sS, x3, y3, _⟩ := hS.out
    by_cases hjl : j < nx.length
    · have hjy : j < nx'.length := by rw [← HL.out]; exact hjl
      obtain ⟨yB, zB, _, rfl, hat⟩ := HB.out (by rintro rfl; simp at hjl)
      obtain ⟨yB', zB', _, rfl, hat'⟩ := HB'.out (by rintro rfl; simp at hjy)
      obtain ⟨R1, E1, c1, hQ⟩ := hat j nx[j] (List.getElem?_eq_getElem hjl)
      obtain ⟨R2, E2, c2, hQ'⟩ := hat' j nx'[j] (List.getElem?_eq_getElem hjy)
      have hfx := HF.out nx[j] (List.getElem_mem hjl)
      have hst0 := sameG_step nx nx' hjl hjy
      obtain ⟨x, hx⟩ : ∃ x, x = nx[j] := ⟨_, rfl⟩
      obtain ⟨y, hy⟩ : ∃ y, y = nx'[j] := ⟨_, rfl⟩
      rw [← hx] at c1 hst0 hQ hfx
      rw [← hy] at c2 hst0 hQ'
      have d1 := kc sS c1
      have d2 := kc sS c2
      obtain ⟨q, hqe⟩ : ∃ q : Bool, Hid (q = decide (x = y)) := ⟨_, rfl⟩
      have K : Hid (∀ W : World, Sees w W → Calls Try.prog 65 #[.slice R1 x.length E1, .slice R2 y.length E2] W fun e w' => e = .returned (.bool q) ∧ Below W.heap.size W w') := fun W h => by
        rw [hqe.out]
        exact l05SameRows_any x y hfx.1 hfx.2 R1 R2 E1 E2 W (bb_ok.below hQ h) (bb_ok.below hQ' h)
      have hst : Hid (sameM t a u ac nx t a u ac' nx' = (q && sameG nx nx' (j + 1))) := by
        show _ = _
        rw [hq.out, hst0, hqe.out]
      have HAT := Lib.hid hat; have HAT' := Lib.hid hat'
      have j0 : (0 : Int) ≤ (j : Int) := Int.natCast_nonneg _
      have j1 : (j : Int) < (nx.length : Int) := by omega
      have j2 : (j : Int) < (nx'.length : Int) := by omega
      clear hat hat' c1 c2 hQ hQ' hfx hst0 hx hy hq
      go_wp2_with fail
      go_region_held3 (fun w' => Sees w w' ∧ w'.cell? ⟨w.heap.size, 4, none⟩ = some (.slice (some ⟨yB, zB, none⟩) nx.length D) ∧ w'.cell? ⟨w.heap.size + 1, 4, none⟩ = some (.slice (some ⟨yB', zB', none⟩) nx'.length D') ∧ w'.cell? ⟨yB, zB + j, none⟩ = some (.slice R1 x.length E1) ∧ w'.cell? ⟨yB', zB' + j, none⟩ = some (.slice R2 y.length E2) ∧ True)
        (first | exact ⟨sS.drew, x3, y3, d1, d2, trivial⟩ | exact T1 | (go_keep; done))
        ((go_at_call 65; refine (K.out _ ?_).mono ?_; exact sS.drew; rintro e w3 ⟨rfl, hb⟩; have T1 := St.below (w := w) (l := [(w.heap.size, 4, .slice (some ⟨yB, zB, none⟩) nx.length D), (w.heap.size + 1, 4, .slice (some ⟨yB', zB', none⟩) nx'.length D'), (yB, zB + j, .slice R1 x.length E1), (yB', zB' + j, .slice R2 y.length E2)]) (by assumption) hb))
      have T2 : Hid (St w [(w.heap.size, 4, .slice (some ⟨yB, zB, none⟩) nx.length D), (w.heap.size + 1, 4, .slice (some ⟨yB', zB', none⟩) nx'.length D')] w3) := by
        obtain ⟨q0, q1, q2, _⟩ := T1
        exact ⟨q0, q1, q2, trivial⟩
      clear T1 hb x3 y3 d1 d2 sS hS
      cases q
      · have HE : Hid (sameM t a u ac nx t a u ac' nx' = false) := by show _ = _; rw [hst.out]; rfl
        go_wp2_with fail
        go_ret
        exact ⟨ret_bool HE.out.symm, T2.out.1⟩
      · have HE : Hid (sameM t a u ac nx t a u ac' nx' = sameG nx nx' (j + 1)) := by show _ = _; rw [hst.out]; rfl
        go_wp2_with fail
        go_roundw
        case rel => exact ⟨j + 1, by omega, by go_num, HE, T2⟩
        case measure => simp [intOf]; omega
    · obtain rfl : j = nx.length := by omega
      have HE : Hid (sameM t a u ac nx t a u ac' nx' = true) := by show _ = _; rw [hq.out, sameG_end nx nx' HL.out]
      clear hq
      go_wp2_with fail
      go_ret
      exact ⟨ret_bool HE.out.symm, sS⟩
end Go.Proofs.Ytlmbcggfoaaibaa
