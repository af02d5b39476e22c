/- slices.EqualFunc at the lists of automata; impl.SameAutomaton. -/
import Derived.Test.YtlmbcggfoaaibaaSmL
import Derived.Test.YtlmbcggfoaaibaaAutT
namespace Go.Proofs.Ytlmbcggfoaaibaa
open Go.RowKit

set_option maxHeartbeats 1000000 in
theorem equalBB_any (xs ys : List (List Bool)) (hm : xs.length ≤ 9223372036854775807) (hf : ∀ x ∈ xs, x.length ≤ 9223372036854775807) (A A' : Option Addr) (C C' : Nat) (w : World) (hl : Rows3 BoolsL List.length 0 w xs A) (hl' : Rows3 BoolsL List.length 0 w ys A') :
    Calls Try.prog 117 #[.slice A xs.length C, .slice A' ys.length C', .func (.func 118) #[] #[]] w fun e w' => e = .returned (.bool (decide (xs = ys))) ∧ Below w.heap.size w w' := by
  by_cases hlen : xs.length = ys.length
  · have HL := Lib.hid hlen
    have tl : ((xs.length : Int) != (ys.length : Int)) = false := by simp [hlen]
    clear hlen
    have HD : Hid (decide (xs = ys) = sameG xs ys 0) := sameG_zero xs ys
    have HH := Lib.hid hl; have HH2 := Lib.hid hl'; have HF := Lib.hid hf
    clear hl hl' hf
    go_enter Try.func117, Try.ntmps117
    go_wp2_with fail
    go_loopw [17] (fun i wr => ∃ j : Nat, j ≤ xs.length ∧ i = .int .i64 j ∧ Hid (decide (xs = ys) = sameG xs ys j) ∧ Hid (Below w.heap.size w wr)) (fun i _ => xs.length - (intOf i).toNat)
    case atStart => exact ⟨0, Nat.zero_le _, rfl, HD, Below.refl _ _⟩
    case round =>
      obtain ⟨j, hj, rfl, hq, hw⟩ := hrel
      clear HD
      by_cases hjl : j < xs.length
      · obtain ⟨b, o, _, rfl, hat⟩ := HH.out (by rintro rfl; simp at hjl)
        obtain ⟨b', o', _, rfl, hat'⟩ := HH2.out (fun h => by have := HL.out; rw [h] at this; simp only [List.length_nil] at this; omega)
        have hjy : j < ys.length := by rw [← HL.out]; exact hjl
        obtain ⟨B, D, c0', hQ⟩ := hat j xs[j] (List.getElem?_eq_getElem hjl)
        obtain ⟨B', D', d0', hQ'⟩ := hat' j ys[j] (List.getElem?_eq_getElem hjy)
        have hfx := HF.out xs[j] (List.getElem_mem hjl)
        have hst0 := sameG_step xs ys hjl hjy
        obtain ⟨x, hx⟩ : ∃ x, x = xs[j] := ⟨_, rfl⟩
        obtain ⟨y, hy⟩ : ∃ y, y = ys[j] := ⟨_, rfl⟩
        rw [← hx] at c0' hst0 hQ hfx
        rw [← hy] at d0' hst0 hQ'
        have c0 := kc hw.out c0'
        have d0 := kc hw.out d0'
        have HA := Lib.hid hat; have HA2 := Lib.hid hat'
        have hst : Hid (decide (xs = ys) = (decide (x = y) && sameG xs ys (j + 1))) := hq.out.trans hst0
        obtain ⟨q, hqe⟩ : ∃ q : Bool, Hid (q = decide (x = y)) := ⟨_, rfl⟩
        have K : Hid (∀ W : World, Sees w W → Calls Try.prog 118 #[.slice B x.length D, .slice B' y.length D'] W fun e w' => e = .returned (.bool q) ∧ Below W.heap.size W w') := fun W h => by
          rw [hqe.out]
          exact equalBools_any x y hfx B B' D D' W (bools_ok.below hQ h) (bools_ok.below hQ' h)
        clear hat hat' hst0 c0' d0' hx hy hQ hQ' hfx
        have hj0 : (0 : Int) ≤ (j : Int) := Int.natCast_nonneg _
        have hj1 : (j : Int) < (xs.length : Int) := by omega
        have hj2 : (j : Int) < (ys.length : Int) := by omega
        go_wp2_with fail
        refine (K.out _ hw.out).mono ?_
        rintro e w1 ⟨rfl, hb1⟩
        have hw2 := Lib.hid (Sees.below hw.out hb1)
        clear hb1 c0 d0
        cases q
        · have hq2 : Hid (decide (xs = ys) = false) := by show _ = _; rw [hst.out, ← hqe.out]; rfl
          go_wp2_with fail
          go_ret
          exact ⟨ret_bool hq2.out.symm, hw2.out⟩
        · have hq2 : Hid (decide (xs = ys) = sameG xs ys (j + 1)) := by show _ = _; rw [hst.out, ← hqe.out]; rfl
          go_wp2_with fail
          go_roundw
          case rel => exact ⟨j + 1, by omega, by go_num, hq2, hw2⟩
          case measure => simp [intOf]; omega
      · obtain rfl : j = xs.length := by omega
        have hq2 : Hid (decide (xs = ys) = true) := by show _ = _; rw [hq.out, sameG_end xs ys HL.out]
        clear hq
        go_wp2_with fail
        go_ret
        exact ⟨ret_bool hq2.out.symm, hw.out⟩
  · have tl : ((xs.length : Int) != (ys.length : Int)) = true := by rw [bne_iff_ne]; omega
    have HD : Hid (decide (xs = ys) = false) := decide_eq_false (fun h => hlen (by rw [h]))
    clear hlen
    go_enter Try.func117, Try.ntmps117
    go_wp2_with fail
    go_ret
    exact ⟨ret_bool HD.out.symm, Below.refl _ _⟩

set_option maxHeartbeats 1000000 in
theorem equalII_any (xs ys : List (List Int)) (hm : xs.length ≤ 9223372036854775807) (hf : ∀ x ∈ xs, x.length ≤ 9223372036854775807) (A A' : Option Addr) (C C' : Nat) (w : World) (hl : Rows3 IntsL List.length 0 w xs A) (hl' : Rows3 IntsL List.length 0 w ys A') :
    Calls Try.prog 128 #[.slice A xs.length C, .slice A' ys.length C', .func (.func 129) #[] #[]] w fun e w' => e = .returned (.bool (decide (xs = ys))) ∧ Below w.heap.size w w' := by
  by_cases hlen : xs.length = ys.length
  · have HL := Lib.hid hlen
    have tl : ((xs.length : Int) != (ys.length : Int)) = false := by simp [hlen]
    clear hlen
    have HD : Hid (decide (xs = ys) = sameG xs ys 0) := sameG_zero xs ys
    have HH := Lib.hid hl; have HH2 := Lib.hid hl'; have HF := Lib.hid hf
    clear hl hl' hf
    go_enter Try.func128, Try.ntmps128
    go_wp2_with fail
    go_loopw [17] (fun i wr => ∃ j : Nat, j ≤ xs.length ∧ i = .int .i64 j ∧ Hid (decide (xs = ys) = sameG xs ys j) ∧ Hid (Below w.heap.size w wr)) (fun i _ => xs.length - (intOf i).toNat)
    case atStart => exact ⟨0, Nat.zero_le _, rfl, HD, Below.refl _ _⟩
    case round =>
      obtain ⟨j, hj, rfl, hq, hw⟩ := hrel
      clear HD
      by_cases hjl : j < xs.length
      · obtain ⟨b, o, _, rfl, hat⟩ := HH.out (by rintro rfl; simp at hjl)
        obtain ⟨b', o', _, rfl, hat'⟩ := HH2.out (fun h => by have := HL.out; rw [h] at this; simp only [List.length_nil] at this; omega)
        have hjy : j < ys.length := by rw [← HL.out]; exact hjl
        obtain ⟨B, D, c0', hQ⟩ := hat j xs[j] (List.getElem?_eq_getElem hjl)
        obtain ⟨B', D', d0', hQ'⟩ := hat' j ys[j] (List.getElem?_eq_getElem hjy)
        have hfx := HF.out xs[j] (List.getElem_mem hjl)
        have hst0 := sameG_step xs ys hjl hjy
        obtain ⟨x, hx⟩ : ∃ x, x = xs[j] := ⟨_, rfl⟩
        obtain ⟨y, hy⟩ : ∃ y, y = ys[j] := ⟨_, rfl⟩
        rw [← hx] at c0' hst0 hQ hfx
        rw [← hy] at d0' hst0 hQ'
        have c0 := kc hw.out c0'
        have d0 := kc hw.out d0'
        have HA := Lib.hid hat; have HA2 := Lib.hid hat'
        have hst : Hid (decide (xs = ys) = (decide (x = y) && sameG xs ys (j + 1))) := hq.out.trans hst0
        obtain ⟨q, hqe⟩ : ∃ q : Bool, Hid (q = decide (x = y)) := ⟨_, rfl⟩
        have K : Hid (∀ W : World, Sees w W → Calls Try.prog 129 #[.slice B x.length D, .slice B' y.length D'] W fun e w' => e = .returned (.bool q) ∧ Below W.heap.size W w') := fun W h => by
          rw [hqe.out]
          exact equalInts_any x y hfx B B' D D' W (ints_ok.below hQ h) (ints_ok.below hQ' h)
        clear hat hat' hst0 c0' d0' hx hy hQ hQ' hfx
        have hj0 : (0 : Int) ≤ (j : Int) := Int.natCast_nonneg _
        have hj1 : (j : Int) < (xs.length : Int) := by omega
        have hj2 : (j : Int) < (ys.length : Int) := by omega
        go_wp2_with fail
        refine (K.out _ hw.out).mono ?_
        rintro e w1 ⟨rfl, hb1⟩
        have hw2 := Lib.hid (Sees.below hw.out hb1)
        clear hb1 c0 d0
        cases q
        · have hq2 : Hid (decide (xs = ys) = false) := by show _ = _; rw [hst.out, ← hqe.out]; rfl
          go_wp2_with fail
          go_ret
          exact ⟨ret_bool hq2.out.symm, hw2.out⟩
        · have hq2 : Hid (decide (xs = ys) = sameG xs ys (j + 1)) := by show _ = _; rw [hst.out, ← hqe.out]; rfl
          go_wp2_with fail
          go_roundw
          case rel => exact ⟨j + 1, by omega, by go_num, hq2, hw2⟩
          case measure => simp [intOf]; omega
      · obtain rfl : j = xs.length := by omega
        have hq2 : Hid (decide (xs = ys) = true) := by show _ = _; rw [hq.out, sameG_end xs ys HL.out]
        clear hq
        go_wp2_with fail
        go_ret
        exact ⟨ret_bool hq2.out.symm, hw.out⟩
  · have tl : ((xs.length : Int) != (ys.length : Int)) = true := by rw [bne_iff_ne]; omega
    have HD : Hid (decide (xs = ys) = false) := decide_eq_false (fun h => hlen (by rw [h]))
    clear hlen
    go_enter Try.func128, Try.ntmps128
    go_wp2_with fail
    go_ret
    exact ⟨ret_bool HD.out.symm, Below.refl _ _⟩

theorem sameRowsI_any (xs ys : List (List Int)) (hm : xs.length ≤ 9223372036854775807) (hf : ∀ x ∈ xs, x.length ≤ 9223372036854775807) (A A' : Option Addr) (C C' : Nat) (w : World) (hl : II 0 w xs A) (hl' : II 0 w ys A') :
    Calls Try.prog 81 #[.slice A xs.length C, .slice A' ys.length C'] w fun e w' => e = .returned (.bool (decide (xs = ys))) ∧ Below w.heap.size w w' := by
  obtain ⟨q, hq⟩ : ∃ q : Bool, q = decide (xs = ys) := ⟨_, rfl⟩
  have K : Hid (∀ W : World, Sees w W → Calls Try.prog 128 #[.slice A xs.length C, .slice A' ys.length C', .func (.func 129) #[] #[]] W fun e w' => e = .returned (.bool q) ∧ Below W.heap.size W w') := fun W h => by
    rw [hq]
    exact equalII_any xs ys hm hf A A' C C' W (ii_ok.below hl h) (ii_ok.below hl' h)
  rw [← hq]
  clear hq hl hl' hf
  go_enter Try.func81, Try.ntmps81
  go_wp2_with fail
  refine (K.out _ (Sees.refl _)).mono ?_
  rintro e w1 ⟨rfl, hb⟩
  go_wp2_with fail
  go_ret
  exact ⟨rfl, hb⟩

theorem sameRowsB_any (xs ys : List (List Bool)) (hm : xs.length ≤ 9223372036854775807) (hf : ∀ x ∈ xs, x.length ≤ 9223372036854775807) (A A' : Option Addr) (C C' : Nat) (w : World) (hl : BB 0 w xs A) (hl' : BB 0 w ys A') :
    Calls Try.prog 66 #[.slice A xs.length C, .slice A' ys.length C'] w fun e w' => e = .returned (.bool (decide (xs = ys))) ∧ Below w.heap.size w w' := by
  obtain ⟨q, hq⟩ : ∃ q : Bool, q = decide (xs = ys) := ⟨_, rfl⟩
  have K : Hid (∀ W : World, Sees w W → Calls Try.prog 117 #[.slice A xs.length C, .slice A' ys.length C', .func (.func 118) #[] #[]] W fun e w' => e = .returned (.bool q) ∧ Below W.heap.size W w') := fun W h => by
    rw [hq]
    exact equalBB_any xs ys hm hf A A' C C' W (bb_ok.below hl h) (bb_ok.below hl' h)
  rw [← hq]
  clear hq hl hl' hf
  go_enter Try.func66, Try.ntmps66
  go_wp2_with fail
  refine (K.out _ (Sees.refl _)).mono ?_
  rintro e w1 ⟨rfl, hb⟩
  go_wp2_with fail
  go_ret
  exact ⟨rfl, hb⟩

set_option maxHeartbeats 1000000 in
theorem equalIII_any (xs ys : List (List (List Int))) (hm : xs.length ≤ 9223372036854775807) (hf : ∀ x ∈ xs, x.length ≤ 9223372036854775807 ∧ ∀ y ∈ x, y.length ≤ 9223372036854775807) (A A' : Option Addr) (C C' : Nat) (w : World) (hl : Rows3 II List.length 0 w xs A) (hl' : Rows3 II List.length 0 w ys A') :
    Calls Try.prog 80 #[.slice A xs.length C, .slice A' ys.length C', .func (.func 81) #[] #[]] w fun e w' => e = .returned (.bool (decide (xs = ys))) ∧ Below w.heap.size w w' := by
  by_cases hlen : xs.length = ys.length
  · have HL := Lib.hid hlen
    have tl : ((xs.length : Int) != (ys.length : Int)) = false := by simp [hlen]
    clear hlen
    have HD : Hid (decide (xs = ys) = sameG xs ys 0) := sameG_zero xs ys
    have HH := Lib.hid hl; have HH2 := Lib.hid hl'; have HF := Lib.hid hf
    clear hl hl' hf
    go_enter Try.func80, Try.ntmps80
    go_wp2_with fail
    go_loopw [17] (fun i wr => ∃ j : Nat, j ≤ xs.length ∧ i = .int .i64 j ∧ Hid (decide (xs = ys) = sameG xs ys j) ∧ Hid (Below w.heap.size w wr)) (fun i _ => xs.length - (intOf i).toNat)
    case atStart => exact ⟨0, Nat.zero_le _, rfl, HD, Below.refl _ _⟩
    case round =>
      obtain ⟨j, hj, rfl, hq, hw⟩ := hrel
      clear HD
      by_cases hjl : j < xs.length
      · obtain ⟨b, o, _, rfl, hat⟩ := HH.out (by rintro rfl; simp at hjl)
        obtain ⟨b', o', _, rfl, hat'⟩ := HH2.out (fun h => by have := HL.out; rw [h] at this; simp only [List.length_nil] at this; omega)
        have hjy : j < ys.length := by rw [← HL.out]; exact hjl
        obtain ⟨B, D, c0', hQ⟩ := hat j xs[j] (List.getElem?_eq_getElem hjl)
        obtain ⟨B', D', d0', hQ'⟩ := hat' j ys[j] (List.getElem?_eq_getElem hjy)
        have hfx := HF.out xs[j] (List.getElem_mem hjl)
        have hst0 := sameG_step xs ys hjl hjy
        obtain ⟨x, hx⟩ : ∃ x, x = xs[j] := ⟨_, rfl⟩
        obtain ⟨y, hy⟩ : ∃ y, y = ys[j] := ⟨_, rfl⟩
        rw [← hx] at c0' hst0 hQ hfx
        rw [← hy] at d0' hst0 hQ'
        have c0 := kc hw.out c0'
        have d0 := kc hw.out d0'
        have HA := Lib.hid hat; have HA2 := Lib.hid hat'
        have hst : Hid (decide (xs = ys) = (decide (x = y) && sameG xs ys (j + 1))) := hq.out.trans hst0
        obtain ⟨q, hqe⟩ : ∃ q : Bool, Hid (q = decide (x = y)) := ⟨_, rfl⟩
        have K : Hid (∀ W : World, Sees w W → Calls Try.prog 81 #[.slice B x.length D, .slice B' y.length D'] W fun e w' => e = .returned (.bool q) ∧ Below W.heap.size W w') := fun W h => by
          rw [hqe.out]
          exact sameRowsI_any x y hfx.1 hfx.2 B B' D D' W (ii_ok.below hQ h) (ii_ok.below hQ' h)
        clear hat hat' hst0 c0' d0' hx hy hQ hQ' hfx
        have hj0 : (0 : Int) ≤ (j : Int) := Int.natCast_nonneg _
        have hj1 : (j : Int) < (xs.length : Int) := by omega
        have hj2 : (j : Int) < (ys.length : Int) := by omega
        go_wp2_with fail
        refine (K.out _ hw.out).mono ?_
        rintro e w1 ⟨rfl, hb1⟩
        have hw2 := Lib.hid (Sees.below hw.out hb1)
        clear hb1 c0 d0
        cases q
        · have hq2 : Hid (decide (xs = ys) = false) := by show _ = _; rw [hst.out, ← hqe.out]; rfl
          go_wp2_with fail
          go_ret
          exact ⟨ret_bool hq2.out.symm, hw2.out⟩
        · have hq2 : Hid (decide (xs = ys) = sameG xs ys (j + 1)) := by show _ = _; rw [hst.out, ← hqe.out]; rfl
          go_wp2_with fail
          go_roundw
          case rel => exact ⟨j + 1, by omega, by go_num, hq2, hw2⟩
          case measure => simp [intOf]; omega
      · obtain rfl : j = xs.length := by omega
        have hq2 : Hid (decide (xs = ys) = true) := by show _ = _; rw [hq.out, sameG_end xs ys HL.out]
        clear hq
        go_wp2_with fail
        go_ret
        exact ⟨ret_bool hq2.out.symm, hw.out⟩
  · have tl : ((xs.length : Int) != (ys.length : Int)) = true := by rw [bne_iff_ne]; omega
    have HD : Hid (decide (xs = ys) = false) := decide_eq_false (fun h => hlen (by rw [h]))
    clear hlen
    go_enter Try.func80, Try.ntmps80
    go_wp2_with fail
    go_ret
    exact ⟨ret_bool HD.out.symm, Below.refl _ _⟩

def sameA (t a : Int) (ac : List (List Bool)) (nx : List (List (List Int))) (t' a' : Int) (ac' : List (List Bool)) (nx' : List (List (List Int))) : Bool := decide (t = t') && (decide (a = a') && (decide (ac = ac') && decide (nx = nx')))

set_option maxHeartbeats 2000000 in
set_option maxRecDepth 100000 in
theorem implSameAutomaton_any (t a : Int) (ac : List (List Bool)) (nx : List (List (List Int))) (t' a' : Int) (ac' : List (List Bool)) (nx' : List (List (List Int))) (hs : FitA ac nx) (A B A' B' : Option Addr) (C D C' D' : Nat) (w : World) (hA : BB 0 w ac A) (hB : III 0 w nx B) (hA' : BB 0 w ac' A') (hB' : III 0 w nx' B') :
    Calls Try.prog 30 #[.agg #[.int .i64 t, .int .i64 a, .slice A ac.length C, .slice B nx.length D], .agg #[.int .i64 t', .int .i64 a', .slice A' ac'.length C', .slice B' nx'.length D']] w fun e w' => e = .returned (.bool (sameA t a ac nx t' a' ac' nx')) ∧ Below w.heap.size w w' := by
  obtain ⟨f1, f2, f3, f4⟩ := hs
  by_cases ht : t = t'
  case neg =>
    have HE : Hid (sameA t a ac nx t' a' ac' nx' = false) := by show _ = _; unfold sameA; rw [decide_eq_false ht]; rfl
    clear f1 f2 f3 f4 hA hB hA' hB'
    go_enter Try.func30, Try.ntmps30
    go_wp2_with fail
    go_ret
    exact ⟨ret_bool HE.out.symm, by go_grown⟩
  subst ht
  by_cases ha : a = a'
  case neg =>
    have HE : Hid (sameA t a ac nx t a' ac' nx' = false) := by show _ = _; unfold sameA; rw [decide_eq_false ha]; simp
    clear f1 f2 f3 f4 hA hB hA' hB'
    go_enter Try.func30, Try.ntmps30
    go_wp2_with fail
    go_ret
    exact ⟨ret_bool HE.out.symm, by go_grown⟩
  subst ha
  obtain ⟨q1, hq1⟩ : ∃ q1 : Bool, q1 = decide (ac = ac') := ⟨_, rfl⟩
  obtain ⟨q2, hq2⟩ : ∃ q2 : Bool, q2 = decide (nx = nx') := ⟨_, rfl⟩
  have HE : Hid (sameA t a ac nx t a ac' nx' = (q1 && q2)) := by show _ = _; unfold sameA; rw [hq1, hq2, decide_eq_true rfl, decide_eq_true rfl]; rfl
  have K1 : Hid (∀ W : World, Sees w W → Calls Try.prog 66 #[.slice A ac.length C, .slice A' ac'.length C'] W fun e w' => e = .returned (.bool q1) ∧ Below W.heap.size W w') := fun W h => by
    rw [hq1]
    exact sameRowsB_any ac ac' f1 f2 A A' C C' W (bb_ok.below hA h) (bb_ok.below hA' h)
  have K2 : Hid (∀ W : World, Sees w W → Calls Try.prog 80 #[.slice B nx.length D, .slice B' nx'.length D', .func (.func 81) #[] #[]] W fun e w' => e = .returned (.bool q2) ∧ Below W.heap.size W w') := fun W h => by
    rw [hq2]
    exact equalIII_any nx nx' f3 f4 B B' D D' W (iii_ok.below hB h) (iii_ok.below hB' h)
  clear f1 f2 f3 f4 hA hB hA' hB' hq1 hq2
  cases q1
  · go_enter Try.func30, Try.ntmps30
    go_wp2_with fail
    refine (K1.out _ (by unfold Sees; go_grown)).mono ?_
    rintro e w1 ⟨rfl, hb⟩
    have B1 : Sees w w1 := Sees.below (by unfold Sees; go_grown) hb
    clear hb
    go_wp2_with fail
    go_ret
    exact ⟨ret_bool (by rw [HE.out]; rfl), B1⟩
  · go_enter Try.func30, Try.ntmps30
    go_wp2_with fail
    refine (K1.out _ (by unfold Sees; go_grown)).mono ?_
    rintro e w1 ⟨rfl, hb⟩
    have B1 : Sees w w1 := Sees.below (by unfold Sees; go_grown) hb
    have x3 : w1.cell? ⟨w.heap.size, 3, none⟩ = some (.slice B nx.length D) := kc hb (by simp [go_sem])
    have y3 : w1.cell? ⟨w.heap.size + 1, 3, none⟩ = some (.slice B' nx'.length D') := kc hb (by simp [go_sem])
    clear hb
    go_wp2_with fail
    refine (K2.out _ B1).mono ?_
    rintro e w2 ⟨rfl, hb⟩
    have B2 : Sees w w2 := B1.below hb
    clear hb B1 x3 y3
    go_wp2_with fail
    go_ret
    exact ⟨ret_bool (by rw [HE.out]; rfl), B2⟩
end Go.Proofs.Ytlmbcggfoaaibaa
