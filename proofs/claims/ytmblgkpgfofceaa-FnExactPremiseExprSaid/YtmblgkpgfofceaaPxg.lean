/- Contracts of impl.every at premises, impl.validPremise, impl.ValidPremises. Sets of atoms: eight Booleans in a row. Plain facts. The places of what is true, as a list; numbers that rise. Plain facts. The atoms that a condition names, as a list; what AtomsOf answers. Plain facts. -/
import Derived.Test.YtmblgkpgfofceaaPrD
import Derived.Test.YtmblgkpgfofceaaPrC
import Derived.Shelf.Abstract
import Derived.Laws.EntriesVeiled
import Derived.Deep.RegionHeld3
import Derived.Test.YtmblgkpgfofceaaPxd
import Derived.Test.YtmblgkpgfofceaaFill
import Derived.Test.YtmblgkpgfofceaaInts
namespace Go.Proofs.Ytmblgkpgfofceaa
open Go.RowKit

set_option maxHeartbeats 400000 in
theorem every1P_any (q : Bool) (N : Nat) (caps : Array Value) (eg : ∀ args w, (callFunc N args).run Try.prog w = .ok (.enter N args) w) (bh : Nat) (x : Pm) (A B : Option Addr) (C D : Nat) (w : World) (hc : w.cell? ⟨bh, 0, none⟩ = some (.func (.func N) #[] caps))
    (KC : Hid (∀ W : World, Sees w W → Calls Try.prog N (#[.agg #[.int .i64 x.pk, .int .i64 x.pn, .slice A x.pf.len C, .int .i64 x.act, .int .i64 x.qk, .int .i64 x.qn, .slice B x.qf.len D]] ++ caps) W fun e w' => e = .returned (.bool q) ∧ Below W.heap.size W w')) :
    Calls Try.prog 141 #[.agg #[.int .i64 x.pk, .int .i64 x.pn, .slice A x.pf.len C, .int .i64 x.act, .int .i64 x.qk, .int .i64 x.qn, .slice B x.qf.len D], .pointer (some ⟨bh, 0, none⟩)] w fun e w' => e = .returned (.bool (!q)) ∧ Below w.heap.size w w' := by
  have hc2 := ka (.cells #[.int .i64 x.pk, .int .i64 x.pn, .slice A x.pf.len C, .int .i64 x.act, .int .i64 x.qk, .int .i64 x.qn, .slice B x.qf.len D] 50) hc
  have KS := Lib.hid (KC.out _ ((Sees.refl w).alloc (.cells #[.int .i64 x.pk, .int .i64 x.pn, .slice A x.pf.len C, .int .i64 x.act, .int .i64 x.qk, .int .i64 x.qn, .slice B x.qf.len D] 50)))
  clear hc KC
  cases q
  all_goals
    go_enter Try.func141, Try.ntmps141
    go_wp2_with (go_at_fn N; refine KS.out.mono ?_; rintro e w1 ⟨rfl, hb⟩)
    go_ret
    exact ⟨rfl, Sees.below ((Sees.refl w).alloc _) (by assumption)⟩

set_option maxHeartbeats 1000000 in
theorem indexP_any (G : Pm → Bool) (bh : Nat) (xs : List Pm) (hm : xs.length ≤ 9223372036854775807) (A : Option Addr) (C : Nat) (w : World) (hl : PmL w xs A)
    (KC : Hid (∀ (W : World) (x : Pm) (A B : Option Addr) (C D : Nat), Sees w W → x ∈ xs → x.pf.Lies W A → x.qf.Lies W B → Calls Try.prog 141 #[.agg #[.int .i64 x.pk, .int .i64 x.pn, .slice A x.pf.len C, .int .i64 x.act, .int .i64 x.qk, .int .i64 x.qn, .slice B x.qf.len D], .pointer (some ⟨bh, 0, none⟩)] W fun e w' => e = .returned (.bool (!G x)) ∧ Below W.heap.size W w')) :
    Calls Try.prog 165 #[.slice A xs.length C, .func (.func 141) #[] #[.pointer (some ⟨bh, 0, none⟩)]] w fun e w' => (∃ i : Int, e = .returned (.int .i64 i) ∧ decide (0 ≤ i) = !(xs.all G)) ∧ Below w.heap.size w w' := by
  have HD : Hid (xs.all G = allS G xs 0) := allS_zero G xs
  have HH := Lib.hid hl
  clear hl
  go_enter Try.func165, Try.ntmps165
  go_wp2_with fail
  go_loopw [8] (fun i wr => ∃ j : Nat, j ≤ xs.length ∧ i = .int .i64 j ∧ Hid (xs.all G = allS G xs j) ∧ Hid (Below w.heap.size w wr)) (fun i _ => xs.length - (intOf i).toNat)
  case atStart => exact ⟨0, Nat.zero_le _, rfl, HD, Below.refl _ _⟩
  case round =>
    obtain ⟨j, hj, rfl, hq, hw⟩ := hrel
    clear HD
    by_cases hjl : j < xs.length
    · obtain ⟨b, o, rfl, hat⟩ := HH.out (by rintro rfl; simp at hjl)
      obtain ⟨A', C', B', D', c', hQ, hR⟩ := hat j xs[j] (List.getElem?_eq_getElem hjl)
      have hst0 := allS_step G xs hjl
      have hin := List.getElem_mem hjl
      obtain ⟨x, hx⟩ : ∃ x, x = xs[j] := ⟨_, rfl⟩
      rw [← hx] at c' hst0 hin hQ hR
      obtain ⟨c0, c1, c2, c3, c4, c5, c6⟩ := c'.below hw.out
      have KX := Lib.hid (KC.out wr x A' B' C' D' hw.out hin (hQ.below hw.out) (hR.below hw.out))
      have HA := Lib.hid hat
      have hst : Hid (xs.all G = (G x && allS G xs (j + 1))) := hq.out.trans hst0
      obtain ⟨q, hqe⟩ : ∃ q : Bool, q = G x := ⟨_, rfl⟩
      rw [← hqe] at KX hst
      clear hat hst0 c' hx hin hQ hR hqe hq
      have hj0 : (0 : Int) ≤ (j : Int) := Int.natCast_nonneg _
      have hj1 : (j : Int) < (xs.length : Int) := by omega
      cases q
      · have hq2 : Hid (decide ((0 : Int) ≤ (j : Int)) = !(xs.all G)) := by show _ = _; rw [hst.out, decide_eq_true hj0]; rfl
        go_wp2_with fail
        refine KX.out.mono ?_
        rintro e w1 ⟨rfl, hb1⟩
        have hw2 := Sees.below hw.out hb1
        clear hb1 c0 c1 c2 c3 c4 c5 c6
        go_wp2_with fail
        go_ret
        exact ⟨⟨_, rfl, hq2.out⟩, hw2⟩
      · have hq2 : Hid (xs.all G = allS G xs (j + 1)) := by show _ = _; rw [hst.out]; rfl
        go_wp2_with fail
        refine KX.out.mono ?_
        rintro e w1 ⟨rfl, hb1⟩
        have hw2 := Lib.hid (Sees.below hw.out hb1)
        clear hb1 c0 c1 c2 c3 c4 c5 c6
        go_wp2_with fail
        go_roundw
        case rel => exact ⟨j + 1, by omega, by go_num, hq2, hw2⟩
        case measure => simp [intOf]; omega
    · obtain rfl : j = xs.length := by omega
      have hq2 : Hid (decide ((0 : Int) ≤ -1) = !(xs.all G)) := by show _ = _; rw [hq.out, allS_end]; rfl
      clear hq
      go_wp2_with fail
      go_ret
      exact ⟨⟨_, rfl, hq2.out⟩, hw.out⟩

set_option maxHeartbeats 400000 in
theorem containsP_any (G : Pm → Bool) (bh : Nat) (xs : List Pm) (hm : xs.length ≤ 9223372036854775807) (A : Option Addr) (C : Nat) (w : World) (hl : PmL w xs A)
    (KC : Hid (∀ (W : World) (x : Pm) (A B : Option Addr) (C D : Nat), Sees w W → x ∈ xs → x.pf.Lies W A → x.qf.Lies W B → Calls Try.prog 141 #[.agg #[.int .i64 x.pk, .int .i64 x.pn, .slice A x.pf.len C, .int .i64 x.act, .int .i64 x.qk, .int .i64 x.qn, .slice B x.qf.len D], .pointer (some ⟨bh, 0, none⟩)] W fun e w' => e = .returned (.bool (!G x)) ∧ Below W.heap.size W w')) :
    Calls Try.prog 140 #[.slice A xs.length C, .func (.func 141) #[] #[.pointer (some ⟨bh, 0, none⟩)]] w fun e w' => e = .returned (.bool (!(xs.all G))) ∧ Below w.heap.size w w' := by
  have KI := Lib.hid (indexP_any G bh xs hm A C w hl KC)
  clear hl
  obtain ⟨q, hq⟩ : ∃ q : Bool, q = xs.all G := ⟨_, rfl⟩
  rw [← hq] at KI ⊢
  clear hq
  go_enter Try.func140, Try.ntmps140
  go_wp2_with fail
  refine KI.out.mono ?_
  rintro e w1 ⟨⟨i, rfl, hi⟩, hb⟩
  by_cases h0 : 0 ≤ i
  · have hi' : q = false := by rw [decide_eq_true h0] at hi; simpa using hi.symm
    subst hi'
    clear hi
    go_wp2_with fail
    go_ret
    exact ⟨rfl, hb⟩
  · have hi' : q = true := by rw [decide_eq_false h0] at hi; simpa using hi.symm
    subst hi'
    clear hi
    have hd : Hid (decide (0 ≤ i) = !true) := decide_eq_false h0
    go_wp2_with fail
    go_ret
    exact ⟨ret_bool hd.out, hb⟩

set_option maxHeartbeats 400000 in
theorem everyP_any (G : Pm → Bool) (N : Nat) (caps : Array Value) (eg : ∀ args w, (callFunc N args).run Try.prog w = .ok (.enter N args) w) (xs : List Pm) (hm : xs.length ≤ 9223372036854775807) (A : Option Addr) (C : Nat) (w : World) (hl : PmL w xs A)
    (KC : Hid (∀ (W : World) (x : Pm) (A B : Option Addr) (C D : Nat), Sees w W → x ∈ xs → x.pf.Lies W A → x.qf.Lies W B → Calls Try.prog N (#[.agg #[.int .i64 x.pk, .int .i64 x.pn, .slice A x.pf.len C, .int .i64 x.act, .int .i64 x.qk, .int .i64 x.qn, .slice B x.qf.len D]] ++ caps) W fun e w' => e = .returned (.bool (G x)) ∧ Below W.heap.size W w')) :
    Calls Try.prog 106 #[.slice A xs.length C, .func (.func N) #[] caps] w fun e w' => e = .returned (.bool (xs.all G)) ∧ Below w.heap.size w w' := by
  have KI : Hid (∀ W : World, Sees w W → W.cell? ⟨w.heap.size, 0, none⟩ = some (.func (.func N) #[] caps) → Calls Try.prog 140 #[.slice A xs.length C, .func (.func 141) #[] #[.pointer (some ⟨w.heap.size, 0, none⟩)]] W fun e w' => e = .returned (.bool (!(xs.all G))) ∧ Below W.heap.size W w') := fun W h hc =>
    containsP_any G w.heap.size xs hm A C W (hl.below h) (fun W' x A B C D h' hx hQ hR => every1P_any (G x) N caps eg w.heap.size x A B C D W' (kc h' hc) (fun W2 h2 => KC.out W2 x A B C D (Sees.below h (Sees.below h' h2)) hx (hQ.below h2) (hR.below h2)))
  clear hl
  obtain ⟨q, hq⟩ : ∃ q : Bool, q = xs.all G := ⟨_, rfl⟩
  rw [← hq] at KI ⊢
  clear hq
  cases q
  all_goals
    go_enter Try.func106, Try.ntmps106
    go_wp2_with fail
    refine (KI.out _ (by unfold Sees; go_grown) (by simp [go_sem])).mono ?_
    rintro e w1 ⟨rfl, hb⟩
    have B1 : Sees w w1 := Sees.below (by unfold Sees; go_grown) hb
    clear hb
    go_wp2_with fail
    go_ret
    exact ⟨rfl, B1⟩

set_option maxHeartbeats 1000000 in
set_option maxRecDepth 100000 in
theorem validPremise_any (t a : Int) (x : Pm) (hm : x.pf.nodes + x.qf.nodes ≤ 1048576) (hf : x.pf.Fits) (hg : x.qf.Fits) (A B : Option Addr) (C D : Nat) (w : World) (hA : x.pf.Lies w A) (hB : x.qf.Lies w B) :
    Calls Try.prog 64 #[.agg #[.int .i64 t, .int .i64 a], .agg #[.int .i64 x.pk, .int .i64 x.pn, .slice A x.pf.len C, .int .i64 x.act, .int .i64 x.qk, .int .i64 x.qn, .slice B x.qf.len D]] w fun e w' => e = .returned (.bool (premB t a x)) ∧ Below w.heap.size w w' := by
  obtain ⟨q1, hq1⟩ : ∃ q : Bool, q = condV t a x.pk x.pn x.pf := ⟨_, rfl⟩
  obtain ⟨q2, hq2⟩ : ∃ q : Bool, q = condV t a x.qk x.qn x.qf := ⟨_, rfl⟩
  obtain ⟨q3, hq3⟩ : ∃ q : Bool, q = belowB x.act a := ⟨_, rfl⟩
  have K1 : Hid (∀ W : World, Sees w W → Calls Try.prog 120 #[.agg #[.int .i64 t, .int .i64 a], .agg #[.int .i64 x.pk, .int .i64 x.pn, .slice A x.pf.len C]] W fun e w' => e = .returned (.bool q1) ∧ Below W.heap.size W w') := fun W h => by
    rw [hq1]; exact validCondition_any t a x.pk x.pn x.pf (by omega) hf A C W (hA.sees h)
  have K2 : Hid (∀ W : World, Sees w W → Calls Try.prog 120 #[.agg #[.int .i64 t, .int .i64 a], .agg #[.int .i64 x.qk, .int .i64 x.qn, .slice B x.qf.len D]] W fun e w' => e = .returned (.bool q2) ∧ Below W.heap.size W w') := fun W h => by
    rw [hq2]; exact validCondition_any t a x.qk x.qn x.qf (by omega) hg B D W (hB.sees h)
  have K3 : Hid (∀ W : World, Calls Try.prog 51 #[.int .i64 x.act, .int .i64 a] W fun e w' => e = .returned (.bool q3) ∧ Below W.heap.size W w') := fun W => (below_any x.act a W).mono fun e w' h => ⟨by rw [hq3]; exact h.1, by rw [← h.2]; exact Below.refl _ _⟩
  have HD : Hid (premB t a x = (q1 && (q3 && q2))) := by show _ = _; unfold premB; rw [hq1, hq2, hq3]
  clear hq1 hq2 hq3 hA hB hf hg hm
  cases q1
  · clear K2 K3
    go_enter Try.func64, Try.ntmps64
    go_wp2_with fail
    refine (K1.out _ (by unfold Sees; go_grown)).mono ?_
    rintro e w1 ⟨rfl, hb⟩
    have S1 : Hid (St w [(w.heap.size, 0, .int .i64 t), (w.heap.size, 1, .int .i64 a), (w.heap.size + 1, 0, .int .i64 x.pk), (w.heap.size + 1, 1, .int .i64 x.pn), (w.heap.size + 1, 2, .slice A x.pf.len C), (w.heap.size + 1, 3, .int .i64 x.act), (w.heap.size + 1, 4, .int .i64 x.qk), (w.heap.size + 1, 5, .int .i64 x.qn), (w.heap.size + 1, 6, .slice B x.qf.len D)] w1) := St.below (l := [(w.heap.size, 0, .int .i64 t), (w.heap.size, 1, .int .i64 a), (w.heap.size + 1, 0, .int .i64 x.pk), (w.heap.size + 1, 1, .int .i64 x.pn), (w.heap.size + 1, 2, .slice A x.pf.len C), (w.heap.size + 1, 3, .int .i64 x.act), (w.heap.size + 1, 4, .int .i64 x.qk), (w.heap.size + 1, 5, .int .i64 x.qn), (w.heap.size + 1, 6, .slice B x.qf.len D)]) ⟨(by unfold Sees; go_grown), (by simp [go_sem]), (by simp [go_sem]), (by simp [go_sem]), (by simp [go_sem]), (by simp [go_sem]), (by simp [go_sem]), (by simp [go_sem]), (by simp [go_sem]), (by simp [go_sem]), trivial⟩ hb
    clear hb
    obtain ⟨B1, y0, y1, c0, c1, c2, c3, c4, c5, c6, _⟩ := S1.out
    go_wp2_with fail
    go_ret
    exact ⟨ret_bool HD.out.symm, B1⟩
  cases q3
  · clear K2
    go_enter Try.func64, Try.ntmps64
    go_wp2_with fail
    refine (K1.out _ (by unfold Sees; go_grown)).mono ?_
    rintro e w1 ⟨rfl, hb⟩
    have S1 : Hid (St w [(w.heap.size, 0, .int .i64 t), (w.heap.size, 1, .int .i64 a), (w.heap.size + 1, 0, .int .i64 x.pk), (w.heap.size + 1, 1, .int .i64 x.pn), (w.heap.size + 1, 2, .slice A x.pf.len C), (w.heap.size + 1, 3, .int .i64 x.act), (w.heap.size + 1, 4, .int .i64 x.qk), (w.heap.size + 1, 5, .int .i64 x.qn), (w.heap.size + 1, 6, .slice B x.qf.len D)] w1) := St.below (l := [(w.heap.size, 0, .int .i64 t), (w.heap.size, 1, .int .i64 a), (w.heap.size + 1, 0, .int .i64 x.pk), (w.heap.size + 1, 1, .int .i64 x.pn), (w.heap.size + 1, 2, .slice A x.pf.len C), (w.heap.size + 1, 3, .int .i64 x.act), (w.heap.size + 1, 4, .int .i64 x.qk), (w.heap.size + 1, 5, .int .i64 x.qn), (w.heap.size + 1, 6, .slice B x.qf.len D)]) ⟨(by unfold Sees; go_grown), (by simp [go_sem]), (by simp [go_sem]), (by simp [go_sem]), (by simp [go_sem]), (by simp [go_sem]), (by simp [go_sem]), (by simp [go_sem]), (by simp [go_sem]), (by simp [go_sem]), trivial⟩ hb
    clear hb
    obtain ⟨B1, y0, y1, c0, c1, c2, c3, c4, c5, c6, _⟩ := S1.out
    go_wp2_with fail
    refine (K3.out _).mono ?_
    rintro e w2 ⟨rfl, hb⟩
    have S2 := Lib.hid (St.below S1.out hb)
    clear hb y0 y1 c0 c1 c2 c3 c4 c5 c6 S1 B1
    obtain ⟨B2, y0, y1, c0, c1, c2, c3, c4, c5, c6, _⟩ := S2.out
    go_wp2_with fail
    go_ret
    exact ⟨ret_bool HD.out.symm, B2⟩
  · go_enter Try.func64, Try.ntmps64
    go_wp2_with fail
    refine (K1.out _ (by unfold Sees; go_grown)).mono ?_
    rintro e w1 ⟨rfl, hb⟩
    have S1 : Hid (St w [(w.heap.size, 0, .int .i64 t), (w.heap.size, 1, .int .i64 a), (w.heap.size + 1, 0, .int .i64 x.pk), (w.heap.size + 1, 1, .int .i64 x.pn), (w.heap.size + 1, 2, .slice A x.pf.len C), (w.heap.size + 1, 3, .int .i64 x.act), (w.heap.size + 1, 4, .int .i64 x.qk), (w.heap.size + 1, 5, .int .i64 x.qn), (w.heap.size + 1, 6, .slice B x.qf.len D)] w1) := St.below (l := [(w.heap.size, 0, .int .i64 t), (w.heap.size, 1, .int .i64 a), (w.heap.size + 1, 0, .int .i64 x.pk), (w.heap.size + 1, 1, .int .i64 x.pn), (w.heap.size + 1, 2, .slice A x.pf.len C), (w.heap.size + 1, 3, .int .i64 x.act), (w.heap.size + 1, 4, .int .i64 x.qk), (w.heap.size + 1, 5, .int .i64 x.qn), (w.heap.size + 1, 6, .slice B x.qf.len D)]) ⟨(by unfold Sees; go_grown), (by simp [go_sem]), (by simp [go_sem]), (by simp [go_sem]), (by simp [go_sem]), (by simp [go_sem]), (by simp [go_sem]), (by simp [go_sem]), (by simp [go_sem]), (by simp [go_sem]), trivial⟩ hb
    clear hb
    obtain ⟨B1, y0, y1, c0, c1, c2, c3, c4, c5, c6, _⟩ := S1.out
    go_wp2_with fail
    refine (K3.out _).mono ?_
    rintro e w2 ⟨rfl, hb⟩
    have S2 := Lib.hid (St.below S1.out hb)
    clear hb y0 y1 c0 c1 c2 c3 c4 c5 c6 S1 B1
    obtain ⟨B2, y0, y1, c0, c1, c2, c3, c4, c5, c6, _⟩ := S2.out
    go_wp2_with fail
    refine (K2.out _ B2).mono ?_
    rintro e w3 ⟨rfl, hb⟩
    have B3 := B2.below hb
    clear hb y0 y1 c0 c1 c2 c3 c4 c5 c6
    go_wp2_with fail
    go_ret
    exact ⟨ret_bool HD.out.symm, B3⟩

set_option maxHeartbeats 1000000 in
set_option maxRecDepth 100000 in
theorem premOf_any (t a : Int) (bg : Nat) (x : Pm) (hm : x.pf.nodes + x.qf.nodes ≤ 1048576) (hf : x.pf.Fits) (hg : x.qf.Fits) (A B : Option Addr) (C D : Nat) (w : World) (hg0 : w.cell? ⟨bg, 0, none⟩ = some (.int .i64 t)) (hg1 : w.cell? ⟨bg, 1, none⟩ = some (.int .i64 a)) (hA : x.pf.Lies w A) (hB : x.qf.Lies w B) :
    Calls Try.prog 107 #[.agg #[.int .i64 x.pk, .int .i64 x.pn, .slice A x.pf.len C, .int .i64 x.act, .int .i64 x.qk, .int .i64 x.qn, .slice B x.qf.len D], .pointer (some ⟨bg, 0, none⟩)] w fun e w' => e = .returned (.bool (premB t a x)) ∧ Below w.heap.size w w' := by
  obtain ⟨q, hq⟩ : ∃ q : Bool, q = premB t a x := ⟨_, rfl⟩
  have K : Hid (∀ W : World, Sees w W → Calls Try.prog 64 #[.agg #[.int .i64 t, .int .i64 a], .agg #[.int .i64 x.pk, .int .i64 x.pn, .slice A x.pf.len C, .int .i64 x.act, .int .i64 x.qk, .int .i64 x.qn, .slice B x.qf.len D]] W fun e w' => e = .returned (.bool q) ∧ Below W.heap.size W w') := fun W h => by rw [hq]; exact validPremise_any t a x hm hf hg A B C D W (hA.sees h) (hB.sees h)
  have y0 := ka (.cells #[.int .i64 x.pk, .int .i64 x.pn, .slice A x.pf.len C, .int .i64 x.act, .int .i64 x.qk, .int .i64 x.qn, .slice B x.qf.len D] 50) hg0; have y1 := ka (.cells #[.int .i64 x.pk, .int .i64 x.pn, .slice A x.pf.len C, .int .i64 x.act, .int .i64 x.qk, .int .i64 x.qn, .slice B x.qf.len D] 50) hg1
  rw [← hq]
  clear hq hm hf hg hA hB hg0 hg1
  go_enter Try.func107, Try.ntmps107
  go_wp2_with fail
  refine (K.out _ ((Sees.refl w).alloc _)).mono ?_
  rintro e w1 ⟨rfl, hb⟩
  have B1 : Sees w w1 := Sees.below ((Sees.refl w).alloc _) hb
  clear hb
  go_wp2_with fail
  go_ret
  exact ⟨rfl, B1⟩

set_option maxHeartbeats 2000000 in
set_option maxRecDepth 100000 in
theorem implValidPremises_any (t a : Int) (xs : List Pm) (hf : FitPm xs) (hm : tot Pm.cnt xs ≤ 1048576) (A : Option Addr) (C : Nat) (w : World) (hA : PmL w xs A) :
    Calls Try.prog 50 #[.agg #[.int .i64 t, .int .i64 a], .slice A xs.length C] w fun e w' => e = .returned (.bool (premsB t a xs)) ∧ Below w.heap.size w w' := by
  have hlen := pm_len xs
  obtain ⟨q0, hq0⟩ : ∃ q : Bool, q = sigOk t a := ⟨_, rfl⟩
  have K0 : Hid (∀ W : World, Calls Try.prog 105 #[.agg #[.int .i64 t, .int .i64 a]] W fun e w' => e = .returned (.bool q0) ∧ Below W.heap.size W w') := fun W => by rw [hq0]; exact implValidSig_any t a W
  obtain ⟨q3, hq3⟩ : ∃ q : Bool, q = xs.all (premB t a) := ⟨_, rfl⟩
  have K3 : Hid (∀ (W : World) (bg : Nat), Sees w W → W.cell? ⟨bg, 0, none⟩ = some (.int .i64 t) → W.cell? ⟨bg, 1, none⟩ = some (.int .i64 a) → Calls Try.prog 106 #[.slice A xs.length C, .func (.func 107) #[] #[.pointer (some ⟨bg, 0, none⟩)]] W fun e w' => e = .returned (.bool q3) ∧ Below W.heap.size W w') := fun W bg h h0 h1 => by
    rw [hq3]
    exact everyP_any (premB t a) 107 #[.pointer (some ⟨bg, 0, none⟩)] (enters_of Try.func107 (by kernel_rfl) rfl) xs hf.1 A C W (hA.sees h) (fun W2 x A2 B2 C2 D2 h2' hx hQ hR => premOf_any t a bg x (Nat.le_trans (pm_ge hx) hm) (hf.2 x hx).1.2 (hf.2 x hx).2.2 A2 B2 C2 D2 W2 (kc h2' h0) (kc h2' h1) hQ hR)
  have HS : Hid (premsB t a xs = (q0 && (decide ((xs.length : Int) ≤ 12) && q3))) := by
    show _ = _
    unfold premsB
    rw [← hq0, ← hq3]
  obtain ⟨w0, hw0⟩ : ∃ w0, w0 = w.alloc (.cells #[.int .i64 t, .int .i64 a] 29) := ⟨_, rfl⟩
  have B0 : Sees w w0 := by rw [hw0]; exact (Sees.refl w).alloc _
  have s0 : w0.cell? ⟨w.heap.size, 0, none⟩ = some (.int .i64 t) := by rw [hw0]; simp [go_sem]
  have s1 : w0.cell? ⟨w.heap.size, 1, none⟩ = some (.int .i64 a) := by rw [hw0]; simp [go_sem]
  clear hq0 hq3 hA hf hm
  cases q0
  · have HD : Hid (premsB t a xs = false) := by show _ = _; rw [HS.out]; rfl
    clear HS K3
    go_enter Try.func50, Try.ntmps50
    go_wp2_with fail
    rw [← hw0]
    refine (K0.out _).mono ?_
    rintro e w1 ⟨rfl, hb⟩
    have x0 := kc hb s0; have x1 := kc hb s1
    have B1 : Sees w w1 := B0.below hb
    clear hw0 s0 s1 hb B0
    go_wp2_with fail
    go_ret
    exact ⟨ret_bool HD.out.symm, B1⟩
  by_cases hhi : (xs.length : Int) ≤ 12
  case neg =>
    have HD : Hid (premsB t a xs = false) := by show _ = _; rw [HS.out, decide_eq_false hhi]; rfl
    have tl : decide ((xs.length : Int) ≤ 12) = false := decide_eq_false hhi
    clear HS K3
    go_enter Try.func50, Try.ntmps50
    go_wp2_with fail
    rw [← hw0]
    refine (K0.out _).mono ?_
    rintro e w1 ⟨rfl, hb⟩
    have x0 := kc hb s0; have x1 := kc hb s1
    have B1 : Sees w w1 := B0.below hb
    clear hw0 s0 s1 hb B0
    go_wp2_with fail
    go_ret
    exact ⟨ret_bool HD.out.symm, B1⟩
  have tl : decide ((xs.length : Int) ≤ 12) = true := decide_eq_true hhi
  have HD : Hid (premsB t a xs = q3) := by show _ = _; rw [HS.out, tl]; rfl
  clear HS
  go_enter Try.func50, Try.ntmps50
  go_wp2_with fail
  rw [← hw0]
  refine (K0.out _).mono ?_
  rintro e w1 ⟨rfl, hb⟩
  have x0 := kc hb s0; have x1 := kc hb s1
  have B1 : Sees w w1 := B0.below hb
  clear hw0 s0 s1 hb B0
  go_wp2_with fail
  refine (K3.out _ w.heap.size B1 x0 x1).mono ?_
  rintro e w3 ⟨rfl, hb⟩
  have B3 := B1.below hb
  clear hb
  go_wp2_with fail
  go_ret
  exact ⟨ret_bool HD.out.symm, B3⟩
end Go.Proofs.Ytmblgkpgfofceaa

namespace Go.Proofs.Ytmblgkpgfofceaa
open Go.RowKit

/-- Eight cells. -/
def arr8 (f : Nat → Bool) : Array Value := #[.bool (f 0), .bool (f 1), .bool (f 2), .bool (f 3), .bool (f 4), .bool (f 5), .bool (f 6), .bool (f 7)]
theorem arr8_facts {W : World} {b : Nat} {T : TypeId} {f : Nat → Bool} (h : W.heap[b]? = some (.cells (arr8 f) T (0, 0))) :
    W.cell? ⟨b, 0, none⟩ = some (.bool (f 0)) ∧ W.cell? ⟨b, 1, none⟩ = some (.bool (f 1)) ∧ W.cell? ⟨b, 2, none⟩ = some (.bool (f 2)) ∧ W.cell? ⟨b, 3, none⟩ = some (.bool (f 3)) ∧ W.cell? ⟨b, 4, none⟩ = some (.bool (f 4)) ∧ W.cell? ⟨b, 5, none⟩ = some (.bool (f 5)) ∧ W.cell? ⟨b, 6, none⟩ = some (.bool (f 6)) ∧ W.cell? ⟨b, 7, none⟩ = some (.bool (f 7)) ∧ W.frozen? ⟨b, 0, none⟩ = false ∧ W.frozen? ⟨b, 1, none⟩ = false ∧ W.frozen? ⟨b, 2, none⟩ = false ∧ W.frozen? ⟨b, 3, none⟩ = false ∧ W.frozen? ⟨b, 4, none⟩ = false ∧ W.frozen? ⟨b, 5, none⟩ = false ∧ W.frozen? ⟨b, 6, none⟩ = false ∧ W.frozen? ⟨b, 7, none⟩ = false :=
  ⟨Fo.cell_of_block h 0, Fo.cell_of_block h 1, Fo.cell_of_block h 2, Fo.cell_of_block h 3, Fo.cell_of_block h 4, Fo.cell_of_block h 5, Fo.cell_of_block h 6, Fo.cell_of_block h 7, Fo.unfrozen_of_block h 0, Fo.unfrozen_of_block h 1, Fo.unfrozen_of_block h 2, Fo.unfrozen_of_block h 3, Fo.unfrozen_of_block h 4, Fo.unfrozen_of_block h 5, Fo.unfrozen_of_block h 6, Fo.unfrozen_of_block h 7⟩
theorem lt8 {j : Nat} (h : j < 8) : j = 0 ∨ j = 1 ∨ j = 2 ∨ j = 3 ∨ j = 4 ∨ j = 5 ∨ j = 6 ∨ j = 7 := by omega
/-- How many atoms there are. -/
def atomsNat (t : Int) : Nat := (atomsN t).toNat
theorem atomsNat_cast (t : Int) : ((atomsNat t : Nat) : Int) = atomsN t := by have := atomsN_bd t; unfold atomsNat; omega
theorem atomsNat_bd (t : Int) : 1 ≤ atomsNat t ∧ atomsNat t ≤ 8 := by have := atomsN_bd t; unfold atomsNat; omega
theorem atomsNat_forms (t : Int) : atomsNat t = 1 ∨ atomsNat t = 2 ∨ atomsNat t = 4 ∨ atomsNat t = 8 := by
  unfold atomsNat atomsN
  split
  · exact Or.inl rfl
  · split
    · exact Or.inr (Or.inl rfl)
    · split
      · exact Or.inr (Or.inr (Or.inl rfl))
      · exact Or.inr (Or.inr (Or.inr rfl))
theorem range_all_no {G : Nat → Bool} {m j : Nat} (h : j < m) (hj : G j = false) : (List.range m).all G = false := by
  rw [List.all_eq_false]
  exact ⟨j, List.mem_range.2 h, by simp [hj]⟩
theorem range_all_step {G : Nat → Bool} {j : Nat} (h : (List.range j).all G = true) (hj : G j = true) : (List.range (j + 1)).all G = true := by
  rw [List.range_succ, List.all_append, h]
  simp [hj]
/-- The set of the atoms below m that G names. -/
def setOfG (m : Nat) (G : Nat → Bool) (i : Nat) : Bool := decide (i < m) && G i
theorem within_all (m : Nat) (hm : m = 1 ∨ m = 2 ∨ m = 4 ∨ m = 8) (G H : Nat → Bool) : (List.range 8).all (fun i => !(setOfG m G i) || setOfG m H i) = (List.range m).all (fun i => !(G i) || H i) := by
  rcases hm with rfl | rfl | rfl | rfl <;> simp [List.range, List.range.loop, setOfG]
end Go.Proofs.Ytmblgkpgfofceaa

namespace Go.Proofs.Ytmblgkpgfofceaa
open Go.RowKit

def pickA (G : Nat → Bool) (m : Nat) : List Int := ((List.range m).filter G).map (fun i : Nat => (i : Int))
theorem pickA_len (G : Nat → Bool) (m : Nat) : (pickA G m).length ≤ m := by
  unfold pickA
  rw [List.length_map]
  exact Nat.le_trans (List.length_filter_le _ _) (by simp)
theorem pickA_yes {G : Nat → Bool} {j : Nat} (h : G j = true) : pickA G (j + 1) = pickA G j ++ [(j : Int)] := by
  unfold pickA
  rw [List.range_succ, List.filter_append, List.map_append]
  simp [h]
theorem pickA_no {G : Nat → Bool} {j : Nat} (h : G j = false) : pickA G (j + 1) = pickA G j := by
  unfold pickA
  rw [List.range_succ, List.filter_append, List.map_append]
  simp [h]
theorem pickA_congr {G H : Nat → Bool} {m : Nat} (h : ∀ i, i < m → G i = H i) : pickA G m = pickA H m := by
  unfold pickA
  rw [List.filter_congr fun i hi => h i (List.mem_range.1 hi)]
end Go.Proofs.Ytmblgkpgfofceaa

namespace Go.Proofs.Ytmblgkpgfofceaa
open Go.RowKit

theorem pickA_set (m : Nat) (hm : m = 1 ∨ m = 2 ∨ m = 4 ∨ m = 8) (G : Nat → Bool) : pickA (setOfG m G) 8 = pickA G m := by
  unfold pickA
  congr 1
  rcases hm with rfl | rfl | rfl | rfl <;> simp [List.range, List.range.loop, setOfG, List.filter_cons]
def atR (t a k n : Int) (f : Fo) : List Int := if (validE t a k n f && (condK k && f.cond)) = true then pickA (fun i : Nat => (ndE f k n).emptyB (i : Int)) (atomsNat t) else []
def atC (t a k n : Int) (f : Fo) : Int := if validE t a k n f = false then 1 else if (condK k && f.cond) = false then 4 else 0
theorem atR_len (t a k n : Int) (f : Fo) : (atR t a k n f).length ≤ 1048576 := by
  unfold atR
  split
  · have := pickA_len (fun i : Nat => (ndE f k n).emptyB (i : Int)) (atomsNat t); have := (atomsNat_bd t).2; omega
  · simp
section
variable {t a k n : Int} {f : Fo}
theorem at_1 (h : validE t a k n f = false) : atR t a k n f = [] ∧ atC t a k n f = 1 := by unfold atR atC; rw [h]; exact ⟨rfl, rfl⟩
theorem at_4 (h1 : validE t a k n f = true) (h : (condK k && f.cond) = false) : atR t a k n f = [] ∧ atC t a k n f = 4 := by unfold atR atC; rw [h1, h]; exact ⟨rfl, rfl⟩
theorem at_0 (h1 : validE t a k n f = true) (h2 : (condK k && f.cond) = true) : atR t a k n f = pickA (fun i : Nat => (ndE f k n).emptyB (i : Int)) (atomsNat t) ∧ atC t a k n f = 0 := by unfold atR atC; rw [h1, h2]; exact ⟨rfl, rfl⟩
end
end Go.Proofs.Ytmblgkpgfofceaa
