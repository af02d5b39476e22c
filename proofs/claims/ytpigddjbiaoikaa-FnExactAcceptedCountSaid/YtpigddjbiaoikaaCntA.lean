/- Contract of impl.AcceptedCount. -/
import Derived.Test.YtpigddjbiaoikaaCntN
namespace Go.Proofs.Ytpigddjbiaoikaa
open Go.RowKit

set_option maxHeartbeats 1000000 in
set_option maxRecDepth 100000 in
theorem implAcceptedCount_any (t a : Int) (ac : List (List Bool)) (nx : List (List (List Int))) (l : Int) (hs : SmallA ac nx) (A B : Option Addr) (C D : Nat) (w : World) (hA : BB 0 w ac A) (hB : III 0 w nx B) :
    Calls Try.prog 21 #[.agg #[.int .i64 t, .int .i64 a, .slice A ac.length C, .slice B nx.length D], .int .i64 l] w fun e w' => e = .returned (.tuple #[.int .i64 (acQ t a ac nx l), .int .i64 (acC t a ac nx l)]) ∧ Below w.heap.size w w' := by
  obtain ⟨w0, hw0⟩ : ∃ w0, w0 = w.alloc (.cells #[.int .i64 t, .int .i64 a, .slice A ac.length C, .slice B nx.length D] 45) := ⟨_, rfl⟩
  have B0 : Sees w w0 := by rw [hw0]; exact (Sees.refl w).alloc _
  have HS : Hid (St w0 [(w.heap.size, 0, .int .i64 t), (w.heap.size, 1, .int .i64 a), (w.heap.size, 2, .slice A ac.length C), (w.heap.size, 3, .slice B nx.length D)] w0) :=
    ⟨Below.refl _ _, by rw [hw0]; exact ⟨(by simp [go_sem]), (by simp [go_sem]), (by simp [go_sem]), (by simp [go_sem]), trivial⟩⟩
  have hA := bb_ok.below hA B0; have hB := iii_ok.below hB B0
  have FIN : Hid (∀ W : World, Sees w0 W → Below w.heap.size w W) := fun W h => Sees.below B0 h
  obtain ⟨q1, hq1⟩ : ∃ q1 : Bool, q1 = validA t a ac nx := ⟨_, rfl⟩
  have hib : inB l 0 10 = belowB l 11 := by unfold inB belowB; rw [Bool.eq_iff_iff]; simp; omega
  obtain ⟨q2, hq2⟩ : ∃ q2 : Bool, q2 = inB l 0 10 := ⟨_, rfl⟩
  have K1 : Hid (∀ W : World, Sees w0 W → Calls Try.prog 43 #[.agg #[.int .i64 t, .int .i64 a, .slice A ac.length C, .slice B nx.length D]] W fun e w' => e = .returned (.bool q1) ∧ Below W.heap.size W w') := fun W h => by
    rw [hq1]
    exact implValidAutomaton_any t a ac nx hs A B C D W (bb_ok.below hA h) (iii_ok.below hB h)
  have K2 : Hid (∀ W : World, Calls Try.prog 51 #[.int .i64 l, .int .i64 11] W fun e w' => e = .returned (.bool q2) ∧ Below W.heap.size W w') := fun W => (below_any l 11 W).mono fun e w' h => ⟨by rw [hq2, hib]; exact h.1, by rw [← h.2]; exact Below.refl _ _⟩
  clear hib
  cases q1
  · have u1 : Hid (acQ t a ac nx l = 0 ∧ acC t a ac nx l = 1) := by show _ ∧ _; unfold acQ acC; rw [← hq1]; exact ⟨rfl, rfl⟩
    rw [u1.out.1, u1.out.2]
    clear u1 hq1 hq2 hA hB B0
    go_enter Try.func21, Try.ntmps21
    go_wp2_with fail
    rw [← hw0]
    refine (K1.out _ HS.out.1).mono ?_
    rintro e w1 ⟨rfl, hb⟩
    have S1 := Lib.hid (HS.out.below hb)
    clear hb hw0
    go_wp2_with fail
    refine bodyPost_ret (v := .tuple #[.int .i64 0, .int .i64 1]) (by simp [results, Try.results21, go_sem]) rfl ⟨rfl, FIN.out _ S1.out.1⟩
  cases q2
  · have u1 : Hid (acQ t a ac nx l = 0 ∧ acC t a ac nx l = 2) := by show _ ∧ _; unfold acQ acC; rw [← hq1, ← hq2]; exact ⟨rfl, rfl⟩
    rw [u1.out.1, u1.out.2]
    clear u1 hq1 hq2 hA hB B0
    go_enter Try.func21, Try.ntmps21
    go_wp2_with fail
    rw [← hw0]
    refine (K1.out _ HS.out.1).mono ?_
    rintro e w1 ⟨rfl, hb⟩
    have S1 := Lib.hid (HS.out.below hb)
    clear hb hw0
    go_wp2_with fail
    refine (K2.out _).mono ?_
    rintro e w2 ⟨rfl, hb⟩
    have S2 := Lib.hid (S1.out.below hb)
    clear hb S1
    go_wp2_with fail
    refine bodyPost_ret (v := .tuple #[.int .i64 0, .int .i64 2]) (by simp [results, Try.results21, go_sem]) rfl ⟨rfl, FIN.out _ S2.out.1⟩
  have u1 : Hid (acQ t a ac nx l = cnt ac nx l.toNat 0 ∧ acC t a ac nx l = 0) := by show _ ∧ _; unfold acQ acC; rw [← hq1, ← hq2]; exact ⟨rfl, rfl⟩
  rw [u1.out.1, u1.out.2]
  have hl : 0 ≤ l ∧ l ≤ 10 := by have h := hq2.symm; unfold inB at h; simpa using h
  obtain ⟨n, rfl⟩ := Int.eq_ofNat_of_zero_le hl.1
  have hv := hq1.symm
  have hN1 := (valid_at hv).2.1
  obtain ⟨z, hz⟩ : ∃ z, z = cnt ac nx n 0 := ⟨_, rfl⟩
  have K3 : Hid (∀ W : World, Sees w0 W → Calls Try.prog 52 #[.agg #[.int .i64 t, .int .i64 a, .slice A ac.length C, .slice B nx.length D], .int .i64 n] W fun e w' => ∃ P cap, e = .returned (.agg #[.int .i64 t, .int .i64 a, .slice A ac.length C, .slice B nx.length D, .slice P (n + 1) cap]) ∧ Hid (Calls Try.prog 53 #[.agg #[.int .i64 t, .int .i64 a, .slice A ac.length C, .slice B nx.length D, .slice P (n + 1) cap], .int .i64 0, .int .i64 n] w' fun e w'' => e = .returned (.int .i64 z) ∧ Below w'.heap.size w' w'') ∧ Below W.heap.size W w') := fun W h =>
    (newCounter_any hv n (by omega) A B C D W (bb_ok.below hA h) (iii_ok.below hB h)).mono fun e w' ⟨P, cap, he, hT, hb⟩ => ⟨P, cap, he, by
      show Calls _ _ _ _ _
      rw [hz]
      exact words_any t a A B P C D (n + 1) cap w' hT 0 n (Nat.lt_succ_self n) (by omega), hb⟩
  have ez : cnt ac nx (Int.toNat (n : Int)) 0 = z := by rw [hz]; rfl
  rw [ez]
  clear u1 hq1 hq2 hA hB B0 hv hz ez
  go_enter Try.func21, Try.ntmps21
  go_wp2_with fail
  rw [← hw0]
  refine (K1.out _ HS.out.1).mono ?_
  rintro e w1 ⟨rfl, hb⟩
  have S1 := Lib.hid (HS.out.below hb)
  clear hb hw0
  go_wp2_with fail
  refine (K2.out _).mono ?_
  rintro e w2 ⟨rfl, hb⟩
  have S2 := Lib.hid (S1.out.below hb)
  clear hb S1
  obtain ⟨_, x0, x1, x2, x3, _⟩ := S2.out
  go_wp2_with fail
  refine (K3.out _ S2.out.1).mono ?_
  rintro e w3 ⟨P, cap, rfl, K4, hb⟩
  have S3 := Lib.hid (S2.out.below hb)
  clear hb S2 x0 x1 x2 x3
  go_wp2_with fail
  refine K4.out.mono ?_
  rintro e w4 ⟨rfl, hb⟩
  have S4 := Lib.hid (S3.out.below hb)
  clear hb S3
  go_wp2_with fail
  refine bodyPost_ret (v := .tuple #[.int .i64 z, .int .i64 0]) (by simp [results, Try.results21, go_sem]) rfl ⟨rfl, FIN.out _ S4.out.1⟩
end Go.Proofs.Ytpigddjbiaoikaa
