/- Contracts of spec.AcceptedCount and of the methods of impl's counter. -/
import Derived.Test.YtpigddjbiaoikaaCntS
namespace Go.Proofs.Ytpigddjbiaoikaa
open Go.RowKit

def acQ (t a : Int) (ac : List (List Bool)) (nx : List (List (List Int))) (l : Int) : Int := if validA t a ac nx then (if inB l 0 10 then cnt ac nx l.toNat 0 else 0) else 0
def acC (t a : Int) (ac : List (List Bool)) (nx : List (List (List Int))) (l : Int) : Int := if validA t a ac nx then (if inB l 0 10 then 0 else 2) else 1

set_option maxHeartbeats 1000000 in
set_option maxRecDepth 100000 in
theorem specAcceptedCount_any (t a : Int) (ac : List (List Bool)) (nx : List (List (List Int))) (l : Int) (hs : SmallA ac nx) (A B : Option Addr) (C D : Nat) (w : World) (hA : BB 0 w ac A) (hB : III 0 w nx B) :
    Calls Try.prog 20 #[.agg #[.int .i64 t, .int .i64 a, .slice A ac.length C, .slice B nx.length D], .int .i64 l] w fun e w' => e = .returned (.tuple #[.int .i64 (acQ t a ac nx l), .int .i64 (acC t a ac nx l)]) ∧ Below w.heap.size w w' := by
  obtain ⟨w0, hw0⟩ : ∃ w0, w0 = w.alloc (.cells #[.int .i64 t, .int .i64 a, .slice A ac.length C, .slice B nx.length D] 45) := ⟨_, rfl⟩
  have B0 : Sees w w0 := by rw [hw0]; exact (Sees.refl w).alloc _
  have HS : Hid (St w0 [(w.heap.size, 0, .int .i64 t), (w.heap.size, 1, .int .i64 a), (w.heap.size, 2, .slice A ac.length C), (w.heap.size, 3, .slice B nx.length D)] w0) :=
    ⟨Below.refl _ _, by rw [hw0]; exact ⟨(by simp [go_sem]), (by simp [go_sem]), (by simp [go_sem]), (by simp [go_sem]), trivial⟩⟩
  have hA := bb_ok.below hA B0; have hB := iii_ok.below hB B0
  have FIN : Hid (∀ W : World, Sees w0 W → Below w.heap.size w W) := fun W h => Sees.below B0 h
  obtain ⟨q1, hq1⟩ : ∃ q1 : Bool, q1 = validA t a ac nx := ⟨_, rfl⟩
  obtain ⟨q2, hq2⟩ : ∃ q2 : Bool, q2 = inB l 0 10 := ⟨_, rfl⟩
  have K1 : Hid (∀ W : World, St w0 [(w.heap.size, 0, .int .i64 t), (w.heap.size, 1, .int .i64 a), (w.heap.size, 2, .slice A ac.length C), (w.heap.size, 3, .slice B nx.length D)] W → Calls Try.prog 39 #[.pointer (some ⟨w.heap.size, 0, none⟩)] W fun e w' => e = .returned (.bool q1) ∧ Below W.heap.size W w') := fun W h => by
    rw [hq1]
    exact l02Ok_any t a ac nx hs A B C D _ W (bb_ok.below hA h.1) (iii_ok.below hB h.1) h.2.1 h.2.2.1 h.2.2.2.1 h.2.2.2.2.1
  have K2 : Hid (∀ W : World, Calls Try.prog 49 #[.int .i64 l, .int .i64 0, .int .i64 10] W fun e w' => e = .returned (.bool q2) ∧ Below W.heap.size W w') := fun W => (in_any l 0 10 W).mono fun e w' h => ⟨by rw [hq2]; exact h.1, by rw [← h.2]; exact Below.refl _ _⟩
  cases q1
  · have u1 : Hid (acQ t a ac nx l = 0 ∧ acC t a ac nx l = 1) := by show _ ∧ _; unfold acQ acC; rw [← hq1]; exact ⟨rfl, rfl⟩
    rw [u1.out.1, u1.out.2]
    clear u1 hq1 hq2 hA hB B0
    go_enter Try.func20, Try.ntmps20
    go_wp2_with fail
    rw [← hw0]
    refine (K1.out _ HS.out).mono ?_
    rintro e w1 ⟨rfl, hb⟩
    have S1 := Lib.hid (HS.out.below hb)
    clear hb hw0
    go_wp2_with fail
    refine bodyPost_ret (v := .tuple #[.int .i64 0, .int .i64 1]) (by simp [results, Try.results20, go_sem]) rfl ⟨rfl, FIN.out _ S1.out.1⟩
  cases q2
  · have u1 : Hid (acQ t a ac nx l = 0 ∧ acC t a ac nx l = 2) := by show _ ∧ _; unfold acQ acC; rw [← hq1, ← hq2]; exact ⟨rfl, rfl⟩
    rw [u1.out.1, u1.out.2]
    clear u1 hq1 hq2 hA hB B0
    go_enter Try.func20, Try.ntmps20
    go_wp2_with fail
    rw [← hw0]
    refine (K1.out _ HS.out).mono ?_
    rintro e w1 ⟨rfl, hb⟩
    have S1 := Lib.hid (HS.out.below hb)
    clear hb hw0
    go_wp2_with fail
    refine (K2.out _).mono ?_
    rintro e w2 ⟨rfl, hb⟩
    have S2 := Lib.hid (S1.out.below hb)
    clear hb S1
    go_wp2_with fail
    refine bodyPost_ret (v := .tuple #[.int .i64 0, .int .i64 2]) (by simp [results, Try.results20, go_sem]) rfl ⟨rfl, FIN.out _ S2.out.1⟩
  have u1 : Hid (acQ t a ac nx l = cnt ac nx l.toNat 0 ∧ acC t a ac nx l = 0) := by show _ ∧ _; unfold acQ acC; rw [← hq1, ← hq2]; exact ⟨rfl, rfl⟩
  rw [u1.out.1, u1.out.2]
  have hl : 0 ≤ l ∧ l ≤ 10 := by have h := hq2.symm; unfold inB at h; simpa using h
  obtain ⟨n, rfl⟩ := Int.eq_ofNat_of_zero_le hl.1
  have hv := hq1.symm
  have hN1 := (valid_at hv).2.1
  obtain ⟨z, hz⟩ : ∃ z, z = cnt ac nx n 0 := ⟨_, rfl⟩
  have K3 : Hid (∀ W : World, St w0 [(w.heap.size, 0, .int .i64 t), (w.heap.size, 1, .int .i64 a), (w.heap.size, 2, .slice A ac.length C), (w.heap.size, 3, .slice B nx.length D)] W → Calls Try.prog 50 #[.pointer (some ⟨w.heap.size, 0, none⟩), .int .i64 n] W fun e w' => ∃ g cap b c, e = .returned (.slice (some ⟨g, 0, none⟩) (n + 1) cap) ∧ w'.cell? ⟨g, n, none⟩ = some (.slice (some ⟨b, 0, none⟩) ac.length c) ∧ w'.cell? ⟨b, 0, none⟩ = some (.int .i64 z) ∧ Below W.heap.size W w') := fun W h =>
    (l02Counts_any hv n (by omega) A B C D _ W (bb_ok.below hA h.1) (iii_ok.below hB h.1) h.2.2.2.1 h.2.2.2.2.1).mono fun e w' ⟨v, he, hT, hb⟩ => by
      obtain ⟨g, cap, b, c, rfl, h1, h2⟩ := hT.row (Nat.lt_succ_self n)
      exact ⟨g, cap, b, c, he, h1, by rw [hz]; exact h2 0 (by omega), hb⟩
  have n0 : (0 : Int) ≤ (n : Int) := Int.natCast_nonneg _
  have n1 : (n : Int) < (n : Int) + 1 := by omega
  have n2 : (0 : Int) < (ac.length : Int) := by omega
  have n3 : 0 < ac.length := by omega
  have ez : cnt ac nx (Int.toNat (n : Int)) 0 = z := by rw [hz]; rfl
  rw [ez]
  clear u1 hq1 hq2 hA hB B0 hv hz ez
  go_enter Try.func20, Try.ntmps20
  go_wp2_with fail
  rw [← hw0]
  refine (K1.out _ HS.out).mono ?_
  rintro e w1 ⟨rfl, hb⟩
  have S1 := Lib.hid (HS.out.below hb)
  clear hb hw0
  go_wp2_with fail
  refine (K2.out _).mono ?_
  rintro e w2 ⟨rfl, hb⟩
  have S2 := Lib.hid (S1.out.below hb)
  clear hb S1
  go_wp2_with fail
  refine (K3.out _ S2.out).mono ?_
  rintro e w3 ⟨g, cap, b, c, rfl, c1, c2, hb⟩
  have S3 := Lib.hid (S2.out.below hb)
  clear hb S2
  go_wp2_with fail
  refine bodyPost_ret (v := .tuple #[.int .i64 z, .int .i64 0]) (by simp [results, Try.results20, go_sem]) rfl ⟨rfl, FIN.out _ S3.out.1⟩

set_option maxHeartbeats 1000000 in
set_option maxRecDepth 100000 in
theorem words_any {ac : List (List Bool)} {nx : List (List (List Int))} {lo k : Nat} (t a : Int) (A B P : Option Addr) (C D kk cap : Nat) (w : World) (hT : Tab ac nx ac.length lo w k (.slice P kk cap)) (s n : Nat) (hn : n < k) (hs : s < ac.length) :
    Calls Try.prog 53 #[.agg #[.int .i64 t, .int .i64 a, .slice A ac.length C, .slice B nx.length D, .slice P kk cap], .int .i64 s, .int .i64 n] w fun e w' => e = .returned (.int .i64 (cnt ac nx n s)) ∧ Below w.heap.size w w' := by
  obtain ⟨g, cap', b, c, hv, c1, c2⟩ := hT.row hn
  injection hv with h1 h2 h3
  subst h1; subst h2; subst h3
  have c3 := c2 s hs
  have d1 := ka (.cells #[.int .i64 t, .int .i64 a, .slice A ac.length C, .slice B nx.length D, .slice (some ⟨g, 0, none⟩) kk cap] 89) c1
  have d2 := ka (.cells #[.int .i64 t, .int .i64 a, .slice A ac.length C, .slice B nx.length D, .slice (some ⟨g, 0, none⟩) kk cap] 89) c3
  have n0 : (0 : Int) ≤ (n : Int) := Int.natCast_nonneg _
  have n1 : (n : Int) < (kk : Int) := by omega
  have s0 : (0 : Int) ≤ (s : Int) := Int.natCast_nonneg _
  have s1 : (s : Int) < (ac.length : Int) := by omega
  obtain ⟨z, hz⟩ : ∃ z, z = cnt ac nx n s := ⟨_, rfl⟩
  rw [← hz] at d2 ⊢
  clear hz c1 c2 c3 hT
  go_enter Try.func53, Try.ntmps53
  go_wp2_with fail
  go_ret
  exact ⟨rfl, by go_grown⟩

set_option maxHeartbeats 1000000 in
set_option maxRecDepth 100000 in
theorem ending_any {ac : List (List Bool)} {nx : List (List (List Int))} (t a : Int) (A B P : Option Addr) (C D kk cap : Nat) (w : World) (hA : BB 0 w ac A) (s : Nat) (l : Int) (hs : s < ac.length) (h8 : ac[s].length ≤ 8) :
    Calls Try.prog 70 #[.agg #[.int .i64 t, .int .i64 a, .slice A ac.length C, .slice B nx.length D, .slice P kk cap], .int .i64 s, .int .i64 l] w fun e w' => e = .returned (.int .i64 (cnt ac nx 0 s)) ∧ Below w.heap.size w w' := by
  obtain ⟨yA, zA, _, rfl, hat⟩ := hA (by rintro rfl; simp at hs)
  obtain ⟨R, E, c1, hQ⟩ := hat s ac[s] (List.getElem?_eq_getElem hs)
  have hst : Hid (cnt ac nx 0 s = ((ac[s]).drop 0).foldl bitAdd 0) := by
    show (ac.getD s []).foldl bitAdd 0 = _
    simp [List.getD, hs]
  obtain ⟨x, hx⟩ : ∃ x, x = ac[s] := ⟨_, rfl⟩
  rw [← hx] at c1 hQ hst h8
  have d1 := ka (.cells #[.int .i64 t, .int .i64 a, .slice (some ⟨yA, zA, none⟩) ac.length C, .slice B nx.length D, .slice P kk cap] 89) c1
  have B0 : Sees w (w.alloc (.cells #[.int .i64 t, .int .i64 a, .slice (some ⟨yA, zA, none⟩) ac.length C, .slice B nx.length D, .slice P kk cap] 89)) := (Sees.refl w).alloc _
  have s0 : (0 : Int) ≤ (s : Int) := Int.natCast_nonneg _
  have s1 : (s : Int) < (ac.length : Int) := by omega
  have HQ := Lib.hid (bools_ok.below hQ B0); have HX := Lib.hid hx; have HAT := Lib.hid hat; have HB0 := Lib.hid B0
  clear c1 hQ hx hat hA B0
  go_enter Try.func70, Try.ntmps70
  go_wp2_with fail
  go_loopw [7, 17] (fun sum i wx => ∃ (y : Nat) (z : Int), y ≤ x.length ∧ i = .int .i64 y ∧ sum = .int .i64 z ∧ Hid (cnt ac nx 0 s = (x.drop y).foldl bitAdd z) ∧ Hid (wx = w.alloc (.cells #[.int .i64 t, .int .i64 a, .slice (some ⟨yA, zA, none⟩) ac.length C, .slice B nx.length D, .slice P kk cap] 89))) (fun _ i _ => x.length - (intOf i).toNat)
  case atStart => exact ⟨0, 0, Nat.zero_le _, rfl, rfl, hst, rfl⟩
  case round =>
  obtain ⟨y, z, hy, rfl, rfl, hc, hw⟩ := hrel
  clear hst d1
  by_cases hyl : y < x.length
  · obtain ⟨yR, zR, _, rfl, hatR⟩ := HQ.out (by rintro rfl; simp at hyl)
    have hcell := hatR y x[y] (List.getElem?_eq_getElem hyl)
    have hst := foldl_drop bitAdd x z hyl
    obtain ⟨q, hqe⟩ : ∃ q, q = x[y] := ⟨_, rfl⟩
    rw [← hqe] at hcell hst
    rw [← hw.out] at hcell
    have y0 : (0 : Int) ≤ (y : Int) := Int.natCast_nonneg _
    have y1 : (y : Int) < (x.length : Int) := by omega
    have HATR := Lib.hid hatR
    have hc2 : Hid (cnt ac nx 0 s = (x.drop (y + 1)).foldl bitAdd (bitAdd z q)) := hc.out.trans hst
    clear hst hqe hatR hc
    cases q
    · go_wp2_with fail
      go_roundw
      case rel => exact ⟨y + 1, z, by omega, by go_num, rfl, hc2, hw⟩
      case measure => simp [intOf]; omega
    · go_wp2_with fail
      go_roundw
      case rel => exact ⟨y + 1, wrap64 (z + 1), by omega, by go_num, rfl, hc2, hw⟩
      case measure => simp [intOf]; omega
  · obtain rfl : y = x.length := by omega
    have hz : Hid (cnt ac nx 0 s = z) := by show _ = _; rw [hc.out, List.drop_length]; rfl
    clear hc
    go_wp2_with fail
    go_ret
    exact ⟨ret_int hz.out.symm, by rw [hw.out]; exact HB0.out⟩
end Go.Proofs.Ytpigddjbiaoikaa
