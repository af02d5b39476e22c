/- Contracts of spec.l06Flow, spec.ValidFlow. -/
import Derived.Test.YtmblgkpgfofceaaDoorSpV
namespace Go.Proofs.YtmblgkpgfofceaaDoor
open Go.RowKit
attribute [local go_sem ↓] Go.wp_at_zero Go.wp_at_succ

set_option maxHeartbeats 4000000 in
set_option maxRecDepth 100000 in
theorem l06Flow_any (t a s : Int) (xs : List Sp) (hf : FitSp xs) (hm : tot Sp.cnt xs ≤ 1048576) (A : Option Addr) (C : Nat) (b : Nat) (w : World) (hA : SpL w xs A)
    (g0 : w.cell? ⟨b, 0, none⟩ = some (.int .i64 s)) (g1 : w.cell? ⟨b, 1, none⟩ = some (.slice A xs.length C)) :
    Calls Tryd.prog 11 #[.agg #[.int .i64 t, .int .i64 a], .pointer (some ⟨b, 0, none⟩)] w fun e w' => e = .returned (.bool (flowB t a s xs)) ∧ Below w.heap.size w w' := by
  have hlen := sp_len xs
  obtain ⟨q0, hq0⟩ : ∃ q : Bool, q = sigOk t a := ⟨_, rfl⟩
  have K0 : Hid (∀ W : World, Calls Tryd.prog 22 #[.agg #[.int .i64 t, .int .i64 a]] W fun e w' => e = .returned (.bool q0) ∧ Below W.heap.size W w') := fun W => by rw [hq0]; exact l01Sig_any t a W
  obtain ⟨q1, hq1⟩ : ∃ q : Bool, q = inB xs.length 1 60 := ⟨_, rfl⟩
  have K1 : Hid (∀ W : World, Calls Tryd.prog 23 #[.int .i64 (xs.length : Int), .int .i64 1, .int .i64 60] W fun e w' => e = .returned (.bool q1) ∧ Below W.heap.size W w') := fun W => (in_any xs.length 1 60 W).mono fun e w' h => ⟨by rw [hq1]; exact h.1, by rw [← h.2]; exact Below.refl _ _⟩
  obtain ⟨d, hd⟩ : ∃ d : Int, d = (xs.length : Int) - 1 := ⟨_, rfl⟩
  have wd : IntKind.i64.wrap ((xs.length : Int) - 1) = d := by rw [hd]; exact IntWalk.i64_in _ (by omega)
  obtain ⟨q2, hq2⟩ : ∃ q : Bool, q = inB s 0 ((xs.length : Int) - 1) := ⟨_, rfl⟩
  have K2 : Hid (∀ W : World, Calls Tryd.prog 23 #[.int .i64 s, .int .i64 0, .int .i64 d] W fun e w' => e = .returned (.bool q2) ∧ Below W.heap.size W w') := fun W => (in_any s 0 d W).mono fun e w' h => ⟨by rw [hq2, ← hd]; exact h.1, by rw [← h.2]; exact Below.refl _ _⟩
  obtain ⟨w0, hw0⟩ : ∃ w0, w0 = w.alloc (.cells #[.int .i64 t, .int .i64 a] 29) := ⟨_, rfl⟩
  have B0 : Sees w w0 := by rw [hw0]; exact (Sees.refl w).alloc _
  have s0 : w0.cell? ⟨w.heap.size, 0, none⟩ = some (.int .i64 t) := by rw [hw0]; simp [go_sem]
  have s1 : w0.cell? ⟨w.heap.size, 1, none⟩ = some (.int .i64 a) := by rw [hw0]; simp [go_sem]
  have x0 := kc B0 g0; have x1 := kc B0 g1
  have HA := Lib.hid hA; have HF := Lib.hid hf
  clear hA hf hd
  cases q0
  · have HD : Hid (flowB t a s xs = false) := by show _ = _; unfold flowB; rw [← hq0]; rfl
    clear hq0 hq1 hq2
    have u0 := ka (.cells #[.int .i64 t, .int .i64 a] 29) g0; have u1 := ka (.cells #[.int .i64 t, .int .i64 a] 29) g1
    go_enter Tryd.func11, Tryd.ntmps11
    go_wp2_with fail
    rw [← hw0]
    clear hw0 u0 u1
    refine (K0.out _).mono ?_
    rintro e w' ⟨rfl, hb⟩
    have B1 := B0.below hb
    have y0 := kc hb x0; have y1 := kc hb x1; have z0 := kc hb s0; have z1 := kc hb s1
    clear hb x0 x1 s0 s1 B0
    go_wp2_with fail
    go_ret
    exact ⟨ret_bool HD.out.symm, B1⟩
  cases q1
  · have HD : Hid (flowB t a s xs = false) := by show _ = _; unfold flowB; rw [← hq0, ← hq1]; rfl
    clear hq0 hq1 hq2
    have u0 := ka (.cells #[.int .i64 t, .int .i64 a] 29) g0; have u1 := ka (.cells #[.int .i64 t, .int .i64 a] 29) g1
    go_enter Tryd.func11, Tryd.ntmps11
    go_wp2_with fail
    rw [← hw0]
    clear hw0 u0 u1
    refine (K0.out _).mono ?_
    rintro e w' ⟨rfl, hb⟩
    have B1 := B0.below hb
    have y0 := kc hb x0; have y1 := kc hb x1; have z0 := kc hb s0; have z1 := kc hb s1
    clear hb x0 x1 s0 s1 B0
    go_wp2_with fail
    refine (K1.out _).mono ?_
    rintro e w' ⟨rfl, hb⟩
    have B2 := B1.below hb
    have y0' := kc hb y0; have y1' := kc hb y1; have z0' := kc hb z0; have z1' := kc hb z1
    clear hb y0 y1 z0 z1 B1
    have y0 := y0'; have y1 := y1'; have z0 := z0'; have z1 := z1'
    clear y0' y1' z0' z1'
    go_wp2_with fail
    go_ret
    exact ⟨ret_bool HD.out.symm, B2⟩
  cases q2
  · have HD : Hid (flowB t a s xs = false) := by show _ = _; unfold flowB; rw [← hq0, ← hq1, ← hq2]; rfl
    clear hq0 hq1 hq2
    have u0 := ka (.cells #[.int .i64 t, .int .i64 a] 29) g0; have u1 := ka (.cells #[.int .i64 t, .int .i64 a] 29) g1
    go_enter Tryd.func11, Tryd.ntmps11
    go_wp2_with fail
    rw [← hw0]
    clear hw0 u0 u1
    refine (K0.out _).mono ?_
    rintro e w' ⟨rfl, hb⟩
    have B1 := B0.below hb
    have y0 := kc hb x0; have y1 := kc hb x1; have z0 := kc hb s0; have z1 := kc hb s1
    clear hb x0 x1 s0 s1 B0
    go_wp2_with fail
    refine (K1.out _).mono ?_
    rintro e w' ⟨rfl, hb⟩
    have B2 := B1.below hb
    have y0' := kc hb y0; have y1' := kc hb y1; have z0' := kc hb z0; have z1' := kc hb z1
    clear hb y0 y1 z0 z1 B1
    have y0 := y0'; have y1 := y1'; have z0 := z0'; have z1 := z1'
    clear y0' y1' z0' z1'
    go_wp2_with fail
    refine (K2.out _).mono ?_
    rintro e w' ⟨rfl, hb⟩
    have B3 := B2.below hb
    have y0' := kc hb y0; have y1' := kc hb y1; have z0' := kc hb z0; have z1' := kc hb z1
    clear hb y0 y1 z0 z1 B2
    have y0 := y0'; have y1 := y1'; have z0 := z0'; have z1 := z1'
    clear y0' y1' z0' z1'
    go_wp2_with fail
    go_ret
    exact ⟨ret_bool HD.out.symm, B3⟩
  have HD : Hid (flowB t a s xs = allS (spB t a xs.length) xs 0) := by show _ = _; unfold flowB; rw [← hq0, ← hq1, ← hq2, allS_zero]; rfl
  have HT := Lib.hid (sigOk_of hq0.symm)
  have hn60 : 1 ≤ xs.length ∧ xs.length ≤ 60 := by
    have h := hq1.symm
    unfold inB at h
    simp only [decide_eq_true_eq] at h
    omega
  clear hq0 hq1 hq2
  have u0 := ka (.cells #[.int .i64 t, .int .i64 a] 29) g0; have u1 := ka (.cells #[.int .i64 t, .int .i64 a] 29) g1
  go_enter Tryd.func11, Tryd.ntmps11
  go_wp2_with fail
  rw [← hw0]
  clear hw0 u0 u1
  refine (K0.out _).mono ?_
  rintro e w1 ⟨rfl, hb⟩
  have B1 := B0.below hb
  have y0 := kc hb x0; have y1 := kc hb x1; have z0 := kc hb s0; have z1 := kc hb s1
  clear hb x0 x1 s0 s1 B0
  go_wp2_with fail
  refine (K1.out _).mono ?_
  rintro e w2 ⟨rfl, hb⟩
  have B2 := B1.below hb
  have x0 := kc hb y0; have x1 := kc hb y1; have s0 := kc hb z0; have s1 := kc hb z1
  clear hb y0 y1 z0 z1 B1
  go_wp2_with fail
  refine (K2.out _).mono ?_
  rintro e w3 ⟨rfl, hb⟩
  have HS0 : Hid (St w [(b, 0, .int .i64 s), (b, 1, .slice A xs.length C), (w.heap.size, 0, .int .i64 t), (w.heap.size, 1, .int .i64 a)] w3) := ⟨B2.below hb, kc hb x0, kc hb x1, kc hb s0, kc hb s1, trivial⟩
  obtain ⟨_, y0, y1, y2, y3, _⟩ := HS0.out
  clear hb x0 x1 s0 s1 B2 K0 K1 K2 wd
  go_wp2_with fail
  clear y0 y1 y2 y3
  go_loopw [6] (fun i wr => ∃ j : Nat, j ≤ xs.length ∧ i = .int .i64 j ∧ Hid (flowB t a s xs = allS (spB t a xs.length) xs j) ∧ Hid (St w [(b, 0, .int .i64 s), (b, 1, .slice A xs.length C), (w.heap.size, 0, .int .i64 t), (w.heap.size, 1, .int .i64 a)] wr)) (fun i _ => xs.length - (intOf i).toNat)
  case atStart => exact ⟨0, Nat.zero_le _, rfl, HD, HS0⟩
  case round =>
    obtain ⟨j, hj, rfl, hq, hS⟩ := hrel
    clear HD HS0
    obtain ⟨hb, y0, y1, y2, y3, _⟩ := hS.out
    by_cases hjl : j < xs.length
    · obtain ⟨c, p, rfl, hat⟩ := HA.out (by rintro rfl; simp at hjl)
      obtain ⟨B1, D1, hx1, hQ⟩ := hat j xs[j] (List.getElem?_eq_getElem hjl)
      have hst := allS_step (spB t a xs.length) xs hjl
      have hfx := HF.out.2 xs[j] (List.getElem_mem hjl)
      have hge := sp_ge (List.getElem_mem hjl)
      obtain ⟨x, hx⟩ : ∃ x, x = xs[j] := ⟨_, rfl⟩
      rw [← hx] at hx1 hQ hst hfx hge
      obtain ⟨q, hqe⟩ : ∃ q : Bool, q = spB t a xs.length x := ⟨_, rfl⟩
      have KV : Hid (∀ W : World, Sees w W → Calls Tryd.prog 24 #[.agg #[.int .i64 t, .int .i64 a], .pointer (some ⟨c, p + j * 7, none⟩), .int .i64 (xs.length : Int)] W fun e w' => e = .returned (.bool q) ∧ Below W.heap.size W w') := fun W h => by
        rw [hqe]
        exact l06Spot_any t a xs.length x (by omega) hfx.2 HT.out.2.2 (by omega) B1 D1 c (p + j * 7) W (hQ.sees h) (hx1.below h)
      have HST : Hid (flowB t a s xs = (q && allS (spB t a xs.length) xs (j + 1))) := by
        show _ = _
        rw [hq.out, hst, hqe]
      have HAT := Lib.hid hat
      have j0 : (0 : Int) ≤ (j : Int) := Int.natCast_nonneg _
      have j1 : (j : Int) < (xs.length : Int) := by omega
      clear hat hx1 hQ hst hfx hge hx hqe hq
      go_wp2_with fail
      go_region_held3 (fun w' => Sees w w' ∧ w'.cell? ⟨b, 0, none⟩ = some (.int .i64 s) ∧ w'.cell? ⟨b, 1, none⟩ = some (.slice (some ⟨c, p, none⟩) xs.length C) ∧ w'.cell? ⟨w.heap.size, 0, none⟩ = some (.int .i64 t) ∧ w'.cell? ⟨w.heap.size, 1, none⟩ = some (.int .i64 a) ∧ True)
        (first | exact ⟨Sees.drew hb, y0, y1, y2, y3, trivial⟩ | exact ⟨Sees.below (Sees.drew hb) hb1, kc hb1 y0, kc hb1 y1, kc hb1 y2, kc hb1 y3, trivial⟩ | (go_keep; done))
        (first | (go_at_call 24; refine (KV.out _ (Sees.drew hb)).mono ?_; rintro e w1 ⟨rfl, hb1⟩))
      have hb2 : Hid (St w [(b, 0, .int .i64 s), (b, 1, .slice (some ⟨c, p, none⟩) xs.length C), (w.heap.size, 0, .int .i64 t), (w.heap.size, 1, .int .i64 a)] w1) := ⟨Sees.below (Sees.drew hb) hb1, kc hb1 y0, kc hb1 y1, kc hb1 y2, kc hb1 y3, trivial⟩
      clear hb hb1 y0 y1 y2 y3 KV hS
      cases q
      · have HE : Hid (flowB t a s xs = false) := by show _ = _; rw [HST.out]; rfl
        clear HST
        go_wp2_with fail
        go_ret
        exact ⟨ret_bool HE.out.symm, hb2.out.1⟩
      · have HE : Hid (flowB t a s xs = allS (spB t a xs.length) xs (j + 1)) := by show _ = _; rw [HST.out]; rfl
        clear HST
        go_wp2_with fail
        go_roundw
        case rel => exact ⟨j + 1, by omega, by go_num, HE, hb2⟩
        case measure => simp [intOf]; omega
    · obtain rfl : j = xs.length := by omega
      have HE : Hid (flowB t a s xs = true) := by show _ = _; rw [hq.out, allS_end]
      clear hq
      go_wp2_with fail
      go_ret
      exact ⟨ret_bool HE.out.symm, hb⟩

end Go.Proofs.YtmblgkpgfofceaaDoor
