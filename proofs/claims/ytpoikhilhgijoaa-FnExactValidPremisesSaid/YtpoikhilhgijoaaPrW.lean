/- Contracts of spec.l02Act, spec.l07Premise, spec.l07Premises, spec.ValidPremises. -/
import Derived.Test.YtpoikhilhgijoaaPrD
import Derived.Test.YtpoikhilhgijoaaPrC
import Derived.Test.YtpoikhilhgijoaaQuietC
import Derived.Deep.RegionHeld3
import Derived.Deep.DrawnRows
namespace Go.Proofs.Ytpoikhilhgijoaa
open Go.RowKit
attribute [local go_sem ↓] Go.wp_at_zero Go.wp_at_succ

theorem l02Act_any (t a x : Int) (h0 : 0 ≤ a) (h1 : a ≤ 4) (w : World) : Calls Try.prog 90 #[.agg #[.int .i64 t, .int .i64 a], .int .i64 x] w fun e w' => e = .returned (.bool (belowB x a)) ∧ Below w.heap.size w w' := by
  obtain ⟨q, hq⟩ : ∃ q : Bool, q = belowB x a := ⟨_, rfl⟩
  have K3 : Hid (∀ W : World, Calls Try.prog 63 #[.int .i64 x, .int .i64 0, .int .i64 (a - 1)] W fun e w' => e = .returned (.bool q) ∧ Below W.heap.size W w') := fun W => (in_any x 0 (a - 1) W).mono fun e w' h => ⟨by rw [hq, ← in_below]; exact h.1, by rw [← h.2]; exact Below.refl _ _⟩
  have wn : IntKind.i64.wrap (a - 1) = a - 1 := IntWalk.i64_in _ (by omega)
  rw [← hq]
  clear hq h0 h1
  go_enter Try.func90, Try.ntmps90
  go_wp2_with fail
  refine (K3.out _).mono ?_
  rintro e w3 ⟨rfl, hb⟩
  have B2 : Sees w w3 := Sees.below (by unfold Sees; go_grown) hb
  clear hb
  go_wp2_with fail
  go_ret
  exact ⟨rfl, B2⟩

set_option maxHeartbeats 4000000 in
set_option maxRecDepth 100000 in
theorem l07Premise_any (t a : Int) (x : Pm) (hm : x.pf.nodes + x.qf.nodes ≤ 1048576) (hf : x.pf.Fits) (hg : x.qf.Fits) (A B : Option Addr) (C D b o : Nat) (w : World) (hA : x.pf.Lies w A) (hB : x.qf.Lies w B) (hx : x.At w b o A C B D) :
    Calls Try.prog 94 #[.agg #[.int .i64 t, .int .i64 a], .pointer (some ⟨b, o, none⟩)] w fun e w' => e = .returned (.bool (premB t a x)) ∧ Below w.heap.size w w' := by
  obtain ⟨h0, h1, h2, h3, h4, h5, h6⟩ := hx
  obtain ⟨q1, hq1⟩ : ∃ q : Bool, q = condV t a x.pk x.pn x.pf := ⟨_, rfl⟩
  obtain ⟨q2, hq2⟩ : ∃ q : Bool, q = condV t a x.qk x.qn x.qf := ⟨_, rfl⟩
  obtain ⟨q3, hq3⟩ : ∃ q : Bool, q = belowB x.act a := ⟨_, rfl⟩
  have K1 : Hid (∀ W : World, Sees w W → Calls Try.prog 128 #[.agg #[.int .i64 t, .int .i64 a], .pointer (some ⟨b, o, none⟩)] W fun e w' => e = .returned (.bool q1) ∧ Below W.heap.size W w') := fun W h => by
    rw [hq1]
    exact l06Cond_any t a x.pk x.pn x.pf (by omega) hf A C b o W (hA.sees h) (kc h h0) (kc h h1) (kc h h2)
  have K2 : Hid (∀ W : World, Sees w W → Calls Try.prog 128 #[.agg #[.int .i64 t, .int .i64 a], .pointer (some ⟨b, o + 4, none⟩)] W fun e w' => e = .returned (.bool q2) ∧ Below W.heap.size W w') := fun W h => by
    rw [hq2]
    exact l06Cond_any t a x.qk x.qn x.qf (by omega) hg B D b (o + 4) W (hB.sees h) (kc h h4) (kc h (by rw [Nat.add_assoc]; exact h5)) (kc h (by rw [Nat.add_assoc]; exact h6))
  have K3 : Hid (q1 = true → ∀ W : World, Calls Try.prog 90 #[.agg #[.int .i64 t, .int .i64 a], .int .i64 x.act] W fun e w' => e = .returned (.bool q3) ∧ Below W.heap.size W w') := fun hq W => by
    have h := condV_sig (hq1.symm.trans hq)
    rw [hq3]
    exact l02Act_any t a x.act h.1 h.2 W
  have HD : Hid (premB t a x = (q1 && (q2 && q3))) := by show _ = _; unfold premB; rw [hq1, hq2, hq3]; cases condV t a x.pk x.pn x.pf <;> cases condV t a x.qk x.qn x.qf <;> cases belowB x.act a <;> rfl
  have H3 := Lib.hid h3
  clear hq1 hq2 hq3 hA hB hf hg hm h0 h1 h2 h4 h5 h6 h3
  have S1 : Sees w (w.alloc (.cells #[.int .i64 t, .int .i64 a] 30)) := (Sees.refl w).alloc _
  obtain ⟨w1, hw1⟩ : ∃ w1, w1 = w.alloc (.cells #[.int .i64 t, .int .i64 a] 30) := ⟨_, rfl⟩
  have s0 : w1.cell? ⟨w.heap.size, 0, none⟩ = some (.int .i64 t) := by rw [hw1]; simp [go_sem]
  have s1 : w1.cell? ⟨w.heap.size, 1, none⟩ = some (.int .i64 a) := by rw [hw1]; simp [go_sem]
  rw [← hw1] at S1
  have h3 := kc S1 H3.out
  clear H3
  cases q1
  · clear K2 K3
    go_enter Try.func94, Try.ntmps94
    go_wp2_with fail
    rw [← hw1]
    clear hw1
    refine wp_region_quietC w1 [(w.heap.size, 0, .int .i64 t), (w.heap.size, 1, .int .i64 a), (b, o + 3, .int .i64 x.act)] (by kernel_rfl) (by kernel_rfl) ⟨Below.refl _ _, s0, s1, h3, trivial⟩ ?_
    repeat (first | go_big_quiet_skip | (go_big_quiet_want; apply Exists.intro; refine ⟨fun W hW => ?_, ?_⟩; focus (have hK := Lib.hid hW; obtain ⟨hs, hc⟩ := hW; simp only [Has, and_true] at hc; go_simp; (first | rfl | exact ⟨rfl, rfl⟩ | exact quietC_call hK.out (K1.out _ (Sees.below S1 hs))))) | (go_simp; go_big_quiet_on))
    refine wpQuiet_nil ?_
    intro w2 H1
    have hb : Sees w w2 := Sees.below S1 H1.1
    clear H1
    go_wp2_with fail
    go_ret
    exact ⟨ret_bool HD.out.symm, hb⟩
  have K3' := Lib.hid (K3.out rfl)
  clear K3
  cases q2
  · go_enter Try.func94, Try.ntmps94
    go_wp2_with fail
    rw [← hw1]
    clear hw1
    refine wp_region_quietC w1 [(w.heap.size, 0, .int .i64 t), (w.heap.size, 1, .int .i64 a), (b, o + 3, .int .i64 x.act)] (by kernel_rfl) (by kernel_rfl) ⟨Below.refl _ _, s0, s1, h3, trivial⟩ ?_
    repeat (first | go_big_quiet_skip | (go_big_quiet_want; apply Exists.intro; refine ⟨fun W hW => ?_, ?_⟩; focus (have hK := Lib.hid hW; obtain ⟨hs, hc⟩ := hW; simp only [Has, and_true] at hc; go_simp; (first | rfl | exact ⟨rfl, rfl⟩ | ((with_reducible refine quietC_call hK.out (K1.out _ ?_)); exact Sees.below S1 hs) | ((with_reducible refine quietC_call hK.out (K2.out _ ?_)); exact Sees.below S1 hs)))) | (go_simp; go_big_quiet_on))
    refine wpQuiet_nil ?_
    intro w2 H1
    have hb : Sees w w2 := Sees.below S1 H1.1
    clear H1
    go_wp2_with fail
    go_ret
    exact ⟨ret_bool HD.out.symm, hb⟩
  cases q3
  · go_enter Try.func94, Try.ntmps94
    go_wp2_with fail
    rw [← hw1]
    clear hw1
    refine wp_region_quietC w1 [(w.heap.size, 0, .int .i64 t), (w.heap.size, 1, .int .i64 a), (b, o + 3, .int .i64 x.act)] (by kernel_rfl) (by kernel_rfl) ⟨Below.refl _ _, s0, s1, h3, trivial⟩ ?_
    repeat (first | go_big_quiet_skip | (go_big_quiet_want; apply Exists.intro; refine ⟨fun W hW => ?_, ?_⟩; focus (have hK := Lib.hid hW; obtain ⟨hs, hc⟩ := hW; simp only [Has, and_true] at hc; go_simp; (first | rfl | exact ⟨rfl, rfl⟩ | ((with_reducible refine quietC_call hK.out (K1.out _ ?_)); exact Sees.below S1 hs) | ((with_reducible refine quietC_call hK.out (K2.out _ ?_)); exact Sees.below S1 hs) | (with_reducible exact quietC_call hK.out (K3'.out _))))) | (go_simp; go_big_quiet_on))
    refine wpQuiet_nil ?_
    intro w2 H1
    have hb : Sees w w2 := Sees.below S1 H1.1
    clear H1
    go_wp2_with fail
    go_ret
    exact ⟨ret_bool HD.out.symm, hb⟩
  · go_enter Try.func94, Try.ntmps94
    go_wp2_with fail
    rw [← hw1]
    clear hw1
    refine wp_region_quietC w1 [(w.heap.size, 0, .int .i64 t), (w.heap.size, 1, .int .i64 a), (b, o + 3, .int .i64 x.act)] (by kernel_rfl) (by kernel_rfl) ⟨Below.refl _ _, s0, s1, h3, trivial⟩ ?_
    repeat (first | go_big_quiet_skip | (go_big_quiet_want; apply Exists.intro; refine ⟨fun W hW => ?_, ?_⟩; focus (have hK := Lib.hid hW; obtain ⟨hs, hc⟩ := hW; simp only [Has, and_true] at hc; go_simp; (first | rfl | exact ⟨rfl, rfl⟩ | ((with_reducible refine quietC_call hK.out (K1.out _ ?_)); exact Sees.below S1 hs) | ((with_reducible refine quietC_call hK.out (K2.out _ ?_)); exact Sees.below S1 hs) | (with_reducible exact quietC_call hK.out (K3'.out _))))) | (go_simp; go_big_quiet_on))
    refine wpQuiet_nil ?_
    intro w2 H1
    have hb : Sees w w2 := Sees.below S1 H1.1
    clear H1
    go_wp2_with fail
    go_ret
    exact ⟨ret_bool HD.out.symm, hb⟩

set_option maxHeartbeats 4000000 in
set_option maxRecDepth 100000 in
theorem l07Premises_any (t a : Int) (xs : List Pm) (hf : FitPm xs) (hm : tot Pm.cnt xs ≤ 1048576) (A : Option Addr) (C : Nat) (w : World) (hA : PmL w xs A) :
    Calls Try.prog 67 #[.agg #[.int .i64 t, .int .i64 a], .slice A xs.length C] w fun e w' => e = .returned (.bool (premsB t a xs)) ∧ Below w.heap.size w w' := by
  have hlen := pm_len xs
  obtain ⟨q0, hq0⟩ : ∃ q : Bool, q = sigOk t a := ⟨_, rfl⟩
  have K0 : Hid (∀ W : World, Calls Try.prog 85 #[.agg #[.int .i64 t, .int .i64 a]] W fun e w' => e = .returned (.bool q0) ∧ Below W.heap.size W w') := fun W => by rw [hq0]; exact l01Sig_any t a W
  have HD : Hid (premsB t a xs = (q0 && (decide ((xs.length : Int) ≤ 12) && allS (premB t a) xs 0))) := by show _ = _; unfold premsB; rw [← hq0, allS_zero]
  have HA := Lib.hid hA; have HF := Lib.hid hf
  have HS0 : Hid (St w [(w.heap.size, 0, .int .i64 t), (w.heap.size, 1, .int .i64 a)] (w.alloc (.cells #[.int .i64 t, .int .i64 a] 30))) := ⟨(by unfold Sees; go_grown), (by simp [go_sem]), (by simp [go_sem]), trivial⟩
  clear hA hf hq0
  go_enter Try.func67, Try.ntmps67
  go_wp2_with fail
  go_loopw [5] (fun i wr => ∃ j : Nat, j ≤ xs.length ∧ i = .int .i64 j ∧ Hid (premsB t a xs = (q0 && (decide ((xs.length : Int) ≤ 12) && allS (premB t a) xs j))) ∧ Hid (St w [(w.heap.size, 0, .int .i64 t), (w.heap.size, 1, .int .i64 a)] wr)) (fun i _ => xs.length - (intOf i).toNat)
  case atStart => exact ⟨0, Nat.zero_le _, rfl, HD, HS0⟩
  case round =>
    obtain ⟨j, hj, rfl, hq, hS⟩ := hrel
    clear HD HS0
    obtain ⟨hb, y0, y1, _⟩ := hS.out
    by_cases hjl : j < xs.length
    · obtain ⟨c, p, rfl, hat⟩ := HA.out (by rintro rfl; simp at hjl)
      obtain ⟨A1, C1, B1, D1, hx1, hQ, hR⟩ := hat j xs[j] (List.getElem?_eq_getElem hjl)
      have hst := allS_step (premB t a) xs hjl
      have hfx := HF.out.2 xs[j] (List.getElem_mem hjl)
      have hge := pm_ge (List.getElem_mem hjl)
      obtain ⟨x, hx⟩ : ∃ x, x = xs[j] := ⟨_, rfl⟩
      rw [← hx] at hx1 hQ hR hst hfx hge
      obtain ⟨q, hqe⟩ : ∃ q : Bool, q = premB t a x := ⟨_, rfl⟩
      have KV : Hid (∀ W : World, Sees w W → Calls Try.prog 94 #[.agg #[.int .i64 t, .int .i64 a], .pointer (some ⟨c, p + j * 7, none⟩)] W fun e w' => e = .returned (.bool q) ∧ Below W.heap.size W w') := fun W h => by
        rw [hqe]
        exact l07Premise_any t a x (by omega) hfx.1.2 hfx.2.2 A1 B1 C1 D1 c (p + j * 7) W (hQ.sees h) (hR.sees h) (hx1.below h)
      have HST : Hid (premsB t a xs = (q0 && (decide ((xs.length : Int) ≤ 12) && (q && allS (premB t a) xs (j + 1))))) := by
        show _ = _
        rw [hq.out, hst, hqe]
      have HAT := Lib.hid hat
      have j0 : (0 : Int) ≤ (j : Int) := Int.natCast_nonneg _
      have j1 : (j : Int) < (xs.length : Int) := by omega
      clear hat hx1 hQ hR hst hfx hge hx hqe hq
      cases q
      · have HE : Hid (premsB t a xs = false) := by show _ = _; rw [HST.out]; cases q0 <;> cases decide ((xs.length : Int) ≤ 12) <;> rfl
        clear HST
        go_wp2_with fail
        refine wp_region_quietC wr [(w.heap.size, 0, .int .i64 t), (w.heap.size, 1, .int .i64 a)] (by kernel_rfl) (by kernel_rfl) ⟨Below.refl _ _, y0, y1, trivial⟩ ?_
        repeat (first | go_big_quiet_skip | (go_big_quiet_want; apply Exists.intro; refine ⟨fun W hW => ?_, ?_⟩; focus (have hK := Lib.hid hW; obtain ⟨hs, hc⟩ := hW; simp only [Has, and_true] at hc; go_simp; (first | rfl | exact ⟨rfl, rfl⟩ | ((with_reducible refine quietC_call hK.out (KV.out _ ?_)); exact Sees.below hb hs)))) | (go_simp; go_big_quiet_on))
        refine wpQuiet_nil ?_
        intro w2 H1
        have hb2 : Hid (St w [(w.heap.size, 0, .int .i64 t), (w.heap.size, 1, .int .i64 a)] w2) := ⟨Sees.below hb H1.1, H1.2⟩
        clear H1 hb y0 y1 KV hS
        go_wp2_with fail
        go_ret
        exact ⟨ret_bool HE.out.symm, hb2.out.1⟩
      · have HE : Hid (premsB t a xs = (q0 && (decide ((xs.length : Int) ≤ 12) && allS (premB t a) xs (j + 1)))) := by show _ = _; rw [HST.out]; rfl
        clear HST
        go_wp2_with fail
        refine wp_region_quietC wr [(w.heap.size, 0, .int .i64 t), (w.heap.size, 1, .int .i64 a)] (by kernel_rfl) (by kernel_rfl) ⟨Below.refl _ _, y0, y1, trivial⟩ ?_
        repeat (first | go_big_quiet_skip | (go_big_quiet_want; apply Exists.intro; refine ⟨fun W hW => ?_, ?_⟩; focus (have hK := Lib.hid hW; obtain ⟨hs, hc⟩ := hW; simp only [Has, and_true] at hc; go_simp; (first | rfl | exact ⟨rfl, rfl⟩ | ((with_reducible refine quietC_call hK.out (KV.out _ ?_)); exact Sees.below hb hs)))) | (go_simp; go_big_quiet_on))
        refine wpQuiet_nil ?_
        intro w2 H1
        have hb2 : Hid (St w [(w.heap.size, 0, .int .i64 t), (w.heap.size, 1, .int .i64 a)] w2) := ⟨Sees.below hb H1.1, H1.2⟩
        clear H1 hb y0 y1 KV hS
        go_wp2_with fail
        go_roundw
        case rel => exact ⟨j + 1, by omega, by go_num, HE, hb2⟩
        case measure => simp [intOf]; omega
    · obtain rfl : j = xs.length := by omega
      obtain ⟨d, hd⟩ : ∃ d : Bool, d = decide ((xs.length : Int) ≤ 12) := ⟨_, rfl⟩
      have HE : Hid (premsB t a xs = (q0 && d)) := by show _ = _; rw [hq.out, allS_end, hd, Bool.and_true]
      clear hq
      cases q0
      · clear hd
        go_wp2_with fail
        refine (K0.out _).mono ?_
        rintro e w1 ⟨rfl, hb1⟩
        have B1 := Sees.below hb hb1
        clear hb1
        go_wp2_with fail
        go_ret
        exact ⟨ret_bool HE.out.symm, B1⟩
      · have hd' := hd.symm
        clear hd
        go_wp2_with fail
        refine (K0.out _).mono ?_
        rintro e w1 ⟨rfl, hb1⟩
        have B1 := Sees.below hb hb1
        clear hb1
        go_wp2_with fail
        go_ret
        exact ⟨ret_bool HE.out.symm, B1⟩

set_option maxRecDepth 100000 in
theorem specValidPremises_any (t a : Int) (xs : List Pm) (hf : FitPm xs) (hm : tot Pm.cnt xs ≤ 1048576) (A : Option Addr) (C : Nat) (w : World) (hA : PmL w xs A) :
    Calls Try.prog 21 #[.agg #[.int .i64 t, .int .i64 a], .slice A xs.length C] w fun e w' => e = .returned (.bool (premsB t a xs)) ∧ Below w.heap.size w w' := by
  obtain ⟨q, hq⟩ : ∃ q : Bool, q = premsB t a xs := ⟨_, rfl⟩
  have K : Hid (∀ W : World, Sees w W → Calls Try.prog 67 #[.agg #[.int .i64 t, .int .i64 a], .slice A xs.length C] W fun e w' => e = .returned (.bool q) ∧ Below W.heap.size W w') := fun W h => by
    rw [hq]
    exact l07Premises_any t a xs hf hm A C W (hA.sees h)
  rw [← hq]
  clear hq hA hf hm
  go_enter Try.func21, Try.ntmps21
  go_wp2_with fail
  refine (K.out _ (by unfold Sees; go_grown)).mono ?_
  rintro e w1 ⟨rfl, hb⟩
  have B1 : Sees w w1 := Sees.below (by unfold Sees; go_grown) hb
  clear hb
  go_wp2_with fail
  go_ret
  exact ⟨rfl, B1⟩
end Go.Proofs.Ytpoikhilhgijoaa
