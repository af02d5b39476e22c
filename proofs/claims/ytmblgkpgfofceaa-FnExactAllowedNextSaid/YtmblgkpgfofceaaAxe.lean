/- Contract of spec.l07Next. Contracts of spec.l02Act, spec.l07Premise, spec.l07Premises, spec.ValidPremises. Contracts of spec.l02Empty, spec.l02Atom. AllowedNext: what it answers; contract of spec.AllowedNext. -/
import Derived.Test.YtmblgkpgfofceaaAxc
import Derived.Test.YtmblgkpgfofceaaAxd
import Derived.WalkSpells
import Derived.Test.YtmblgkpgfofceaaPrD
import Derived.Test.YtmblgkpgfofceaaPrC
import Derived.Test.YtmblgkpgfofceaaAxa
import Derived.Deep.RegionHeld3
import Derived.Deep.DrawnRows
import Derived.Test.YtmblgkpgfofceaaEndI
namespace Go.Proofs.Ytmblgkpgfofceaa
open Go.RowKit

set_option maxRecDepth 100000 in
set_option maxHeartbeats 2000000 in
theorem l07Next_any (t a : Int) (h0 : 0 ≤ t) (h1 : t ≤ 3) (AL : Option Addr) (n CL : Nat) (act x : Int) (G : Nat → Bool) (w : World)
    (KB : ∀ (W : World) (j : Nat), Sees w W → j < atomsNat t → Calls Try.prog 104 #[.slice AL n CL, .int .i64 act, .int .i64 x, .int .i64 (j : Int)] W fun e w' => e = .returned (.bool (G j)) ∧ Below W.heap.size W w') :
    Calls Try.prog 49 #[.agg #[.int .i64 t, .int .i64 a], .slice AL n CL, .int .i64 act, .int .i64 x] w fun e w' => ∃ A C, e = .returned (.slice A (pickA G (atomsNat t)).length C) ∧ IntsIn w' (pickA G (atomsNat t)) w.heap.size w'.heap.size A ∧ Below w.heap.size w w' := by
  obtain ⟨m, hm⟩ : ∃ m, m = atomsNat t := ⟨_, rfl⟩
  have hm8 : 1 ≤ m ∧ m ≤ 8 := by rw [hm]; exact atomsNat_bd t
  have KA : Hid (∀ W : World, Calls Try.prog 103 #[.agg #[.int .i64 t, .int .i64 a]] W fun e w' => e = .returned (.int .i64 (m : Int)) ∧ Below W.heap.size W w') := fun W => by rw [hm, atomsNat_cast]; exact atoms_any t a W h0 h1
  have HB := Lib.hid KB
  rw [← hm] at HB ⊢
  clear hm KB h0 h1
  obtain ⟨W0, hW0⟩ : ∃ W0, W0 = w.alloc (.cells #[.int .i64 t, .int .i64 a] 29) := ⟨_, rfl⟩
  have g0 : W0.cell? ⟨w.heap.size, 0, none⟩ = some (.int .i64 t) := by rw [hW0]; simp [go_sem]
  have g1 : W0.cell? ⟨w.heap.size, 1, none⟩ = some (.int .i64 a) := by rw [hW0]; simp [go_sem]
  have hz0 : W0.heap.size = w.heap.size + 1 := by rw [hW0]; simp
  have HW : Hid (Sees w W0) := by show Sees _ _; rw [hW0]; exact (Sees.refl w).alloc _
  go_enter Try.func49, Try.ntmps49
  go_wp2_with fail
  rw [← hW0]
  clear hW0
  have HG0 := Lib.hid g0; have HG1 := Lib.hid g1; have HZ0 := Lib.hid hz0
  clear g0 g1 hz0
  go_loopw [9, 10] (fun v i wr => ∃ j : Nat, j ≤ m ∧ i = .int .i64 j ∧ Hid (OwnI wr W0.heap.size v (pickA G j)) ∧ Hid (Sees W0 wr)) (fun _ i _ => m - (intOf i).toNat)
  case atStart => exact ⟨0, Nat.zero_le _, rfl, by show OwnI _ _ _ _; rw [← HZ0.out]; simpa [OwnI, encs, pickA] using World.ownsRow_made (e := 2) (size := 1) W0 #[] 0 (Nat.le_refl _) (Nat.zero_le _) rfl, (Sees.refl W0).alloc _⟩
  case round =>
    obtain ⟨j, hj, rfl, hO, hS⟩ := hrel
    have y0 := kc hS.out HG0.out; have y1 := kc hS.out HG1.out
    have wj : IntKind.i64.wrap ((j : Int) + 1) = (j : Int) + 1 := IntWalk.i64_in _ (by omega)
    go_wp2_with fail
    refine (KA.out _).mono ?_
    rintro e w1 ⟨rfl, hb1⟩
    have hS1 := Lib.hid (Sees.below hS.out hb1)
    have hO1 := Lib.hid (hO.out.below hb1)
    clear hb1 y0 y1 hS hO
    by_cases hjl : j < m
    · have K1 := Lib.hid (HB.out w1 j (Sees.below HW.out hS1.out) hjl)
      obtain ⟨q, hq⟩ : ∃ q : Bool, q = G j := ⟨_, rfl⟩
      rw [← hq] at K1
      have tj : decide ((j : Int) < (m : Int)) = true := decide_eq_true (by omega)
      have hjm := Lib.hid hjl
      have hln : Hid ((pickA G j).length < 4194304) := by have := pickA_len G j; show _ < _; omega
      clear hjl
      cases q
      · have hP : Hid (pickA G (j + 1) = pickA G j) := pickA_no hq.symm
        clear hq
        go_wp2_with fail
        refine K1.out.mono ?_
        rintro e w2 ⟨rfl, hb1⟩
        have hS2 := Lib.hid (Sees.below hS1.out hb1)
        have hO2 := Lib.hid (show OwnI w2 W0.heap.size _ (pickA G (j + 1)) by rw [hP.out]; exact hO1.out.below hb1)
        clear hb1
        go_wp2_with fail
        go_roundw
        case rel => exact ⟨j + 1, by have := hjm.out; omega, by go_num, hO2, hS2⟩
        case measure => (have := hjm.out; simp [intOf]; omega)
      · have hP : Hid (pickA G (j + 1) = pickA G j ++ [(j : Int)]) := pickA_yes hq.symm
        clear hq
        go_wp2_with fail
        refine K1.out.mono ?_
        rintro e w2 ⟨rfl, hb1⟩
        have hS2 := Lib.hid (Sees.below hS1.out hb1)
        have hO2 := Lib.hid (hO1.out.below hb1)
        clear hb1
        have hsz := hS2.out.size
        go_wp2_with (at_builtin; refine wpList_append_one w2 (by rfl) _ _ (by rfl) W0.heap.size _ (pickA G j) (j : Int) (by rfl) (by rfl) hO2.out hln.out hsz (by rfl) ?_)
        intro v' w3 hO3 hB3
        have hO4 : Hid (OwnI w3 W0.heap.size v' (pickA G (j + 1))) := by show OwnI _ _ _ _; rw [hP.out]; exact hO3
        have hS4 : Hid (Sees W0 w3) := hB3 W0 rfl hS2.out
        clear hO3 hB3
        go_wp2_with fail
        go_roundw
        case rel => exact ⟨j + 1, by have := hjm.out; omega, by go_num, hO4, hS4⟩
        case measure => (have := hjm.out; simp [intOf]; omega)
    · obtain rfl : j = m := by omega
      have tj : decide ((j : Int) < (j : Int)) = false := decide_eq_false (by omega)
      obtain ⟨A, C, hv, hI⟩ := hO1.out.ints hS1.out.size
      subst hv
      have hI := Lib.hid (hI.mono HW.out.size (Nat.le_refl _))
      have hb := Lib.hid (Sees.below HW.out hS1.out)
      clear hjl wj
      go_wp2_with fail
      go_ret
      exact ⟨A, C, rfl, hI.out, hb.out⟩
end Go.Proofs.Ytmblgkpgfofceaa

namespace Go.Proofs.Ytmblgkpgfofceaa
open Go.RowKit
attribute [local go_sem ↓] Go.wp_at_zero Go.wp_at_succ

theorem l02Act_any (t a x : Int) (h0 : 0 ≤ a) (h1 : a ≤ 4) (w : World) : Calls Try.prog 47 #[.agg #[.int .i64 t, .int .i64 a], .int .i64 x] w fun e w' => e = .returned (.bool (belowB x a)) ∧ Below w.heap.size w w' := by
  obtain ⟨q, hq⟩ : ∃ q : Bool, q = belowB x a := ⟨_, rfl⟩
  have K3 : Hid (∀ W : World, Calls Try.prog 102 #[.int .i64 x, .int .i64 0, .int .i64 (a - 1)] W fun e w' => e = .returned (.bool q) ∧ Below W.heap.size W w') := fun W => (in_any x 0 (a - 1) W).mono fun e w' h => ⟨by rw [hq, ← in_below]; exact h.1, by rw [← h.2]; exact Below.refl _ _⟩
  have wn : IntKind.i64.wrap (a - 1) = a - 1 := IntWalk.i64_in _ (by omega)
  rw [← hq]
  clear hq h0 h1
  go_enter Try.func47, Try.ntmps47
  go_wp2_with fail
  refine (K3.out _).mono ?_
  rintro e w3 ⟨rfl, hb⟩
  have B2 : Sees w w3 := Sees.below (by unfold Sees; go_grown) hb
  clear hb
  go_wp2_with fail
  go_ret
  exact ⟨rfl, B2⟩

set_option maxHeartbeats 4000000 in
set_option maxRecDepth 100000 in
theorem l07Premise_any (t a : Int) (x : Pm) (hm : x.pf.nodes + x.qf.nodes ≤ 1048576) (hf : x.pf.Fits) (hg : x.qf.Fits) (A B : Option Addr) (C D b o : Nat) (w : World) (hA : x.pf.Lies w A) (hB : x.qf.Lies w B) (hx : x.At w b o A C B D) :
    Calls Try.prog 58 #[.agg #[.int .i64 t, .int .i64 a], .pointer (some ⟨b, o, none⟩)] w fun e w' => e = .returned (.bool (premB t a x)) ∧ Below w.heap.size w w' := by
  obtain ⟨h0, h1, h2, h3, h4, h5, h6⟩ := hx
  obtain ⟨q1, hq1⟩ : ∃ q : Bool, q = condV t a x.pk x.pn x.pf := ⟨_, rfl⟩
  obtain ⟨q2, hq2⟩ : ∃ q : Bool, q = condV t a x.qk x.qn x.qf := ⟨_, rfl⟩
  obtain ⟨q3, hq3⟩ : ∃ q : Bool, q = belowB x.act a := ⟨_, rfl⟩
  have K1 : Hid (∀ W : World, Sees w W → Calls Try.prog 115 #[.agg #[.int .i64 t, .int .i64 a], .pointer (some ⟨b, o, none⟩)] W fun e w' => e = .returned (.bool q1) ∧ Below W.heap.size W w') := fun W h => by
    rw [hq1]
    exact l06Cond_any t a x.pk x.pn x.pf (by omega) hf A C b o W (hA.sees h) (kc h h0) (kc h h1) (kc h h2)
  have K2 : Hid (∀ W : World, Sees w W → Calls Try.prog 115 #[.agg #[.int .i64 t, .int .i64 a], .pointer (some ⟨b, o + 4, none⟩)] W fun e w' => e = .returned (.bool q2) ∧ Below W.heap.size W w') := fun W h => by
    rw [hq2]
    exact l06Cond_any t a x.qk x.qn x.qf (by omega) hg B D b (o + 4) W (hB.sees h) (kc h h4) (kc h (by rw [Nat.add_assoc]; exact h5)) (kc h (by rw [Nat.add_assoc]; exact h6))
  have K3 : Hid (q1 = true → ∀ W : World, Calls Try.prog 47 #[.agg #[.int .i64 t, .int .i64 a], .int .i64 x.act] W fun e w' => e = .returned (.bool q3) ∧ Below W.heap.size W w') := fun hq W => by
    have h := condV_sig (hq1.symm.trans hq)
    rw [hq3]
    exact l02Act_any t a x.act h.1 h.2 W
  have HD : Hid (premB t a x = (q1 && (q2 && q3))) := by show _ = _; unfold premB; rw [hq1, hq2, hq3]; cases condV t a x.pk x.pn x.pf <;> cases condV t a x.qk x.qn x.qf <;> cases belowB x.act a <;> rfl
  have H3 := Lib.hid h3
  clear hq1 hq2 hq3 hA hB hf hg hm h0 h1 h2 h4 h5 h6 h3
  have S1 : Sees w (w.alloc (.cells #[.int .i64 t, .int .i64 a] 29)) := (Sees.refl w).alloc _
  obtain ⟨w1, hw1⟩ : ∃ w1, w1 = w.alloc (.cells #[.int .i64 t, .int .i64 a] 29) := ⟨_, rfl⟩
  have s0 : w1.cell? ⟨w.heap.size, 0, none⟩ = some (.int .i64 t) := by rw [hw1]; simp [go_sem]
  have s1 : w1.cell? ⟨w.heap.size, 1, none⟩ = some (.int .i64 a) := by rw [hw1]; simp [go_sem]
  rw [← hw1] at S1
  have h3 := kc S1 H3.out
  clear H3
  cases q1
  · clear K2 K3
    go_enter Try.func58, Try.ntmps58
    go_wp2_with fail
    rw [← hw1]
    clear hw1
    refine wp_region_quietC w1 [(w.heap.size, 0, .int .i64 t), (w.heap.size, 1, .int .i64 a), (b, o + 3, .int .i64 x.act)] (by kernel_rfl) (by kernel_rfl) ⟨Below.refl _ _, s0, s1, h3, trivial⟩ ?_
    repeat (first | go_big_quiet_skip | (go_big_quiet_want; apply Exists.intro; refine ⟨fun W hW => ?_, ?_⟩; focus (have hK := Lib.hid hW; obtain ⟨hs, hc⟩ := hW; simp only [Has, and_true] at hc; go_simp; (first | rfl | exact ⟨rfl, rfl⟩ | exact quietC_call hK.out (K1.out _ (Sees.below S1 hs))))) | (go_simp; go_big_quiet_on))
    refine wpQuiet_nil ?_
    intro w2 H1
    have hb : Sees w w2 := Sees.below S1 H1.1
    clear H1
    go_wp2_with fail
    go_ret
    exact ⟨ret_bool HD.out.symm, hb⟩
  have K3' := Lib.hid (K3.out rfl)
  clear K3
  cases q2
  · go_enter Try.func58, Try.ntmps58
    go_wp2_with fail
    rw [← hw1]
    clear hw1
    refine wp_region_quietC w1 [(w.heap.size, 0, .int .i64 t), (w.heap.size, 1, .int .i64 a), (b, o + 3, .int .i64 x.act)] (by kernel_rfl) (by kernel_rfl) ⟨Below.refl _ _, s0, s1, h3, trivial⟩ ?_
    repeat (first | go_big_quiet_skip | (go_big_quiet_want; apply Exists.intro; refine ⟨fun W hW => ?_, ?_⟩; focus (have hK := Lib.hid hW; obtain ⟨hs, hc⟩ := hW; simp only [Has, and_true] at hc; go_simp; (first | rfl | exact ⟨rfl, rfl⟩ | ((with_reducible refine quietC_call hK.out (K1.out _ ?_)); exact Sees.below S1 hs) | ((with_reducible refine quietC_call hK.out (K2.out _ ?_)); exact Sees.below S1 hs)))) | (go_simp; go_big_quiet_on))
    refine wpQuiet_nil ?_
    intro w2 H1
    have hb : Sees w w2 := Sees.below S1 H1.1
    clear H1
    go_wp2_with fail
    go_ret
    exact ⟨ret_bool HD.out.symm, hb⟩
  cases q3
  · go_enter Try.func58, Try.ntmps58
    go_wp2_with fail
    rw [← hw1]
    clear hw1
    refine wp_region_quietC w1 [(w.heap.size, 0, .int .i64 t), (w.heap.size, 1, .int .i64 a), (b, o + 3, .int .i64 x.act)] (by kernel_rfl) (by kernel_rfl) ⟨Below.refl _ _, s0, s1, h3, trivial⟩ ?_
    repeat (first | go_big_quiet_skip | (go_big_quiet_want; apply Exists.intro; refine ⟨fun W hW => ?_, ?_⟩; focus (have hK := Lib.hid hW; obtain ⟨hs, hc⟩ := hW; simp only [Has, and_true] at hc; go_simp; (first | rfl | exact ⟨rfl, rfl⟩ | ((with_reducible refine quietC_call hK.out (K1.out _ ?_)); exact Sees.below S1 hs) | ((with_reducible refine quietC_call hK.out (K2.out _ ?_)); exact Sees.below S1 hs) | (with_reducible exact quietC_call hK.out (K3'.out _))))) | (go_simp; go_big_quiet_on))
    refine wpQuiet_nil ?_
    intro w2 H1
    have hb : Sees w w2 := Sees.below S1 H1.1
    clear H1
    go_wp2_with fail
    go_ret
    exact ⟨ret_bool HD.out.symm, hb⟩
  · go_enter Try.func58, Try.ntmps58
    go_wp2_with fail
    rw [← hw1]
    clear hw1
    refine wp_region_quietC w1 [(w.heap.size, 0, .int .i64 t), (w.heap.size, 1, .int .i64 a), (b, o + 3, .int .i64 x.act)] (by kernel_rfl) (by kernel_rfl) ⟨Below.refl _ _, s0, s1, h3, trivial⟩ ?_
    repeat (first | go_big_quiet_skip | (go_big_quiet_want; apply Exists.intro; refine ⟨fun W hW => ?_, ?_⟩; focus (have hK := Lib.hid hW; obtain ⟨hs, hc⟩ := hW; simp only [Has, and_true] at hc; go_simp; (first | rfl | exact ⟨rfl, rfl⟩ | ((with_reducible refine quietC_call hK.out (K1.out _ ?_)); exact Sees.below S1 hs) | ((with_reducible refine quietC_call hK.out (K2.out _ ?_)); exact Sees.below S1 hs) | (with_reducible exact quietC_call hK.out (K3'.out _))))) | (go_simp; go_big_quiet_on))
    refine wpQuiet_nil ?_
    intro w2 H1
    have hb : Sees w w2 := Sees.below S1 H1.1
    clear H1
    go_wp2_with fail
    go_ret
    exact ⟨ret_bool HD.out.symm, hb⟩

set_option maxHeartbeats 4000000 in
set_option maxRecDepth 100000 in
theorem l07Premises_any (t a : Int) (xs : List Pm) (hf : FitPm xs) (hm : tot Pm.cnt xs ≤ 1048576) (A : Option Addr) (C : Nat) (w : World) (hA : PmL w xs A) :
    Calls Try.prog 46 #[.agg #[.int .i64 t, .int .i64 a], .slice A xs.length C] w fun e w' => e = .returned (.bool (premsB t a xs)) ∧ Below w.heap.size w w' := by
  have hlen := pm_len xs
  obtain ⟨q0, hq0⟩ : ∃ q : Bool, q = sigOk t a := ⟨_, rfl⟩
  have K0 : Hid (∀ W : World, Calls Try.prog 101 #[.agg #[.int .i64 t, .int .i64 a]] W fun e w' => e = .returned (.bool q0) ∧ Below W.heap.size W w') := fun W => by rw [hq0]; exact l01Sig_any t a W
  have HD : Hid (premsB t a xs = (q0 && (decide ((xs.length : Int) ≤ 12) && allS (premB t a) xs 0))) := by show _ = _; unfold premsB; rw [← hq0, allS_zero]
  have HA := Lib.hid hA; have HF := Lib.hid hf
  have HS0 : Hid (St w [(w.heap.size, 0, .int .i64 t), (w.heap.size, 1, .int .i64 a)] (w.alloc (.cells #[.int .i64 t, .int .i64 a] 29))) := ⟨(by unfold Sees; go_grown), (by simp [go_sem]), (by simp [go_sem]), trivial⟩
  clear hA hf hq0
  go_enter Try.func46, Try.ntmps46
  go_wp2_with fail
  go_loopw [5] (fun i wr => ∃ j : Nat, j ≤ xs.length ∧ i = .int .i64 j ∧ Hid (premsB t a xs = (q0 && (decide ((xs.length : Int) ≤ 12) && allS (premB t a) xs j))) ∧ Hid (St w [(w.heap.size, 0, .int .i64 t), (w.heap.size, 1, .int .i64 a)] wr)) (fun i _ => xs.length - (intOf i).toNat)
  case atStart => exact ⟨0, Nat.zero_le _, rfl, HD, HS0⟩
  case round =>
    obtain ⟨j, hj, rfl, hq, hS⟩ := hrel
    clear HD HS0
    obtain ⟨hb, y0, y1, _⟩ := hS.out
    by_cases hjl : j < xs.length
    · obtain ⟨c, p, rfl, hat⟩ := HA.out (by rintro rfl; simp at hjl)
      obtain ⟨A1, C1, B1, D1, hx1, hQ, hR⟩ := hat j xs[j] (List.getElem?_eq_getElem hjl)
      have hst := allS_step (premB t a) xs hjl
      have hfx := HF.out.2 xs[j] (List.getElem_mem hjl)
      have hge := pm_ge (List.getElem_mem hjl)
      obtain ⟨x, hx⟩ : ∃ x, x = xs[j] := ⟨_, rfl⟩
      rw [← hx] at hx1 hQ hR hst hfx hge
      obtain ⟨q, hqe⟩ : ∃ q : Bool, q = premB t a x := ⟨_, rfl⟩
      have KV : Hid (∀ W : World, Sees w W → Calls Try.prog 58 #[.agg #[.int .i64 t, .int .i64 a], .pointer (some ⟨c, p + j * 7, none⟩)] W fun e w' => e = .returned (.bool q) ∧ Below W.heap.size W w') := fun W h => by
        rw [hqe]
        exact l07Premise_any t a x (by omega) hfx.1.2 hfx.2.2 A1 B1 C1 D1 c (p + j * 7) W (hQ.sees h) (hR.sees h) (hx1.below h)
      have HST : Hid (premsB t a xs = (q0 && (decide ((xs.length : Int) ≤ 12) && (q && allS (premB t a) xs (j + 1))))) := by
        show _ = _
        rw [hq.out, hst, hqe]
      have HAT := Lib.hid hat
      have j0 : (0 : Int) ≤ (j : Int) := Int.natCast_nonneg _
      have j1 : (j : Int) < (xs.length : Int) := by omega
      clear hat hx1 hQ hR hst hfx hge hx hqe hq
      cases q
      · have HE : Hid (premsB t a xs = false) := by show _ = _; rw [HST.out]; cases q0 <;> cases decide ((xs.length : Int) ≤ 12) <;> rfl
        clear HST
        go_wp2_with fail
        refine wp_region_quietC wr [(w.heap.size, 0, .int .i64 t), (w.heap.size, 1, .int .i64 a)] (by kernel_rfl) (by kernel_rfl) ⟨Below.refl _ _, y0, y1, trivial⟩ ?_
        repeat (first | go_big_quiet_skip | (go_big_quiet_want; apply Exists.intro; refine ⟨fun W hW => ?_, ?_⟩; focus (have hK := Lib.hid hW; obtain ⟨hs, hc⟩ := hW; simp only [Has, and_true] at hc; go_simp; (first | rfl | exact ⟨rfl, rfl⟩ | ((with_reducible refine quietC_call hK.out (KV.out _ ?_)); exact Sees.below hb hs)))) | (go_simp; go_big_quiet_on))
        refine wpQuiet_nil ?_
        intro w2 H1
        have hb2 : Hid (St w [(w.heap.size, 0, .int .i64 t), (w.heap.size, 1, .int .i64 a)] w2) := ⟨Sees.below hb H1.1, H1.2⟩
        clear H1 hb y0 y1 KV hS
        go_wp2_with fail
        go_ret
        exact ⟨ret_bool HE.out.symm, hb2.out.1⟩
      · have HE : Hid (premsB t a xs = (q0 && (decide ((xs.length : Int) ≤ 12) && allS (premB t a) xs (j + 1)))) := by show _ = _; rw [HST.out]; rfl
        clear HST
        go_wp2_with fail
        refine wp_region_quietC wr [(w.heap.size, 0, .int .i64 t), (w.heap.size, 1, .int .i64 a)] (by kernel_rfl) (by kernel_rfl) ⟨Below.refl _ _, y0, y1, trivial⟩ ?_
        repeat (first | go_big_quiet_skip | (go_big_quiet_want; apply Exists.intro; refine ⟨fun W hW => ?_, ?_⟩; focus (have hK := Lib.hid hW; obtain ⟨hs, hc⟩ := hW; simp only [Has, and_true] at hc; go_simp; (first | rfl | exact ⟨rfl, rfl⟩ | ((with_reducible refine quietC_call hK.out (KV.out _ ?_)); exact Sees.below hb hs)))) | (go_simp; go_big_quiet_on))
        refine wpQuiet_nil ?_
        intro w2 H1
        have hb2 : Hid (St w [(w.heap.size, 0, .int .i64 t), (w.heap.size, 1, .int .i64 a)] w2) := ⟨Sees.below hb H1.1, H1.2⟩
        clear H1 hb y0 y1 KV hS
        go_wp2_with fail
        go_roundw
        case rel => exact ⟨j + 1, by omega, by go_num, HE, hb2⟩
        case measure => simp [intOf]; omega
    · obtain rfl : j = xs.length := by omega
      obtain ⟨d, hd⟩ : ∃ d : Bool, d = decide ((xs.length : Int) ≤ 12) := ⟨_, rfl⟩
      have HE : Hid (premsB t a xs = (q0 && d)) := by show _ = _; rw [hq.out, allS_end, hd, Bool.and_true]
      clear hq
      cases q0
      · clear hd
        go_wp2_with fail
        refine (K0.out _).mono ?_
        rintro e w1 ⟨rfl, hb1⟩
        have B1 := Sees.below hb hb1
        clear hb1
        go_wp2_with fail
        go_ret
        exact ⟨ret_bool HE.out.symm, B1⟩
      · have hd' := hd.symm
        clear hd
        go_wp2_with fail
        refine (K0.out _).mono ?_
        rintro e w1 ⟨rfl, hb1⟩
        have B1 := Sees.below hb hb1
        clear hb1
        go_wp2_with fail
        go_ret
        exact ⟨ret_bool HE.out.symm, B1⟩

end Go.Proofs.Ytmblgkpgfofceaa

namespace Go.Proofs.Ytmblgkpgfofceaa
open Go.RowKit

theorem l02Atom_any (t a x : Int) (w : World) (h0 : 0 ≤ t) (h1 : t ≤ 3) : Calls Try.prog 48 #[.agg #[.int .i64 t, .int .i64 a], .int .i64 x] w fun e w' => e = .returned (.bool (belowB x (atomsN t))) ∧ Below w.heap.size w w' := by
  obtain ⟨na, hna, hn1, hn8⟩ : ∃ na : Int, na = atomsN t ∧ 1 ≤ na ∧ na ≤ 8 := ⟨_, rfl, (atomsN_bd t).1, (atomsN_bd t).2⟩
  have KA : Hid (∀ W : World, Calls Try.prog 103 #[.agg #[.int .i64 t, .int .i64 a]] W fun e w' => e = .returned (.int .i64 na) ∧ Below W.heap.size W w') := fun W => by rw [hna]; exact atoms_any t a W h0 h1
  obtain ⟨q3, hq3⟩ : ∃ q3 : Bool, q3 = belowB x (atomsN t) := ⟨_, rfl⟩
  have K3 : Hid (∀ W : World, Calls Try.prog 102 #[.int .i64 x, .int .i64 0, .int .i64 (na - 1)] W fun e w' => e = .returned (.bool q3) ∧ Below W.heap.size W w') := fun W => (in_any x 0 (na - 1) W).mono fun e w' h => ⟨by rw [hq3, ← atomB_below, atomB, ← hna]; exact h.1, by rw [← h.2]; exact Below.refl _ _⟩
  have wn : IntKind.i64.wrap (na - 1) = na - 1 := IntWalk.i64_in _ (by omega)
  have HQ := Lib.hid hq3
  clear hq3 hna hn1 hn8
  go_enter Try.func48, Try.ntmps48
  go_wp2_with fail
  refine (KA.out _).mono ?_
  rintro e w2 ⟨rfl, hb⟩
  have B1 : Sees w w2 := Sees.below (by unfold Sees; go_grown) hb
  clear hb
  go_wp2_with fail
  refine (K3.out _).mono ?_
  rintro e w3 ⟨rfl, hb⟩
  have B2 := B1.below hb
  clear hb
  go_wp2_with fail
  go_ret
  exact ⟨ret_bool HQ.out, B2⟩

end Go.Proofs.Ytmblgkpgfofceaa

namespace Go.Proofs.Ytmblgkpgfofceaa
open Go.RowKit

def alC (t a : Int) (xs : List Pm) (act x : Int) : Int := if premsB t a xs then (if belowB act a && belowB x (atomsN t) then 0 else 2) else 1
def alR (t a : Int) (xs : List Pm) (act x : Int) : List Int := if alC t a xs act x = 0 then pickA (fun j : Nat => xs.all (allowG act x (j : Int))) (atomsNat t) else []
theorem al_1 {t a : Int} {xs : List Pm} {act x : Int} (h : premsB t a xs = false) : alR t a xs act x = [] ∧ alC t a xs act x = 1 := by
  have h1 : alC t a xs act x = 1 := by unfold alC; simp [h]
  exact ⟨by unfold alR; simp [h1], h1⟩
theorem al_2 {t a : Int} {xs : List Pm} {act x : Int} (h : premsB t a xs = true) (g : (belowB act a && belowB x (atomsN t)) = false) : alR t a xs act x = [] ∧ alC t a xs act x = 2 := by
  have h1 : alC t a xs act x = 2 := by unfold alC; rw [h, g]; rfl
  exact ⟨by unfold alR; simp [h1], h1⟩
theorem al_0 {t a : Int} {xs : List Pm} {act x : Int} (h : premsB t a xs = true) (g : (belowB act a && belowB x (atomsN t)) = true) : alR t a xs act x = pickA (fun j : Nat => xs.all (allowG act x (j : Int))) (atomsNat t) ∧ alC t a xs act x = 0 := by
  have h1 : alC t a xs act x = 0 := by unfold alC; rw [h, g]; rfl
  exact ⟨by unfold alR; rw [if_pos h1], h1⟩
theorem prems_sig {t a : Int} {xs : List Pm} (h : premsB t a xs = true) : 0 ≤ t ∧ t ≤ 3 ∧ 0 ≤ a ∧ a ≤ 4 := by
  unfold premsB at h
  rw [Bool.and_eq_true] at h
  have := sigOk_of h.1
  omega
theorem prems_all {t a : Int} {xs : List Pm} (h : premsB t a xs = true) : xs.all (premB t a) = true := by
  unfold premsB at h
  simp only [Bool.and_eq_true] at h
  exact h.2.2

set_option maxRecDepth 100000 in
set_option maxHeartbeats 4000000 in
theorem specAllowedNext_any (t a act x : Int) (xs : List Pm) (hf : FitPm xs) (hm : tot Pm.cnt xs ≤ 1048576) (A : Option Addr) (C : Nat) (w : World) (hA : PmL w xs A) :
    Calls Try.prog 10 #[.agg #[.int .i64 t, .int .i64 a], .slice A xs.length C, .int .i64 act, .int .i64 x] w (IEnd (alR t a xs act x) (alC t a xs act x) w) := by
  obtain ⟨R, hR⟩ : ∃ R, R = alR t a xs act x := ⟨_, rfl⟩
  obtain ⟨c, hc⟩ : ∃ c, c = alC t a xs act x := ⟨_, rfl⟩
  obtain ⟨q0, hq0⟩ : ∃ q : Bool, q = premsB t a xs := ⟨_, rfl⟩
  obtain ⟨q1, hq1⟩ : ∃ q : Bool, q = belowB act a := ⟨_, rfl⟩
  obtain ⟨q2, hq2⟩ : ∃ q : Bool, q = belowB x (atomsN t) := ⟨_, rfl⟩
  have K0 : Hid (∀ W : World, Sees w W → Calls Try.prog 46 #[.agg #[.int .i64 t, .int .i64 a], .slice A xs.length C] W fun e w' => e = .returned (.bool q0) ∧ Below W.heap.size W w') := fun W h => by rw [hq0]; exact l07Premises_any t a xs hf hm A C W (hA.sees h)
  have HS0 : Hid (St w [(w.heap.size, 0, .int .i64 t), (w.heap.size, 1, .int .i64 a)] (w.alloc (.cells #[.int .i64 t, .int .i64 a] 29))) := ⟨(by unfold Sees; go_grown), (by simp [go_sem]), (by simp [go_sem]), trivial⟩
  rw [← hR, ← hc]
  cases q0
  · have HD := Lib.hid (show R = [] ∧ c = 1 by rw [hR, hc]; exact al_1 hq0.symm)
    clear hq0 hq1 hq2 hR hc hA hf hm
    go_enter Try.func10, Try.ntmps10
    go_wp2_with fail
    refine (K0.out _ HS0.out.1).mono ?_
    rintro e w1 ⟨rfl, hb⟩
    have S1 := Lib.hid (St.below HS0.out hb)
    clear hb
    obtain ⟨sS, s0, s1, _⟩ := S1.out
    go_wp2_with fail
    go_ret2
    exact iend_nil HD.out (Below.alloc sS sS.size _)
  have hsig := prems_sig hq0.symm
  have K1 : Hid (∀ W : World, Calls Try.prog 47 #[.agg #[.int .i64 t, .int .i64 a], .int .i64 act] W fun e w' => e = .returned (.bool q1) ∧ Below W.heap.size W w') := fun W => by rw [hq1]; exact l02Act_any t a act hsig.2.2.1 hsig.2.2.2 W
  have K2 : Hid (∀ W : World, Calls Try.prog 48 #[.agg #[.int .i64 t, .int .i64 a], .int .i64 x] W fun e w' => e = .returned (.bool q2) ∧ Below W.heap.size W w') := fun W => by rw [hq2]; exact l02Atom_any t a x W hsig.1 hsig.2.1
  cases q1
  · have HD := Lib.hid (show R = [] ∧ c = 2 by rw [hR, hc]; exact al_2 hq0.symm (by rw [← hq1]; rfl))
    clear hq0 hq1 hq2 hR hc hA hf hm hsig K2
    go_enter Try.func10, Try.ntmps10
    go_wp2_with fail
    refine (K0.out _ HS0.out.1).mono ?_
    rintro e w1 ⟨rfl, hb⟩
    have S1 := Lib.hid (St.below HS0.out hb)
    clear hb
    obtain ⟨sS, s0, s1, _⟩ := S1.out
    go_wp2_with fail
    refine (K1.out _).mono ?_
    rintro e w2 ⟨rfl, hb⟩
    have S2 := Lib.hid (St.below S1.out hb)
    clear hb sS s0 s1
    obtain ⟨sS, s0, s1, _⟩ := S2.out
    go_wp2_with fail
    go_ret2
    exact iend_nil HD.out (Below.alloc sS sS.size _)
  cases q2
  · have HD := Lib.hid (show R = [] ∧ c = 2 by rw [hR, hc]; exact al_2 hq0.symm (by rw [← hq2, Bool.and_false]))
    clear hq0 hq1 hq2 hR hc hA hf hm hsig
    go_enter Try.func10, Try.ntmps10
    go_wp2_with fail
    refine (K0.out _ HS0.out.1).mono ?_
    rintro e w1 ⟨rfl, hb⟩
    have S1 := Lib.hid (St.below HS0.out hb)
    clear hb
    obtain ⟨sS, s0, s1, _⟩ := S1.out
    go_wp2_with fail
    refine (K1.out _).mono ?_
    rintro e w2 ⟨rfl, hb⟩
    have S2 := Lib.hid (St.below S1.out hb)
    clear hb sS s0 s1
    obtain ⟨sS, s0, s1, _⟩ := S2.out
    go_wp2_with fail
    refine (K2.out _).mono ?_
    rintro e w3 ⟨rfl, hb⟩
    have S3 := Lib.hid (St.below S2.out hb)
    clear hb sS s0 s1
    obtain ⟨sS, s0, s1, _⟩ := S3.out
    go_wp2_with fail
    go_ret2
    exact iend_nil HD.out (Below.alloc sS sS.size _)
  obtain ⟨P, hP⟩ : ∃ P : List Int, P = pickA (fun j : Nat => xs.all (allowG act x (j : Int))) (atomsNat t) := ⟨_, rfl⟩
  have HD := Lib.hid (show R = P ∧ c = 0 by rw [hR, hc, hP]; exact al_0 hq0.symm (by rw [← hq1, ← hq2]; rfl))
  have hxb : 0 ≤ x ∧ x ≤ 7 := by
    have h := hq2.symm
    unfold belowB at h
    have h2 := of_decide_eq_true h
    have := atomsN_bd t
    omega
  have K5 : Hid (∀ W : World, Sees w W → Calls Try.prog 49 #[.agg #[.int .i64 t, .int .i64 a], .slice A xs.length C, .int .i64 act, .int .i64 x] W fun e w' => ∃ A C, e = .returned (.slice A P.length C) ∧ IntsIn w' P W.heap.size w'.heap.size A ∧ Below W.heap.size W w') := fun W h => by
    rw [hP]
    exact l07Next_any t a hsig.1 hsig.2.1 A xs.length C act x (fun j : Nat => xs.all (allowG act x (j : Int))) W
      (fun W2 j s hj => l07Allows_any t a act x (j : Int) hxb.1 hxb.2 (Int.natCast_nonneg _) (by have := (atomsNat_bd t).2; omega) hsig.2.1 xs hf hm (prems_all hq0.symm) A C W2 (hA.sees (Sees.below h s)))
  clear hq0 hq1 hq2 hR hc hA hf hm hsig hP hxb
  go_enter Try.func10, Try.ntmps10
  go_wp2_with fail
  refine (K0.out _ HS0.out.1).mono ?_
  rintro e w1 ⟨rfl, hb⟩
  have S1 := Lib.hid (St.below HS0.out hb)
  clear hb
  obtain ⟨sS, s0, s1, _⟩ := S1.out
  go_wp2_with fail
  refine (K1.out _).mono ?_
  rintro e w2 ⟨rfl, hb⟩
  have S2 := Lib.hid (St.below S1.out hb)
  clear hb sS s0 s1
  obtain ⟨sS, s0, s1, _⟩ := S2.out
  go_wp2_with fail
  refine (K2.out _).mono ?_
  rintro e w3 ⟨rfl, hb⟩
  have S3 := Lib.hid (St.below S2.out hb)
  clear hb sS s0 s1
  obtain ⟨sS, s0, s1, _⟩ := S3.out
  go_wp2_with fail
  refine (K5.out _ sS).mono ?_
  rintro e w4 ⟨Z, D, rfl, hI, hb⟩
  have hI2 := Lib.hid (hI.mono sS.size (Nat.le_refl _))
  have hS4 := Lib.hid (Sees.below sS hb)
  clear hb hI sS s0 s1
  go_wp2_with fail
  go_ret2
  exact iend_of HD.out hI2.out hS4.out
end Go.Proofs.Ytmblgkpgfofceaa
