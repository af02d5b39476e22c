/- Contracts of spec.l03Form, spec.l03Listed: pairs that have the form. -/
import Derived.Test.YtojheipllpkgdaaDoorPp
import Derived.Test.YtojheipllpkgdaaDoorTreeW
import Derived.Test.YtojheipllpkgdaaDoorBut
import Derived.Test.YtojheipllpkgdaaDoorQuietC
import Derived.Test.YtojheipllpkgdaaDoorSig
namespace Go.Proofs.YtojheipllpkgdaaDoor
open Go.RowKit
set_option linter.unusedVariables false

def formP (t a k n : Int) (f : Fo) : Bool := decide ((1 : Int) + f.nodes ≤ 800) && treeE t a false k n f
theorem formP_okE (t a k n : Int) (f : Fo) : formP t a k n f = okE t a 800 800 false k n f := by
  unfold formP okE
  have := f.deep_le
  by_cases h : (1 : Int) + f.nodes ≤ 800
  · rw [decide_eq_true h, decide_eq_true (p := (1 : Int) + f.deep ≤ 800) (by omega)]; rfl
  · rw [decide_eq_false h]; rfl
def pairF (t a lk ln : Int) (lf : Fo) (rk rn : Int) (rf : Fo) : Bool := formP t a lk ln lf && formP t a rk rn rf
def Pp.form (t a : Int) : Pp → Bool
  | .nil => true
  | .cons lk ln lf rk rn rf r => pairF t a lk ln lf rk rn rf && r.form t a
/-- Whether the expressions of all pairs have the form. -/
def listedB (t a : Int) (xs : Pp) : Bool := xs.form t a && sigOk t a
theorem listed_wild (t a : Int) (xs : Pp) : listedB t a xs = (xs.form (IntKind.i64.wrap (t - 1) + 1) (IntKind.i64.wrap (a - 1) + 1) && sigOk t a) := by
  unfold listedB
  by_cases h : sigOk t a = true
  · have hs := sigOk_of h
    rw [IntWalk.i64_in (t - 1) (by omega), IntWalk.i64_in (a - 1) (by omega), Int.sub_add_cancel, Int.sub_add_cancel]
  · rw [Bool.not_eq_true] at h
    rw [h, Bool.and_false, Bool.and_false]

set_option maxHeartbeats 400000 in
theorem l03Form_any (f : Fo) (hm : f.nodes ≤ 1048576) (hf : f.Fits) (t a T S k n : Int) (hT : Hid (IntKind.i64.wrap (t - 1) = T - 1)) (hS : Hid (IntKind.i64.wrap (a - 1) = S - 1)) (A : Option Addr) (C b o : Nat) (w : World) (hl : f.Lies w A)
      (h0 : w.cell? ⟨b, o, none⟩ = some (.int .i64 k)) (h1 : w.cell? ⟨b, o + 1, none⟩ = some (.int .i64 n)) (h2 : w.cell? ⟨b, o + 2, none⟩ = some (.slice A f.len C)) :
      Calls Tryd.prog 90 #[.agg #[.int .i64 t, .int .i64 a], .pointer (some ⟨b, o, none⟩)] w fun e w' => e = .returned (.bool (formP T S k n f)) ∧ Below w.heap.size w w' := by
  obtain ⟨x, hx⟩ : ∃ x : Int, x = f.left (800 - 1) := ⟨_, rfl⟩
  have hx2 := f.left_ok 800 (by omega)
  rw [← hx] at hx2
  have K2 : Hid (∀ W : World, Sees w W → Calls Tryd.prog 82 #[.pointer (some ⟨b, o, none⟩), .int .i64 800] W fun e w' => e = .returned (.int .i64 x) ∧ W = w') := fun W h => by rw [hx]; exact l01Left_any (f.nodes + 1) f (Nat.lt_succ_self _) hm 800 A C b o W (by omega) (by omega) (hl.sees h) (kc h h2)
  obtain ⟨q, hq⟩ : ∃ q : Bool, q = treeE T S false k n f := ⟨_, rfl⟩
  have K3 : Hid (∀ W : World, Sees w W → Calls Tryd.prog 84 #[.agg #[.int .i64 t, .int .i64 a], .pointer (some ⟨b, o, none⟩)] W fun e w' => e = .returned (.bool q) ∧ Below W.heap.size W w') := fun W h => by rw [hq]; exact l01TreeW_any (f.nodes + 1) f (Nat.lt_succ_self _) hm hf t a T S k n A C b o W hT hS (hl.sees h) (kc h h0) (kc h h1) (kc h h2)
  have B0 : Sees w (w.alloc (.cells #[.int .i64 t, .int .i64 a] 32)) := (Sees.refl w).alloc _
  rcases (Decidable.em (0 ≤ x)).symm with hx0 | hx0
  · have HD : Hid (formP T S k n f = false) := by
      show _ = _
      unfold formP
      rw [← hx2, decide_eq_false hx0]; rfl
    clear hx hx2 hq K3 hl h0 h1 h2 hT hS
    go_enter Tryd.func90, Tryd.ntmps90
    go_wp2_with fail
    refine (K2.out _ (by unfold Sees; go_grown)).mono ?_
    rintro e w' ⟨rfl, rfl⟩
    go_wp2_with fail
    go_ret
    exact ⟨ret_bool HD.out.symm, B0⟩
  · have HD : Hid (formP T S k n f = q) := by
      show _ = _
      unfold formP
      rw [← hx2, decide_eq_true hx0, hq]; rfl
    clear hx hx2 hq hl h0 h1 h2 hT hS
    go_enter Tryd.func90, Tryd.ntmps90
    go_wp2_with fail
    refine (K2.out _ (by unfold Sees; go_grown)).mono ?_
    rintro e w' ⟨rfl, rfl⟩
    go_wp2_with fail
    refine (K3.out _ (by unfold Sees; go_grown)).mono ?_
    rintro e w2 ⟨rfl, hb⟩
    have B2 := B0.below hb
    clear hb
    go_wp2_with fail
    go_ret
    exact ⟨ret_bool HD.out.symm, B2⟩

set_option maxHeartbeats 2000000 in
set_option maxRecDepth 100000 in
theorem l03Listed_any (t a : Int) (xs : Pp) (hm : xs.nodes ≤ 1048576) (hf : xs.Fits) (A : Option Addr) (C : Nat) (w : World) (hA : xs.Lies w A) :
    Calls Tryd.prog 54 #[.agg #[.int .i64 t, .int .i64 a], .slice A xs.len C] w fun e w' => e = .returned (.bool (listedB t a xs)) ∧ Below w.heap.size w w' := by
  have hlen := xs.len_le_nodes
  obtain ⟨q0, hq0⟩ : ∃ q : Bool, q = sigOk t a := ⟨_, rfl⟩
  have K0 : Hid (∀ W : World, Calls Tryd.prog 66 #[.agg #[.int .i64 t, .int .i64 a]] W fun e w' => e = .returned (.bool q0) ∧ Below W.heap.size W w') := fun W => by rw [hq0]; exact l01Sig_any t a W
  obtain ⟨T, hT0⟩ : ∃ T : Int, T = IntKind.i64.wrap (t - 1) + 1 := ⟨_, rfl⟩
  obtain ⟨S, hS0⟩ : ∃ S : Int, S = IntKind.i64.wrap (a - 1) + 1 := ⟨_, rfl⟩
  have hT : Hid (IntKind.i64.wrap (t - 1) = T - 1) := by show _ = _; omega
  have hS' : Hid (IntKind.i64.wrap (a - 1) = S - 1) := by show _ = _; omega
  obtain ⟨ans, hans⟩ : ∃ q : Bool, q = listedB t a xs := ⟨_, rfl⟩
  have HD : Hid (ans = ((xs.drop 0).form T S && q0)) := by show _ = _; rw [hans, listed_wild, hT0, hS0, hq0]; cases xs <;> rfl
  rw [← hans]
  have HA := Lib.hid hA; have HF := Lib.hid hf
  have HS0 : Hid (St w [(w.heap.size, 0, .int .i64 t), (w.heap.size, 1, .int .i64 a)] (w.alloc (.cells #[.int .i64 t, .int .i64 a] 32))) := ⟨(by unfold Sees; go_grown), (by simp [go_sem]), (by simp [go_sem]), trivial⟩
  clear hA hf hq0 hT0 hS0 hans
  go_enter Tryd.func54, Tryd.ntmps54
  go_wp2_with fail
  go_loopw [5] (fun i wr => ∃ j : Nat, j ≤ xs.len ∧ i = .int .i64 j ∧ Hid (ans = ((xs.drop j).form T S && q0)) ∧ Hid (St w [(w.heap.size, 0, .int .i64 t), (w.heap.size, 1, .int .i64 a)] wr)) (fun i _ => xs.len - (intOf i).toNat)
  case atStart => exact ⟨0, Nat.zero_le _, rfl, HD, HS0⟩
  case round =>
    obtain ⟨j, hj, rfl, hq, hS⟩ := hrel
    clear HD HS0
    obtain ⟨hb, y0, y1, _⟩ := hS.out
    by_cases hjl : j < xs.len
    · obtain ⟨c, p, rfl, hat⟩ := HA.out (by rintro rfl; simp [Pp.len] at hjl)
      obtain ⟨lk, ln, lf, rk, rn, rf, r, Alf, Clf, Arf, Crf, e1, e2, c0, c1, c2, hl_lf, c3, c4, c5, hl_rf⟩ := Pp.Lies.row hat hjl
      have hnd := xs.nodes_drop j
      have hfd := Pp.fits_drop HF.out j
      rw [e1.out] at hnd hfd
      have hn2 : lf.nodes ≤ 1048576 ∧ rf.nodes ≤ 1048576 := by simp only [Pp.nodes] at hnd; omega
      obtain ⟨q1, hq1⟩ : ∃ q : Bool, q = formP T S lk ln lf := ⟨_, rfl⟩
      obtain ⟨q2, hq2⟩ : ∃ q : Bool, q = formP T S rk rn rf := ⟨_, rfl⟩
      have KA : Hid (∀ W : World, Sees w W → Calls Tryd.prog 90 #[.agg #[.int .i64 t, .int .i64 a], .pointer (some ⟨c, p + j * 6, none⟩)] W fun e w' => e = .returned (.bool q1) ∧ Below W.heap.size W w') := fun W h => by
        rw [hq1]; exact l03Form_any lf hn2.1 hfd.1.2 t a T S lk ln hT hS' Alf Clf c (p + j * 6) W (hl_lf.sees h) (kc h c0) (kc h c1) (kc h c2)
      have KB : Hid (∀ W : World, Sees w W → Calls Tryd.prog 90 #[.agg #[.int .i64 t, .int .i64 a], .pointer (some ⟨c, p + j * 6 + 3, none⟩)] W fun e w' => e = .returned (.bool q2) ∧ Below W.heap.size W w') := fun W h => by
        rw [hq2]; exact l03Form_any rf hn2.2 hfd.2.1.2 t a T S rk rn hT hS' Arf Crf c (p + j * 6 + 3) W (hl_rf.sees h) (kc h c3) (kc h c4) (kc h c5)
      have HST : Hid (ans = ((q1 && q2) && (xs.drop (j + 1)).form T S && q0)) := by
        show _ = _
        rw [hq.out, e1.out, e2.out, hq1, hq2]; rfl
      have HAT := Lib.hid hat
      have j0 : (0 : Int) ≤ (j : Int) := Int.natCast_nonneg _
      have j1 : (j : Int) < (xs.len : Int) := by omega
      clear hat c0 c1 c2 c3 c4 c5 hl_lf hl_rf hnd hfd hn2 hq1 hq2 e1 e2 hq
      cases q1
      · have HE : Hid (ans = false) := by show _ = _; rw [HST.out]; rfl
        clear HST
        go_wp2_with fail
        refine wp_region_quietC wr [(w.heap.size, 0, .int .i64 t), (w.heap.size, 1, .int .i64 a)] (by kernel_rfl) (by kernel_rfl) ⟨Below.refl _ _, y0, y1, trivial⟩ ?_
        repeat (first | go_big_quiet_skip | (go_big_quiet_want; apply Exists.intro; refine ⟨fun W hW => ?_, ?_⟩; focus (have hK := Lib.hid hW; obtain ⟨hs, hc⟩ := hW; simp only [Has, and_true] at hc; go_simp; (first | rfl | exact ⟨rfl, rfl⟩ | ((with_reducible refine quietC_call hK.out (KA.out _ ?_)); exact Sees.below hb hs) | ((with_reducible refine quietC_call hK.out (KB.out _ ?_)); exact Sees.below hb hs)))) | (go_simp; go_big_quiet_on))
        refine wpQuiet_nil ?_
        intro w2 H1
        have hb2 : Hid (St w [(w.heap.size, 0, .int .i64 t), (w.heap.size, 1, .int .i64 a)] w2) := ⟨Sees.below hb H1.1, H1.2⟩
        clear H1 hb y0 y1 KA KB hS
        go_wp2_with fail
        go_ret
        exact ⟨ret_bool HE.out.symm, hb2.out.1⟩
      cases q2
      · have HE : Hid (ans = false) := by show _ = _; rw [HST.out]; rfl
        clear HST
        go_wp2_with fail
        refine wp_region_quietC wr [(w.heap.size, 0, .int .i64 t), (w.heap.size, 1, .int .i64 a)] (by kernel_rfl) (by kernel_rfl) ⟨Below.refl _ _, y0, y1, trivial⟩ ?_
        repeat (first | go_big_quiet_skip | (go_big_quiet_want; apply Exists.intro; refine ⟨fun W hW => ?_, ?_⟩; focus (have hK := Lib.hid hW; obtain ⟨hs, hc⟩ := hW; simp only [Has, and_true] at hc; go_simp; (first | rfl | exact ⟨rfl, rfl⟩ | ((with_reducible refine quietC_call hK.out (KA.out _ ?_)); exact Sees.below hb hs) | ((with_reducible refine quietC_call hK.out (KB.out _ ?_)); exact Sees.below hb hs)))) | (go_simp; go_big_quiet_on))
        refine wpQuiet_nil ?_
        intro w2 H1
        have hb2 : Hid (St w [(w.heap.size, 0, .int .i64 t), (w.heap.size, 1, .int .i64 a)] w2) := ⟨Sees.below hb H1.1, H1.2⟩
        clear H1 hb y0 y1 KA KB hS
        go_wp2_with fail
        go_ret
        exact ⟨ret_bool HE.out.symm, hb2.out.1⟩
      · have HE : Hid (ans = ((xs.drop (j + 1)).form T S && q0)) := by show _ = _; rw [HST.out]; rfl
        clear HST
        go_wp2_with fail
        refine wp_region_quietC wr [(w.heap.size, 0, .int .i64 t), (w.heap.size, 1, .int .i64 a)] (by kernel_rfl) (by kernel_rfl) ⟨Below.refl _ _, y0, y1, trivial⟩ ?_
        repeat (first | go_big_quiet_skip | (go_big_quiet_want; apply Exists.intro; refine ⟨fun W hW => ?_, ?_⟩; focus (have hK := Lib.hid hW; obtain ⟨hs, hc⟩ := hW; simp only [Has, and_true] at hc; go_simp; (first | rfl | exact ⟨rfl, rfl⟩ | ((with_reducible refine quietC_call hK.out (KA.out _ ?_)); exact Sees.below hb hs) | ((with_reducible refine quietC_call hK.out (KB.out _ ?_)); exact Sees.below hb hs)))) | (go_simp; go_big_quiet_on))
        refine wpQuiet_nil ?_
        intro w2 H1
        have hb2 : Hid (St w [(w.heap.size, 0, .int .i64 t), (w.heap.size, 1, .int .i64 a)] w2) := ⟨Sees.below hb H1.1, H1.2⟩
        clear H1 hb y0 y1 KA KB hS
        go_wp2_with fail
        go_roundw
        case rel => exact ⟨j + 1, by omega, by go_num, HE, hb2⟩
        case measure => simp [intOf]; omega
    · obtain rfl : j = xs.len := by omega
      have HE : Hid (ans = q0) := by show _ = _; rw [hq.out, Pp.drop_len]; rfl
      clear hq
      go_wp2_with fail
      refine (K0.out _).mono ?_
      rintro e w1 ⟨rfl, hb1⟩
      have B1 := Sees.below hb hb1
      clear hb1
      go_wp2_with fail
      go_ret
      exact ⟨ret_bool HE.out.symm, B1⟩

end Go.Proofs.YtojheipllpkgdaaDoor
