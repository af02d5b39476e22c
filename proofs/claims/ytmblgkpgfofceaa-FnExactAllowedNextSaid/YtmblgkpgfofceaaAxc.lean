/- Contract of spec.l07Allows. Contracts of spec.l01Atoms, l01Word, ValidWord; impl.atomCount, ValidWord. Contract of spec.TruthAt. Sets of atoms: eight Booleans in a row. Plain facts. -/
import Derived.Test.YtmblgkpgfofceaaPrD
import Derived.Test.YtmblgkpgfofceaaPrC
import Derived.Test.YtmblgkpgfofceaaAxb
import Derived.Test.YtmblgkpgfofceaaCondI
import Derived.WalkSpells
import Derived.Test.YtmblgkpgfofceaaWordC
import Derived.Deep.RegionHeld3
import Derived.Test.YtmblgkpgfofceaaAxa
import Derived.Test.YtmblgkpgfofceaaFill
namespace Go.Proofs.Ytmblgkpgfofceaa
open Go.RowKit
set_option linter.unusedVariables false

/-- A premise does not rule out an action with these atoms before and behind. -/
def allowG (act x y : Int) (p : Pm) : Bool := !(decide (p.act = act) && ((ndE p.pf p.pk p.pn).emptyB x && !(ndE p.qf p.qk p.qn).emptyB y))

set_option maxHeartbeats 4000000 in
set_option maxRecDepth 100000 in
theorem l07Allows_any (t a act x y : Int) (hx0 : 0 ≤ x) (hx1 : x ≤ 7) (hy0 : 0 ≤ y) (hy1 : y ≤ 7) (ht : t ≤ 3) (xs : List Pm) (hf : FitPm xs) (hm : tot Pm.cnt xs ≤ 1048576) (hv : xs.all (premB t a) = true) (A : Option Addr) (C : Nat) (w : World) (hA : PmL w xs A) :
    Calls Try.prog 104 #[.slice A xs.length C, .int .i64 act, .int .i64 x, .int .i64 y] w fun e w' => e = .returned (.bool (xs.all (allowG act x y))) ∧ Below w.heap.size w w' := by
  have hlen := pm_len xs
  have HD : Hid (xs.all (allowG act x y) = allS (allowG act x y) xs 0) := allS_zero _ xs
  have HA := Lib.hid hA; have HF := Lib.hid hf; have HV := Lib.hid hv
  have HX := Lib.hid (And.intro (And.intro hx0 hx1) (And.intro hy0 hy1))
  clear hA hf hv hx0 hx1 hy0 hy1
  go_enter Try.func104, Try.ntmps104
  go_wp2_with fail
  go_loopw [9] (fun i wr => ∃ j : Nat, j ≤ xs.length ∧ i = .int .i64 j ∧ Hid (xs.all (allowG act x y) = allS (allowG act x y) xs j) ∧ Hid (Below w.heap.size w wr)) (fun i _ => xs.length - (intOf i).toNat)
  case atStart => exact ⟨0, Nat.zero_le _, rfl, HD, Below.refl _ _⟩
  case round =>
    obtain ⟨j, hj, rfl, hq, hS⟩ := hrel
    clear HD
    by_cases hjl : j < xs.length
    · obtain ⟨c, p, rfl, hat⟩ := HA.out (by rintro rfl; simp at hjl)
      obtain ⟨A1, C1, B1, D1, hx1, hQ, hR⟩ := hat j xs[j] (List.getElem?_eq_getElem hjl)
      have hst := allS_step (allowG act x y) xs hjl
      have hfx := HF.out.2 xs[j] (List.getElem_mem hjl)
      have hge := pm_ge (List.getElem_mem hjl)
      have hpv : premB t a xs[j] = true := List.all_eq_true.1 HV.out _ (List.getElem_mem hjl)
      obtain ⟨z, hz⟩ : ∃ z, z = xs[j] := ⟨_, rfl⟩
      rw [← hz] at hx1 hQ hR hst hfx hge hpv
      have hc1 : condV t a z.pk z.pn z.pf = true := by unfold premB at hpv; simp only [Bool.and_eq_true] at hpv; exact hpv.1
      have hc2 : condV t a z.qk z.qn z.qf = true := by unfold premB at hpv; simp only [Bool.and_eq_true] at hpv; exact hpv.2.2
      unfold condV at hc1 hc2
      rw [Bool.and_eq_true] at hc1 hc2
      obtain ⟨g0, g1, g2, g3, g4, g5, g6⟩ := hx1
      obtain ⟨q1, hq1⟩ : ∃ q : Bool, q = (ndE z.pf z.pk z.pn).emptyB x := ⟨_, rfl⟩
      obtain ⟨q2, hq2⟩ : ∃ q : Bool, q = (ndE z.qf z.qk z.qn).emptyB y := ⟨_, rfl⟩
      have K1 : Hid (∀ W : World, Sees w W → Calls Try.prog 139 #[.pointer (some ⟨c, p + j * 7, none⟩), .int .i64 x] W fun e w' => e = .returned (.bool q1) ∧ Below W.heap.size W w') := fun W h => by
        rw [hq1]
        exact l01True_any x HX.out.1.1 HX.out.1.2 (z.pf.nodes + 1) z.pf (Nat.lt_succ_self _) t a z.pk z.pn false A1 C1 c (p + j * 7) W ht (hQ.sees h) (validE_parts0 hc1.1) hc1.2 (kc h g0) (kc h g1) (kc h g2)
      have K2 : Hid (∀ W : World, Sees w W → Calls Try.prog 139 #[.pointer (some ⟨c, p + j * 7 + 4, none⟩), .int .i64 y] W fun e w' => e = .returned (.bool q2) ∧ Below W.heap.size W w') := fun W h => by
        rw [hq2]
        exact l01True_any y HX.out.2.1 HX.out.2.2 (z.qf.nodes + 1) z.qf (Nat.lt_succ_self _) t a z.qk z.qn false B1 D1 c (p + j * 7 + 4) W ht (hR.sees h) (validE_parts0 hc2.1) hc2.2 (kc h g4) (kc h (by rw [Nat.add_assoc]; exact g5)) (kc h (by rw [Nat.add_assoc]; exact g6))
      have HST : Hid (xs.all (allowG act x y) = (!(decide (z.act = act) && (q1 && !q2)) && allS (allowG act x y) xs (j + 1))) := by
        show _ = _
        rw [hq.out, hst, hq1, hq2]; rfl
      have y3 := kc hS.out g3
      have HAT := Lib.hid hat
      have j0 : (0 : Int) ≤ (j : Int) := Int.natCast_nonneg _
      have j1 : (j : Int) < (xs.length : Int) := by omega
      obtain ⟨za, hza⟩ : ∃ v, v = z.act := ⟨_, rfl⟩
      rw [← hza] at y3 HST
      clear hat g0 g1 g2 g3 g4 g5 g6 hQ hR hst hfx hge hpv hz hc1 hc2 hq hq1 hq2 hza
      by_cases hk : za = act
      case neg =>
        have tk : (za == act) = false := by rw [beq_eq_false_iff_ne]; exact hk
        rw [decide_eq_false hk] at HST
        have HE : Hid (xs.all (allowG act x y) = allS (allowG act x y) xs (j + 1)) := by show _ = _; rw [HST.out]; rfl
        clear HST hk K1 K2
        go_wp2_with fail
        go_roundw
        case rel => exact ⟨j + 1, by omega, by go_num, HE, hS⟩
        case measure => simp [intOf]; omega
      have tk : (za == act) = true := by rw [beq_iff_eq]; exact hk
      rw [decide_eq_true hk] at HST
      clear hk
      cases q1
      case false =>
        have HE : Hid (xs.all (allowG act x y) = allS (allowG act x y) xs (j + 1)) := by show _ = _; rw [HST.out]; rfl
        clear HST K2
        go_wp2_with fail
        refine (K1.out _ hS.out).mono ?_
        rintro e w1 ⟨rfl, hb1⟩
        have hS1 := Lib.hid (Sees.below hS.out hb1)
        clear hb1
        go_wp2_with fail
        go_roundw
        case rel => exact ⟨j + 1, by omega, by go_num, HE, hS1⟩
        case measure => simp [intOf]; omega
      cases q2
      case true =>
        have HE : Hid (xs.all (allowG act x y) = allS (allowG act x y) xs (j + 1)) := by show _ = _; rw [HST.out]; rfl
        clear HST
        go_wp2_with fail
        refine (K1.out _ hS.out).mono ?_
        rintro e w1 ⟨rfl, hb1⟩
        have hS1 := Lib.hid (Sees.below hS.out hb1)
        clear hb1
        go_wp2_with fail
        refine (K2.out _ hS1.out).mono ?_
        rintro e w2 ⟨rfl, hb2⟩
        have hS2 := Lib.hid (Sees.below hS1.out hb2)
        clear hb2
        go_wp2_with fail
        go_roundw
        case rel => exact ⟨j + 1, by omega, by go_num, HE, hS2⟩
        case measure => simp [intOf]; omega
      have HE : Hid (xs.all (allowG act x y) = false) := by show _ = _; rw [HST.out]; rfl
      clear HST
      go_wp2_with fail
      refine (K1.out _ hS.out).mono ?_
      rintro e w1 ⟨rfl, hb1⟩
      have hS1 := Lib.hid (Sees.below hS.out hb1)
      clear hb1
      go_wp2_with fail
      refine (K2.out _ hS1.out).mono ?_
      rintro e w2 ⟨rfl, hb2⟩
      have hS2 := Lib.hid (Sees.below hS1.out hb2)
      clear hb2
      go_wp2_with fail
      go_ret
      exact ⟨ret_bool HE.out.symm, hS2.out⟩
    · obtain rfl : j = xs.length := by omega
      have HE : Hid (xs.all (allowG act x y) = true) := by show _ = _; rw [hq.out, allS_end]
      clear hq
      go_wp2_with fail
      go_ret
      exact ⟨ret_bool HE.out.symm, hS.out⟩
end Go.Proofs.Ytmblgkpgfofceaa

namespace Go.Proofs.Ytmblgkpgfofceaa
open Go.RowKit

/-- How many atoms there are. -/
def atomsN (t : Int) : Int := if t = 0 then 1 else if t = 1 then 2 else if t = 2 then 4 else 8
theorem atomsN_bd (t : Int) : 1 ≤ atomsN t ∧ atomsN t ≤ 8 := by
  unfold atomsN; split
  · omega
  · split
    · omega
    · split <;> omega
def atomB (t : Int) (x : Int) : Bool := inB x 0 (atomsN t - 1)
def actB (a : Int) (x : Int) : Bool := inB x 0 (a - 1)
theorem atomB_below (t x : Int) : atomB t x = belowB x (atomsN t) := by
  unfold atomB inB belowB; rw [Bool.eq_iff_iff]; simp; omega
theorem actB_below (a x : Int) : actB a x = belowB x a := by
  unfold actB inB belowB; rw [Bool.eq_iff_iff]; simp; omega
def validW (t a : Int) (p r : List Int) : Bool := sigOk t a && decide (r.length ≤ 10) && decide (p.length = r.length + 1) && p.all (atomB t) && r.all (actB a)

theorem all_step (f : Int → Bool) (xs : List Int) (j : Nat) (h : j < xs.length) : (xs.drop j).all f = (f (nth xs j) && (xs.drop (j + 1)).all f) := by
  rw [drop_getD xs j h]; rfl
theorem all_end (f : Int → Bool) (xs : List Int) : (xs.drop xs.length).all f = true := by simp

theorem atoms_any (t a : Int) (w : World) (h0 : 0 ≤ t) (h1 : t ≤ 3) : Calls Try.prog 103 #[.agg #[.int .i64 t, .int .i64 a]] w fun e w' => e = .returned (.int .i64 (atomsN t)) ∧ Below w.heap.size w w' := by
  have ht : t = 0 ∨ t = 1 ∨ t = 2 ∨ t = 3 := by omega
  rcases ht with rfl | rfl | rfl | rfl
  all_goals
    go_enter Try.func103, Try.ntmps103
    go_wp2
    go_ret
    exact ⟨by first | rfl | simp [atomsN], by go_grown⟩

theorem atomCount_any (t a : Int) (w : World) (h0 : 0 ≤ t) (h1 : t ≤ 3) : Calls Try.prog 52 #[.agg #[.int .i64 t, .int .i64 a]] w fun e w' => e = .returned (.int .i64 (atomsN t)) ∧ Below w.heap.size w w' := by
  have ht : t = 0 ∨ t = 1 ∨ t = 2 ∨ t = 3 := by omega
  rcases ht with rfl | rfl | rfl | rfl
  all_goals
    go_enter Try.func52, Try.ntmps52
    go_wp2
    go_ret
    exact ⟨by first | rfl | simp [atomsN], by go_grown⟩

set_option maxRecDepth 100000 in
set_option maxHeartbeats 2000000 in
theorem l01Word_any (p r : List Int) (h0 : p.length + r.length ≤ 1048576) (t a : Int) (A B : Option Addr) (C D b o : Nat) (w : World) (hl : Ints w p A) (hr : Ints w r B)
      (g0 : w.cell? ⟨b, o, none⟩ = some (.slice A p.length C)) (g1 : w.cell? ⟨b, o + 1, none⟩ = some (.slice B r.length D)) :
      Calls Try.prog 92 #[.agg #[.int .i64 t, .int .i64 a], .pointer (some ⟨b, o, none⟩)] w fun e w' => e = .returned (.bool (validW t a p r)) ∧ Below w.heap.size w w' := by
  have lb : b < w.heap.size := World.block_lt_of_cell? _ _ g0
  obtain ⟨q1, hq1⟩ : ∃ q1 : Bool, q1 = sigOk t a := ⟨_, rfl⟩
  have K1 : Hid (∀ W : World, Calls Try.prog 101 #[.agg #[.int .i64 t, .int .i64 a]] W fun e w' => e = .returned (.bool q1) ∧ Below W.heap.size W w') := fun W => by rw [hq1]; exact l01Sig_any t a W
  have X0 : (w.alloc (.cells #[.int .i64 t, .int .i64 a] 29)).cell? ⟨w.heap.size, 0, none⟩ = some (.int .i64 t) := by simp [go_sem]
  have X1 : (w.alloc (.cells #[.int .i64 t, .int .i64 a] 29)).cell? ⟨w.heap.size, 1, none⟩ = some (.int .i64 a) := by simp [go_sem]
  have y0 := ka (W := w) (.cells #[.int .i64 t, .int .i64 a] 29) g0
  have y1 := ka (W := w) (.cells #[.int .i64 t, .int .i64 a] 29) g1
  cases q1
  · have HD : Hid (validW t a p r = false) := by show _ = _; unfold validW; rw [← hq1]; rfl
    clear hq1
    go_enter Try.func92, Try.ntmps92
    go_wp2_with fail
    refine wp_region_quietC w [(w.heap.size, 0, .int .i64 t), (w.heap.size, 1, .int .i64 a), (b, o, .slice A p.length C), (b, o + 1, .slice B r.length D)] (by kernel_rfl) (by kernel_rfl) ⟨(by unfold Sees; go_grown), X0, X1, y0, y1, trivial⟩ ?_
    repeat (first | go_big_quiet_skip | (go_big_quiet_want; apply Exists.intro; refine ⟨fun W hW => ?_, ?_⟩; focus (have hK := Lib.hid hW; obtain ⟨hs, hc⟩ := hW; simp only [Has, and_true] at hc; go_simp; (first | rfl | exact ⟨rfl, rfl⟩ | exact quietC_call hK.out (K1.out _)))) | (go_simp; go_big_quiet_on))
    refine wpQuiet_nil ?_
    intro w1 H1
    go_wp2_with fail
    go_ret
    exact ⟨ret_bool HD.out.symm, H1.1⟩

  have hsg := sigOk_of hq1.symm
  by_cases hlen : 10 < r.length
  · have HD : Hid (validW t a p r = false) := by
      show _ = _
      unfold validW
      rw [decide_eq_false (p := r.length ≤ 10) (by omega)]; simp
    have z1 : decide ((10 : Int) < (r.length : Int)) = true := decide_eq_true (by omega)
    clear hq1
    go_enter Try.func92, Try.ntmps92
    go_wp2_with fail
    refine wp_region_quietC w [(w.heap.size, 0, .int .i64 t), (w.heap.size, 1, .int .i64 a), (b, o, .slice A p.length C), (b, o + 1, .slice B r.length D)] (by kernel_rfl) (by kernel_rfl) ⟨(by unfold Sees; go_grown), X0, X1, y0, y1, trivial⟩ ?_
    repeat (first | go_big_quiet_skip | (go_big_quiet_want; apply Exists.intro; refine ⟨fun W hW => ?_, ?_⟩; focus (have hK := Lib.hid hW; obtain ⟨hs, hc⟩ := hW; simp only [Has, and_true] at hc; go_simp; (first | rfl | exact ⟨rfl, rfl⟩ | exact quietC_call hK.out (K1.out _)))) | (go_simp; go_big_quiet_on))
    refine wpQuiet_nil ?_
    intro w1 H1
    go_wp2_with fail
    go_ret
    exact ⟨ret_bool HD.out.symm, H1.1⟩

  have z1 : decide ((10 : Int) < (r.length : Int)) = false := decide_eq_false (by omega)
  have ws : IntKind.i64.wrap ((r.length : Int) + 1) = (r.length : Int) + 1 := IntWalk.i64_in _ (by omega)
  by_cases hpl : p.length = r.length + 1
  case neg =>
    have HD : Hid (validW t a p r = false) := by
      show _ = _
      unfold validW
      rw [decide_eq_false hpl]; simp
    have z2 : ((p.length : Int) != (r.length : Int) + 1) = true := by rw [bne_iff_ne]; omega
    clear hq1
    go_enter Try.func92, Try.ntmps92
    go_wp2_with fail
    refine wp_region_quietC w [(w.heap.size, 0, .int .i64 t), (w.heap.size, 1, .int .i64 a), (b, o, .slice A p.length C), (b, o + 1, .slice B r.length D)] (by kernel_rfl) (by kernel_rfl) ⟨(by unfold Sees; go_grown), X0, X1, y0, y1, trivial⟩ ?_
    repeat (first | go_big_quiet_skip | (go_big_quiet_want; apply Exists.intro; refine ⟨fun W hW => ?_, ?_⟩; focus (have hK := Lib.hid hW; obtain ⟨hs, hc⟩ := hW; simp only [Has, and_true] at hc; go_simp; (first | rfl | exact ⟨rfl, rfl⟩ | exact quietC_call hK.out (K1.out _)))) | (go_simp; go_big_quiet_on))
    refine wpQuiet_nil ?_
    intro w1 H1
    go_wp2_with fail
    go_ret
    exact ⟨ret_bool HD.out.symm, H1.1⟩

  have z2 : ((p.length : Int) != (r.length : Int) + 1) = false := by
    rw [show (p.length : Int) = (r.length : Int) + 1 by omega]; simp
  have HD : Hid (validW t a p r = (p.all (atomB t) && r.all (actB a))) := by
    show _ = _
    unfold validW
    rw [← hq1, decide_eq_true hpl, decide_eq_true (p := r.length ≤ 10) (by omega)]; simp
  obtain ⟨na, hna, hn1, hn8⟩ : ∃ na : Int, na = atomsN t ∧ 1 ≤ na ∧ na ≤ 8 := ⟨_, rfl, (atomsN_bd t).1, (atomsN_bd t).2⟩
  have KA : Hid (∀ W : World, Calls Try.prog 103 #[.agg #[.int .i64 t, .int .i64 a]] W fun e w' => e = .returned (.int .i64 na) ∧ Below W.heap.size W w') := fun W => by rw [hna]; exact atoms_any t a W hsg.1 hsg.2.1
  have hab : ∀ x, atomB t x = inB x 0 (na - 1) := fun x => by rw [hna]; rfl
  have HAB := Lib.hid hab; clear hab
  have wn : IntKind.i64.wrap (na - 1) = na - 1 := IntWalk.i64_in _ (by omega)
  have wa : IntKind.i64.wrap (a - 1) = a - 1 := IntWalk.i64_in _ (by omega)
  clear hna hq1 hpl
  go_enter Try.func92, Try.ntmps92
  go_wp2_with fail
  refine wp_region_quietC w [(w.heap.size, 0, .int .i64 t), (w.heap.size, 1, .int .i64 a), (b, o, .slice A p.length C), (b, o + 1, .slice B r.length D)] (by kernel_rfl) (by kernel_rfl) ⟨(by unfold Sees; go_grown), X0, X1, y0, y1, trivial⟩ ?_
  repeat (first | go_big_quiet_skip | (go_big_quiet_want; apply Exists.intro; refine ⟨fun W hW => ?_, ?_⟩; focus (have hK := Lib.hid hW; obtain ⟨hs, hc⟩ := hW; simp only [Has, and_true] at hc; go_simp; (first | rfl | exact ⟨rfl, rfl⟩ | exact quietC_call hK.out (K1.out _)))) | (go_simp; go_big_quiet_on))
  refine wpQuiet_nil ?_
  intro w1 H1
  have HS := Lib.hid H1; clear H1 X0 X1 y0 y1
  go_wp2_with fail
  go_loopw [5] (fun i wr => ∃ j : Nat, j ≤ p.length ∧ i = .int .i64 j ∧ Hid (p.all (atomB t) = (p.drop j).all (atomB t)) ∧ Hid (St w [(w.heap.size, 0, .int .i64 t), (w.heap.size, 1, .int .i64 a), (b, o, .slice A p.length C), (b, o + 1, .slice B r.length D)] wr)) (fun i _ => p.length - (intOf i).toNat)
  case atStart => exact ⟨0, Nat.zero_le _, rfl, rfl, HS⟩
  case round =>
    obtain ⟨j, hj, rfl, hq, hS⟩ := hrel
    obtain ⟨sS, s0, s1, s2, s3, _⟩ := hS.out
    by_cases hjl : j < p.length
    · obtain ⟨b', o', hA, hat⟩ := hl (by rintro rfl; simp at hjl)
      have c0 := kc sS (hat j hjl)
      have hat2 := Lib.hid hat; clear hat
      subst hA
      have hj0 : (0 : Int) ≤ (j : Int) := Int.natCast_nonneg _
      have hj1 : (j : Int) < (p.length : Int) := by omega
      obtain ⟨q2, hqe⟩ : ∃ q2 : Bool, q2 = atomB t (nth p j) := ⟨_, rfl⟩
      have K2 : Hid (∀ W : World, Calls Try.prog 102 #[.int .i64 (nth p j), .int .i64 0, .int .i64 (na - 1)] W fun e w' => e = .returned (.bool q2) ∧ Below W.heap.size W w') := fun W => (in_any (nth p j) 0 (na - 1) W).mono fun e w' h => ⟨by rw [hqe, HAB.out]; exact h.1, by rw [← h.2]; exact Below.refl _ _⟩
      have hq1 : Hid (p.all (atomB t) = (q2 && (p.drop (j + 1)).all (atomB t))) := by show _ = _; rw [hq.out, all_step _ _ _ hjl, hqe]
      clear hqe hq
      go_wp2_with fail
      refine wp_region_quietC w ((b', o' + j, .int .i64 (nth p j)) :: [(w.heap.size, 0, .int .i64 t), (w.heap.size, 1, .int .i64 a), (b, o, .slice (some ⟨b', o', none⟩) p.length C), (b, o + 1, .slice B r.length D)]) (by kernel_rfl) (by kernel_rfl) ⟨sS, c0, s0, s1, s2, s3, trivial⟩ ?_
      repeat (first | go_big_quiet_skip | (go_big_quiet_want; apply Exists.intro; refine ⟨fun W hW => ?_, ?_⟩; focus (have hK := Lib.hid hW; obtain ⟨hs, hc⟩ := hW; simp only [Has, and_true] at hc; go_simp; (first | rfl | exact ⟨rfl, rfl⟩ | exact quietC_call hK.out (K2.out _) | exact quietC_call hK.out (KA.out _)))) | (go_simp; go_big_quiet_on))
      refine wpQuiet_nil ?_
      intro w1 H1
      have H2 : Hid (St w [(w.heap.size, 0, .int .i64 t), (w.heap.size, 1, .int .i64 a), (b, o, .slice (some ⟨b', o', none⟩) p.length C), (b, o + 1, .slice B r.length D)] w1) := ⟨H1.1, H1.2.2⟩
      clear H1 c0 s0 s1 s2 s3 sS hS K2
      cases q2
      · go_wp2_with fail
        go_ret
        exact ⟨ret_bool (by rw [HD.out, hq1.out]; simp), H2.out.1⟩
      · have hq2 : Hid (p.all (atomB t) = (p.drop (j + 1)).all (atomB t)) := hq1.out
        clear hq1
        go_wp2_with fail
        go_roundw
        case rel => exact ⟨j + 1, by omega, by go_num, hq2, H2⟩
        case measure => simp [intOf]; omega
    · obtain rfl : j = p.length := by omega
      have HE : Hid (p.all (atomB t) = true) := by show _ = _; rw [hq.out, all_end]
      clear hq
      go_wp2_with fail
      clear s0 s1 s2 s3 sS
      go_loopw [6] (fun i wr => ∃ j : Nat, j ≤ r.length ∧ i = .int .i64 j ∧ Hid (r.all (actB a) = (r.drop j).all (actB a)) ∧ Hid (St w [(w.heap.size, 0, .int .i64 t), (w.heap.size, 1, .int .i64 a), (b, o, .slice A p.length C), (b, o + 1, .slice B r.length D)] wr)) (fun i _ => r.length - (intOf i).toNat)
      case atStart => exact ⟨0, Nat.zero_le _, rfl, rfl, hS⟩
      case round =>
        obtain ⟨j, hj, rfl, hq, hS⟩ := hrel
        obtain ⟨sS, s0, s1, s2, s3, _⟩ := hS.out
        by_cases hjl : j < r.length
        · obtain ⟨b', o', hA, hat⟩ := hr (by rintro rfl; simp at hjl)
          have c0 := kc sS (hat j hjl)
          have hat2 := Lib.hid hat; clear hat
          subst hA
          have hj0 : (0 : Int) ≤ (j : Int) := Int.natCast_nonneg _
          have hj1 : (j : Int) < (r.length : Int) := by omega
          obtain ⟨q2, hqe⟩ : ∃ q2 : Bool, q2 = actB a (nth r j) := ⟨_, rfl⟩
          have K2 : Hid (∀ W : World, Calls Try.prog 102 #[.int .i64 (nth r j), .int .i64 0, .int .i64 (a - 1)] W fun e w' => e = .returned (.bool q2) ∧ Below W.heap.size W w') := fun W => (in_any (nth r j) 0 (a - 1) W).mono fun e w' h => ⟨by rw [hqe]; exact h.1, by rw [← h.2]; exact Below.refl _ _⟩
          have hq1 : Hid (r.all (actB a) = (q2 && (r.drop (j + 1)).all (actB a))) := by show _ = _; rw [hq.out, all_step _ _ _ hjl, hqe]
          clear hqe hq
          go_wp2_with fail
          refine wp_region_quietC w ((b', o' + j, .int .i64 (nth r j)) :: [(w.heap.size, 0, .int .i64 t), (w.heap.size, 1, .int .i64 a), (b, o, .slice A p.length C), (b, o + 1, .slice (some ⟨b', o', none⟩) r.length D)]) (by kernel_rfl) (by kernel_rfl) ⟨sS, c0, s0, s1, s2, s3, trivial⟩ ?_
          repeat (first | go_big_quiet_skip | (go_big_quiet_want; apply Exists.intro; refine ⟨fun W hW => ?_, ?_⟩; focus (have hK := Lib.hid hW; obtain ⟨hs, hc⟩ := hW; simp only [Has, and_true] at hc; go_simp; (first | rfl | exact ⟨rfl, rfl⟩ | exact quietC_call hK.out (K2.out _) | exact quietC_call hK.out (KA.out _)))) | (go_simp; go_big_quiet_on))
          refine wpQuiet_nil ?_
          intro w1 H1
          have H2 : Hid (St w [(w.heap.size, 0, .int .i64 t), (w.heap.size, 1, .int .i64 a), (b, o, .slice A p.length C), (b, o + 1, .slice (some ⟨b', o', none⟩) r.length D)] w1) := ⟨H1.1, H1.2.2⟩
          clear H1 c0 s0 s1 s2 s3 sS hS K2
          cases q2
          · go_wp2_with fail
            go_ret
            exact ⟨ret_bool (by rw [HD.out, HE.out, hq1.out]; simp), H2.out.1⟩
          · have hq2 : Hid (r.all (actB a) = (r.drop (j + 1)).all (actB a)) := hq1.out
            clear hq1
            go_wp2_with fail
            go_roundw
            case rel => exact ⟨j + 1, by omega, by go_num, hq2, H2⟩
            case measure => simp [intOf]; omega
        · obtain rfl : j = r.length := by omega
          have HR : Hid (r.all (actB a) = true) := by show _ = _; rw [hq.out, all_end]
          clear hq
          go_wp2_with fail
          go_ret
          exact ⟨ret_bool (by rw [HD.out, HE.out, HR.out]; rfl), hS.out.1⟩

end Go.Proofs.Ytmblgkpgfofceaa

namespace Go.Proofs.Ytmblgkpgfofceaa
open Go.RowKit

/-- What TruthAt answers. -/
def truthB (t a k n : Int) (f : Fo) (x : Int) : Bool := if validE t a k n f = true ∧ (condK k && f.cond) = true ∧ belowB x (atomsN t) = true then (ndE f k n).emptyB x else false
def truthC (t a k n : Int) (f : Fo) (x : Int) : Int := if validE t a k n f = false then 1 else if (condK k && f.cond) = false then 4 else if belowB x (atomsN t) = false then 2 else 0
theorem ret_bi {a b : Bool} {x y : Int} (h : a = b) (h' : x = y) : Ending.returned (.tuple #[.bool a, .int .i64 x]) = .returned (.tuple #[.bool b, .int .i64 y]) := by rw [h, h']
theorem truth_1 {t a k n : Int} {f : Fo} {x : Int} (h : validE t a k n f = false) : truthB t a k n f x = false ∧ truthC t a k n f x = 1 := by
  unfold truthB truthC; rw [h]; simp
theorem truth_4 {t a k n : Int} {f : Fo} {x : Int} (h : validE t a k n f = true) (h2 : (condK k && f.cond) = false) : truthB t a k n f x = false ∧ truthC t a k n f x = 4 := by
  unfold truthB truthC; rw [h, h2]; simp
theorem truth_2 {t a k n : Int} {f : Fo} {x : Int} (h : validE t a k n f = true) (h2 : (condK k && f.cond) = true) (h3 : belowB x (atomsN t) = false) : truthB t a k n f x = false ∧ truthC t a k n f x = 2 := by
  unfold truthB truthC; rw [h, h2, h3]; simp
theorem truth_0 {t a k n : Int} {f : Fo} {x : Int} (h : validE t a k n f = true) (h2 : (condK k && f.cond) = true) (h3 : belowB x (atomsN t) = true) : truthB t a k n f x = (ndE f k n).emptyB x ∧ truthC t a k n f x = 0 := by
  unfold truthB truthC; rw [h, h2, h3]; simp
theorem validE_parts {t a k n : Int} {f : Fo} (h : validE t a k n f = true) : 0 ≤ t ∧ t ≤ 3 ∧ 0 ≤ a ∧ a ≤ 4 ∧ treeE t a false k n f = true := by
  unfold validE at h
  simp only [Bool.and_eq_true] at h
  have := sigOk_of h.1.1.1
  exact ⟨this.1, this.2.1, this.2.2.1, this.2.2.2, h.2⟩
theorem below_atoms {t x : Int} (h : belowB x (atomsN t) = true) : 0 ≤ x ∧ x ≤ 7 := by
  have h1 := of_decide_eq_true h
  have h2 := atomsN_bd t
  omega

end Go.Proofs.Ytmblgkpgfofceaa

namespace Go.Proofs.Ytmblgkpgfofceaa
open Go.RowKit

/-- Eight cells. -/
def arr8 (f : Nat → Bool) : Array Value := #[.bool (f 0), .bool (f 1), .bool (f 2), .bool (f 3), .bool (f 4), .bool (f 5), .bool (f 6), .bool (f 7)]
theorem arr8_facts {W : World} {b : Nat} {T : TypeId} {f : Nat → Bool} (h : W.heap[b]? = some (.cells (arr8 f) T (0, 0))) :
    W.cell? ⟨b, 0, none⟩ = some (.bool (f 0)) ∧ W.cell? ⟨b, 1, none⟩ = some (.bool (f 1)) ∧ W.cell? ⟨b, 2, none⟩ = some (.bool (f 2)) ∧ W.cell? ⟨b, 3, none⟩ = some (.bool (f 3)) ∧ W.cell? ⟨b, 4, none⟩ = some (.bool (f 4)) ∧ W.cell? ⟨b, 5, none⟩ = some (.bool (f 5)) ∧ W.cell? ⟨b, 6, none⟩ = some (.bool (f 6)) ∧ W.cell? ⟨b, 7, none⟩ = some (.bool (f 7)) ∧ W.frozen? ⟨b, 0, none⟩ = false ∧ W.frozen? ⟨b, 1, none⟩ = false ∧ W.frozen? ⟨b, 2, none⟩ = false ∧ W.frozen? ⟨b, 3, none⟩ = false ∧ W.frozen? ⟨b, 4, none⟩ = false ∧ W.frozen? ⟨b, 5, none⟩ = false ∧ W.frozen? ⟨b, 6, none⟩ = false ∧ W.frozen? ⟨b, 7, none⟩ = false :=
  ⟨Fo.cell_of_block h 0, Fo.cell_of_block h 1, Fo.cell_of_block h 2, Fo.cell_of_block h 3, Fo.cell_of_block h 4, Fo.cell_of_block h 5, Fo.cell_of_block h 6, Fo.cell_of_block h 7, Fo.unfrozen_of_block h 0, Fo.unfrozen_of_block h 1, Fo.unfrozen_of_block h 2, Fo.unfrozen_of_block h 3, Fo.unfrozen_of_block h 4, Fo.unfrozen_of_block h 5, Fo.unfrozen_of_block h 6, Fo.unfrozen_of_block h 7⟩
theorem lt8 {j : Nat} (h : j < 8) : j = 0 ∨ j = 1 ∨ j = 2 ∨ j = 3 ∨ j = 4 ∨ j = 5 ∨ j = 6 ∨ j = 7 := by omega
/-- How many atoms there are. -/
def atomsNat (t : Int) : Nat := (atomsN t).toNat
theorem atomsNat_cast (t : Int) : ((atomsNat t : Nat) : Int) = atomsN t := by have := atomsN_bd t; unfold atomsNat; omega
theorem atomsNat_bd (t : Int) : 1 ≤ atomsNat t ∧ atomsNat t ≤ 8 := by have := atomsN_bd t; unfold atomsNat; omega
theorem atomsNat_forms (t : Int) : atomsNat t = 1 ∨ atomsNat t = 2 ∨ atomsNat t = 4 ∨ atomsNat t = 8 := by
  unfold atomsNat atomsN
  split
  · exact Or.inl rfl
  · split
    · exact Or.inr (Or.inl rfl)
    · split
      · exact Or.inr (Or.inr (Or.inl rfl))
      · exact Or.inr (Or.inr (Or.inr rfl))
theorem range_all_no {G : Nat → Bool} {m j : Nat} (h : j < m) (hj : G j = false) : (List.range m).all G = false := by
  rw [List.all_eq_false]
  exact ⟨j, List.mem_range.2 h, by simp [hj]⟩
theorem range_all_step {G : Nat → Bool} {j : Nat} (h : (List.range j).all G = true) (hj : G j = true) : (List.range (j + 1)).all G = true := by
  rw [List.range_succ, List.all_append, h]
  simp [hj]
/-- The set of the atoms below m that G names. -/
def setOfG (m : Nat) (G : Nat → Bool) (i : Nat) : Bool := decide (i < m) && G i
theorem within_all (m : Nat) (hm : m = 1 ∨ m = 2 ∨ m = 4 ∨ m = 8) (G H : Nat → Bool) : (List.range 8).all (fun i => !(setOfG m G i) || setOfG m H i) = (List.range m).all (fun i => !(G i) || H i) := by
  rcases hm with rfl | rfl | rfl | rfl <;> simp [List.range, List.range.loop, setOfG]
end Go.Proofs.Ytmblgkpgfofceaa
