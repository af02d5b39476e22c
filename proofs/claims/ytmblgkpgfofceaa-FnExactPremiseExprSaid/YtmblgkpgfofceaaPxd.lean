/- Contracts of spec.l01Atoms, l01Word, ValidWord; impl.atomCount, ValidWord. Contract of spec.TruthAt. The condition of atoms, as a node; what ConditionOf answers. Plain facts. Contracts of spec.l02Zero, l02One, l02Pair. -/
import Derived.Test.YtmblgkpgfofceaaWordC
import Derived.Deep.RegionHeld3
import Derived.Test.YtmblgkpgfofceaaPxa
import Derived.Test.YtmblgkpgfofceaaPxc
import Derived.Test.YtmblgkpgfofceaaPxb
import Derived.Test.YtmblgkpgfofceaaInts
namespace Go.Proofs.Ytmblgkpgfofceaa
open Go.RowKit

/-- How many atoms there are. -/
def atomsN (t : Int) : Int := if t = 0 then 1 else if t = 1 then 2 else if t = 2 then 4 else 8
theorem atomsN_bd (t : Int) : 1 ≤ atomsN t ∧ atomsN t ≤ 8 := by
  unfold atomsN; split
  · omega
  · split
    · omega
    · split <;> omega
def atomB (t : Int) (x : Int) : Bool := inB x 0 (atomsN t - 1)
def actB (a : Int) (x : Int) : Bool := inB x 0 (a - 1)
theorem atomB_below (t x : Int) : atomB t x = belowB x (atomsN t) := by
  unfold atomB inB belowB; rw [Bool.eq_iff_iff]; simp; omega
theorem actB_below (a x : Int) : actB a x = belowB x a := by
  unfold actB inB belowB; rw [Bool.eq_iff_iff]; simp; omega
def validW (t a : Int) (p r : List Int) : Bool := sigOk t a && decide (r.length ≤ 10) && decide (p.length = r.length + 1) && p.all (atomB t) && r.all (actB a)

theorem all_step (f : Int → Bool) (xs : List Int) (j : Nat) (h : j < xs.length) : (xs.drop j).all f = (f (nth xs j) && (xs.drop (j + 1)).all f) := by
  rw [drop_getD xs j h]; rfl
theorem all_end (f : Int → Bool) (xs : List Int) : (xs.drop xs.length).all f = true := by simp

theorem atoms_any (t a : Int) (w : World) (h0 : 0 ≤ t) (h1 : t ≤ 3) : Calls Try.prog 103 #[.agg #[.int .i64 t, .int .i64 a]] w fun e w' => e = .returned (.int .i64 (atomsN t)) ∧ Below w.heap.size w w' := by
  have ht : t = 0 ∨ t = 1 ∨ t = 2 ∨ t = 3 := by omega
  rcases ht with rfl | rfl | rfl | rfl
  all_goals
    go_enter Try.func103, Try.ntmps103
    go_wp2
    go_ret
    exact ⟨by first | rfl | simp [atomsN], by go_grown⟩

theorem atomCount_any (t a : Int) (w : World) (h0 : 0 ≤ t) (h1 : t ≤ 3) : Calls Try.prog 52 #[.agg #[.int .i64 t, .int .i64 a]] w fun e w' => e = .returned (.int .i64 (atomsN t)) ∧ Below w.heap.size w w' := by
  have ht : t = 0 ∨ t = 1 ∨ t = 2 ∨ t = 3 := by omega
  rcases ht with rfl | rfl | rfl | rfl
  all_goals
    go_enter Try.func52, Try.ntmps52
    go_wp2
    go_ret
    exact ⟨by first | rfl | simp [atomsN], by go_grown⟩

set_option maxRecDepth 100000 in
set_option maxHeartbeats 2000000 in
theorem l01Word_any (p r : List Int) (h0 : p.length + r.length ≤ 1048576) (t a : Int) (A B : Option Addr) (C D b o : Nat) (w : World) (hl : Ints w p A) (hr : Ints w r B)
      (g0 : w.cell? ⟨b, o, none⟩ = some (.slice A p.length C)) (g1 : w.cell? ⟨b, o + 1, none⟩ = some (.slice B r.length D)) :
      Calls Try.prog 92 #[.agg #[.int .i64 t, .int .i64 a], .pointer (some ⟨b, o, none⟩)] w fun e w' => e = .returned (.bool (validW t a p r)) ∧ Below w.heap.size w w' := by
  have lb : b < w.heap.size := World.block_lt_of_cell? _ _ g0
  obtain ⟨q1, hq1⟩ : ∃ q1 : Bool, q1 = sigOk t a := ⟨_, rfl⟩
  have K1 : Hid (∀ W : World, Calls Try.prog 101 #[.agg #[.int .i64 t, .int .i64 a]] W fun e w' => e = .returned (.bool q1) ∧ Below W.heap.size W w') := fun W => by rw [hq1]; exact l01Sig_any t a W
  have X0 : (w.alloc (.cells #[.int .i64 t, .int .i64 a] 29)).cell? ⟨w.heap.size, 0, none⟩ = some (.int .i64 t) := by simp [go_sem]
  have X1 : (w.alloc (.cells #[.int .i64 t, .int .i64 a] 29)).cell? ⟨w.heap.size, 1, none⟩ = some (.int .i64 a) := by simp [go_sem]
  have y0 := ka (W := w) (.cells #[.int .i64 t, .int .i64 a] 29) g0
  have y1 := ka (W := w) (.cells #[.int .i64 t, .int .i64 a] 29) g1
  cases q1
  · have HD : Hid (validW t a p r = false) := by show _ = _; unfold validW; rw [← hq1]; rfl
    clear hq1
    go_enter Try.func92, Try.ntmps92
    go_wp2_with fail
    refine wp_region_quietC w [(w.heap.size, 0, .int .i64 t), (w.heap.size, 1, .int .i64 a), (b, o, .slice A p.length C), (b, o + 1, .slice B r.length D)] (by kernel_rfl) (by kernel_rfl) ⟨(by unfold Sees; go_grown), X0, X1, y0, y1, trivial⟩ ?_
    repeat (first | go_big_quiet_skip | (go_big_quiet_want; apply Exists.intro; refine ⟨fun W hW => ?_, ?_⟩; focus (have hK := Lib.hid hW; obtain ⟨hs, hc⟩ := hW; simp only [Has, and_true] at hc; go_simp; (first | rfl | exact ⟨rfl, rfl⟩ | exact quietC_call hK.out (K1.out _)))) | (go_simp; go_big_quiet_on))
    refine wpQuiet_nil ?_
    intro w1 H1
    go_wp2_with fail
    go_ret
    exact ⟨ret_bool HD.out.symm, H1.1⟩

  have hsg := sigOk_of hq1.symm
  by_cases hlen : 10 < r.length
  · have HD : Hid (validW t a p r = false) := by
      show _ = _
      unfold validW
      rw [decide_eq_false (p := r.length ≤ 10) (by omega)]; simp
    have z1 : decide ((10 : Int) < (r.length : Int)) = true := decide_eq_true (by omega)
    clear hq1
    go_enter Try.func92, Try.ntmps92
    go_wp2_with fail
    refine wp_region_quietC w [(w.heap.size, 0, .int .i64 t), (w.heap.size, 1, .int .i64 a), (b, o, .slice A p.length C), (b, o + 1, .slice B r.length D)] (by kernel_rfl) (by kernel_rfl) ⟨(by unfold Sees; go_grown), X0, X1, y0, y1, trivial⟩ ?_
    repeat (first | go_big_quiet_skip | (go_big_quiet_want; apply Exists.intro; refine ⟨fun W hW => ?_, ?_⟩; focus (have hK := Lib.hid hW; obtain ⟨hs, hc⟩ := hW; simp only [Has, and_true] at hc; go_simp; (first | rfl | exact ⟨rfl, rfl⟩ | exact quietC_call hK.out (K1.out _)))) | (go_simp; go_big_quiet_on))
    refine wpQuiet_nil ?_
    intro w1 H1
    go_wp2_with fail
    go_ret
    exact ⟨ret_bool HD.out.symm, H1.1⟩

  have z1 : decide ((10 : Int) < (r.length : Int)) = false := decide_eq_false (by omega)
  have ws : IntKind.i64.wrap ((r.length : Int) + 1) = (r.length : Int) + 1 := IntWalk.i64_in _ (by omega)
  by_cases hpl : p.length = r.length + 1
  case neg =>
    have HD : Hid (validW t a p r = false) := by
      show _ = _
      unfold validW
      rw [decide_eq_false hpl]; simp
    have z2 : ((p.length : Int) != (r.length : Int) + 1) = true := by rw [bne_iff_ne]; omega
    clear hq1
    go_enter Try.func92, Try.ntmps92
    go_wp2_with fail
    refine wp_region_quietC w [(w.heap.size, 0, .int .i64 t), (w.heap.size, 1, .int .i64 a), (b, o, .slice A p.length C), (b, o + 1, .slice B r.length D)] (by kernel_rfl) (by kernel_rfl) ⟨(by unfold Sees; go_grown), X0, X1, y0, y1, trivial⟩ ?_
    repeat (first | go_big_quiet_skip | (go_big_quiet_want; apply Exists.intro; refine ⟨fun W hW => ?_, ?_⟩; focus (have hK := Lib.hid hW; obtain ⟨hs, hc⟩ := hW; simp only [Has, and_true] at hc; go_simp; (first | rfl | exact ⟨rfl, rfl⟩ | exact quietC_call hK.out (K1.out _)))) | (go_simp; go_big_quiet_on))
    refine wpQuiet_nil ?_
    intro w1 H1
    go_wp2_with fail
    go_ret
    exact ⟨ret_bool HD.out.symm, H1.1⟩

  have z2 : ((p.length : Int) != (r.length : Int) + 1) = false := by
    rw [show (p.length : Int) = (r.length : Int) + 1 by omega]; simp
  have HD : Hid (validW t a p r = (p.all (atomB t) && r.all (actB a))) := by
    show _ = _
    unfold validW
    rw [← hq1, decide_eq_true hpl, decide_eq_true (p := r.length ≤ 10) (by omega)]; simp
  obtain ⟨na, hna, hn1, hn8⟩ : ∃ na : Int, na = atomsN t ∧ 1 ≤ na ∧ na ≤ 8 := ⟨_, rfl, (atomsN_bd t).1, (atomsN_bd t).2⟩
  have KA : Hid (∀ W : World, Calls Try.prog 103 #[.agg #[.int .i64 t, .int .i64 a]] W fun e w' => e = .returned (.int .i64 na) ∧ Below W.heap.size W w') := fun W => by rw [hna]; exact atoms_any t a W hsg.1 hsg.2.1
  have hab : ∀ x, atomB t x = inB x 0 (na - 1) := fun x => by rw [hna]; rfl
  have HAB := Lib.hid hab; clear hab
  have wn : IntKind.i64.wrap (na - 1) = na - 1 := IntWalk.i64_in _ (by omega)
  have wa : IntKind.i64.wrap (a - 1) = a - 1 := IntWalk.i64_in _ (by omega)
  clear hna hq1 hpl
  go_enter Try.func92, Try.ntmps92
  go_wp2_with fail
  refine wp_region_quietC w [(w.heap.size, 0, .int .i64 t), (w.heap.size, 1, .int .i64 a), (b, o, .slice A p.length C), (b, o + 1, .slice B r.length D)] (by kernel_rfl) (by kernel_rfl) ⟨(by unfold Sees; go_grown), X0, X1, y0, y1, trivial⟩ ?_
  repeat (first | go_big_quiet_skip | (go_big_quiet_want; apply Exists.intro; refine ⟨fun W hW => ?_, ?_⟩; focus (have hK := Lib.hid hW; obtain ⟨hs, hc⟩ := hW; simp only [Has, and_true] at hc; go_simp; (first | rfl | exact ⟨rfl, rfl⟩ | exact quietC_call hK.out (K1.out _)))) | (go_simp; go_big_quiet_on))
  refine wpQuiet_nil ?_
  intro w1 H1
  have HS := Lib.hid H1; clear H1 X0 X1 y0 y1
  go_wp2_with fail
  go_loopw [5] (fun i wr => ∃ j : Nat, j ≤ p.length ∧ i = .int .i64 j ∧ Hid (p.all (atomB t) = (p.drop j).all (atomB t)) ∧ Hid (St w [(w.heap.size, 0, .int .i64 t), (w.heap.size, 1, .int .i64 a), (b, o, .slice A p.length C), (b, o + 1, .slice B r.length D)] wr)) (fun i _ => p.length - (intOf i).toNat)
  case atStart => exact ⟨0, Nat.zero_le _, rfl, rfl, HS⟩
  case round =>
    obtain ⟨j, hj, rfl, hq, hS⟩ := hrel
    obtain ⟨sS, s0, s1, s2, s3, _⟩ := hS.out
    by_cases hjl : j < p.length
    · obtain ⟨b', o', hA, hat⟩ := hl (by rintro rfl; simp at hjl)
      have c0 := kc sS (hat j hjl)
      have hat2 := Lib.hid hat; clear hat
      subst hA
      have hj0 : (0 : Int) ≤ (j : Int) := Int.natCast_nonneg _
      have hj1 : (j : Int) < (p.length : Int) := by omega
      obtain ⟨q2, hqe⟩ : ∃ q2 : Bool, q2 = atomB t (nth p j) := ⟨_, rfl⟩
      have K2 : Hid (∀ W : World, Calls Try.prog 102 #[.int .i64 (nth p j), .int .i64 0, .int .i64 (na - 1)] W fun e w' => e = .returned (.bool q2) ∧ Below W.heap.size W w') := fun W => (in_any (nth p j) 0 (na - 1) W).mono fun e w' h => ⟨by rw [hqe, HAB.out]; exact h.1, by rw [← h.2]; exact Below.refl _ _⟩
      have hq1 : Hid (p.all (atomB t) = (q2 && (p.drop (j + 1)).all (atomB t))) := by show _ = _; rw [hq.out, all_step _ _ _ hjl, hqe]
      clear hqe hq
      go_wp2_with fail
      refine wp_region_quietC w ((b', o' + j, .int .i64 (nth p j)) :: [(w.heap.size, 0, .int .i64 t), (w.heap.size, 1, .int .i64 a), (b, o, .slice (some ⟨b', o', none⟩) p.length C), (b, o + 1, .slice B r.length D)]) (by kernel_rfl) (by kernel_rfl) ⟨sS, c0, s0, s1, s2, s3, trivial⟩ ?_
      repeat (first | go_big_quiet_skip | (go_big_quiet_want; apply Exists.intro; refine ⟨fun W hW => ?_, ?_⟩; focus (have hK := Lib.hid hW; obtain ⟨hs, hc⟩ := hW; simp only [Has, and_true] at hc; go_simp; (first | rfl | exact ⟨rfl, rfl⟩ | exact quietC_call hK.out (K2.out _) | exact quietC_call hK.out (KA.out _)))) | (go_simp; go_big_quiet_on))
      refine wpQuiet_nil ?_
      intro w1 H1
      have H2 : Hid (St w [(w.heap.size, 0, .int .i64 t), (w.heap.size, 1, .int .i64 a), (b, o, .slice (some ⟨b', o', none⟩) p.length C), (b, o + 1, .slice B r.length D)] w1) := ⟨H1.1, H1.2.2⟩
      clear H1 c0 s0 s1 s2 s3 sS hS K2
      cases q2
      · go_wp2_with fail
        go_ret
        exact ⟨ret_bool (by rw [HD.out, hq1.out]; simp), H2.out.1⟩
      · have hq2 : Hid (p.all (atomB t) = (p.drop (j + 1)).all (atomB t)) := hq1.out
        clear hq1
        go_wp2_with fail
        go_roundw
        case rel => exact ⟨j + 1, by omega, by go_num, hq2, H2⟩
        case measure => simp [intOf]; omega
    · obtain rfl : j = p.length := by omega
      have HE : Hid (p.all (atomB t) = true) := by show _ = _; rw [hq.out, all_end]
      clear hq
      go_wp2_with fail
      clear s0 s1 s2 s3 sS
      go_loopw [6] (fun i wr => ∃ j : Nat, j ≤ r.length ∧ i = .int .i64 j ∧ Hid (r.all (actB a) = (r.drop j).all (actB a)) ∧ Hid (St w [(w.heap.size, 0, .int .i64 t), (w.heap.size, 1, .int .i64 a), (b, o, .slice A p.length C), (b, o + 1, .slice B r.length D)] wr)) (fun i _ => r.length - (intOf i).toNat)
      case atStart => exact ⟨0, Nat.zero_le _, rfl, rfl, hS⟩
      case round =>
        obtain ⟨j, hj, rfl, hq, hS⟩ := hrel
        obtain ⟨sS, s0, s1, s2, s3, _⟩ := hS.out
        by_cases hjl : j < r.length
        · obtain ⟨b', o', hA, hat⟩ := hr (by rintro rfl; simp at hjl)
          have c0 := kc sS (hat j hjl)
          have hat2 := Lib.hid hat; clear hat
          subst hA
          have hj0 : (0 : Int) ≤ (j : Int) := Int.natCast_nonneg _
          have hj1 : (j : Int) < (r.length : Int) := by omega
          obtain ⟨q2, hqe⟩ : ∃ q2 : Bool, q2 = actB a (nth r j) := ⟨_, rfl⟩
          have K2 : Hid (∀ W : World, Calls Try.prog 102 #[.int .i64 (nth r j), .int .i64 0, .int .i64 (a - 1)] W fun e w' => e = .returned (.bool q2) ∧ Below W.heap.size W w') := fun W => (in_any (nth r j) 0 (a - 1) W).mono fun e w' h => ⟨by rw [hqe]; exact h.1, by rw [← h.2]; exact Below.refl _ _⟩
          have hq1 : Hid (r.all (actB a) = (q2 && (r.drop (j + 1)).all (actB a))) := by show _ = _; rw [hq.out, all_step _ _ _ hjl, hqe]
          clear hqe hq
          go_wp2_with fail
          refine wp_region_quietC w ((b', o' + j, .int .i64 (nth r j)) :: [(w.heap.size, 0, .int .i64 t), (w.heap.size, 1, .int .i64 a), (b, o, .slice A p.length C), (b, o + 1, .slice (some ⟨b', o', none⟩) r.length D)]) (by kernel_rfl) (by kernel_rfl) ⟨sS, c0, s0, s1, s2, s3, trivial⟩ ?_
          repeat (first | go_big_quiet_skip | (go_big_quiet_want; apply Exists.intro; refine ⟨fun W hW => ?_, ?_⟩; focus (have hK := Lib.hid hW; obtain ⟨hs, hc⟩ := hW; simp only [Has, and_true] at hc; go_simp; (first | rfl | exact ⟨rfl, rfl⟩ | exact quietC_call hK.out (K2.out _) | exact quietC_call hK.out (KA.out _)))) | (go_simp; go_big_quiet_on))
          refine wpQuiet_nil ?_
          intro w1 H1
          have H2 : Hid (St w [(w.heap.size, 0, .int .i64 t), (w.heap.size, 1, .int .i64 a), (b, o, .slice A p.length C), (b, o + 1, .slice (some ⟨b', o', none⟩) r.length D)] w1) := ⟨H1.1, H1.2.2⟩
          clear H1 c0 s0 s1 s2 s3 sS hS K2
          cases q2
          · go_wp2_with fail
            go_ret
            exact ⟨ret_bool (by rw [HD.out, HE.out, hq1.out]; simp), H2.out.1⟩
          · have hq2 : Hid (r.all (actB a) = (r.drop (j + 1)).all (actB a)) := hq1.out
            clear hq1
            go_wp2_with fail
            go_roundw
            case rel => exact ⟨j + 1, by omega, by go_num, hq2, H2⟩
            case measure => simp [intOf]; omega
        · obtain rfl : j = r.length := by omega
          have HR : Hid (r.all (actB a) = true) := by show _ = _; rw [hq.out, all_end]
          clear hq
          go_wp2_with fail
          go_ret
          exact ⟨ret_bool (by rw [HD.out, HE.out, HR.out]; rfl), hS.out.1⟩

end Go.Proofs.Ytmblgkpgfofceaa

namespace Go.Proofs.Ytmblgkpgfofceaa
open Go.RowKit

/-- What TruthAt answers. -/
def truthB (t a k n : Int) (f : Fo) (x : Int) : Bool := if validE t a k n f = true ∧ (condK k && f.cond) = true ∧ belowB x (atomsN t) = true then (ndE f k n).emptyB x else false
def truthC (t a k n : Int) (f : Fo) (x : Int) : Int := if validE t a k n f = false then 1 else if (condK k && f.cond) = false then 4 else if belowB x (atomsN t) = false then 2 else 0
theorem ret_bi {a b : Bool} {x y : Int} (h : a = b) (h' : x = y) : Ending.returned (.tuple #[.bool a, .int .i64 x]) = .returned (.tuple #[.bool b, .int .i64 y]) := by rw [h, h']
theorem truth_1 {t a k n : Int} {f : Fo} {x : Int} (h : validE t a k n f = false) : truthB t a k n f x = false ∧ truthC t a k n f x = 1 := by
  unfold truthB truthC; rw [h]; simp
theorem truth_4 {t a k n : Int} {f : Fo} {x : Int} (h : validE t a k n f = true) (h2 : (condK k && f.cond) = false) : truthB t a k n f x = false ∧ truthC t a k n f x = 4 := by
  unfold truthB truthC; rw [h, h2]; simp
theorem truth_2 {t a k n : Int} {f : Fo} {x : Int} (h : validE t a k n f = true) (h2 : (condK k && f.cond) = true) (h3 : belowB x (atomsN t) = false) : truthB t a k n f x = false ∧ truthC t a k n f x = 2 := by
  unfold truthB truthC; rw [h, h2, h3]; simp
theorem truth_0 {t a k n : Int} {f : Fo} {x : Int} (h : validE t a k n f = true) (h2 : (condK k && f.cond) = true) (h3 : belowB x (atomsN t) = true) : truthB t a k n f x = (ndE f k n).emptyB x ∧ truthC t a k n f x = 0 := by
  unfold truthB truthC; rw [h, h2, h3]; simp
theorem validE_parts {t a k n : Int} {f : Fo} (h : validE t a k n f = true) : 0 ≤ t ∧ t ≤ 3 ∧ 0 ≤ a ∧ a ≤ 4 ∧ treeE t a false k n f = true := by
  unfold validE at h
  simp only [Bool.and_eq_true] at h
  have := sigOk_of h.1.1.1
  exact ⟨this.1, this.2.1, this.2.2.1, this.2.2.2, h.2⟩
theorem below_atoms {t x : Int} (h : belowB x (atomsN t) = true) : 0 ≤ x ∧ x ≤ 7 := by
  have h1 := of_decide_eq_true h
  have h2 := atomsN_bd t
  omega

end Go.Proofs.Ytmblgkpgfofceaa

namespace Go.Proofs.Ytmblgkpgfofceaa
open Go.RowKit

/-- A test, or its negation, as an atom has it. -/
def litN (x : Int) (j : Nat) : Nd := if bitB x j = true then .test j else .not (.test j)
def prodN (x : Int) : Nat → Nd
  | 0 => .one
  | 1 => litN x 0
  | j + 2 => .dot (prodN x (j + 1)) (litN x (j + 1))
def sumN (t : Int) (xs : List Int) : Nd := xs.foldl (fun s x => .sum s (prodN x t.toNat)) .zero
theorem litN_size (x : Int) (j : Nat) : (litN x j).size ≤ 2 := by unfold litN; split <;> simp [Nd.size]
theorem prodN_size (x : Int) : ∀ j : Nat, (prodN x j).size ≤ 3 * j + 1
  | 0 => by simp [prodN, Nd.size]
  | 1 => by have := litN_size x 0; simp only [prodN]; omega
  | j + 2 => by have := prodN_size x (j + 1); have := litN_size x (j + 1); simp only [prodN, Nd.size]; omega
theorem sumN_step (t : Int) (xs : List Int) (x : Int) : sumN t (xs ++ [x]) = .sum (sumN t xs) (prodN x t.toNat) := by unfold sumN; rw [List.foldl_append]; rfl
theorem sumN_take (t : Int) (xs : List Int) {j : Nat} (h : j < xs.length) : sumN t (xs.take (j + 1)) = .sum (sumN t (xs.take j)) (prodN (nth xs j) t.toNat) := by
  rw [List.take_succ_eq_append_getElem h, sumN_step]
  simp [nth, List.getD, h]
theorem sumN_size (t : Int) (ht : t ≤ 3) (xs : List Int) : (sumN t xs).size ≤ 1 + 11 * xs.length := by
  have key : ∀ (n : Nat), n ≤ xs.length → (sumN t (xs.take n)).size ≤ 1 + 11 * n := by
    intro n
    induction n with
    | zero => intro _; simp [sumN, Nd.size]
    | succ n ih =>
      intro h
      rw [sumN_take t xs (by omega)]
      have := ih (by omega)
      have := prodN_size (nth xs n) t.toNat
      have ht3 : t.toNat ≤ 3 := by omega
      simp only [Nd.size]
      omega
  have := key xs.length (Nat.le_refl _)
  rwa [List.take_length] at this
/-- One place of a list of atoms is right. -/
def riseAt (t : Int) (xs : List Int) (i : Nat) : Bool := belowB (nth xs i) (atomsN t) && (decide (i = 0) || decide (nth xs (i - 1) < nth xs i))
def risesB (t : Int) (xs : List Int) : Bool := (List.range xs.length).all (riseAt t xs)
theorem rises_no {t : Int} {xs : List Int} {j : Nat} (h : j < xs.length) (hj : riseAt t xs j = false) : risesB t xs = false := by
  unfold risesB
  rw [List.all_eq_false]
  exact ⟨j, List.mem_range.2 h, by simp [hj]⟩
theorem rises_step {t : Int} {xs : List Int} {j : Nat} (h : (List.range j).all (riseAt t xs) = true) (hj : riseAt t xs j = true) : (List.range (j + 1)).all (riseAt t xs) = true := by
  rw [List.range_succ, List.all_append, h]
  simp [hj]
theorem rises_at {t : Int} {xs : List Int} (h : risesB t xs = true) {j : Nat} (hj : j < xs.length) : riseAt t xs j = true := by
  unfold risesB at h
  rw [List.all_eq_true] at h
  exact h j (List.mem_range.2 hj)
theorem rises_bd {t : Int} {xs : List Int} (h : risesB t xs = true) {j : Nat} (hj : j < xs.length) : 0 ≤ nth xs j ∧ nth xs j ≤ 7 := by
  have := rises_at h hj
  unfold riseAt at this
  simp only [Bool.and_eq_true] at this
  exact below_atoms this.1
theorem rises_ge {t : Int} {xs : List Int} (h : risesB t xs = true) : ∀ j : Nat, j < xs.length → (j : Int) ≤ nth xs j
  | 0, hj => (rises_bd h hj).1
  | j + 1, hj => by
    have h1 := rises_ge h j (by omega)
    have h2 := rises_at h hj
    unfold riseAt at h2
    simp only [Bool.and_eq_true, Bool.or_eq_true, decide_eq_true_eq, Nat.add_sub_cancel] at h2
    omega
theorem rises_len {t : Int} {xs : List Int} (h : risesB t xs = true) : xs.length ≤ 8 := by
  rcases Nat.eq_zero_or_pos xs.length with h0 | h0
  · omega
  · have h1 := rises_ge h (xs.length - 1) (by omega)
    have h2 := (rises_bd h (j := xs.length - 1) (by omega)).2
    omega
/-- What ConditionOf answers. -/
def cnOk (t a : Int) (xs : List Int) : Bool := sigOk t a && risesB t xs
def cnK (t a : Int) (xs : List Int) : Int := if cnOk t a xs = true then (sumN t xs).kd else 0
def cnN (t a : Int) (xs : List Int) : Int := if cnOk t a xs = true then (sumN t xs).nm else 0
def cnF (t a : Int) (xs : List Int) : Fo := if cnOk t a xs = true then (sumN t xs).ks else .nil
def cnC (t a : Int) (xs : List Int) : Int := if sigOk t a = false then 1 else if risesB t xs = false then 2 else 0
theorem cn_1 {t a : Int} {xs : List Int} (h : sigOk t a = false) : cnK t a xs = 0 ∧ cnN t a xs = 0 ∧ cnF t a xs = .nil ∧ cnC t a xs = 1 := by
  unfold cnK cnN cnF cnC cnOk; rw [h]; exact ⟨rfl, rfl, rfl, rfl⟩
theorem cn_2 {t a : Int} {xs : List Int} (h1 : sigOk t a = true) (h : risesB t xs = false) : cnK t a xs = 0 ∧ cnN t a xs = 0 ∧ cnF t a xs = .nil ∧ cnC t a xs = 2 := by
  unfold cnK cnN cnF cnC cnOk; rw [h1, h]; exact ⟨rfl, rfl, rfl, rfl⟩
theorem cn_0 {t a : Int} {xs : List Int} (h1 : sigOk t a = true) (h : risesB t xs = true) : cnK t a xs = (sumN t xs).kd ∧ cnN t a xs = (sumN t xs).nm ∧ cnF t a xs = (sumN t xs).ks ∧ cnC t a xs = 0 := by
  unfold cnK cnN cnF cnC cnOk; rw [h1, h]; exact ⟨rfl, rfl, rfl, rfl⟩
theorem cnF_nodes (t a : Int) (xs : List Int) : (cnF t a xs).nodes ≤ 1048576 := by
  unfold cnF
  split
  · rename_i h
    unfold cnOk at h
    simp only [Bool.and_eq_true] at h
    have := rises_len h.2
    have ht := (sigOk_of h.1).2.1
    have := sumN_size t ht xs
    have := Nd.ks_nodes (sumN t xs)
    omega
  · exact Nat.zero_le _
namespace Fo
/-- A row in a block, its kids in blocks of the range. -/
theorem LiesIn.one {W W' : World} {lo hi hi' b : Nat} {k n : Int} {ks : Fo} {A : Option Addr} {C : Nat} {T : TypeId} (h : ks.LiesIn W lo hi A) (hd : Agree W W' lo hi)
    (hb : W'.heap[b]? = some (.cells #[.int .i64 k, .int .i64 n, .slice A ks.len C] T (0, 0))) (h1 : lo ≤ b) (h2 : b < hi') (h3 : hi ≤ hi') : (cons k n ks .nil).LiesIn W' lo hi' (some ⟨b, 0, none⟩) := fun _ =>
  ⟨b, 0, rfl, h1, h2, (Fo.cell_of_block hb 0), (Fo.cell_of_block hb 1), ⟨A, C, (Fo.cell_of_block hb 2), (h.agree hd).mono (Nat.le_refl _) h3⟩, trivial⟩
theorem LiesIn.two {W W' : World} {lo hi hi' b : Nat} {k n : Int} {ks : Fo} {A : Option Addr} {C : Nat} {k2 n2 : Int} {ks2 : Fo} {A2 : Option Addr} {C2 : Nat} {T : TypeId} (h : ks.LiesIn W lo hi A) (g : ks2.LiesIn W lo hi A2) (hd : Agree W W' lo hi)
    (hb : W'.heap[b]? = some (.cells #[.int .i64 k, .int .i64 n, .slice A ks.len C, .int .i64 k2, .int .i64 n2, .slice A2 ks2.len C2] T (0, 0))) (h1 : lo ≤ b) (h2 : b < hi') (h3 : hi ≤ hi') : (cons k n ks (cons k2 n2 ks2 .nil)).LiesIn W' lo hi' (some ⟨b, 0, none⟩) := fun _ =>
  ⟨b, 0, rfl, h1, h2, (Fo.cell_of_block hb 0), (Fo.cell_of_block hb 1), ⟨A, C, (Fo.cell_of_block hb 2), (h.agree hd).mono (Nat.le_refl _) h3⟩, (Fo.cell_of_block hb 3), (Fo.cell_of_block hb 4), ⟨A2, C2, (Fo.cell_of_block hb 5), (g.agree hd).mono (Nat.le_refl _) h3⟩, trivial⟩
end Fo
end Go.Proofs.Ytmblgkpgfofceaa

namespace Go.Proofs.Ytmblgkpgfofceaa
open Go.RowKit

set_option maxRecDepth 100000 in
set_option maxHeartbeats 1000000 in
theorem l02Pair_any (kk k1 n1 : Int) (f1 : Fo) (k2 n2 : Int) (f2 : Fo) (A1 A2 : Option Addr) (C1 C2 lo : Nat) (w : World) (h1 : f1.LiesIn w lo w.heap.size A1) (h2 : f2.LiesIn w lo w.heap.size A2) (hlo : lo ≤ w.heap.size) :
    Calls Try.prog 59 #[.int .i64 kk, .agg #[.int .i64 k1, .int .i64 n1, .slice A1 f1.len C1], .agg #[.int .i64 k2, .int .i64 n2, .slice A2 f2.len C2]] w fun e w' =>
      ∃ Z, e = .returned (.agg #[.int .i64 kk, .int .i64 0, .slice Z 2 2]) ∧ (Fo.cons k1 n1 f1 (.cons k2 n2 f2 .nil)).LiesIn w' lo w'.heap.size Z ∧ Below w.heap.size w w' := by
  have H1 := Lib.hid h1; have H2 := Lib.hid h2; have HL := Lib.hid hlo
  clear h1 h2 hlo
  go_enter Try.func59, Try.ntmps59
  go_wp2_with fail
  refine bodyPost_ret (v := .agg #[.int .i64 kk, .int .i64 0, .slice (some ⟨w.heap.size + 1 + 1 + 1, 0, none⟩) 2 2]) (by simp [results, Try.results59, go_sem]) rfl ⟨_, rfl, ?_, by go_grown⟩
  have hbel : Below w.heap.size w ((((w.alloc (.cells #[.int .i64 k1, .int .i64 n1, .slice A1 f1.len C1] 46)).alloc (.cells #[.int .i64 k2, .int .i64 n2, .slice A2 f2.len C2] 46)).alloc (.cells #[.int .i64 kk, .int .i64 0, .slice (some ⟨w.heap.size + 1 + 1 + 1, 0, none⟩) 2 2] 46)).alloc (.cells #[.int .i64 k1, .int .i64 n1, .slice A1 f1.len C1, .int .i64 k2, .int .i64 n2, .slice A2 f2.len C2] 46)) := by go_grown
  have hl := HL.out
  exact Fo.LiesIn.two H1.out H2.out ((Fo.Agree.of_below hbel).mono (Nat.zero_le _) (Nat.le_refl _)) (heap_new _ _ _ (by simp)) (by omega) (by simp) (by simp; omega)
end Go.Proofs.Ytmblgkpgfofceaa
