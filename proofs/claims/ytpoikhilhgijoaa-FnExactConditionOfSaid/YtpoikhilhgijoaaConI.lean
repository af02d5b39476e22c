/- Contract of impl.ConditionOf. -/
import Derived.Test.YtpoikhilhgijoaaConN
import Derived.Test.YtpoikhilhgijoaaValidI
namespace Go.Proofs.Ytpoikhilhgijoaa
open Go.RowKit

set_option maxRecDepth 100000 in
set_option maxHeartbeats 4000000 in
theorem implConditionOf_any (t a : Int) (xs : List Int) (hm : xs.length ≤ 1048576) (A : Option Addr) (C : Nat) (w : World) (hl : Ints w xs A) :
    Calls Try.prog 40 #[.agg #[.int .i64 t, .int .i64 a], .slice A xs.length C] w (XEnd (cnK t a xs) (cnN t a xs) (cnF t a xs) (cnC t a xs) w) := by
  obtain ⟨q1, hq1⟩ : ∃ q : Bool, q = sigOk t a := ⟨_, rfl⟩
  obtain ⟨q2, hq2⟩ : ∃ q : Bool, q = risesB t xs := ⟨_, rfl⟩
  have K1 : Hid (∀ W : World, Calls Try.prog 68 #[.agg #[.int .i64 t, .int .i64 a]] W fun e w' => e = .returned (.bool q1) ∧ Below W.heap.size W w') := fun W => by rw [hq1]; exact implValidSig_any t a W
  obtain ⟨W0, hW0⟩ : ∃ W0, W0 = (w.alloc (.cells #[.int .i64 t, .int .i64 a] 30)).alloc (.cells #[.int .i64 0, .int .i64 0, .slice none 0 0] 34) := ⟨_, rfl⟩
  have R0 : Hid (Bk w t a W0) := by show Bk _ _ _ _; rw [hW0]; exact Bk.start w t a
  cases q1
  · obtain ⟨d1, d2, d3, d4⟩ := cn_1 (xs := xs) hq1.symm
    rw [d1, d2, d3, d4]
    clear hq1 hq2 d1 d2 d3 d4
    go_enter Try.func40, Try.ntmps40
    go_wp2_with fail
    rw [← hW0]
    clear hW0
    refine (K1.out _).mono ?_
    rintro e w1 ⟨rfl, hb⟩
    have R1 := Lib.hid (R0.out.below hb)
    clear hb
    obtain ⟨_, r0, r1, _⟩ := R1.out
    obtain ⟨g0, g1⟩ := cells2 r0
    obtain ⟨c0, c1, c2, f0, f1, f2⟩ := cells3 r1
    clear r0 r1
    go_wp2_with fail
    have HBF : (((w1.setCell ⟨w.heap.size + 1, 0, none⟩ (.int .i64 0)).setCell ⟨w.heap.size + 1, 1, none⟩ (.int .i64 0)).setCell ⟨w.heap.size + 1, 2, none⟩ (.slice none 0 0)).heap[w.heap.size + 1]? = some (.cells #[.int .i64 0, .int .i64 0, .slice none 0 0] 34 (0, 0)) := by
      rw [Fo.block_setCell (Fo.block_setCell (Fo.block_setCell R1.out.2.2.1 _) _) _]; rfl
    obtain ⟨p0, p1, p2, _⟩ := cells3 HBF
    refine bodyPost_ret (v := .tuple #[.agg #[.int .i64 0, .int .i64 0, .slice none 0 0], .int .i64 1]) (by simp [results, Try.results40, go_sem, p0, p1, p2]) rfl ?_
    refine ⟨_, _, rfl, ?_, Below.setCell (p := ⟨w.heap.size + 1, 2, none⟩) (Below.setCell (p := ⟨w.heap.size + 1, 1, none⟩) (Below.setCell (p := ⟨w.heap.size + 1, 0, none⟩) R1.out.1 (show w.heap.size ≤ w.heap.size + 1 by omega) _) (show w.heap.size ≤ w.heap.size + 1 by omega) _) (show w.heap.size ≤ w.heap.size + 1 by omega) _⟩
    exact Fo.XIn.nil (by simp; have := R1.out.1.size; omega) _
  have hsg := sigOk_of hq1.symm
  have HE2 : Hid (risesB t xs = false → cnK t a xs = 0 ∧ cnN t a xs = 0 ∧ cnF t a xs = .nil ∧ cnC t a xs = 2) := fun h => cn_2 hq1.symm h
  have HE0 : Hid (risesB t xs = true → cnK t a xs = (sumN t xs).kd ∧ cnN t a xs = (sumN t xs).nm ∧ cnF t a xs = (sumN t xs).ks ∧ cnC t a xs = 0) := fun h => cn_0 hq1.symm h
  have KA : Hid (∀ W : World, Calls Try.prog 58 #[.agg #[.int .i64 t, .int .i64 a]] W fun e w' => e = .returned (.int .i64 (atomsN t)) ∧ Below W.heap.size W w') := fun W => atomCount_any t a W hsg.1 hsg.2.1
  have KBB : Hid (∀ (x : Int) (W : World), Calls Try.prog 57 #[.int .i64 x, .int .i64 (atomsN t)] W fun e w' => e = .returned (.bool (belowB x (atomsN t))) ∧ Below W.heap.size W w') := fun x W => (below_any x (atomsN t) W).mono fun e w' h => ⟨h.1, by rw [← h.2]; exact Below.refl _ _⟩
  have KO : Hid (risesB t xs = true → ∀ W : World, Sees w W → Calls Try.prog 88 #[.agg #[.int .i64 t, .int .i64 a], .slice A xs.length C] W (ExEnd (sumN t xs).kd (sumN t xs).nm (sumN t xs).ks W)) := fun hr W h => conditionOf_any t a hsg.1 hsg.2.1 xs hr A C W (hl.sees h)
  obtain ⟨na, hna⟩ : ∃ n : Int, Hid (n = atomsN t) := ⟨_, rfl⟩
  rw [← hna.out] at KA KBB
  have HL := Lib.hid hl; have HM := Lib.hid hm
  have hA0 : Hid ((List.range 0).all (riseAt t xs) = true) := rfl
  clear hq1 hq2 hsg hl
  go_enter Try.func40, Try.ntmps40
  go_wp2_with fail
  rw [← hW0]
  clear hW0
  refine (K1.out _).mono ?_
  rintro e w1 ⟨rfl, hb⟩
  have R1 := Lib.hid (R0.out.below hb)
  clear hb
  obtain ⟨_, r0, r1, _⟩ := R1.out
  obtain ⟨g0, g1⟩ := cells2 r0
  clear r0 r1
  go_wp2_with fail
  clear g0 g1 K1
  go_loopw [14] (fun i wr => ∃ j : Nat, j ≤ xs.length ∧ i = .int .i64 j ∧ Hid ((List.range j).all (riseAt t xs) = true) ∧ Hid (Bk w t a wr)) (fun i _ => xs.length - (intOf i).toNat)
  case atStart => exact ⟨0, Nat.zero_le _, rfl, hA0, R1⟩
  case round =>
    obtain ⟨j, hj, rfl, hA, hR⟩ := hrel
    clear hA0 R1 R0
    by_cases hjl : j < xs.length
    · obtain ⟨b, o, rfl, hat⟩ := HL.out (by rintro rfl; simp at hjl)
      have HCJ := Lib.hid (hat j hjl)
      have KB := Lib.hid (KBB.out (nth xs j))
      rw [hna.out] at KB
      obtain ⟨p, hp⟩ : ∃ p : Bool, p = belowB (nth xs j) (atomsN t) := ⟨_, rfl⟩
      rw [← hp, ← hna.out] at KB
      have hjm := Lib.hid hjl
      have j0 : (0 : Int) ≤ (j : Int) := Int.natCast_nonneg _
      have j1 : (j : Int) < (xs.length : Int) := by omega
      clear KO HE0
      clear hjl
      rcases j with _ | j
      · clear hat
        rw [Nat.add_zero] at HCJ
        cases p
        · have HF := Lib.hid (rises_no hjm.out (show riseAt t xs 0 = false by unfold riseAt; rw [← hp]; rfl))
          obtain ⟨e1, e2, e3, e4⟩ := HE2.out HF.out
          clear HF
          rw [e1, e2, e3, e4]
          clear e1 e2 e3 e4
          clear hp
          obtain ⟨hS, r0, r1, _⟩ := hR.out
          obtain ⟨g0, g1⟩ := cells2 r0
          obtain ⟨d0, d1, d2, f0, f1, f2⟩ := cells3 r1
          have cj := kc hS HCJ.out
          clear hS r0 r1
          go_wp2_with fail
          refine (KA.out _).mono ?_
          rintro e w2 ⟨rfl, hb⟩
          have R2 := Lib.hid (hR.out.below hb)
          clear hb g0 g1 d0 d1 d2 f0 f1 f2 cj
          obtain ⟨hS, r0, r1, _⟩ := R2.out
          obtain ⟨g0, g1⟩ := cells2 r0
          obtain ⟨d0, d1, d2, f0, f1, f2⟩ := cells3 r1
          have cj := kc hS HCJ.out
          clear hS r0 r1
          go_wp2_with fail
          refine (KB.out _).mono ?_
          rintro e w3 ⟨rfl, hb⟩
          have R3 := Lib.hid (R2.out.below hb)
          clear hb g0 g1 d0 d1 d2 f0 f1 f2 cj
          obtain ⟨hS, r0, r1, _⟩ := R3.out
          obtain ⟨g0, g1⟩ := cells2 r0
          obtain ⟨d0, d1, d2, f0, f1, f2⟩ := cells3 r1
          have cj := kc hS HCJ.out
          clear hS r0 r1
          go_wp2_with fail
          have HBF : (((w3.setCell ⟨w.heap.size + 1, 0, none⟩ (.int .i64 0)).setCell ⟨w.heap.size + 1, 1, none⟩ (.int .i64 0)).setCell ⟨w.heap.size + 1, 2, none⟩ (.slice none 0 0)).heap[w.heap.size + 1]? = some (.cells #[.int .i64 0, .int .i64 0, .slice none 0 0] 34 (0, 0)) := by
            rw [Fo.block_setCell (Fo.block_setCell (Fo.block_setCell R3.out.2.2.1 _) _) _]; rfl
          obtain ⟨p0, p1, p2, _⟩ := cells3 HBF
          refine bodyPost_ret (v := .tuple #[.agg #[.int .i64 0, .int .i64 0, .slice none 0 0], .int .i64 2]) (by simp [results, Try.results40, go_sem, p0, p1, p2]) rfl ?_
          refine ⟨_, _, rfl, ?_, Below.setCell (p := ⟨w.heap.size + 1, 2, none⟩) (Below.setCell (p := ⟨w.heap.size + 1, 1, none⟩) (Below.setCell (p := ⟨w.heap.size + 1, 0, none⟩) R3.out.1 (show w.heap.size ≤ w.heap.size + 1 by omega) _) (show w.heap.size ≤ w.heap.size + 1 by omega) _) (show w.heap.size ≤ w.heap.size + 1 by omega) _⟩
          exact Fo.XIn.nil (by simp; have := R3.out.1.size; omega) _
        · have HE := Lib.hid (rises_step hA.out (show riseAt t xs 0 = true by unfold riseAt; rw [← hp]; rfl))
          clear hp
          obtain ⟨hS, r0, r1, _⟩ := hR.out
          obtain ⟨g0, g1⟩ := cells2 r0
          obtain ⟨d0, d1, d2, f0, f1, f2⟩ := cells3 r1
          have cj := kc hS HCJ.out
          clear hS r0 r1
          go_wp2_with fail
          refine (KA.out _).mono ?_
          rintro e w2 ⟨rfl, hb⟩
          have R2 := Lib.hid (hR.out.below hb)
          clear hb g0 g1 d0 d1 d2 f0 f1 f2 cj
          obtain ⟨hS, r0, r1, _⟩ := R2.out
          obtain ⟨g0, g1⟩ := cells2 r0
          obtain ⟨d0, d1, d2, f0, f1, f2⟩ := cells3 r1
          have cj := kc hS HCJ.out
          clear hS r0 r1
          go_wp2_with fail
          refine (KB.out _).mono ?_
          rintro e w3 ⟨rfl, hb⟩
          have R3 := Lib.hid (R2.out.below hb)
          clear hb g0 g1 d0 d1 d2 f0 f1 f2 cj
          obtain ⟨hS, r0, r1, _⟩ := R3.out
          obtain ⟨g0, g1⟩ := cells2 r0
          obtain ⟨d0, d1, d2, f0, f1, f2⟩ := cells3 r1
          have cj := kc hS HCJ.out
          clear hS r0 r1
          go_wp2_with fail
          go_roundw
          case rel => exact ⟨0 + 1, by have := hjm.out; omega, by go_num, HE, R3⟩
          case measure => (have := hjm.out; simp [intOf]; try omega)
      · have HCI := Lib.hid (hat j (by have := hjm.out; omega))
        have gp : decide ((0 : Int) < (j : Int) + 1) = true := decide_eq_true (by omega)
        have sb : IntKind.i64.wrap ((j : Int) + 1 - 1) = (j : Int) := by rw [Int.add_sub_cancel]; exact IntWalk.i64_in _ (by have := hjm.out; have := HM.out; omega)
        have sb2 : IntKind.i64.wrap (j : Int) = (j : Int) := IntWalk.i64_in _ (by have := hjm.out; have := HM.out; omega)
        have j2 : (0 : Int) ≤ (j : Int) + 1 := by omega
        have j3 : (j : Int) + 1 < (xs.length : Int) := by have := hjm.out; omega
        have j4 : (0 : Int) ≤ (j : Int) := by omega
        have j5 : (j : Int) < (xs.length : Int) := by have := hjm.out; omega
        clear hat
        cases p
        · have HF := Lib.hid (rises_no hjm.out (show riseAt t xs (j + 1) = false by unfold riseAt; rw [← hp]; rfl))
          obtain ⟨e1, e2, e3, e4⟩ := HE2.out HF.out
          clear HF
          rw [e1, e2, e3, e4]
          clear e1 e2 e3 e4
          clear hp
          obtain ⟨hS, r0, r1, _⟩ := hR.out
          obtain ⟨g0, g1⟩ := cells2 r0
          obtain ⟨d0, d1, d2, f0, f1, f2⟩ := cells3 r1
          have cj := kc hS HCJ.out
          have ci := kc hS HCI.out
          clear hS r0 r1
          go_wp2_with fail
          refine (KA.out _).mono ?_
          rintro e w2 ⟨rfl, hb⟩
          have R2 := Lib.hid (hR.out.below hb)
          clear hb g0 g1 d0 d1 d2 f0 f1 f2 cj ci
          obtain ⟨hS, r0, r1, _⟩ := R2.out
          obtain ⟨g0, g1⟩ := cells2 r0
          obtain ⟨d0, d1, d2, f0, f1, f2⟩ := cells3 r1
          have cj := kc hS HCJ.out
          have ci := kc hS HCI.out
          clear hS r0 r1
          go_wp2_with fail
          refine (KB.out _).mono ?_
          rintro e w3 ⟨rfl, hb⟩
          have R3 := Lib.hid (R2.out.below hb)
          clear hb g0 g1 d0 d1 d2 f0 f1 f2 cj ci
          obtain ⟨hS, r0, r1, _⟩ := R3.out
          obtain ⟨g0, g1⟩ := cells2 r0
          obtain ⟨d0, d1, d2, f0, f1, f2⟩ := cells3 r1
          have cj := kc hS HCJ.out
          have ci := kc hS HCI.out
          clear hS r0 r1
          go_wp2_with fail
          have HBF : (((w3.setCell ⟨w.heap.size + 1, 0, none⟩ (.int .i64 0)).setCell ⟨w.heap.size + 1, 1, none⟩ (.int .i64 0)).setCell ⟨w.heap.size + 1, 2, none⟩ (.slice none 0 0)).heap[w.heap.size + 1]? = some (.cells #[.int .i64 0, .int .i64 0, .slice none 0 0] 34 (0, 0)) := by
            rw [Fo.block_setCell (Fo.block_setCell (Fo.block_setCell R3.out.2.2.1 _) _) _]; rfl
          obtain ⟨p0, p1, p2, _⟩ := cells3 HBF
          refine bodyPost_ret (v := .tuple #[.agg #[.int .i64 0, .int .i64 0, .slice none 0 0], .int .i64 2]) (by simp [results, Try.results40, go_sem, p0, p1, p2]) rfl ?_
          refine ⟨_, _, rfl, ?_, Below.setCell (p := ⟨w.heap.size + 1, 2, none⟩) (Below.setCell (p := ⟨w.heap.size + 1, 1, none⟩) (Below.setCell (p := ⟨w.heap.size + 1, 0, none⟩) R3.out.1 (show w.heap.size ≤ w.heap.size + 1 by omega) _) (show w.heap.size ≤ w.heap.size + 1 by omega) _) (show w.heap.size ≤ w.heap.size + 1 by omega) _⟩
          exact Fo.XIn.nil (by simp; have := R3.out.1.size; omega) _
        · by_cases hle : nth xs (j + 1) ≤ nth xs j
          · have tle : decide (nth xs (j + 1) ≤ nth xs j) = true := decide_eq_true hle
            have HF := Lib.hid (rises_no hjm.out (show riseAt t xs (j + 1) = false by unfold riseAt; rw [← hp, decide_eq_false (show ¬ (j + 1 = 0) by omega), Nat.add_sub_cancel, decide_eq_false (show ¬ (nth xs j < nth xs (j + 1)) by omega)]; rfl))
            obtain ⟨e1, e2, e3, e4⟩ := HE2.out HF.out
            clear HF
            rw [e1, e2, e3, e4]
            clear e1 e2 e3 e4
            clear hp hle
            obtain ⟨hS, r0, r1, _⟩ := hR.out
            obtain ⟨g0, g1⟩ := cells2 r0
            obtain ⟨d0, d1, d2, f0, f1, f2⟩ := cells3 r1
            have cj := kc hS HCJ.out
            have ci := kc hS HCI.out
            clear hS r0 r1
            go_wp2_with fail
            refine (KA.out _).mono ?_
            rintro e w2 ⟨rfl, hb⟩
            have R2 := Lib.hid (hR.out.below hb)
            clear hb g0 g1 d0 d1 d2 f0 f1 f2 cj ci
            obtain ⟨hS, r0, r1, _⟩ := R2.out
            obtain ⟨g0, g1⟩ := cells2 r0
            obtain ⟨d0, d1, d2, f0, f1, f2⟩ := cells3 r1
            have cj := kc hS HCJ.out
            have ci := kc hS HCI.out
            clear hS r0 r1
            go_wp2_with fail
            refine (KB.out _).mono ?_
            rintro e w3 ⟨rfl, hb⟩
            have R3 := Lib.hid (R2.out.below hb)
            clear hb g0 g1 d0 d1 d2 f0 f1 f2 cj ci
            obtain ⟨hS, r0, r1, _⟩ := R3.out
            obtain ⟨g0, g1⟩ := cells2 r0
            obtain ⟨d0, d1, d2, f0, f1, f2⟩ := cells3 r1
            have cj := kc hS HCJ.out
            have ci := kc hS HCI.out
            clear hS r0 r1
            go_wp2_with fail
            have HBF : (((w3.setCell ⟨w.heap.size + 1, 0, none⟩ (.int .i64 0)).setCell ⟨w.heap.size + 1, 1, none⟩ (.int .i64 0)).setCell ⟨w.heap.size + 1, 2, none⟩ (.slice none 0 0)).heap[w.heap.size + 1]? = some (.cells #[.int .i64 0, .int .i64 0, .slice none 0 0] 34 (0, 0)) := by
              rw [Fo.block_setCell (Fo.block_setCell (Fo.block_setCell R3.out.2.2.1 _) _) _]; rfl
            obtain ⟨p0, p1, p2, _⟩ := cells3 HBF
            refine bodyPost_ret (v := .tuple #[.agg #[.int .i64 0, .int .i64 0, .slice none 0 0], .int .i64 2]) (by simp [results, Try.results40, go_sem, p0, p1, p2]) rfl ?_
            refine ⟨_, _, rfl, ?_, Below.setCell (p := ⟨w.heap.size + 1, 2, none⟩) (Below.setCell (p := ⟨w.heap.size + 1, 1, none⟩) (Below.setCell (p := ⟨w.heap.size + 1, 0, none⟩) R3.out.1 (show w.heap.size ≤ w.heap.size + 1 by omega) _) (show w.heap.size ≤ w.heap.size + 1 by omega) _) (show w.heap.size ≤ w.heap.size + 1 by omega) _⟩
            exact Fo.XIn.nil (by simp; have := R3.out.1.size; omega) _
          · have tle : decide (nth xs (j + 1) ≤ nth xs j) = false := decide_eq_false hle
            have HE := Lib.hid (rises_step hA.out (show riseAt t xs (j + 1) = true by unfold riseAt; rw [← hp, decide_eq_false (show ¬ (j + 1 = 0) by omega), Nat.add_sub_cancel, decide_eq_true (show nth xs j < nth xs (j + 1) by omega)]; rfl))
            clear hp hle
            obtain ⟨hS, r0, r1, _⟩ := hR.out
            obtain ⟨g0, g1⟩ := cells2 r0
            obtain ⟨d0, d1, d2, f0, f1, f2⟩ := cells3 r1
            have cj := kc hS HCJ.out
            have ci := kc hS HCI.out
            clear hS r0 r1
            go_wp2_with fail
            refine (KA.out _).mono ?_
            rintro e w2 ⟨rfl, hb⟩
            have R2 := Lib.hid (hR.out.below hb)
            clear hb g0 g1 d0 d1 d2 f0 f1 f2 cj ci
            obtain ⟨hS, r0, r1, _⟩ := R2.out
            obtain ⟨g0, g1⟩ := cells2 r0
            obtain ⟨d0, d1, d2, f0, f1, f2⟩ := cells3 r1
            have cj := kc hS HCJ.out
            have ci := kc hS HCI.out
            clear hS r0 r1
            go_wp2_with fail
            refine (KB.out _).mono ?_
            rintro e w3 ⟨rfl, hb⟩
            have R3 := Lib.hid (R2.out.below hb)
            clear hb g0 g1 d0 d1 d2 f0 f1 f2 cj ci
            obtain ⟨hS, r0, r1, _⟩ := R3.out
            obtain ⟨g0, g1⟩ := cells2 r0
            obtain ⟨d0, d1, d2, f0, f1, f2⟩ := cells3 r1
            have cj := kc hS HCJ.out
            have ci := kc hS HCI.out
            clear hS r0 r1
            go_wp2_with fail
            go_roundw
            case rel => exact ⟨(j + 1) + 1, by have := hjm.out; omega, by go_num, HE, R3⟩
            case measure => (have := hjm.out; simp [intOf]; try omega)
    · obtain rfl : j = xs.length := by omega
      have hr : risesB t xs = true := hA.out
      have HE := Lib.hid (HE0.out hr)
      have KO2 := Lib.hid (KO.out hr)
      obtain ⟨hS, r0, r1, _⟩ := hR.out
      obtain ⟨g0, g1⟩ := cells2 r0
      clear hjl hr r0 r1 hA KO HE0 HE2
      go_wp2_with fail
      refine (KO2.out _ hS).mono ?_
      rintro e w2 ⟨Z, rfl, hX, hb⟩
      have HX := Lib.hid (hX.mono (lo' := w.heap.size + 1 + 1) hR.out.2.2.2 (Nat.le_refl _))
      have R2 := Lib.hid (hR.out.below hb)
      clear hX hb hS g0 g1
      obtain ⟨_, _, r1, _⟩ := R2.out
      obtain ⟨c0, c1, c2, f0, f1, f2⟩ := cells3 r1
      clear r1
      go_wp2_with fail
      have HBF : (((w2.setCell ⟨w.heap.size + 1, 0, none⟩ (.int .i64 (sumN t xs).kd)).setCell ⟨w.heap.size + 1, 1, none⟩ (.int .i64 (sumN t xs).nm)).setCell ⟨w.heap.size + 1, 2, none⟩ (.slice Z (sumN t xs).ks.len (sumN t xs).ks.len)).heap[w.heap.size + 1]? = some (.cells #[.int .i64 (sumN t xs).kd, .int .i64 (sumN t xs).nm, .slice Z (sumN t xs).ks.len (sumN t xs).ks.len] 34 (0, 0)) := by
        rw [Fo.block_setCell (Fo.block_setCell (Fo.block_setCell R2.out.2.2.1 _) _) _]; rfl
      obtain ⟨p0, p1, p2, _⟩ := cells3 HBF
      refine bodyPost_ret (v := .tuple #[.agg #[.int .i64 (sumN t xs).kd, .int .i64 (sumN t xs).nm, .slice Z (sumN t xs).ks.len (sumN t xs).ks.len], .int .i64 0]) (by simp [results, Try.results40, go_sem, p0, p1, p2]) rfl ?_
      obtain ⟨e1, e2, e3, e4⟩ := HE.out
      rw [e1, e2, e3, e4]
      refine ⟨_, _, rfl, ?_, Below.setCell (p := ⟨w.heap.size + 1, 2, none⟩) (Below.setCell (p := ⟨w.heap.size + 1, 1, none⟩) (Below.setCell (p := ⟨w.heap.size + 1, 0, none⟩) R2.out.1 (show w.heap.size ≤ w.heap.size + 1 by omega) _) (show w.heap.size ≤ w.heap.size + 1 by omega) _) (show w.heap.size ≤ w.heap.size + 1 by omega) _⟩
      exact (HX.out.agree (Fo.Agree.setCell (Fo.Agree.setCell (Fo.Agree.setCell (Fo.Agree.refl _ _ _) ⟨w.heap.size + 1, 0, none⟩ (Or.inl (Nat.lt_succ_self _)) _) ⟨w.heap.size + 1, 1, none⟩ (Or.inl (Nat.lt_succ_self _)) _) ⟨w.heap.size + 1, 2, none⟩ (Or.inl (Nat.lt_succ_self _)) _)).mono (by omega) (by simp)
end Go.Proofs.Ytpoikhilhgijoaa
