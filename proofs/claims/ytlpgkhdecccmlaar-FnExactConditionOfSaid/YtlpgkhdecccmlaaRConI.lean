/- Contract of impl.ConditionOf. -/
import Derived.Test.YtlpgkhdecccmlaaRConN
import Derived.Test.YtlpgkhdecccmlaaRValidI
import Derived.Test.YtlpgkhdecccmlaaRAsc
namespace Go.Proofs.YtlpgkhdecccmlaaR
open Go.RowKit

set_option maxRecDepth 100000 in
set_option maxHeartbeats 4000000 in
theorem implConditionOf_any (t a : Int) (xs : List Int) (hm : xs.length ≤ 1048576) (A : Option Addr) (C : Nat) (w : World) (hl : Ints w xs A) :
    Calls Try.prog 24 #[.agg #[.int .i64 t, .int .i64 a], .slice A xs.length C] w (XEnd (cnK t a xs) (cnN t a xs) (cnF t a xs) (cnC t a xs) w) := by
  obtain ⟨q1, hq1⟩ : ∃ q : Bool, q = sigOk t a := ⟨_, rfl⟩
  obtain ⟨q2, hq2⟩ : ∃ q : Bool, q = risesB t xs := ⟨_, rfl⟩
  have K1 : Hid (∀ W : World, Calls Try.prog 74 #[.agg #[.int .i64 t, .int .i64 a]] W fun e w' => e = .returned (.bool q1) ∧ Below W.heap.size W w') := fun W => by rw [hq1]; exact implValidSig_any t a W
  obtain ⟨W0, hW0⟩ : ∃ W0, W0 = (w.alloc (.cells #[.int .i64 t, .int .i64 a] 31)).alloc (.cells #[.int .i64 0, .int .i64 0, .slice none 0 0] 35) := ⟨_, rfl⟩
  have R0 : Hid (Bk w t a W0) := by show Bk _ _ _ _; rw [hW0]; exact Bk.start w t a
  cases q1
  · obtain ⟨d1, d2, d3, d4⟩ := cn_1 (xs := xs) hq1.symm
    rw [d1, d2, d3, d4]
    clear hq1 hq2 d1 d2 d3 d4
    go_enter Try.func24, Try.ntmps24
    go_wp2_with fail
    rw [← hW0]
    clear hW0
    refine (K1.out _).mono ?_
    rintro e w1 ⟨rfl, hb⟩
    have R1 := Lib.hid (R0.out.below hb)
    clear hb
    obtain ⟨_, r0, r1, _⟩ := R1.out
    obtain ⟨g0, g1⟩ := cells2 r0
    obtain ⟨c0, c1, c2, f0, f1, f2⟩ := cells3 r1
    clear r0 r1
    go_wp2_with fail
    have HBF : (((w1.setCell ⟨w.heap.size + 1, 0, none⟩ (.int .i64 0)).setCell ⟨w.heap.size + 1, 1, none⟩ (.int .i64 0)).setCell ⟨w.heap.size + 1, 2, none⟩ (.slice none 0 0)).heap[w.heap.size + 1]? = some (.cells #[.int .i64 0, .int .i64 0, .slice none 0 0] 35 (0, 0)) := by
      rw [Fo.block_setCell (Fo.block_setCell (Fo.block_setCell R1.out.2.2.1 _) _) _]; rfl
    obtain ⟨p0, p1, p2, _⟩ := cells3 HBF
    refine bodyPost_ret (v := .tuple #[.agg #[.int .i64 0, .int .i64 0, .slice none 0 0], .int .i64 1]) (by simp [results, Try.results24, go_sem, p0, p1, p2]) rfl ?_
    refine ⟨_, _, rfl, ?_, Below.setCell (p := ⟨w.heap.size + 1, 2, none⟩) (Below.setCell (p := ⟨w.heap.size + 1, 1, none⟩) (Below.setCell (p := ⟨w.heap.size + 1, 0, none⟩) R1.out.1 (show w.heap.size ≤ w.heap.size + 1 by omega) _) (show w.heap.size ≤ w.heap.size + 1 by omega) _) (show w.heap.size ≤ w.heap.size + 1 by omega) _⟩
    exact Fo.XIn.nil (by simp; have := R1.out.1.size; omega) _
  have hsg := sigOk_of hq1.symm
  have HE2 : Hid (q2 = false → cnK t a xs = 0 ∧ cnN t a xs = 0 ∧ cnF t a xs = .nil ∧ cnC t a xs = 2) := fun h => cn_2 hq1.symm (by rw [← hq2]; exact h)
  have HE0 : Hid (q2 = true → cnK t a xs = (sumN t xs).kd ∧ cnN t a xs = (sumN t xs).nm ∧ cnF t a xs = (sumN t xs).ks ∧ cnC t a xs = 0) := fun h => cn_0 hq1.symm (by rw [← hq2]; exact h)
  have KA : Hid (∀ W : World, Calls Try.prog 76 #[.agg #[.int .i64 t, .int .i64 a]] W fun e w' => e = .returned (.int .i64 (atomsN t)) ∧ Below W.heap.size W w') := fun W => atomCount_any t a W hsg.1 hsg.2.1
  have KS : Hid (∀ W : World, Sees w W → Calls Try.prog 75 #[.slice A xs.length C, .int .i64 (atomsN t)] W fun e w' => e = .returned (.bool q2) ∧ Below W.heap.size W w') := fun W h => by rw [hq2]; exact isAscending_any (atomsN t) xs hm A C W (hl.sees h)
  have KO : Hid (q2 = true → ∀ W : World, Sees w W → Calls Try.prog 77 #[.agg #[.int .i64 t, .int .i64 a], .slice A xs.length C] W (ExEnd (sumN t xs).kd (sumN t xs).nm (sumN t xs).ks W)) := fun hr W h => conditionOf_any t a hsg.1 hsg.2.1 xs (by rw [← hq2]; exact hr) A C W (hl.sees h)
  obtain ⟨na, hna⟩ : ∃ n : Int, Hid (n = atomsN t) := ⟨_, rfl⟩
  rw [← hna.out] at KA KS
  clear hq1 hq2 hsg hl
  cases q2
  · obtain ⟨d1, d2, d3, d4⟩ := HE2.out rfl
    rw [d1, d2, d3, d4]
    clear d1 d2 d3 d4 HE0 KO
    go_enter Try.func24, Try.ntmps24
    go_wp2_with fail
    rw [← hW0]
    clear hW0
    refine (K1.out _).mono ?_
    rintro e w1 ⟨rfl, hb⟩
    have R1 := Lib.hid (R0.out.below hb)
    clear hb
    obtain ⟨_, r0, r1, _⟩ := R1.out
    obtain ⟨g0, g1⟩ := cells2 r0
    clear r0 r1
    go_wp2_with fail
    refine (KA.out _).mono ?_
    rintro e w2 ⟨rfl, hb⟩
    have R2 := Lib.hid (R1.out.below hb)
    clear hb g0 g1
    obtain ⟨hS, _, r1, _⟩ := R2.out
    have HS := Lib.hid hS
    clear hS r1
    go_wp2_with fail
    refine (KS.out _ HS.out).mono ?_
    rintro e w3 ⟨rfl, hb⟩
    have R3 := Lib.hid (R2.out.below hb)
    clear hb
    obtain ⟨_, r0, r1, _⟩ := R3.out
    obtain ⟨c0, c1, c2, f0, f1, f2⟩ := cells3 r1
    clear r0 r1
    go_wp2_with fail
    have HBF : (((w3.setCell ⟨w.heap.size + 1, 0, none⟩ (.int .i64 0)).setCell ⟨w.heap.size + 1, 1, none⟩ (.int .i64 0)).setCell ⟨w.heap.size + 1, 2, none⟩ (.slice none 0 0)).heap[w.heap.size + 1]? = some (.cells #[.int .i64 0, .int .i64 0, .slice none 0 0] 35 (0, 0)) := by
      rw [Fo.block_setCell (Fo.block_setCell (Fo.block_setCell R3.out.2.2.1 _) _) _]; rfl
    obtain ⟨p0, p1, p2, _⟩ := cells3 HBF
    refine bodyPost_ret (v := .tuple #[.agg #[.int .i64 0, .int .i64 0, .slice none 0 0], .int .i64 2]) (by simp [results, Try.results24, go_sem, p0, p1, p2]) rfl ?_
    refine ⟨_, _, rfl, ?_, Below.setCell (p := ⟨w.heap.size + 1, 2, none⟩) (Below.setCell (p := ⟨w.heap.size + 1, 1, none⟩) (Below.setCell (p := ⟨w.heap.size + 1, 0, none⟩) R3.out.1 (show w.heap.size ≤ w.heap.size + 1 by omega) _) (show w.heap.size ≤ w.heap.size + 1 by omega) _) (show w.heap.size ≤ w.heap.size + 1 by omega) _⟩
    exact Fo.XIn.nil (by simp; have := R3.out.1.size; omega) _
  · have HE := Lib.hid (HE0.out rfl)
    have KO2 := Lib.hid (KO.out rfl)
    clear HE0 HE2 KO
    go_enter Try.func24, Try.ntmps24
    go_wp2_with fail
    rw [← hW0]
    clear hW0
    refine (K1.out _).mono ?_
    rintro e w1 ⟨rfl, hb⟩
    have R1 := Lib.hid (R0.out.below hb)
    clear hb
    obtain ⟨_, r0, r1, _⟩ := R1.out
    obtain ⟨g0, g1⟩ := cells2 r0
    clear r0 r1
    go_wp2_with fail
    refine (KA.out _).mono ?_
    rintro e w2 ⟨rfl, hb⟩
    have R2 := Lib.hid (R1.out.below hb)
    clear hb g0 g1
    obtain ⟨hS, _, r1, _⟩ := R2.out
    have HS := Lib.hid hS
    clear hS r1
    go_wp2_with fail
    refine (KS.out _ HS.out).mono ?_
    rintro e w3 ⟨rfl, hb⟩
    have R3 := Lib.hid (R2.out.below hb)
    clear hb
    obtain ⟨hS, r0, r1, _⟩ := R3.out
    obtain ⟨g0, g1⟩ := cells2 r0
    clear r0 r1
    go_wp2_with fail
    refine (KO2.out _ hS).mono ?_
    rintro e w4 ⟨Z, rfl, hX, hb⟩
    have HX := Lib.hid (hX.mono (lo' := w.heap.size + 1 + 1) R3.out.2.2.2 (Nat.le_refl _))
    have R4 := Lib.hid (R3.out.below hb)
    clear hX hb hS g0 g1 HS
    obtain ⟨_, _, r1, _⟩ := R4.out
    obtain ⟨c0, c1, c2, f0, f1, f2⟩ := cells3 r1
    clear r1
    go_wp2_with fail
    have HBF : (((w4.setCell ⟨w.heap.size + 1, 0, none⟩ (.int .i64 (sumN t xs).kd)).setCell ⟨w.heap.size + 1, 1, none⟩ (.int .i64 (sumN t xs).nm)).setCell ⟨w.heap.size + 1, 2, none⟩ (.slice Z (sumN t xs).ks.len (sumN t xs).ks.len)).heap[w.heap.size + 1]? = some (.cells #[.int .i64 (sumN t xs).kd, .int .i64 (sumN t xs).nm, .slice Z (sumN t xs).ks.len (sumN t xs).ks.len] 35 (0, 0)) := by
      rw [Fo.block_setCell (Fo.block_setCell (Fo.block_setCell R4.out.2.2.1 _) _) _]; rfl
    obtain ⟨p0, p1, p2, _⟩ := cells3 HBF
    refine bodyPost_ret (v := .tuple #[.agg #[.int .i64 (sumN t xs).kd, .int .i64 (sumN t xs).nm, .slice Z (sumN t xs).ks.len (sumN t xs).ks.len], .int .i64 0]) (by simp [results, Try.results24, go_sem, p0, p1, p2]) rfl ?_
    obtain ⟨e1, e2, e3, e4⟩ := HE.out
    rw [e1, e2, e3, e4]
    refine ⟨_, _, rfl, ?_, Below.setCell (p := ⟨w.heap.size + 1, 2, none⟩) (Below.setCell (p := ⟨w.heap.size + 1, 1, none⟩) (Below.setCell (p := ⟨w.heap.size + 1, 0, none⟩) R4.out.1 (show w.heap.size ≤ w.heap.size + 1 by omega) _) (show w.heap.size ≤ w.heap.size + 1 by omega) _) (show w.heap.size ≤ w.heap.size + 1 by omega) _⟩
    exact (HX.out.agree (Fo.Agree.setCell (Fo.Agree.setCell (Fo.Agree.setCell (Fo.Agree.refl _ _ _) ⟨w.heap.size + 1, 0, none⟩ (Or.inl (Nat.lt_succ_self _)) _) ⟨w.heap.size + 1, 1, none⟩ (Or.inl (Nat.lt_succ_self _)) _) ⟨w.heap.size + 1, 2, none⟩ (Or.inl (Nat.lt_succ_self _)) _)).mono (by omega) (by simp)
end Go.Proofs.YtlpgkhdecccmlaaR
