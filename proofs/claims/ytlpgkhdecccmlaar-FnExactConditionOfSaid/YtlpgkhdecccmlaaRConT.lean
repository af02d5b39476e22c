/- Contract of spec.ConditionOf. -/
import Derived.Test.YtlpgkhdecccmlaaRConO
namespace Go.Proofs.YtlpgkhdecccmlaaR
open Go.RowKit

/-- A box of a signature, and behind it a box of an expression with nothing in it. -/
def Bk (w : World) (t a : Int) (W : World) : Prop := Sees w W ∧ W.heap[w.heap.size]? = some (.cells #[.int .i64 t, .int .i64 a] 31 (0, 0)) ∧ W.heap[w.heap.size + 1]? = some (.cells #[.int .i64 0, .int .i64 0, .slice none 0 0] 35 (0, 0)) ∧ w.heap.size + 1 < W.heap.size
theorem Bk.below {w W W' : World} {t a : Int} (h : Bk w t a W) (hb : Below W.heap.size W W') : Bk w t a W' := by
  obtain ⟨h1, h2, h3, h4⟩ := h
  have := hb.size
  exact ⟨Sees.below h1 hb, (hb.block _ (by omega)).trans h2, (hb.block _ h4).trans h3, by omega⟩
theorem Bk.start (w : World) (t a : Int) : Bk w t a ((w.alloc (.cells #[.int .i64 t, .int .i64 a] 31)).alloc (.cells #[.int .i64 0, .int .i64 0, .slice none 0 0] 35)) :=
  ⟨((Sees.refl w).alloc _).alloc _, (Below.heap_alloc _ _ _ (by simp)).trans (heap_new _ _ _ (by simp)), heap_new _ _ _ (by simp), by simp⟩

set_option maxRecDepth 100000 in
set_option maxHeartbeats 4000000 in
theorem specConditionOf_any (t a : Int) (xs : List Int) (hm : xs.length ≤ 1048576) (A : Option Addr) (C : Nat) (w : World) (hl : Ints w xs A) :
    Calls Try.prog 22 #[.agg #[.int .i64 t, .int .i64 a], .slice A xs.length C] w (LEnd (cnK t a xs) (cnN t a xs) (cnF t a xs) (cnC t a xs) w) := by
  obtain ⟨q1, hq1⟩ : ∃ q : Bool, q = sigOk t a := ⟨_, rfl⟩
  obtain ⟨q2, hq2⟩ : ∃ q : Bool, q = risesB t xs := ⟨_, rfl⟩
  have K1 : Hid (∀ W : World, Calls Try.prog 70 #[.agg #[.int .i64 t, .int .i64 a]] W fun e w' => e = .returned (.bool q1) ∧ Below W.heap.size W w') := fun W => by rw [hq1]; exact l01Sig_any t a W
  obtain ⟨W0, hW0⟩ : ∃ W0, W0 = (w.alloc (.cells #[.int .i64 t, .int .i64 a] 31)).alloc (.cells #[.int .i64 0, .int .i64 0, .slice none 0 0] 35) := ⟨_, rfl⟩
  have R0 : Hid (Bk w t a W0) := by show Bk _ _ _ _; rw [hW0]; exact Bk.start w t a
  cases q1
  · obtain ⟨d1, d2, d3, d4⟩ := cn_1 (xs := xs) hq1.symm
    rw [d1, d2, d3, d4]
    clear hq1 hq2 d1 d2 d3 d4
    go_enter Try.func22, Try.ntmps22
    go_wp2_with fail
    rw [← hW0]
    clear hW0
    refine (K1.out _).mono ?_
    rintro e w1 ⟨rfl, hb⟩
    have R1 := Lib.hid (R0.out.below hb)
    clear hb
    obtain ⟨_, r0, r1, _⟩ := R1.out
    obtain ⟨g0, g1⟩ := cells2 r0
    obtain ⟨c0, c1, c2, f0, f1, f2⟩ := cells3 r1
    clear r0 r1
    go_wp2_with fail
    have HBF : (((w1.setCell ⟨w.heap.size + 1, 0, none⟩ (.int .i64 0)).setCell ⟨w.heap.size + 1, 1, none⟩ (.int .i64 0)).setCell ⟨w.heap.size + 1, 2, none⟩ (.slice none 0 0)).heap[w.heap.size + 1]? = some (.cells #[.int .i64 0, .int .i64 0, .slice none 0 0] 35 (0, 0)) := by
      rw [Fo.block_setCell (Fo.block_setCell (Fo.block_setCell R1.out.2.2.1 _) _) _]; rfl
    obtain ⟨p0, p1, p2, _⟩ := cells3 HBF
    refine bodyPost_ret (v := .tuple #[.agg #[.int .i64 0, .int .i64 0, .slice none 0 0], .int .i64 1]) (by simp [results, Try.results22, go_sem, p0, p1, p2]) rfl ?_
    refine ⟨_, _, rfl, ?_, Below.setCell (p := ⟨w.heap.size + 1, 2, none⟩) (Below.setCell (p := ⟨w.heap.size + 1, 1, none⟩) (Below.setCell (p := ⟨w.heap.size + 1, 0, none⟩) R1.out.1 (show w.heap.size ≤ w.heap.size + 1 by omega) _) (show w.heap.size ≤ w.heap.size + 1 by omega) _) (show w.heap.size ≤ w.heap.size + 1 by omega) _⟩
    exact Fo.LiesIn.nil _ _ _
  have hsg := sigOk_of hq1.symm
  have KN : Hid (∀ W : World, Calls Try.prog 72 #[.agg #[.int .i64 t, .int .i64 a]] W fun e w' => e = .returned (.int .i64 (atomsN t)) ∧ Below W.heap.size W w') := fun W => atoms_any t a W hsg.1 hsg.2.1
  have K2 : Hid (∀ W : World, Sees w W → Calls Try.prog 71 #[.slice A xs.length C, .int .i64 0, .int .i64 (atomsN t - 1)] W fun e w' => e = .returned (.bool q2) ∧ Below W.heap.size W w') := fun W h => by rw [hq2]; exact l00Rises_any t xs hm A C W (hl.sees h)
  have wn : IntKind.i64.wrap (atomsN t - 1) = atomsN t - 1 := IntWalk.i64_in _ (by have := atomsN_bd t; omega)
  obtain ⟨na, hna⟩ : ∃ n, n = atomsN t := ⟨_, rfl⟩
  rw [← hna] at KN K2 wn
  cases q2
  · obtain ⟨d1, d2, d3, d4⟩ := cn_2 hq1.symm hq2.symm
    rw [d1, d2, d3, d4]
    clear hq1 hq2 d1 d2 d3 d4 hna
    go_enter Try.func22, Try.ntmps22
    go_wp2_with fail
    rw [← hW0]
    clear hW0
    refine (K1.out _).mono ?_
    rintro e w1 ⟨rfl, hb⟩
    have R1 := Lib.hid (R0.out.below hb)
    clear hb
    obtain ⟨_, r0, r1, _⟩ := R1.out
    obtain ⟨g0, g1⟩ := cells2 r0
    obtain ⟨c0, c1, c2, f0, f1, f2⟩ := cells3 r1
    clear r0 r1
    go_wp2_with fail
    refine (KN.out _).mono ?_
    clear g0 g1 c0 c1 c2 f0 f1 f2
    rintro e w2 ⟨rfl, hb⟩
    have R2 := Lib.hid (R1.out.below hb)
    clear hb
    obtain ⟨_, r0, r1, _⟩ := R2.out
    obtain ⟨g0, g1⟩ := cells2 r0
    obtain ⟨c0, c1, c2, f0, f1, f2⟩ := cells3 r1
    clear r0 r1
    go_wp2_with fail
    refine (K2.out _ R2.out.1).mono ?_
    clear g0 g1 c0 c1 c2 f0 f1 f2
    rintro e w3 ⟨rfl, hb⟩
    have R3 := Lib.hid (R2.out.below hb)
    clear hb
    obtain ⟨_, r0, r1, _⟩ := R3.out
    obtain ⟨g0, g1⟩ := cells2 r0
    obtain ⟨c0, c1, c2, f0, f1, f2⟩ := cells3 r1
    clear r0 r1
    go_wp2_with fail
    have HBF : (((w3.setCell ⟨w.heap.size + 1, 0, none⟩ (.int .i64 0)).setCell ⟨w.heap.size + 1, 1, none⟩ (.int .i64 0)).setCell ⟨w.heap.size + 1, 2, none⟩ (.slice none 0 0)).heap[w.heap.size + 1]? = some (.cells #[.int .i64 0, .int .i64 0, .slice none 0 0] 35 (0, 0)) := by
      rw [Fo.block_setCell (Fo.block_setCell (Fo.block_setCell R3.out.2.2.1 _) _) _]; rfl
    obtain ⟨p0, p1, p2, _⟩ := cells3 HBF
    refine bodyPost_ret (v := .tuple #[.agg #[.int .i64 0, .int .i64 0, .slice none 0 0], .int .i64 2]) (by simp [results, Try.results22, go_sem, p0, p1, p2]) rfl ?_
    refine ⟨_, _, rfl, ?_, Below.setCell (p := ⟨w.heap.size + 1, 2, none⟩) (Below.setCell (p := ⟨w.heap.size + 1, 1, none⟩) (Below.setCell (p := ⟨w.heap.size + 1, 0, none⟩) R3.out.1 (show w.heap.size ≤ w.heap.size + 1 by omega) _) (show w.heap.size ≤ w.heap.size + 1 by omega) _) (show w.heap.size ≤ w.heap.size + 1 by omega) _⟩
    exact Fo.LiesIn.nil _ _ _
  · obtain ⟨d1, d2, d3, d4⟩ := cn_0 hq1.symm hq2.symm
    rw [d1, d2, d3, d4]
    have K3 : Hid (∀ W : World, Sees w W → Calls Try.prog 73 #[.agg #[.int .i64 t, .int .i64 a], .slice A xs.length C] W fun e w' => ∃ Z D, e = .returned (.agg #[.int .i64 (sumN t xs).kd, .int .i64 (sumN t xs).nm, .slice Z (sumN t xs).ks.len D]) ∧ (sumN t xs).ks.LiesIn w' W.heap.size w'.heap.size Z ∧ Below W.heap.size W w') := fun W h => l07Of_any t a hsg.1 hsg.2.1 xs hq2.symm A C W (hl.sees h)
    clear hq1 hq2 d1 d2 d3 d4 hna
    go_enter Try.func22, Try.ntmps22
    go_wp2_with fail
    rw [← hW0]
    clear hW0
    refine (K1.out _).mono ?_
    rintro e w1 ⟨rfl, hb⟩
    have R1 := Lib.hid (R0.out.below hb)
    clear hb
    obtain ⟨_, r0, r1, _⟩ := R1.out
    obtain ⟨g0, g1⟩ := cells2 r0
    obtain ⟨c0, c1, c2, f0, f1, f2⟩ := cells3 r1
    clear r0 r1
    go_wp2_with fail
    refine (KN.out _).mono ?_
    clear g0 g1 c0 c1 c2 f0 f1 f2
    rintro e w2 ⟨rfl, hb⟩
    have R2 := Lib.hid (R1.out.below hb)
    clear hb
    obtain ⟨_, r0, r1, _⟩ := R2.out
    obtain ⟨g0, g1⟩ := cells2 r0
    obtain ⟨c0, c1, c2, f0, f1, f2⟩ := cells3 r1
    clear r0 r1
    go_wp2_with fail
    refine (K2.out _ R2.out.1).mono ?_
    clear g0 g1 c0 c1 c2 f0 f1 f2
    rintro e w3 ⟨rfl, hb⟩
    have R3 := Lib.hid (R2.out.below hb)
    clear hb
    obtain ⟨_, r0, r1, _⟩ := R3.out
    obtain ⟨g0, g1⟩ := cells2 r0
    obtain ⟨c0, c1, c2, f0, f1, f2⟩ := cells3 r1
    clear r0 r1
    go_wp2_with fail
    refine (K3.out _ R3.out.1).mono ?_
    clear g0 g1 c0 c1 c2 f0 f1 f2
    rintro e w4 ⟨Z, D, rfl, hL, hb⟩
    have HL := Lib.hid hL
    have RLT : Hid (w.heap.size + 1 < w3.heap.size) := R3.out.2.2.2
    clear hL
    have R4 := Lib.hid (R3.out.below hb)
    clear hb
    obtain ⟨_, r0, r1, _⟩ := R4.out
    obtain ⟨g0, g1⟩ := cells2 r0
    obtain ⟨c0, c1, c2, f0, f1, f2⟩ := cells3 r1
    clear r0 r1
    go_wp2_with fail
    have HBF : (((w4.setCell ⟨w.heap.size + 1, 0, none⟩ (.int .i64 (sumN t xs).kd)).setCell ⟨w.heap.size + 1, 1, none⟩ (.int .i64 (sumN t xs).nm)).setCell ⟨w.heap.size + 1, 2, none⟩ (.slice Z (sumN t xs).ks.len D)).heap[w.heap.size + 1]? = some (.cells #[.int .i64 (sumN t xs).kd, .int .i64 (sumN t xs).nm, .slice Z (sumN t xs).ks.len D] 35 (0, 0)) := by
      rw [Fo.block_setCell (Fo.block_setCell (Fo.block_setCell R4.out.2.2.1 _) _) _]; rfl
    obtain ⟨p0, p1, p2, _⟩ := cells3 HBF
    refine bodyPost_ret (v := .tuple #[.agg #[.int .i64 (sumN t xs).kd, .int .i64 (sumN t xs).nm, .slice Z (sumN t xs).ks.len D], .int .i64 0]) (by simp [results, Try.results22, go_sem, p0, p1, p2]) rfl ?_
    refine ⟨_, _, rfl, ?_, Below.setCell (p := ⟨w.heap.size + 1, 2, none⟩) (Below.setCell (p := ⟨w.heap.size + 1, 1, none⟩) (Below.setCell (p := ⟨w.heap.size + 1, 0, none⟩) R4.out.1 (show w.heap.size ≤ w.heap.size + 1 by omega) _) (show w.heap.size ≤ w.heap.size + 1 by omega) _) (show w.heap.size ≤ w.heap.size + 1 by omega) _⟩
    exact (HL.out.agree (Fo.Agree.setCell (Fo.Agree.setCell (Fo.Agree.setCell (Fo.Agree.refl _ _ _) ⟨w.heap.size + 1, 0, none⟩ (Or.inl RLT.out) _) ⟨w.heap.size + 1, 1, none⟩ (Or.inl RLT.out) _) ⟨w.heap.size + 1, 2, none⟩ (Or.inl RLT.out) _)).mono (by have := RLT.out; omega) (by simp)
end Go.Proofs.YtlpgkhdecccmlaaR
