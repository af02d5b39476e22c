/- FnExactTripleText: for all arguments impl.TripleText answers as the model does, and changes none of them. Condition: the table progForms holds what the program's text lays, which the card ties. -/
import Derived.Test.YtcgbepmhfimbjaaGreatDoorTqd
import Derived.Test.YtcgbepmhfimbjaaGreatDoorTqb
import Derived.Test.YtcgbepmhfimbjaaGreatDoorTqf
import Derived.Test.YtcgbepmhfimbjaaGreatDoorTqa
import Derived.Test.YtcgbepmhfimbjaaGreatDoorPg
import Derived.Test.YtcgbepmhfimbjaaGreatDoorRows
import Derived.Test.YtcgbepmhfimbjaaGreatDoorCards
import Derived.Test.YtcgbepmhfimbjaaGreatDoorTie
import Derived.Test.YtcgbepmhfimbjaaGreatDoorLTripleText
import Derived.Test.YtcgbepmhfimbjaaGreatDoorTqe
import Derived.LaidMore
import Derived.Stop.Joined
import Derived.SevenTiedAt
import Derived.MakeChecks
import Derived.Carry
namespace Go.Proofs.YtcgbepmhfimbjaaGreatDoor
open Go.RowKit
set_option linter.unusedVariables false

set_option maxHeartbeats 4000000 in
set_option maxRecDepth 100000 in
theorem implTripleText_any (t a pk pn : Int) (pf : Fo) (gk gn gck gcn : Int) (gcf : Fo) (gks : Pg) (qk qn : Int) (qf : Fo) (hsz : pf.nodes + gcf.nodes + gks.nodes + qf.nodes ≤ 1048576) (hpf : pf.Fits) (hgcf : gcf.Fits) (hgks : gks.Fits) (hqf : qf.Fits) (Ap Ac Ag Aq : Option Addr) (Cp Cc Cg Cq : Nat) (w : World) (hA : pf.Lies w Ap) (hB : gcf.Lies w Ac) (hC : gks.Lies w Ag) (hD : qf.Lies w Aq) (hF : Forms w) (hW : FWords w) :
    Calls Tryz.prog 9 #[.agg #[.int .i64 t, .int .i64 a], .agg #[.int .i64 pk, .int .i64 pn, .slice Ap pf.len Cp, .int .i64 gk, .int .i64 gn, .int .i64 gck, .int .i64 gcn, .slice Ac gcf.len Cc, .slice Ag gks.len Cg, .int .i64 qk, .int .i64 qn, .slice Aq qf.len Cq]] w fun e w' => e = .returned (.string ⟨(tripX t a pk pn pf gk gn gck gcn gcf gks qk qn qf).toArray⟩) ∧ Below w.heap.size w w' := by
  obtain ⟨q, hq⟩ : ∃ q : Bool, q = tripV t a pk pn pf gk gn gck gcn gcf gks qk qn qf := ⟨_, rfl⟩
  obtain ⟨w0, hw0⟩ : ∃ w0, w0 = (w.alloc (.cells #[.int .i64 t, .int .i64 a] 34)).alloc (.cells #[.int .i64 pk, .int .i64 pn, .slice Ap pf.len Cp, .int .i64 gk, .int .i64 gn, .int .i64 gck, .int .i64 gcn, .slice Ac gcf.len Cc, .slice Ag gks.len Cg, .int .i64 qk, .int .i64 qn, .slice Aq qf.len Cq] 43) := ⟨_, rfl⟩
  have B0 : Sees w w0 := by rw [hw0]; exact ((Sees.refl w).alloc _).alloc _
  have hg0 : w0.heap[w.heap.size]? = some (.cells #[.int .i64 t, .int .i64 a] 34 (0, 0)) := by rw [hw0]; exact (Below.heap_alloc _ _ _ (by simp)).trans (heap_new _ _ _ rfl)
  have ht0 : w0.heap[w.heap.size + 1]? = some (.cells #[.int .i64 pk, .int .i64 pn, .slice Ap pf.len Cp, .int .i64 gk, .int .i64 gn, .int .i64 gck, .int .i64 gcn, .slice Ac gcf.len Cc, .slice Ag gks.len Cg, .int .i64 qk, .int .i64 qn, .slice Aq qf.len Cq] 43 (0, 0)) := by rw [hw0]; exact heap_new _ _ _ (by simp)
  have HB0 := Lib.hid B0; have HG0 := Lib.hid hg0; have HT0 := Lib.hid ht0
  have KO : Hid (∀ W : World, Sees w W → Calls Tryz.prog 23 #[.agg #[.int .i64 t, .int .i64 a], .agg #[.int .i64 pk, .int .i64 pn, .slice Ap pf.len Cp, .int .i64 gk, .int .i64 gn, .int .i64 gck, .int .i64 gcn, .slice Ac gcf.len Cc, .slice Ag gks.len Cg, .int .i64 qk, .int .i64 qn, .slice Aq qf.len Cq]] W fun e w' => e = .returned (.bool q) ∧ Below W.heap.size W w') := fun W h => by
    rw [hq]
    exact implValidTriple_any t a pk pn pf gk gn gck gcn gcf gks qk qn qf hsz hpf hgcf hgks hqf Ap Ac Ag Aq Cp Cc Cg Cq W (hA.sees h) (hB.sees h) (hC.sees h) (hD.sees h) (hF.sees h)
  have HL0 : Hid (St w0 [(w.heap.size, 0, .int .i64 t), (w.heap.size, 1, .int .i64 a), (w.heap.size + 1, 0, .int .i64 pk), (w.heap.size + 1, 1, .int .i64 pn), (w.heap.size + 1, 2, .slice Ap pf.len Cp), (w.heap.size + 1, 3, .int .i64 gk), (w.heap.size + 1, 4, .int .i64 gn), (w.heap.size + 1, 5, .int .i64 gck), (w.heap.size + 1, 6, .int .i64 gcn), (w.heap.size + 1, 7, .slice Ac gcf.len Cc), (w.heap.size + 1, 8, .slice Ag gks.len Cg), (w.heap.size + 1, 9, .int .i64 qk), (w.heap.size + 1, 10, .int .i64 qn), (w.heap.size + 1, 11, .slice Aq qf.len Cq)] w0) := ⟨Sees.refl _, Fo.cell_of_block hg0 0, Fo.cell_of_block hg0 1, Fo.cell_of_block ht0 0, Fo.cell_of_block ht0 1, Fo.cell_of_block ht0 2, Fo.cell_of_block ht0 3, Fo.cell_of_block ht0 4, Fo.cell_of_block ht0 5, Fo.cell_of_block ht0 6, Fo.cell_of_block ht0 7, Fo.cell_of_block ht0 8, Fo.cell_of_block ht0 9, Fo.cell_of_block ht0 10, Fo.cell_of_block ht0 11, trivial⟩
  obtain ⟨_, g0, g1, m0, m1, m2, m3, m4, m5, m6, m7, m8, m9, m10, m11, _⟩ := HL0.out
  cases q
  · have HV : Hid (tripX t a pk pn pf gk gn gck gcn gcf gks qk qn qf = []) := by show _ = _; unfold tripX; rw [← hq]; rfl
    rw [HV.out]
    rw [hw0] at g0 g1 m0 m1 m2 m3 m4 m5 m6 m7 m8 m9 m10 m11
    have HW0 := Lib.hid hw0
    clear hq HV hA hB hC hD hpf hgcf hgks hqf B0 hg0 ht0 hF hW hw0
    go_enter Tryz.func9, Tryz.ntmps9
    go_wp2_with fail
    rw [← HW0.out]
    refine (KO.out _ HB0.out).mono ?_
    rintro e w1 ⟨rfl, hb⟩
    have HB1 := Lib.hid (HB0.out.below hb)
    clear hb g0 g1 m0 m1 m2 m3 m4 m5 m6 m7 m8 m9 m10 m11
    go_wp2_with fail
    go_ret
    exact ⟨rfl, HB1.out⟩
  · have hv := hq.symm
    have hvv := hv
    unfold tripV at hvv
    simp only [Bool.and_eq_true] at hvv
    have z1 : (ndE pf pk pn).tx.length ≤ 83886080 := by have := (condV_tx hvv.1).2; omega
    have z3 : (ndE qf qk qn).tx.length ≤ 83886080 := by have := (condV_tx hvv.2.1).2; omega
    have hvp := validP_parts hvv.2.2
    have z2 : (ptE gk gn gck gcn gcf gks).length ≤ 83886080 := by have := ptE_len t a hvp.2.1 (gcf.nodes + gks.nodes + 1) gcf gks (Nat.lt_succ_self _) gk gn gck gcn hvp.2.2; omega
    obtain ⟨l1, hl1⟩ : ∃ l, l = (ndE pf pk pn).tx := ⟨_, rfl⟩
    obtain ⟨s1, hs1⟩ : ∃ s : ByteArray, s = ⟨l1.toArray⟩ := ⟨_, rfl⟩
    have hb1 : l1.length ≤ 83886080 := by rw [hl1]; exact z1
    obtain ⟨l2, hl2⟩ : ∃ l, l = ptE gk gn gck gcn gcf gks := ⟨_, rfl⟩
    obtain ⟨s2, hs2⟩ : ∃ s : ByteArray, s = ⟨l2.toArray⟩ := ⟨_, rfl⟩
    have hb2 : l2.length ≤ 83886080 := by rw [hl2]; exact z2
    obtain ⟨l3, hl3⟩ : ∃ l, l = (ndE qf qk qn).tx := ⟨_, rfl⟩
    obtain ⟨s3, hs3⟩ : ∃ s : ByteArray, s = ⟨l3.toArray⟩ := ⟨_, rfl⟩
    have hb3 : l3.length ≤ 83886080 := by rw [hl3]; exact z3
    obtain ⟨u1, hu1⟩ : ∃ s : ByteArray, s = ⟨([91] ++ l1).toArray⟩ := ⟨_, rfl⟩
    have q1_ : ∀ W : World, (Op.stringOp .add ⟨#[91]⟩ s1).run Tryz.prog W = .ok (.string u1) W := fun W => by rw [hs1, hu1]; exact add_any ([91]) l1 (by simp only [List.length_cons, List.length_nil]; omega) W
    obtain ⟨u2, hu2⟩ : ∃ s : ByteArray, s = ⟨([91] ++ l1 ++ [93, 32]).toArray⟩ := ⟨_, rfl⟩
    have q2_ : ∀ W : World, (Op.stringOp .add u1 ⟨#[93, 32]⟩).run Tryz.prog W = .ok (.string u2) W := fun W => by rw [hu1, hu2]; exact add_any ([91] ++ l1) [93, 32] (by simp only [List.length_append, List.length_cons, List.length_nil]; omega) W
    obtain ⟨u3, hu3⟩ : ∃ s : ByteArray, s = ⟨([91] ++ l1 ++ [93, 32] ++ l2).toArray⟩ := ⟨_, rfl⟩
    have q3_ : ∀ W : World, (Op.stringOp .add u2 s2).run Tryz.prog W = .ok (.string u3) W := fun W => by rw [hu2, hs2, hu3]; exact add_any ([91] ++ l1 ++ [93, 32]) l2 (by simp only [List.length_append, List.length_cons, List.length_nil]; omega) W
    obtain ⟨u4, hu4⟩ : ∃ s : ByteArray, s = ⟨([91] ++ l1 ++ [93, 32] ++ l2 ++ [32, 91]).toArray⟩ := ⟨_, rfl⟩
    have q4_ : ∀ W : World, (Op.stringOp .add u3 ⟨#[32, 91]⟩).run Tryz.prog W = .ok (.string u4) W := fun W => by rw [hu3, hu4]; exact add_any ([91] ++ l1 ++ [93, 32] ++ l2) [32, 91] (by simp only [List.length_append, List.length_cons, List.length_nil]; omega) W
    obtain ⟨u5, hu5⟩ : ∃ s : ByteArray, s = ⟨([91] ++ l1 ++ [93, 32] ++ l2 ++ [32, 91] ++ l3).toArray⟩ := ⟨_, rfl⟩
    have q5_ : ∀ W : World, (Op.stringOp .add u4 s3).run Tryz.prog W = .ok (.string u5) W := fun W => by rw [hu4, hs3, hu5]; exact add_any ([91] ++ l1 ++ [93, 32] ++ l2 ++ [32, 91]) l3 (by simp only [List.length_append, List.length_cons, List.length_nil]; omega) W
    obtain ⟨u6, hu6⟩ : ∃ s : ByteArray, s = ⟨([91] ++ l1 ++ [93, 32] ++ l2 ++ [32, 91] ++ l3 ++ [93]).toArray⟩ := ⟨_, rfl⟩
    have q6_ : ∀ W : World, (Op.stringOp .add u5 ⟨#[93]⟩).run Tryz.prog W = .ok (.string u6) W := fun W => by rw [hu5, hu6]; exact add_any ([91] ++ l1 ++ [93, 32] ++ l2 ++ [32, 91] ++ l3) [93] (by simp only [List.length_append, List.length_cons, List.length_nil]; omega) W
    have HV : Hid (tripX t a pk pn pf gk gn gck gcn gcf gks qk qn qf = [91] ++ l1 ++ [93, 32] ++ l2 ++ [32, 91] ++ l3 ++ [93]) := by show _ = _; rw [hl1, hl2, hl3]; unfold tripX; rw [if_pos hv]
    have he1 : exT t a pk pn pf = (ndE pf pk pn).tx := by have h := hvv.1; unfold condV at h; rw [Bool.and_eq_true] at h; unfold exT; rw [if_pos h.1]
    have he3 : exT t a qk qn qf = (ndE qf qk qn).tx := by have h := hvv.2.1; unfold condV at h; rw [Bool.and_eq_true] at h; unfold exT; rw [if_pos h.1]
    have he2 : pgT t a gk gn gck gcn gcf gks = ptE gk gn gck gcn gcf gks := by unfold pgT; rw [if_pos hvv.2.2]
    have K1 : Hid (∀ W : World, Sees w W → Calls Tryz.prog 24 #[.agg #[.int .i64 t, .int .i64 a], .agg #[.int .i64 pk, .int .i64 pn, .slice Ap pf.len Cp]] W fun e w' => e = .returned (.string s1) ∧ Below W.heap.size W w') := fun W h => by
      rw [hs1, hl1, ← he1]
      exact implExprText_any t a pk pn pf hpf (by omega) Ap Cp W (hA.sees h)
    have K2 : Hid (∀ W : World, Sees w W → Calls Tryz.prog 25 #[.agg #[.int .i64 t, .int .i64 a], .agg #[.int .i64 gk, .int .i64 gn, .int .i64 gck, .int .i64 gcn, .slice Ac gcf.len Cc, .slice Ag gks.len Cg]] W fun e w' => e = .returned (.string s2) ∧ Below W.heap.size W w') := fun W h => by
      rw [hs2, hl2, ← he2]
      exact implProgText_any t a gk gn gck gcn gcf gks (by omega) hgcf hgks Ac Ag Cc Cg W (hB.sees h) (hC.sees h) (hF.sees h) (hW.sees h)
    have K3 : Hid (∀ W : World, Sees w W → Calls Tryz.prog 24 #[.agg #[.int .i64 t, .int .i64 a], .agg #[.int .i64 qk, .int .i64 qn, .slice Aq qf.len Cq]] W fun e w' => e = .returned (.string s3) ∧ Below W.heap.size W w') := fun W h => by
      rw [hs3, hl3, ← he3]
      exact implExprText_any t a qk qn qf hqf (by omega) Aq Cq W (hD.sees h)
    rw [HV.out, ← hu6]
    rw [hw0] at g0 g1 m0 m1 m2 m3 m4 m5 m6 m7 m8 m9 m10 m11
    have HW0 := Lib.hid hw0
    clear hq hv hvv hvp z1 z2 z3 HV hA hB hC hD hpf hgcf hgks hqf B0 hg0 ht0 hl1 hl2 hl3 hs1 hs2 hs3 hb1 hb2 hb3 hu1 hu2 hu3 hu4 hu5 hu6 hsz hF hW he1 he2 he3 hw0
    go_enter Tryz.func9, Tryz.ntmps9
    go_wp2_with fail
    rw [← HW0.out]
    refine (KO.out _ HB0.out).mono ?_
    rintro e w1 ⟨rfl, hb⟩
    have HL1 : Hid (St w0 [(w.heap.size, 0, .int .i64 t), (w.heap.size, 1, .int .i64 a), (w.heap.size + 1, 0, .int .i64 pk), (w.heap.size + 1, 1, .int .i64 pn), (w.heap.size + 1, 2, .slice Ap pf.len Cp), (w.heap.size + 1, 3, .int .i64 gk), (w.heap.size + 1, 4, .int .i64 gn), (w.heap.size + 1, 5, .int .i64 gck), (w.heap.size + 1, 6, .int .i64 gcn), (w.heap.size + 1, 7, .slice Ac gcf.len Cc), (w.heap.size + 1, 8, .slice Ag gks.len Cg), (w.heap.size + 1, 9, .int .i64 qk), (w.heap.size + 1, 10, .int .i64 qn), (w.heap.size + 1, 11, .slice Aq qf.len Cq)] w1) := HL0.out.below hb
    clear hb g0 g1 m0 m1 m2 m3 m4 m5 m6 m7 m8 m9 m10 m11
    obtain ⟨_, g0, g1, m0, m1, m2, m3, m4, m5, m6, m7, m8, m9, m10, m11, _⟩ := HL1.out
    go_wp2_with fail
    clear g0 g1 m0 m1 m2 m3 m4 m5 m6 m7 m8 m9 m10 m11
    refine wp_region_quietC w0 [(w.heap.size, 0, .int .i64 t), (w.heap.size, 1, .int .i64 a), (w.heap.size + 1, 0, .int .i64 pk), (w.heap.size + 1, 1, .int .i64 pn), (w.heap.size + 1, 2, .slice Ap pf.len Cp), (w.heap.size + 1, 3, .int .i64 gk), (w.heap.size + 1, 4, .int .i64 gn), (w.heap.size + 1, 5, .int .i64 gck), (w.heap.size + 1, 6, .int .i64 gcn), (w.heap.size + 1, 7, .slice Ac gcf.len Cc), (w.heap.size + 1, 8, .slice Ag gks.len Cg), (w.heap.size + 1, 9, .int .i64 qk), (w.heap.size + 1, 10, .int .i64 qn), (w.heap.size + 1, 11, .slice Aq qf.len Cq)] (by kernel_rfl) (by kernel_rfl) HL1.out ?_
    repeat (first | go_big_quiet_skip | (go_big_quiet_want; apply Exists.intro; refine ⟨fun W hW => ?_, ?_⟩; focus (have hK := Lib.hid hW; obtain ⟨hs, hc⟩ := hW; simp only [Has, and_true] at hc; go_simp; (first | (go_at_call 24; (first | ((with_reducible refine quietC_call hK.out (K1.out _ ?_)); exact HB0.out.below hK.out.1) | ((with_reducible refine quietC_call hK.out (K3.out _ ?_)); exact HB0.out.below hK.out.1))) | (go_at_call 25; ((with_reducible refine quietC_call hK.out (K2.out _ ?_)); exact HB0.out.below hK.out.1)) | rfl))) | (go_simp; go_big_quiet_on))
    refine wpQuiet_nil ?_
    intro w2 H1
    have HB2 := Lib.hid (HB0.out.below H1.1)
    clear H1
    go_wp2_with fail
    go_ret
    exact ⟨rfl, HB2.out⟩
end Go.Proofs.YtcgbepmhfimbjaaGreatDoor

namespace Go.Proofs.YtcgbepmhfimbjaaGreatDoor
open Go.RowKit Go.WideShapes Go.ChangeShapes Go.ChangeAt Go.Deep Go.WideElems

theorem array_six {α : Type} {cs : Array α} (h : cs.size = 6) : ∃ a b c d e f, cs = #[a, b, c, d, e, f] := by
  obtain ⟨l⟩ := cs
  match l, h with
  | [a, b, c, d, e, f], _ => exact ⟨a, b, c, d, e, f, rfl⟩
theorem Tryz.cellsPg : Tryz.prog.cellsOf 29 = 6 := by kernel_rfl

/-- A list of rows out of its rows, from the last one on. -/
theorem progs_of_rows {W : World} {b o len : Nat} {Z : Nat → Int × Int × Int × Int × Fo × Option Addr × Nat × Pg × Option Addr × Nat}
    (h : ∀ i, i < len → W.cell? ⟨b, o + i * 6, none⟩ = some (.int .i64 (Z i).1) ∧ W.cell? ⟨b, o + i * 6 + 1, none⟩ = some (.int .i64 (Z i).2.1) ∧ W.cell? ⟨b, o + i * 6 + 2, none⟩ = some (.int .i64 (Z i).2.2.1) ∧ W.cell? ⟨b, o + i * 6 + 3, none⟩ = some (.int .i64 (Z i).2.2.2.1) ∧
      (W.cell? ⟨b, o + i * 6 + 4, none⟩ = some (.slice (Z i).2.2.2.2.2.1 (Z i).2.2.2.2.1.len (Z i).2.2.2.2.2.2.1) ∧ (Z i).2.2.2.2.1.Lies W (Z i).2.2.2.2.2.1) ∧
      (W.cell? ⟨b, o + i * 6 + 5, none⟩ = some (.slice (Z i).2.2.2.2.2.2.2.2.1 (Z i).2.2.2.2.2.2.2.1.len (Z i).2.2.2.2.2.2.2.2.2) ∧ (Z i).2.2.2.2.2.2.2.1.Lies W (Z i).2.2.2.2.2.2.2.2.1) ∧
      ((Z i).2.2.2.2.1.len ≤ 9223372036854775807 ∧ (Z i).2.2.2.2.1.Fits) ∧ (Z i).2.2.2.2.2.2.2.1.len ≤ 9223372036854775807 ∧ (Z i).2.2.2.2.2.2.2.1.Fits) :
    ∀ j, j ≤ len → ∃ f : Pg, f.len = j ∧ f.At W b (o + (len - j) * 6) ∧ f.Fits := by
  intro j
  induction j with
  | zero => intro _; exact ⟨.nil, rfl, trivial, trivial⟩
  | succ j ih =>
    intro hj
    obtain ⟨f, h1, h2, h3⟩ := ih (by omega)
    obtain ⟨g0, g1, g2, g3, g4, g5, g6, g7, g8⟩ := h (len - (j + 1)) (by omega)
    refine ⟨.cons _ _ _ _ _ _ f, by simp [Pg.len, h1], ⟨g0, g1, g2, g3, ⟨_, _, g4.1, g4.2⟩, ⟨_, _, g5.1, g5.2⟩, ?_⟩, g6, g7, g8, h3⟩
    rw [show o + (len - (j + 1)) * 6 + 6 = o + (len - j) * 6 from by omega]
    exact h2

set_option maxRecDepth 100000 in
theorem lprogs_open {H : Type} {enc : TypeId × Value → H} {W : World} : ∀ (fuel : Nat) (cs : List Value) (x : DataW H × List MemPlace),
    DataW.trod enc Tryz.prog W 0 (fun _ => true) true fuel 27 cs = some x → ∃ (f : Pg) (A : Option Addr) (C : Nat), cs = [.slice A f.len C] ∧ f.Lies W A ∧ f.len ≤ 9223372036854775807 ∧ f.Fits := by
  intro fuel
  induction fuel using Nat.strongRecOn with
  | _ fuel ih =>
    intro cs x h
    rcases DataW.trod_slice Tryz.underlying27 h with ⟨rfl, _⟩ | ⟨a, len, cap, elems, rest, n, hn, rfl, rfl, hb, hl, hm, hlen, hel, hsp, hns⟩
    · exact ⟨.nil, none, 0, rfl, fun h => absurd rfl h, Nat.zero_le _, trivial⟩
    · have one : ∀ i, i < len → ∃ z : Int × Int × Int × Int × Fo × Option Addr × Nat × Pg × Option Addr × Nat, W.cell? (a.add (i * 6)) = some (.int .i64 z.1) ∧ W.cell? (a.add (i * 6 + 1)) = some (.int .i64 z.2.1) ∧ W.cell? (a.add (i * 6 + 2)) = some (.int .i64 z.2.2.1) ∧ W.cell? (a.add (i * 6 + 3)) = some (.int .i64 z.2.2.2.1) ∧
          (W.cell? (a.add (i * 6 + 4)) = some (.slice z.2.2.2.2.2.1 z.2.2.2.2.1.len z.2.2.2.2.2.2.1) ∧ z.2.2.2.2.1.Lies W z.2.2.2.2.2.1) ∧
          (W.cell? (a.add (i * 6 + 5)) = some (.slice z.2.2.2.2.2.2.2.2.1 z.2.2.2.2.2.2.2.1.len z.2.2.2.2.2.2.2.2.2) ∧ z.2.2.2.2.2.2.2.1.Lies W z.2.2.2.2.2.2.2.2.1) ∧
          (z.2.2.2.2.1.len ≤ 9223372036854775807 ∧ z.2.2.2.2.1.Fits) ∧ z.2.2.2.2.2.2.2.1.len ≤ 9223372036854775807 ∧ z.2.2.2.2.2.2.2.1.Fits := by
        intro i hi
        have key := hel i hi
        rw [List.getElem?_eq_getElem (by omega), Tryz.cellsPg] at key
        obtain ⟨cs', h1, h2⟩ := Option.bind_eq_some_iff.1 key
        obtain ⟨_, hl3, hc⟩ := World.cells?_some h1
        obtain ⟨xs, m, rfl, _, _, hxl, hf⟩ := DataW.trod_struct Tryz.underlying29 h2
        match xs, hxl, cs', hl3 with
        | [y0, y1, y2, y3], _, [v0, v1, v2, v3, v4, v5], _ =>
          have g0 : DataW.trod enc Tryz.prog W 0 (fun _ => true) true m 2 [v0] = some y0 := hf 0 _ rfl
          have g1 : DataW.trod enc Tryz.prog W 0 (fun _ => true) true m 2 [v1] = some y1 := hf 1 _ rfl
          have g2 : DataW.trod enc Tryz.prog W 0 (fun _ => true) true m 26 [v2, v3, v4] = some y2 := hf 2 _ rfl
          have g3 : DataW.trod enc Tryz.prog W 0 (fun _ => true) true m 27 [v5] = some y3 := hf 3 _ rfl
          obtain ⟨zs, m2, _, _, _, hzl, hz⟩ := DataW.trod_struct Tryz.underlying26 g2
          match zs, hzl with
          | [z0, z1, z2], _ =>
            have e0 : DataW.trod enc Tryz.prog W 0 (fun _ => true) true m2 2 [v2] = some z0 := hz 0 _ rfl
            have e1 : DataW.trod enc Tryz.prog W 0 (fun _ => true) true m2 2 [v3] = some z1 := hz 1 _ rfl
            have e2 : DataW.trod enc Tryz.prog W 0 (fun _ => true) true m2 24 [v4] = some z2 := hz 2 _ rfl
            obtain ⟨k, hk, _, _⟩ := DataW.trod_int Tryz.underlying2 g0
            obtain ⟨nn, hnn, _, _⟩ := DataW.trod_int Tryz.underlying2 g1
            obtain ⟨ck, hck, _, _⟩ := DataW.trod_int Tryz.underlying2 e0
            obtain ⟨cn, hcn, _, _⟩ := DataW.trod_int Tryz.underlying2 e1
            obtain ⟨cf, A, C, hcf, l1, l2, l3⟩ := lforest_open _ _ _ e2
            obtain ⟨f, B, D, hf2, p1, p2, p3⟩ := ih m (by omega) _ _ g3
            simp at hk hnn hck hcn hcf hf2
            subst hk; subst hnn; subst hck; subst hcn; subst hcf; subst hf2
            have c0 := hc 0 (by omega)
            have c1 := hc 1 (by omega)
            have c2 := hc 2 (by omega)
            have c3 := hc 3 (by omega)
            have c4 := hc 4 (by omega)
            have c5 := hc 5 (by omega)
            rw [add_add] at c0 c1 c2 c3 c4 c5
            exact ⟨(k, nn, ck, cn, cf, A, C, f, B, D), c0, c1, c2, c3, ⟨c4, l1⟩, ⟨c5, p1⟩, ⟨l2, l3⟩, p2, p3⟩
      obtain ⟨b, o, spot⟩ := a
      by_cases h0 : len = 0
      · subst h0
        exact ⟨.nil, _, _, rfl, fun h => absurd rfl h, Nat.zero_le _, trivial⟩
      have : Inhabited (Int × Int × Int × Int × Fo × Option Addr × Nat × Pg × Option Addr × Nat) := ⟨(0, 0, 0, 0, .nil, none, 0, .nil, none, 0)⟩
      obtain ⟨Z, hZ⟩ := choose_lt one
      have hspot : spot = none := by
        have := (hZ 0 (by omega)).1
        simpa [Addr.add] using World.cell?_spot this
      subst hspot
      obtain ⟨f, e1, e2, e3⟩ := progs_of_rows (W := W) (b := b) (o := o) (len := len) (Z := Z)
        (fun i hi => by
          obtain ⟨q0, q1, q2, q3, q4, q5, q6⟩ := hZ i hi
          rw [add_plain] at q0 q1 q2 q3 q4 q5
          exact ⟨q0, q1, q2, q3, q4, q5, q6⟩) len (Nat.le_refl _)
      rw [Nat.sub_self, Nat.zero_mul] at e2
      subst e1
      exact ⟨f, some ⟨b, o, none⟩, cap, rfl, fun _ => ⟨b, o, rfl, e2⟩, by unfold maxLen at hm; omega, e3⟩

set_option maxRecDepth 100000 in
/-- A program handed by value. -/
theorem lprog_open {H : Type} {enc : TypeId × Value → H} {W : World} {base : Nat} {v : Value} {d : DataW H} {p : List MemPlace} (hok : Value.okWide Tryz.prog W .any base 29 v) (h : DataW.Trod enc Tryz.prog W 0 (fun _ => true) true 29 v d p) :
    ∃ (k n ck cn : Int) (cf : Fo) (A : Option Addr) (C : Nat) (f : Pg) (B : Option Addr) (D : Nat), v = .agg #[.int .i64 k, .int .i64 n, .int .i64 ck, .int .i64 cn, .slice A cf.len C, .slice B f.len D] ∧ (cf.Lies W A ∧ cf.len ≤ 9223372036854775807 ∧ cf.Fits) ∧ f.Lies W B ∧ f.len ≤ 9223372036854775807 ∧ f.Fits ∧
      ((Lit.int .i64 k).wf = true ∧ (Lit.int .i64 n).wf = true ∧ (Lit.int .i64 ck).wf = true ∧ (Lit.int .i64 cn).wf = true) := by
  obtain ⟨cs, rfl, hsz⟩ := okWide_struct Tryz.underlying29 hok
  obtain ⟨v0, v1, v2, v3, v4, v5, rfl⟩ := array_six (hsz.trans Tryz.cellsPg)
  obtain ⟨fuel, hf0⟩ := h
  obtain ⟨xs, m, rfl, _, _, hxl, hf⟩ := DataW.trod_struct Tryz.underlying29 hf0
  match xs, hxl with
  | [y0, y1, y2, y3], _ =>
    have g0 : DataW.trod enc Tryz.prog W 0 (fun _ => true) true m 2 [v0] = some y0 := hf 0 _ rfl
    have g1 : DataW.trod enc Tryz.prog W 0 (fun _ => true) true m 2 [v1] = some y1 := hf 1 _ rfl
    have g2 : DataW.trod enc Tryz.prog W 0 (fun _ => true) true m 26 [v2, v3, v4] = some y2 := hf 2 _ rfl
    have g3 : DataW.trod enc Tryz.prog W 0 (fun _ => true) true m 27 [v5] = some y3 := hf 3 _ rfl
    obtain ⟨zs, m2, _, _, _, hzl, hz⟩ := DataW.trod_struct Tryz.underlying26 g2
    match zs, hzl with
    | [z0, z1, z2], _ =>
      have e0 : DataW.trod enc Tryz.prog W 0 (fun _ => true) true m2 2 [v2] = some z0 := hz 0 _ rfl
      have e1 : DataW.trod enc Tryz.prog W 0 (fun _ => true) true m2 2 [v3] = some z1 := hz 1 _ rfl
      have e2 : DataW.trod enc Tryz.prog W 0 (fun _ => true) true m2 24 [v4] = some z2 := hz 2 _ rfl
      obtain ⟨k, hk, _, wk⟩ := DataW.trod_int Tryz.underlying2 g0
      obtain ⟨nn, hnn, _, wn⟩ := DataW.trod_int Tryz.underlying2 g1
      obtain ⟨ck, hck, _, wck⟩ := DataW.trod_int Tryz.underlying2 e0
      obtain ⟨cn, hcn, _, wcn⟩ := DataW.trod_int Tryz.underlying2 e1
      obtain ⟨cf, A, C, hcf, l1, l2, l3⟩ := lforest_open _ _ _ e2
      obtain ⟨f, B, D, hf2, p1, p2, p3⟩ := lprogs_open _ _ _ g3
      simp at hk hnn hck hcn hcf hf2
      subst hk; subst hnn; subst hck; subst hcn; subst hcf; subst hf2
      exact ⟨k, nn, ck, cn, cf, A, C, f, B, D, rfl, ⟨l1, l2, l3⟩, p1, p2, p3, wk, wn, wck, wcn⟩
end Go.Proofs.YtcgbepmhfimbjaaGreatDoor

namespace Go.Proofs.YtcgbepmhfimbjaaGreatDoor
open Go.RowKit Go.WideShapes Go.ChangeShapes Go.ChangeAt Go.Deep Go.WideElems
set_option linter.unusedVariables false

set_option maxRecDepth 100000 in
theorem lExpr_cells {H : Type} {enc : TypeId × Value → H} {W : World} {fuel : Nat} {v0 v1 v2 : Value} {x : DataW H × List MemPlace} (h : DataW.trod enc Tryz.prog W 0 (fun _ => true) true fuel 26 [v0, v1, v2] = some x) :
    ∃ (k n : Int) (f : Fo) (A : Option Addr) (C : Nat), v0 = .int .i64 k ∧ v1 = .int .i64 n ∧ v2 = .slice A f.len C ∧ (f.Lies W A ∧ f.len ≤ 9223372036854775807 ∧ f.Fits) := by
  obtain ⟨xs, m, _, _, _, hxl, hf⟩ := DataW.trod_struct Tryz.underlying26 h
  match xs, hxl with
  | [y0, y1, y2], _ =>
    have g0 : DataW.trod enc Tryz.prog W 0 (fun _ => true) true m 2 [v0] = some y0 := hf 0 _ rfl
    have g1 : DataW.trod enc Tryz.prog W 0 (fun _ => true) true m 2 [v1] = some y1 := hf 1 _ rfl
    have g2 : DataW.trod enc Tryz.prog W 0 (fun _ => true) true m 24 [v2] = some y2 := hf 2 _ rfl
    obtain ⟨k, hk, _, _⟩ := DataW.trod_int Tryz.underlying2 g0
    obtain ⟨n, hn, _, _⟩ := DataW.trod_int Tryz.underlying2 g1
    obtain ⟨f, A, C, hf2, l⟩ := lforest_open _ _ _ g2
    simp at hk hn hf2
    subst hk; subst hn; subst hf2
    exact ⟨k, n, f, A, C, rfl, rfl, rfl, l⟩
set_option maxRecDepth 100000 in
theorem lProg_cells {H : Type} {enc : TypeId × Value → H} {W : World} {fuel : Nat} {v0 v1 v2 v3 v4 v5 : Value} {x : DataW H × List MemPlace} (h : DataW.trod enc Tryz.prog W 0 (fun _ => true) true fuel 29 [v0, v1, v2, v3, v4, v5] = some x) :
    ∃ (k n ck cn : Int) (cf : Fo) (ks : Pg) (A B : Option Addr) (C D : Nat), v0 = .int .i64 k ∧ v1 = .int .i64 n ∧ v2 = .int .i64 ck ∧ v3 = .int .i64 cn ∧ v4 = .slice A cf.len C ∧ v5 = .slice B ks.len D ∧ (cf.Lies W A ∧ cf.len ≤ 9223372036854775807 ∧ cf.Fits) ∧ (ks.Lies W B ∧ ks.len ≤ 9223372036854775807 ∧ ks.Fits) := by
  obtain ⟨xs, m, _, _, _, hxl, hf⟩ := DataW.trod_struct Tryz.underlying29 h
  match xs, hxl with
  | [y0, y1, y2, y3], _ =>
    have g0 : DataW.trod enc Tryz.prog W 0 (fun _ => true) true m 2 [v0] = some y0 := hf 0 _ rfl
    have g1 : DataW.trod enc Tryz.prog W 0 (fun _ => true) true m 2 [v1] = some y1 := hf 1 _ rfl
    have g2 : DataW.trod enc Tryz.prog W 0 (fun _ => true) true m 26 [v2, v3, v4] = some y2 := hf 2 _ rfl
    have g3 : DataW.trod enc Tryz.prog W 0 (fun _ => true) true m 27 [v5] = some y3 := hf 3 _ rfl
    obtain ⟨k, hk, _, _⟩ := DataW.trod_int Tryz.underlying2 g0
    obtain ⟨n, hn, _, _⟩ := DataW.trod_int Tryz.underlying2 g1
    obtain ⟨ck, cn, cf, A, C, rfl, rfl, rfl, l1⟩ := lExpr_cells g2
    obtain ⟨ks, B, D, hf3, l2⟩ := lprogs_open _ _ _ g3
    simp at hk hn hf3
    subst hk; subst hn; subst hf3
    exact ⟨k, n, ck, cn, cf, ks, A, B, C, D, rfl, rfl, rfl, rfl, rfl, rfl, l1, l2⟩
set_option maxRecDepth 100000 in
theorem lTriple_cells {H : Type} {enc : TypeId × Value → H} {W : World} {fuel : Nat} {v_0 v_1 v_2 v_3 v_4 v_5 v_6 v_7 v_8 v_9 v_10 v_11 : Value} {x : DataW H × List MemPlace} (h : DataW.trod enc Tryz.prog W 0 (fun _ => true) true fuel 31 [v_0, v_1, v_2, v_3, v_4, v_5, v_6, v_7, v_8, v_9, v_10, v_11] = some x) :
    ∃ (pk : Int) (pn : Int) (pf : Fo) (gk : Int) (gn : Int) (gck : Int) (gcn : Int) (gcf : Fo) (gks : Pg) (qk : Int) (qn : Int) (qf : Fo) (Apf Agcf Agks Aqf : Option Addr) (Cpf Cgcf Cgks Cqf : Nat), v_0 = .int .i64 pk ∧ v_1 = .int .i64 pn ∧ v_2 = .slice Apf pf.len Cpf ∧ v_3 = .int .i64 gk ∧ v_4 = .int .i64 gn ∧ v_5 = .int .i64 gck ∧ v_6 = .int .i64 gcn ∧ v_7 = .slice Agcf gcf.len Cgcf ∧ v_8 = .slice Agks gks.len Cgks ∧ v_9 = .int .i64 qk ∧ v_10 = .int .i64 qn ∧ v_11 = .slice Aqf qf.len Cqf ∧ (pf.Lies W Apf ∧ pf.len ≤ 9223372036854775807 ∧ pf.Fits) ∧ (gcf.Lies W Agcf ∧ gcf.len ≤ 9223372036854775807 ∧ gcf.Fits) ∧ (gks.Lies W Agks ∧ gks.len ≤ 9223372036854775807 ∧ gks.Fits) ∧ (qf.Lies W Aqf ∧ qf.len ≤ 9223372036854775807 ∧ qf.Fits) := by
  obtain ⟨xs, m, _, _, _, hxl, hf⟩ := DataW.trod_struct Tryz.underlying31 h
  match xs, hxl with
  | [y0, y1, y2], _ =>
    have g0 : DataW.trod enc Tryz.prog W 0 (fun _ => true) true m 26 [v_0, v_1, v_2] = some y0 := hf 0 _ rfl
    have g1 : DataW.trod enc Tryz.prog W 0 (fun _ => true) true m 29 [v_3, v_4, v_5, v_6, v_7, v_8] = some y1 := hf 1 _ rfl
    have g2 : DataW.trod enc Tryz.prog W 0 (fun _ => true) true m 26 [v_9, v_10, v_11] = some y2 := hf 2 _ rfl
    obtain ⟨pk, pn, pf, Apf, Cpf, rfl, rfl, rfl, l_pf⟩ := lExpr_cells g0
    obtain ⟨gk, gn, gck, gcn, gcf, gks, Agcf, Agks, Cgcf, Cgks, rfl, rfl, rfl, rfl, rfl, rfl, l_gcf, l_gks⟩ := lProg_cells g1
    obtain ⟨qk, qn, qf, Aqf, Cqf, rfl, rfl, rfl, l_qf⟩ := lExpr_cells g2
    exact ⟨pk, pn, pf, gk, gn, gck, gcn, gcf, gks, qk, qn, qf, Apf, Agcf, Agks, Aqf, Cpf, Cgcf, Cgks, Cqf, rfl, rfl, rfl, rfl, rfl, rfl, rfl, rfl, rfl, rfl, rfl, rfl, l_pf, l_gcf, l_gks, l_qf⟩

theorem arrTriple {α : Type} {cs : Array α} (h : cs.size = 12) : ∃ v0 v1 v2 v3 v4 v5 v6 v7 v8 v9 v10 v11, cs = #[v0, v1, v2, v3, v4, v5, v6, v7, v8, v9, v10, v11] := by
  obtain ⟨l⟩ := cs
  match l, h with
  | [v0, v1, v2, v3, v4, v5, v6, v7, v8, v9, v10, v11], _ => exact ⟨v0, v1, v2, v3, v4, v5, v6, v7, v8, v9, v10, v11, rfl⟩
theorem Tryz.cellsVTriple : Tryz.prog.cellsOf 31 = 12 := by kernel_rfl
set_option maxRecDepth 100000 in
theorem lTriple_open {H : Type} {enc : TypeId × Value → H} {W : World} {base : Nat} {v : Value} {d : DataW H} {p : List MemPlace} (hok : Value.okWide Tryz.prog W .any base 31 v) (h : DataW.Trod enc Tryz.prog W 0 (fun _ => true) true 31 v d p) :
    ∃ (pk : Int) (pn : Int) (pf : Fo) (gk : Int) (gn : Int) (gck : Int) (gcn : Int) (gcf : Fo) (gks : Pg) (qk : Int) (qn : Int) (qf : Fo) (Apf Agcf Agks Aqf : Option Addr) (Cpf Cgcf Cgks Cqf : Nat), v = .agg #[.int .i64 pk, .int .i64 pn, .slice Apf pf.len Cpf, .int .i64 gk, .int .i64 gn, .int .i64 gck, .int .i64 gcn, .slice Agcf gcf.len Cgcf, .slice Agks gks.len Cgks, .int .i64 qk, .int .i64 qn, .slice Aqf qf.len Cqf] ∧ (pf.Lies W Apf ∧ pf.len ≤ 9223372036854775807 ∧ pf.Fits) ∧ (gcf.Lies W Agcf ∧ gcf.len ≤ 9223372036854775807 ∧ gcf.Fits) ∧ (gks.Lies W Agks ∧ gks.len ≤ 9223372036854775807 ∧ gks.Fits) ∧ (qf.Lies W Aqf ∧ qf.len ≤ 9223372036854775807 ∧ qf.Fits) := by
  obtain ⟨cs, rfl, hsz⟩ := okWide_struct Tryz.underlying31 hok
  obtain ⟨v0, v1, v2, v3, v4, v5, v6, v7, v8, v9, v10, v11, rfl⟩ := arrTriple (hsz.trans Tryz.cellsVTriple)
  obtain ⟨fuel, hf0⟩ := h
  have hf1 : DataW.trod enc Tryz.prog W 0 (fun _ => true) true fuel 31 [v0, v1, v2, v3, v4, v5, v6, v7, v8, v9, v10, v11] = some (d, p) := hf0
  obtain ⟨pk, pn, pf, gk, gn, gck, gcn, gcf, gks, qk, qn, qf, Apf, Agcf, Agks, Aqf, Cpf, Cgcf, Cgks, Cqf, rfl, rfl, rfl, rfl, rfl, rfl, rfl, rfl, rfl, rfl, rfl, rfl, l_pf, l_gcf, l_gks, l_qf⟩ := lTriple_cells hf1
  exact ⟨pk, pn, pf, gk, gn, gck, gcn, gcf, gks, qk, qn, qf, Apf, Agcf, Agks, Aqf, Cpf, Cgcf, Cgks, Cqf, rfl, l_pf, l_gcf, l_gks, l_qf⟩
end Go.Proofs.YtcgbepmhfimbjaaGreatDoor

namespace Go.Proofs.YtcgbepmhfimbjaaGreatDoor
open Go.RowKit Go.WideShapes Go.ChangeShapes Go.ChangeAt Go.Deep Go.WideElems
set_option linter.unusedVariables false

theorem door_met (os : Os) (args : Array Value) : laidMetH Tryz.prog Rows.fnExactTripleTextRow.laid ((World.doorLaid Tryz.prog 400 os).forCall (fun _ _ => 0) ⟨#[], args, []⟩).memory :=
  laidMetH_of_parts3 (fuel := 8) (laidMet_of_run' 8 (by kernel_rfl) (by kernel_rfl)) (by kernel_rfl) (by kernel_rfl)

set_option maxRecDepth 100000 in
theorem tripleText_lifted (os : Os) (started : os.Started) (H : Type) (enc : TypeId × Value → H) :
    ReturnsInHanded {} Tryz.checked os 3 .any (fun w args => (Rows.fnExactTripleTextSpec.pre enc Tryz.prog Tryz.f3 [] false w args ∧ laidMetH Tryz.prog Rows.fnExactTripleTextRow.laid w) ∧ sizedMet enc Tryz.prog Tryz.f3 (OpenSpec.ofChange Rows.fnExactTripleTextSpec) false w args)
      (Rows.fnExactTripleTextSpec.post enc Tryz.prog Tryz.f3 false true false false) := by
  refine returnsInHanded_of_change_and (C := Tryz.checked) (X := fun w _ => laidMetH Tryz.prog Rows.fnExactTripleTextRow.laid w) (fun _ _ _ hh h => h.of_heap hh) Tryz.own started (by kernel_rfl) Tryz.func3
    (ChangeSpec.witness_shaped (enc := enc) (C := Tryz.checked) (os := os) (X := fun w _ => laidMetH Tryz.prog Rows.fnExactTripleTextRow.laid w) false (World.doorLaid Tryz.prog 400 os) #[.agg #[.int .i64 0, .int .i64 0], .agg #[.int .i64 0, .int .i64 0, .slice none 0 0, .int .i64 0, .int .i64 0, .int .i64 0, .int .i64 0, .slice none 0 0, .slice none 0 0, .int .i64 0, .int .i64 0, .slice none 0 0]] 8 rfl (World.shaped_of_RefB (by kernel_rfl) (by kernel_rfl)) (by kernel_rfl) (by kernel_rfl) (by kernel_rfl) (door_met os _)) ?_
  intro W base args ds gs before hval0 hW _ _ hL _
  have hval : ∀ (j : Nat) t v, Tryz.f3.params[j]? = some t → args[j]? = some v → Value.okWide Tryz.prog W .any base t v := hval0
  have hW' := hW
  obtain ⟨p, q, hA0, hV, rfl, _, _⟩ := hW
  have hA : DataW.TrodAll enc Tryz.prog W 0 (fun _ => true) true Tryz.f3.params.toList args.toList ds p := hA0
  rw [Tryz.params3] at hA hval
  obtain ⟨v0, v1, d0, d1, z0, z1, rfl, rfl, rfl, h0, h1⟩ := trodAll_two hA
  obtain ⟨t0, a0, rfl, wt0, wa0⟩ := lsig_open (hval 0 23 v0 rfl rfl) h0
  obtain ⟨pk1, pn1, pf1, gk1, gn1, gck1, gcn1, gcf1, gks1, qk1, qn1, qf1, Apf1, Agcf1, Agks1, Aqf1, Cpf1, Cgcf1, Cgks1, Cqf1, rfl, l_pf1, l_gcf1, l_gks1, l_qf1⟩ := lTriple_open (hval 1 31 v1 rfl rfl) h1
  have hV1 : DataW.TrodVars enc Tryz.prog W (fun _ => true) ["loop.example/g01101/impl.progForms"] gs q := hV
  have hgs : ∃ d1, gs = [d1] := by obtain ⟨_, _, _, _, d1, _, h, _⟩ := trodVars_one hV1; exact ⟨d1, h⟩
  obtain ⟨d1, rfl⟩ := hgs
  have hF := forms_of hL (by kernel_rfl) (by unfold Rows.fnExactTripleTextRow; simp)
  have hFW := fwords_of hL (by kernel_rfl) (by unfold Rows.fnExactTripleTextRow; simp)
  have hA0' := hA0
  clear hA0 hval0
  refine (lawTripleText t0 a0 pk1 pn1 pf1 gk1 gn1 gck1 gcn1 gcf1 gks1 qk1 qn1 qf1 Apf1 Agcf1 Agks1 Aqf1 Cpf1 Cgcf1 Cgks1 Cqf1 W (fun h0 W' Z1 Z2 Z3 Z4 m1 m2 m3 m4 => specTripleText_any t0 a0 pk1 pn1 pf1 gk1 gn1 gck1 gcn1 gcf1 gks1 qk1 qn1 qf1 h0 l_pf1.2.2 l_gcf1.2.2 l_gks1.2.2 l_qf1.2.2 Z1 Z2 Z3 Z4 _ _ _ _ W' m1 m2 m3 m4) (fun h0 W' Z1 Z2 Z3 Z4 hs m1 m2 m3 m4 => implTripleText_any t0 a0 pk1 pn1 pf1 gk1 gn1 gck1 gcn1 gcf1 gks1 qk1 qn1 qf1 h0 l_pf1.2.2 l_gcf1.2.2 l_gks1.2.2 l_qf1.2.2 Z1 Z2 Z3 Z4 _ _ _ _ W' m1 m2 m3 m4 (hF.sees hs) (hFW.sees hs)) l_pf1.2 l_gcf1.2 l_gks1.2 l_qf1.2 l_pf1.1 l_gcf1.1 l_gks1.1 l_qf1.1).mono fun e W' ⟨he, hb⟩ => ?_
  subst he
  refine ⟨_, rfl, post_of_below (pa := _) (pv := q) hW' ?_ ?_ ?_ rfl hb ?_⟩
  · intro b sp hd
    exact trodAll_mk1 (shut_bool Tryz.underlying4 _)
  · intro sp hsp
    exact trodAll_stays Tryz.laidOut hb (by rw [Tryz.params3]; intro t ht; simp at ht; rcases ht with rfl | rfl <;> exact ⟨by kernel_rfl, of_decide_eq_true (by kernel_rfl)⟩) hA0' (fun x hx => hW'.lt x (List.mem_append_left _ hx)) (fun x hx => hsp x (List.mem_append_left _ hx))
  · intro sp hsp
    exact var_stays Tryz.laidOut hb gForms tForms (by kernel_rfl) (of_decide_eq_true (by kernel_rfl)) hV1 (fun x hx => hW'.lt x (List.mem_append_right _ hx)) (fun x hx => hsp x (List.mem_append_right _ hx))
  · exact ok_one (by kernel_rfl) rfl (okWide_bool_mk Tryz.underlying4 _)

theorem tripleText_holds : Rows.FnExactTripleTextSaid :=
  OpenClaim.holds_of_wide 3 Tryz.f3 rfl rfl rfl rfl rfl rfl rfl ⟨rfl, rfl, rfl, rfl, rfl⟩ rfl rfl rfl rfl rfl (by kernel_rfl) Tryz.func3 (by kernel_rfl)
    (of_decide_eq_true (by kernel_rfl)) (by unfold Func.isWrapper; first | (rw [if_pos (by decide +kernel)]; kernel_rfl) | (rw [if_neg (by decide +kernel)]; exact ⟨rfl, rfl⟩))
    (fun os started H enc _ => tripleText_lifted os started H enc)

set_option maxRecDepth 100000 in
theorem tripleText_plain (f : FuncId) (fn : Func) (hf : Tryz.pinned.checked.prog.funcNamed "loop.example/g01101/laws.FnExactTripleText" = some f) (hfn : Tryz.pinned.checked.prog.funcs[f]? = some fn) :
    true = Tryz.pinned.checked.prog.looks [] ∧ ∀ (j : Nat) t, fn.params[j]? = some t → Tryz.pinned.checked.prog.wantsStandIn t = false := by
  obtain rfl : f = 3 := Option.some.inj ((show Tryz.prog.funcNamed "loop.example/g01101/laws.FnExactTripleText" = some 3 by kernel_rfl).symm.trans hf) |>.symm
  obtain rfl : fn = Tryz.f3 := (Option.some.inj (Tryz.func3.symm.trans hfn)).symm
  refine ⟨by kernel_rfl, fun j t ht => ?_⟩
  rw [Tryz.params3] at ht
  have h := Array.mem_of_getElem? ht
  simp at h
  rcases h with rfl | rfl
  · exact (show Tryz.prog.wantsStandIn 23 = false by kernel_rfl)
  · exact (show Tryz.prog.wantsStandIn 31 = false by kernel_rfl)

/-- The card. -/
theorem tripleText_card : Rows.FnExactTripleTextCardSaid :=
  Claim7.holds_tied_plain_at .later [] _ _ _ _ tripleText_holds (fun _ h => by cases h) (by kernel_rfl) (fun _ h => by cases h) fnExactTripleText_row_tie rfl ⟨rfl, rfl⟩ (by kernel_rfl) rfl tripleText_plain (by kernel_rfl)
#print axioms tripleText_card
end Go.Proofs.YtcgbepmhfimbjaaGreatDoor
