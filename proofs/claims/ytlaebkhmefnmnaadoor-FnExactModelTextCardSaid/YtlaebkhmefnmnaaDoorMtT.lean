/- Contract of impl.ModelText. -/
import Derived.Test.YtlaebkhmefnmnaaDoorMtS
import Derived.Test.YtlaebkhmefnmnaaDoorMtI
import Derived.Test.YtlaebkhmefnmnaaDoorAuI
import Derived.Test.YtlaebkhmefnmnaaDoorShpB
namespace Go.Proofs.YtlaebkhmefnmnaaDoor
open Go.RowKit

theorem sees_behindM {w W W' : World} {B : Nat} (h : Sees w W) (hb : Below B W W') (hB : w.heap.size ≤ B) : Sees w W' := Below.trans h (hb.mono hB)

set_option maxRecDepth 100000 in
set_option maxHeartbeats 8000000 in
theorem implModelText_any (t a p : Int) (ac : List (List Bool)) (nx : List (List (List Bool))) (hs : SmallM ac nx) (A B : Option Addr) (C D : Nat) (w : World) (hA0 : BB 0 w ac A) (hB0 : BBB 0 w nx B) :
    Calls Tryd.prog 9 #[.agg #[.int .i64 t, .int .i64 a, .int .i64 p, .slice A ac.length C, .slice B nx.length D]] w fun e w' => e = .returned (.string ⟨(moTx t a p ac nx).toArray⟩) ∧ Below w.heap.size w w' := by
  obtain ⟨w0, hw0⟩ : ∃ w0, w0 = w.alloc (.cells #[.int .i64 t, .int .i64 a, .int .i64 p, .slice A ac.length C, .slice B nx.length D] 32) := ⟨_, rfl⟩
  have B0 : Sees w w0 := by rw [hw0]; exact (Sees.refl w).alloc _
  have hA := hA0.sees B0; have hB := hB0.sees B0
  have z0 : w.heap.size < w0.heap.size := by rw [hw0]; simp
  have g0 : w0.cell? ⟨w.heap.size, 0, none⟩ = some (.int .i64 t) := by rw [hw0]; simp [go_sem]
  have g1 : w0.cell? ⟨w.heap.size, 1, none⟩ = some (.int .i64 a) := by rw [hw0]; simp [go_sem]
  have g2 : w0.cell? ⟨w.heap.size, 2, none⟩ = some (.int .i64 p) := by rw [hw0]; simp [go_sem]
  have g3 : w0.cell? ⟨w.heap.size, 3, none⟩ = some (.slice A ac.length C) := by rw [hw0]; simp [go_sem]
  have g4 : w0.cell? ⟨w.heap.size, 4, none⟩ = some (.slice B nx.length D) := by rw [hw0]; simp [go_sem]
  have FIN : Hid (∀ W : World, Sees w0 W → Below w.heap.size w W) := fun W h => Sees.below B0 h
  obtain ⟨q1, hq1⟩ : ∃ q1 : Bool, q1 = validM t a p ac nx := ⟨_, rfl⟩
  have K1 : Hid (∀ W : World, Sees w0 W → Calls Tryd.prog 28 #[.agg #[.int .i64 t, .int .i64 a, .int .i64 p, .slice A ac.length C, .slice B nx.length D]] W fun e w' => e = .returned (.bool q1) ∧ Below W.heap.size W w') := fun W h => by
    rw [hq1]; exact implValidModel_any t a p ac nx hs A B C D W (hA.sees h) (hB.sees h)
  clear hA0 hB0 B0 hs
  cases q1
  · have HD : Hid (moTx t a p ac nx = []) := if_neg (by rw [← hq1]; decide)
    rw [HD.out]
    clear hq1 HD hA hB
    go_enter Tryd.func9, Tryd.ntmps9
    go_wp2_with fail
    rw [← hw0]
    refine (K1.out _ (Sees.refl _)).mono ?_
    rintro e w1 ⟨rfl, hb⟩
    have HW0 := Lib.hid hw0; clear hw0 g0 g1 g2 g3 g4
    have HF := Lib.hid (FIN.out _ hb)
    clear hb
    go_wp2_with fail
    go_ret
    exact ⟨rfl, HF.out⟩
  · obtain ⟨⟨ht0, ht1, ha0, ha1, hp0, hp1⟩, hl3, hl4, hTl, hac, hnx⟩ := mod_parts hq1.symm
    have HE : moTx t a p ac nx = modT t a p ac nx := if_pos hq1.symm
    obtain ⟨T, hT⟩ : ∃ T, T = modT t a p ac nx := ⟨_, rfl⟩
    rw [HE, ← hT]
    rw [← hT] at hTl
    have HTL := Lib.hid hTl
    have h1 : T = ((([] ++ ([109, 111, 100, 101, 108, 32] ++ Lib.decDigits t.toNat) ++ ([32] ++ Lib.decDigits a.toNat)) ++ ([32] ++ Lib.decDigits p.toNat)) ++ [10]) ++ (tstsT (ac.drop 0) ++ actsT nx) := by rw [hT, List.drop_zero]; unfold modT headT; simp only [List.append_assoc, List.nil_append]
    obtain ⟨l1, hl1⟩ : ∃ l, l = [] ++ ([109, 111, 100, 101, 108, 32] ++ Lib.decDigits t.toNat) ++ ([32] ++ Lib.decDigits a.toNat) := ⟨_, rfl⟩
    obtain ⟨l2, hl2⟩ : ∃ l, l = l1 ++ ([32] ++ Lib.decDigits p.toNat) := ⟨_, rfl⟩
    rw [← hl1, ← hl2] at h1
    have hl2l : l2.length + 1 ≤ 1000000 := by rw [h1] at hTl; simp only [List.length_append, List.length_cons, List.length_nil] at hTl; omega
    have hl1l : l1.length ≤ 1000000 := by rw [hl2] at hl2l; simp only [List.length_append] at hl2l; omega
    have KSG : Hid (∀ (Bq : Nat) (W : World), Bld Bq [] W → Calls Tryd.prog 29 #[.pointer (some ⟨Bq, 0, none⟩), .string ⟨#[109, 111, 100, 101, 108, 32]⟩, .agg #[.int .i64 t, .int .i64 a]] W fun e w' => e = .returned (.tuple #[]) ∧ Wrote Bq l1 W w') := fun Bq W hW => by
      rw [hl1]; exact writeSig_any [109, 111, 100, 101, 108, 32] t a ⟨ht0, by omega⟩ ⟨ha0, by omega⟩ hW (by simp)
    have KSN : Hid (∀ (Bq : Nat) (W : World), Bld Bq l1 W → Calls Tryd.prog 30 #[.pointer (some ⟨Bq, 0, none⟩), .string ⟨#[32]⟩, .int .i64 p] W fun e w' => e = .returned (.tuple #[]) ∧ Wrote Bq l2 W w') := fun Bq W hW => by
      rw [hl2]; exact writeNumber_any [32] p (by omega) (by omega) hW (by simp only [List.length_cons, List.length_nil]; omega)
    have H1 := Lib.hid h1
    have HAA := Lib.hid hA; have HBB := Lib.hid hB
    have HL2 := Lib.hid hl2l; have HAC := Lib.hid hac; have HNX := Lib.hid hnx
    have G := Lib.hid (And.intro g0 (And.intro g1 (And.intro g2 (And.intro g3 g4))))
    clear hq1 HE hT hTl h1 hl1 hl2 hl1l hl2l ht0 ht1 ha0 ha1 hp0 hp1 hA hB g0 g1 g2 g3 g4 hac hnx
    go_enter Tryd.func9, Tryd.ntmps9
    go_wp2_with fail
    rw [← hw0]
    refine (K1.out _ (Sees.refl _)).mono ?_
    rintro e w1 ⟨rfl, hb⟩
    have S1 : Hid (Sees w0 w1) := hb
    have HW0 := Lib.hid hw0
    have z01 : w0.heap.size ≤ w1.heap.size := S1.out.size
    have z1 : w.heap.size < w1.heap.size := by omega
    have HSW : Hid (∀ W : World, Below w1.heap.size w1 W → Sees w0 W) := fun W h => sees_behindM S1.out h z01
    clear hb K1 hw0
    have x0 := kc S1.out G.out.1
    have x1 := kc S1.out G.out.2.1
    go_wp2_with fail
    refine (KSG.out _ _ (Bld.fresh w1)).mono ?_
    rintro e w2 ⟨rfl, hw2⟩
    have HS2 : Hid (Below w1.heap.size w1 w2) := ((Below.refl _ _).alloc (Nat.le_refl _) _).trans hw2.below
    have HB2 := Lib.hid hw2.bld
    clear hw2 x0 x1 KSG
    have x2 := kc (HSW.out _ HS2.out) G.out.2.2.1
    go_wp2_with fail
    refine (KSN.out _ _ HB2.out).mono ?_
    rintro e w3 ⟨rfl, hw3⟩
    have HS3 : Hid (Below w1.heap.size w1 w3) := HS2.out.trans hw3.below
    have HB3 := Lib.hid hw3.bld
    have KW2 : Hid (∀ W : World, Bld w1.heap.size l2 W → Calls Tryd.prog 31 #[.pointer (some ⟨w1.heap.size, 0, none⟩), .string ⟨#[10]⟩] W fun e w' => (∃ z, e = .returned (.tuple #[.int .i64 z, .nilIface])) ∧ Wrote w1.heap.size (l2 ++ [10]) W w') := fun W hW => write_any [10] hW (by have := HL2.out; simp only [List.length_cons, List.length_nil]; omega)
    clear hw3 x2 KSN HS2 HB2
    go_wp2_with fail
    refine (KW2.out _ HB3.out).mono ?_
    rintro e w4 ⟨⟨zz3, rfl⟩, hw4⟩
    have HS4 : Hid (Below w1.heap.size w1 w4 ∧ Bld w1.heap.size (l2 ++ [10]) w4) := ⟨HS3.out.trans hw4.below, hw4.bld⟩
    clear hw4 HS3 HB3 KW2
    have x3 := kc (HSW.out _ HS4.out.1) G.out.2.2.2.1
    go_wp2_with fail
    clear x3
    go_loopw [21] (fun i wr => ∃ (n : Nat) (m : List UInt8), n ≤ ac.length ∧ i = .int .i64 n ∧ Hid (T = m ++ (tstsT (ac.drop n) ++ actsT nx)) ∧ Hid (Below w1.heap.size w1 wr ∧ Bld w1.heap.size m wr)) (fun i _ => ac.length - (intOf i).toNat)
    case atStart => exact ⟨0, _, Nat.zero_le _, rfl, H1.out, HS4.out⟩
    case round =>
      obtain ⟨n, m, hn, rfl, hTn, hW⟩ := hrel
      clear HS4 H1
      obtain ⟨wo, rfl⟩ : ∃ wo, wo = wr := ⟨_, rfl⟩
      by_cases hnl : n < ac.length
      · obtain ⟨y, z, R, DD, hAe, cA, qA⟩ := bb_row HAA.out hnl
        have hr8 := HAC.out ac[n] (List.getElem_mem hnl)
        have hstep := tstsT_step hnl
        obtain ⟨r, hr⟩ : ∃ x, x = ac[n] := ⟨_, rfl⟩
        rw [← hr] at cA qA hr8 hstep
        have hT0 : T = (m ++ ([116, 101, 115, 116] ++ (rowsB [r] ++ [10]))) ++ (tstsT (ac.drop (n + 1)) ++ actsT nx) := by rw [hTn.out, hstep]; simp [rowsB, List.append_assoc]
        have hml : (m ++ ([116, 101, 115, 116] ++ (rowsB [r] ++ [10]))).length ≤ 1000000 := by have := HTL.out; rw [hT0] at this; simp only [List.length_append] at this ⊢; omega
        have hSo := HSW.out _ hW.out.1
        have hlt := hW.out.2.lt
        have K : Hid (Calls Tryd.prog 32 #[.pointer (some ⟨w1.heap.size, 0, none⟩), .string ⟨#[116, 101, 115, 116]⟩, .slice (some ⟨wo.heap.size, 0, none⟩) 1 1] (wo.alloc (.cells #[.slice R r.length DD] 72)) fun e w' => e = .returned (.tuple #[]) ∧ Wrote w1.heap.size (m ++ ([116, 101, 115, 116] ++ (rowsB [r] ++ [10]))) (wo.alloc (.cells #[.slice R r.length DD] 72)) w') :=
          writeMarks_any [116, 101, 115, 116] [r] (by simp) (fun x hx => by have h9 : x = r := (by simpa using hx); rw [h9]; exact hr8) _ 1 (hW.out.2.alloc _) hml (rowsK_one qA (hSo.alloc _) z01 (heap_new _ _ _ rfl) (by omega))
        have HT3 := Lib.hid hT0
        have cA1 := kc hSo cA
        have NL := Lib.hid hnl; have HWW := Lib.hid hW.out.1
        have n0 : (0 : Int) ≤ (n : Int) := Int.natCast_nonneg _
        have n1 : (n : Int) < (ac.length : Int) := by omega
        subst hAe
        clear hr hT0 hstep qA cA hTn hnl hml hSo hW hr8 hlt
        go_wp2_with fail
        refine K.out.mono ?_
        rintro e w5 ⟨rfl, hw5⟩
        have HS5 : Hid (Below w1.heap.size w1 w5 ∧ Bld w1.heap.size (m ++ ([116, 101, 115, 116] ++ (rowsB [r] ++ [10]))) w5) := ⟨HWW.out.trans (((Below.refl _ _).alloc (HWW.out.size) _).trans hw5.below), hw5.bld⟩
        clear hw5 K cA1
        go_wp2_with fail
        go_roundw
        case rel => exact ⟨n + 1, _, NL.out, by go_num, HT3.out, HS5.out⟩
        case measure => have := NL.out; simp [intOf]; omega
      · obtain rfl : n = ac.length := by omega
        have H1 : Hid (T = m ++ actsT (nx.drop 0)) := by show _ = _; rw [hTn.out, List.drop_length, List.drop_zero]; rfl
        have HWW := Lib.hid hW.out
        have x4 := kc (HSW.out _ hW.out.1) G.out.2.2.2.2
        clear hTn hW
        go_wp2_with fail
        clear x4
        go_loopw [32] (fun i wr => ∃ (n : Nat) (m : List UInt8), n ≤ nx.length ∧ i = .int .i64 n ∧ Hid (T = m ++ actsT (nx.drop n)) ∧ Hid (Below w1.heap.size w1 wr ∧ Bld w1.heap.size m wr)) (fun i _ => nx.length - (intOf i).toNat)
        case atStart => exact ⟨0, _, Nat.zero_le _, rfl, H1.out, HWW.out⟩
        case round =>
          obtain ⟨n, m, hn, rfl, hTn, hW⟩ := hrel
          clear HWW H1
          obtain ⟨wp, rfl⟩ : ∃ wp, wp = wr := ⟨_, rfl⟩
          by_cases hnl : n < nx.length
          · obtain ⟨y, z, _, hBe, hat⟩ := HBB.out (by rintro rfl; simp at hnl)
            obtain ⟨RB, DB, cB, qB⟩ := hat n nx[n] (List.getElem?_eq_getElem hnl)
            obtain ⟨hr8, hrr⟩ := HNX.out nx[n] (List.getElem_mem hnl)
            have hstep := actsT_step hnl
            obtain ⟨rows, hrows⟩ : ∃ x, x = nx[n] := ⟨_, rfl⟩
            rw [← hrows] at cB qB hr8 hrr hstep
            have hT0 : T = (m ++ ([97, 99, 116] ++ (rowsB rows ++ [10]))) ++ actsT (nx.drop (n + 1)) := by rw [hTn.out, hstep]; simp only [List.append_assoc]
            have hml : (m ++ ([97, 99, 116] ++ (rowsB rows ++ [10]))).length ≤ 1000000 := by have := HTL.out; rw [hT0] at this; simp only [List.length_append] at this ⊢; omega
            have hSo := HSW.out _ hW.out.1
            have K : Hid (Calls Tryd.prog 32 #[.pointer (some ⟨w1.heap.size, 0, none⟩), .string ⟨#[97, 99, 116]⟩, .slice RB rows.length DB] wp fun e w' => e = .returned (.tuple #[]) ∧ Wrote w1.heap.size (m ++ ([97, 99, 116] ++ (rowsB rows ++ [10]))) wp w') :=
              writeMarks_any [97, 99, 116] rows hr8 hrr RB DB hW.out.2 hml (rowsK_of qB hSo z01)
            have HT3 := Lib.hid hT0
            have cB1 := kc hSo cB
            have NL := Lib.hid hnl; have HWW := Lib.hid hW.out.1; have HAT := Lib.hid hat
            have n0 : (0 : Int) ≤ (n : Int) := Int.natCast_nonneg _
            have n1 : (n : Int) < (nx.length : Int) := by omega
            subst hBe
            clear hrows hT0 hstep qB cB hTn hnl hml hSo hW hr8 hrr hat
            go_wp2_with fail
            refine K.out.mono ?_
            rintro e w5 ⟨rfl, hw5⟩
            have HS5 : Hid (Below w1.heap.size w1 w5 ∧ Bld w1.heap.size (m ++ ([97, 99, 116] ++ (rowsB rows ++ [10]))) w5) := ⟨HWW.out.trans hw5.below, hw5.bld⟩
            clear hw5 K cB1
            go_wp2_with fail
            go_roundw
            case rel => exact ⟨n + 1, _, NL.out, by go_num, HT3.out, HS5.out⟩
            case measure => have := NL.out; simp [intOf]; omega
          · obtain rfl : n = nx.length := by omega
            have e1 : T = m := by rw [hTn.out, List.drop_length]; exact List.append_nil _
            have KE : Hid (Calls Tryd.prog 33 #[.pointer (some ⟨w1.heap.size, 0, none⟩)] wp fun e w' => e = .returned (.string ⟨T.toArray⟩) ∧ Below w1.heap.size wp w') := by
              show Calls _ _ _ _ _
              rw [e1]; exact string_any hW.out.2
            have HWW := Lib.hid hW.out.1
            clear e1 hTn hW
            go_wp2_with fail
            refine KE.out.mono ?_
            rintro e w5 ⟨rfl, hb5⟩
            have HF := Lib.hid (FIN.out _ (HSW.out _ (HWW.out.trans hb5)))
            clear hb5
            go_wp2_with fail
            go_ret
            exact ⟨rfl, HF.out⟩
end Go.Proofs.YtlaebkhmefnmnaaDoor
