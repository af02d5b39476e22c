/- Contract of impl.AutomatonText. -/
import Derived.Test.YtgeaiadjmadakaaDoorAuS
import Derived.Test.YtgeaiadjmadakaaDoorAuI
import Derived.Test.YtgeaiadjmadakaaDoorValAI
namespace Go.Proofs.YtgeaiadjmadakaaDoor
open Go.RowKit

theorem sees_behind {w W W' : World} {B : Nat} (h : Sees w W) (hb : Below B W W') (hB : w.heap.size ≤ B) : Sees w W' := Below.trans h (hb.mono hB)

set_option maxRecDepth 100000 in
set_option maxHeartbeats 4000000 in
theorem implAutomatonText_any (t a : Int) (ac : List (List Bool)) (nx : List (List (List Int))) (hs : SmallA ac nx) (A B : Option Addr) (C D : Nat) (w : World) (hA0 : BB 0 w ac A) (hB0 : III 0 w nx B) :
    Calls Tryd.prog 15 #[.agg #[.int .i64 t, .int .i64 a, .slice A ac.length C, .slice B nx.length D]] w fun e w' => e = .returned (.string ⟨(auTx t a ac nx).toArray⟩) ∧ Below w.heap.size w w' := by
  obtain ⟨w0, hw0⟩ : ∃ w0, w0 = w.alloc (.cells #[.int .i64 t, .int .i64 a, .slice A ac.length C, .slice B nx.length D] 48) := ⟨_, rfl⟩
  have B0 : Sees w w0 := by rw [hw0]; exact (Sees.refl w).alloc _
  have hA := hA0.sees B0; have hB := hB0.sees B0
  have z0 : w.heap.size < w0.heap.size := by rw [hw0]; simp
  have g0 : w0.cell? ⟨w.heap.size, 0, none⟩ = some (.int .i64 t) := by rw [hw0]; simp [go_sem]
  have g1 : w0.cell? ⟨w.heap.size, 1, none⟩ = some (.int .i64 a) := by rw [hw0]; simp [go_sem]
  have g2 : w0.cell? ⟨w.heap.size, 2, none⟩ = some (.slice A ac.length C) := by rw [hw0]; simp [go_sem]
  have g3 : w0.cell? ⟨w.heap.size, 3, none⟩ = some (.slice B nx.length D) := by rw [hw0]; simp [go_sem]
  have FIN : Hid (∀ W : World, Sees w0 W → Below w.heap.size w W) := fun W h => Sees.below B0 h
  obtain ⟨q1, hq1⟩ : ∃ q1 : Bool, q1 = validA t a ac nx := ⟨_, rfl⟩
  have K1 : Hid (∀ W : World, Sees w0 W → Calls Tryd.prog 35 #[.agg #[.int .i64 t, .int .i64 a, .slice A ac.length C, .slice B nx.length D]] W fun e w' => e = .returned (.bool q1) ∧ Below W.heap.size W w') := fun W h => by
    rw [hq1]; exact implValidAutomaton_any t a ac nx hs A B C D W (hA.sees h) (hB.sees h)
  clear hA0 hB0 B0
  cases q1
  · have HD : Hid (auTx t a ac nx = []) := if_neg (by rw [← hq1]; decide)
    rw [HD.out]
    clear hq1 HD hA hB
    go_enter Tryd.func15, Tryd.ntmps15
    go_wp2_with fail
    rw [← hw0]
    refine (K1.out _ (Sees.refl _)).mono ?_
    rintro e w1 ⟨rfl, hb⟩
    have HW0 := Lib.hid hw0; clear hw0 g0 g1 g2 g3
    have HF := Lib.hid (FIN.out _ hb)
    clear hb
    go_wp2_with fail
    go_ret
    exact ⟨rfl, HF.out⟩
  · obtain ⟨⟨ht0, ht1, ha0, ha1⟩, hl60, hnl, hTl, hall⟩ := aut_parts hq1.symm
    have HALL := Lib.hid hall
    have HE : auTx t a ac nx = autT t a ac nx := if_pos hq1.symm
    obtain ⟨T, hT⟩ : ∃ T, T = autT t a ac nx := ⟨_, rfl⟩
    rw [HE, ← hT]
    rw [← hT] at hTl
    have HTL := Lib.hid hTl
    have h1 : T = (([] ++ ([97, 117, 116, 111, 109, 97, 116, 111, 110, 32] ++ Lib.decDigits t.toNat) ++ ([32] ++ Lib.decDigits a.toNat)) ++ [10]) ++ stsT ac nx := by rw [hT]; unfold autT; simp only [List.append_assoc, List.nil_append]
    obtain ⟨l1, hl1⟩ : ∃ l, l = [] ++ ([97, 117, 116, 111, 109, 97, 116, 111, 110, 32] ++ Lib.decDigits t.toNat) ++ ([32] ++ Lib.decDigits a.toNat) := ⟨_, rfl⟩
    have hl1l : l1.length ≤ 1000000 := by rw [h1, ← hl1] at hTl; simp only [List.length_append] at hTl; omega
    have KSG : Hid (∀ (Bq : Nat) (W : World), Bld Bq [] W → Calls Tryd.prog 36 #[.pointer (some ⟨Bq, 0, none⟩), .string ⟨#[97, 117, 116, 111, 109, 97, 116, 111, 110, 32]⟩, .agg #[.int .i64 t, .int .i64 a]] W fun e w' => e = .returned (.tuple #[]) ∧ Wrote Bq l1 W w') := fun Bq W hW => by
      rw [hl1]; exact writeSig_any [97, 117, 116, 111, 109, 97, 116, 111, 110, 32] t a ⟨ht0, by omega⟩ ⟨ha0, by omega⟩ hW (by simp)
    rw [← hl1] at h1
    have H1 := Lib.hid h1
    have HNL := Lib.hid hnl
    have HAA := Lib.hid hA; have HBB := Lib.hid hB
    have HL1 := Lib.hid hl1l
    have G := Lib.hid (And.intro g0 (And.intro g1 (And.intro g2 g3)))
    have hll : ac.length ≤ 60 := hl60
    clear hnl hq1 HE hT hTl h1 hl1 hl1l hall hl60 ht0 ht1 ha0 ha1 hA hB g0 g1 g2 g3
    go_enter Tryd.func15, Tryd.ntmps15
    go_wp2_with fail
    rw [← hw0]
    refine (K1.out _ (Sees.refl _)).mono ?_
    rintro e w1 ⟨rfl, hb⟩
    have S1 : Hid (Sees w0 w1) := hb
    have HW0 := Lib.hid hw0
    have z01 : w0.heap.size ≤ w1.heap.size := S1.out.size
    have z1 : w.heap.size < w1.heap.size := by omega
    have HSW : Hid (∀ W : World, Below w1.heap.size w1 W → Sees w0 W) := fun W h => sees_behind S1.out h z01
    clear hb K1 hw0
    have x0 := kc S1.out G.out.1
    have x1 := kc S1.out G.out.2.1
    go_wp2_with fail
    refine (KSG.out _ _ (Bld.fresh w1)).mono ?_
    rintro e w2 ⟨rfl, hw2⟩
    have HS2 : Hid (Below w1.heap.size w1 w2) := ((Below.refl _ _).alloc (Nat.le_refl _) _).trans hw2.below
    have HB2 := Lib.hid hw2.bld
    have KW2 : Hid (∀ W : World, Bld w1.heap.size l1 W → Calls Tryd.prog 37 #[.pointer (some ⟨w1.heap.size, 0, none⟩), .string ⟨#[10]⟩] W fun e w' => (∃ z, e = .returned (.tuple #[.int .i64 z, .nilIface])) ∧ Wrote w1.heap.size (l1 ++ [10]) W w') := fun W hW => write_any [10] hW (by have := HL1.out; simp only [List.length_cons, List.length_nil]; omega)
    clear hw2 x0 x1 KSG
    go_wp2_with fail
    refine (KW2.out _ HB2.out).mono ?_
    rintro e w3 ⟨⟨zz3, rfl⟩, hw3⟩
    have HS3 : Hid (Below w1.heap.size w1 w3 ∧ Bld w1.heap.size (l1 ++ [10]) w3) := ⟨HS2.out.trans hw3.below, hw3.bld⟩
    clear hw3 HS2 HB2 KW2
    have x2 := kc (HSW.out _ HS3.out.1) G.out.2.2.1
    go_wp2_with fail
    clear x2
    go_loopw [18] (fun i wr => ∃ (n : Nat) (m : List UInt8), n ≤ ac.length ∧ i = .int .i64 n ∧ Hid (T = m ++ stsT (ac.drop n) (nx.drop n)) ∧ Hid (Below w1.heap.size w1 wr ∧ Bld w1.heap.size m wr)) (fun i _ => ac.length - (intOf i).toNat)
    case atStart => exact ⟨0, _, Nat.zero_le _, rfl, H1.out, HS3.out⟩
    case round =>
      obtain ⟨n, m, hn, rfl, hTn, hW⟩ := hrel
      clear HS3
      obtain ⟨wo, rfl⟩ : ∃ wo, wo = wr := ⟨_, rfl⟩
      by_cases hnl2 : n < ac.length
      · have hn2 : n < nx.length := by rw [HNL.out]; exact hnl2
        obtain ⟨yA, zA, RA, DA, hAe, cA, qA⟩ := bb_row HAA.out hnl2
        obtain ⟨yB, zB, RB, DB, hBe, cB, qB⟩ := iii_row HBB.out hn2
        obtain ⟨hlen, hl8, hrow⟩ := HALL.out n hnl2 hn2
        have hstep := stsT_step hnl2 hn2
        obtain ⟨bs, hbs⟩ : ∃ x, x = ac[n] := ⟨_, rfl⟩
        obtain ⟨rs, hrs⟩ : ∃ x, x = nx[n] := ⟨_, rfl⟩
        rw [← hbs] at cA qA hlen hl8 hstep
        rw [← hrs] at cB qB hlen hrow hstep
        obtain ⟨R1, hR1⟩ : ∃ R, R = stsT (ac.drop (n + 1)) (nx.drop (n + 1)) := ⟨_, rfl⟩
        have HR1 := Lib.hid hR1
        have hT0 : T = (m ++ [115, 116, 97, 116, 101]) ++ (rowsT bs rs ++ ([10] ++ R1)) := by
          rw [hTn.out, hstep, ← hR1]; simp [stT, List.append_assoc]
        have hm5 : m.length + 5 ≤ 1000000 := by have := HTL.out; rw [hT0] at this; simp only [List.length_append, List.length_cons, List.length_nil] at this; omega
        have KW1 : Hid (∀ W : World, Bld w1.heap.size m W → Calls Tryd.prog 37 #[.pointer (some ⟨w1.heap.size, 0, none⟩), .string ⟨#[115, 116, 97, 116, 101]⟩] W fun e w' => (∃ z, e = .returned (.tuple #[.int .i64 z, .nilIface])) ∧ Wrote w1.heap.size (m ++ [115, 116, 97, 116, 101]) W w') := fun W hW => write_any [115, 116, 97, 116, 101] hW (by simp only [List.length_cons, List.length_nil]; omega)
        have HT1 := Lib.hid hT0
        have HLEN := Lib.hid hlen; have HROW := Lib.hid hrow
        have HQA := Lib.hid qA; have HQB := Lib.hid qB
        have HCA := Lib.hid cA; have HCB := Lib.hid cB
        have NL := Lib.hid hnl2
        have n0 : (0 : Int) ≤ (n : Int) := Int.natCast_nonneg _
        have n1 : (n : Int) < (ac.length : Int) := by omega
        have n2 : (n : Int) < (nx.length : Int) := by omega
        have n60 : (n : Int) < 60 := by omega
        have wkn : IntKind.i64.wrap ((n : Int) + 1) = (n : Int) + 1 := IntWalk.i64_in _ (by omega)
        have jtn : ((n : Int) + 1).toNat = n + 1 := by omega
        subst hAe hBe
        clear hbs hrs hR1 hT0 hlen hrow hstep qA qB cA cB hTn hm5 hnl2
        have cA := kc (HSW.out _ hW.out.1) HCA.out
        have x2 := kc (HSW.out _ hW.out.1) G.out.2.2.1
        go_wp2_with fail
        refine (KW1.out _ hW.out.2).mono ?_
        rintro e w4 ⟨⟨zz4, rfl⟩, hw4⟩
        have HS4 : Hid (Below w1.heap.size w1 w4 ∧ Bld w1.heap.size (m ++ [115, 116, 97, 116, 101]) w4) := ⟨hW.out.1.trans hw4.below, hw4.bld⟩
        clear hw4 KW1 cA x2
        have x3 := kc (HSW.out _ HS4.out.1) G.out.2.2.2
        have cB := kc (HSW.out _ HS4.out.1) HCB.out
        go_wp2_with fail
        clear x3 cB
        go_loopw [30] (fun i wr => ∃ (k : Nat) (m : List UInt8), k ≤ rs.length ∧ i = .int .i64 k ∧ Hid (T = m ++ (rowsT (bs.drop k) (rs.drop k) ++ ([10] ++ R1))) ∧ Hid (Below w1.heap.size w1 wr ∧ Bld w1.heap.size m wr)) (fun i _ => rs.length - (intOf i).toNat)
        case atStart => exact ⟨0, _, Nat.zero_le _, rfl, HT1.out, HS4.out⟩
        case round =>
          obtain ⟨k, m, hk, rfl, hTk, hWk⟩ := hrel
          clear HS4
          obtain ⟨wp, rfl⟩ : ∃ wp, wp = wr := ⟨_, rfl⟩
          by_cases hkl : k < rs.length
          · have hk2 : k < bs.length := by have := HLEN.out; omega
            obtain ⟨yR, zR, hRe, cR⟩ := bool_at HQA.out hk2
            obtain ⟨yS, zS, RS, DS, hSe, cS, qS⟩ := ii_row HQB.out hkl
            obtain ⟨hr4, hrv⟩ := HROW.out rs[k] (List.getElem_mem hkl)
            have hstep := rowsT_step hk2 hkl
            obtain ⟨bk, hbk⟩ : ∃ x, x = bs[k] := ⟨_, rfl⟩
            obtain ⟨row, hrowe⟩ : ∃ x, x = rs[k] := ⟨_, rfl⟩
            rw [← hbk] at cR hstep
            rw [← hrowe] at cS qS hr4 hrv hstep
            have HT2 : Hid (T = (m ++ rowT bk row) ++ (rowsT (bs.drop (k + 1)) (rs.drop (k + 1)) ++ ([10] ++ R1))) := by show _ = _; rw [hTk.out, hstep]; simp only [List.append_assoc]
            have KR : Hid (∀ W : World, Below w1.heap.size w1 W → Bld w1.heap.size m W → Calls Tryd.prog 38 #[.pointer (some ⟨w1.heap.size, 0, none⟩), .bool bk, .slice RS row.length DS] W fun e w' => e = .returned (.tuple #[]) ∧ Wrote w1.heap.size (m ++ rowT bk row) W w') := fun W h1 h2 =>
              writeRow_any bk row hr4 hrv RS DS h2 (by have := HTL.out; rw [HT2.out] at this; simp only [List.length_append] at this ⊢; omega) (fun W' h' => ints_ok.below qS (HSW.out _ (h1.trans h')))
            have KL := Lib.hid hkl
            have k0 : (0 : Int) ≤ (k : Int) := Int.natCast_nonneg _
            have k1 : (k : Int) < (rs.length : Int) := by omega
            have k2 : (k : Int) < (bs.length : Int) := by omega
            have k8 : (k : Int) < 8 := by omega
            have wkk : IntKind.i64.wrap ((k : Int) + 1) = (k : Int) + 1 := IntWalk.i64_in _ (by omega)
            have jtk : ((k : Int) + 1).toNat = k + 1 := by omega
            have cR1 := kc (HSW.out _ hWk.out.1) cR
            have cS1 := kc (HSW.out _ hWk.out.1) cS
            subst hRe hSe
            clear hbk hrowe hstep hr4 hrv cR cS qS hTk hkl hk2
            go_wp2_with fail
            refine (KR.out _ hWk.out.1 hWk.out.2).mono ?_
            rintro e w5 ⟨rfl, hw5⟩
            have HS5 : Hid (Below w1.heap.size w1 w5 ∧ Bld w1.heap.size (m ++ rowT bk row) w5) := ⟨hWk.out.1.trans hw5.below, hw5.bld⟩
            clear hw5 KR cR1 cS1
            go_wp2_with fail
            go_roundw
            case rel => exact ⟨k + 1, _, KL.out, by go_num, HT2.out, HS5.out⟩
            case measure => have := KL.out; simp [intOf]; omega
          · obtain rfl : k = rs.length := by omega
            have HT3 : Hid (T = (m ++ [10]) ++ stsT (ac.drop (n + 1)) (nx.drop (n + 1))) := by
              show _ = _; rw [hTk.out, ← HR1.out, show rs.length = bs.length from HLEN.out, rowsT_end]; simp only [List.nil_append, List.append_assoc]
            have hm1 : m.length + 1 ≤ 1000000 := by have := HTL.out; rw [HT3.out] at this; simp only [List.length_append, List.length_cons, List.length_nil] at this; omega
            have KW3 : Hid (∀ W : World, Bld w1.heap.size m W → Calls Tryd.prog 37 #[.pointer (some ⟨w1.heap.size, 0, none⟩), .string ⟨#[10]⟩] W fun e w' => (∃ z, e = .returned (.tuple #[.int .i64 z, .nilIface])) ∧ Wrote w1.heap.size (m ++ [10]) W w') := fun W hW => write_any [10] hW (by simp only [List.length_cons, List.length_nil]; omega)
            clear hTk hm1
            go_wp2_with fail
            refine (KW3.out _ hWk.out.2).mono ?_
            rintro e w6 ⟨⟨zz6, rfl⟩, hw6⟩
            have HS6 : Hid (Below w1.heap.size w1 w6 ∧ Bld w1.heap.size (m ++ [10]) w6) := ⟨hWk.out.1.trans hw6.below, hw6.bld⟩
            clear hw6 KW3
            go_wp2_with fail
            go_roundw
            case rel => exact ⟨n + 1, _, NL.out, by go_num, HT3.out, HS6.out⟩
            case measure => have := NL.out; simp [intOf]; omega
      · obtain rfl : n = ac.length := by omega
        have e1 : T = m := by rw [hTn.out, stsT_end, List.append_nil]
        have KE : Hid (Calls Tryd.prog 39 #[.pointer (some ⟨w1.heap.size, 0, none⟩)] wo fun e w' => e = .returned (.string ⟨T.toArray⟩) ∧ Below w1.heap.size wo w') := by
          show Calls _ _ _ _ _
          rw [e1]; exact string_any hW.out.2
        clear e1
        go_wp2_with fail
        refine KE.out.mono ?_
        rintro e w5 ⟨rfl, hb5⟩
        have HF := Lib.hid (FIN.out _ (HSW.out _ (hW.out.1.trans hb5)))
        clear hb5
        go_wp2_with fail
        go_ret
        exact ⟨rfl, HF.out⟩
end Go.Proofs.YtgeaiadjmadakaaDoor
