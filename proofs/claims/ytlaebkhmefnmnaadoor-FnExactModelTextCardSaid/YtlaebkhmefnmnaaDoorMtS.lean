/- Contracts of spec.l05Bits, spec.l05Text, spec.ModelText. -/
import Derived.Test.YtlaebkhmefnmnaaDoorMtD
import Derived.Test.YtlaebkhmefnmnaaDoorAuS
import Derived.Test.YtlaebkhmefnmnaaDoorVMS
namespace Go.Proofs.YtlaebkhmefnmnaaDoor
open Go.RowKit

theorem ret_str {x y : ByteArray} (h : x = y) : Ending.returned (.string x) = .returned (.string y) := by rw [h]

set_option maxHeartbeats 1000000 in
theorem l05Bits_any (xs : List Bool) (hm : xs.length ≤ 8) (A : Option Addr) (C : Nat) (w : World) (hl : BoolsL 0 w xs A) :
    Calls Tryd.prog 54 #[.slice A xs.length C] w fun e w' => e = .returned (.string ⟨(bitsT xs).toArray⟩) ∧ Below w.heap.size w w' := by
  obtain ⟨T, hT⟩ : ∃ T, T = bitsT xs := ⟨_, rfl⟩
  have HTL : Hid (T.length ≤ 1000000) := by show _ ≤ _; rw [hT, bitsT_len]; omega
  have H0 : Hid (T = [] ++ bitsT (xs.drop 0)) := by show _ = _; rw [hT, List.drop_zero]; rfl
  rw [← hT]
  have HL := Lib.hid hl
  clear hT hl
  go_enter Tryd.func54, Tryd.ntmps54
  go_wp2_with fail
  go_loopw [3, 4] (fun x i wr => ∃ (j : Nat) (l : List UInt8) (s : ByteArray), j ≤ xs.length ∧ i = .int .i64 j ∧ x = .string s ∧ Hid (s = ⟨l.toArray⟩) ∧ Hid (T = l ++ bitsT (xs.drop j)) ∧ Hid (Below w.heap.size w wr)) (fun _ i _ => xs.length - (intOf i).toNat)
  case atStart => exact ⟨0, [], ⟨#[]⟩, Nat.zero_le _, rfl, rfl, rfl, H0.out, Below.refl _ _⟩
  case round =>
    obtain ⟨j, l, s, hj, rfl, rfl, hs, hTm, hw⟩ := hrel
    clear H0
    by_cases hjl : j < xs.length
    · obtain ⟨y, z, hAe, c'⟩ := bool_at HL.out hjl
      have hstep := bitsT_step hjl
      obtain ⟨v, hv⟩ : ∃ x, x = xs[j] := ⟨_, rfl⟩
      rw [← hv] at c' hstep
      have c := kc hw.out c'
      have hT0 : T = l ++ (bitT v ++ bitsT (xs.drop (j + 1))) := by rw [hTm.out, hstep]
      obtain ⟨s2, hs2⟩ : ∃ s2 : ByteArray, s2 = ⟨(l ++ bitT v).toArray⟩ := ⟨_, rfl⟩
      have JL := Lib.hid hjl; have HS2 := Lib.hid hs2
      have j0 : (0 : Int) ≤ (j : Int) := Int.natCast_nonneg _
      have j1 : (j : Int) < (xs.length : Int) := by omega
      subst hAe
      clear hv c' hstep hTm hjl
      cases v
      · obtain ⟨q, hT2⟩ := addf [48] hT0 HTL.out hs.out (u := ⟨#[48]⟩) rfl hs2
        have HT2 := Lib.hid hT2
        clear hT0 hT2 hs2
        go_wp2_with fail
        go_roundw
        case rel => exact ⟨j + 1, _, s2, JL.out, by go_num, rfl, HS2.out, HT2.out, hw⟩
        case measure => have := JL.out; simp [intOf]; omega
      · obtain ⟨q, hT2⟩ := addf [49] hT0 HTL.out hs.out (u := ⟨#[49]⟩) rfl hs2
        have HT2 := Lib.hid hT2
        clear hT0 hT2 hs2
        go_wp2_with fail
        go_roundw
        case rel => exact ⟨j + 1, _, s2, JL.out, by go_num, rfl, HS2.out, HT2.out, hw⟩
        case measure => have := JL.out; simp [intOf]; omega
    · obtain rfl : j = xs.length := by omega
      have HE : Hid (s = ⟨T.toArray⟩) := by show _ = _; rw [hs.out, hTm.out, List.drop_length]; simp [bitsT]
      clear hTm hs
      go_wp2_with fail
      go_ret
      exact ⟨ret_str HE.out, hw.out⟩

set_option maxRecDepth 100000 in
set_option maxHeartbeats 8000000 in
theorem l05Text_any (t a p : Int) (ac : List (List Bool)) (nx : List (List (List Bool))) (hv : validM t a p ac nx = true) (A B : Option Addr) (C D : Nat) (b : Nat) (w : World) (hA : BB 0 w ac A) (hB : BBB 0 w nx B)
    (g0 : w.cell? ⟨b, 0, none⟩ = some (.int .i64 t)) (g1 : w.cell? ⟨b, 1, none⟩ = some (.int .i64 a)) (g2 : w.cell? ⟨b, 2, none⟩ = some (.int .i64 p)) (g3 : w.cell? ⟨b, 3, none⟩ = some (.slice A ac.length C)) (g4 : w.cell? ⟨b, 4, none⟩ = some (.slice B nx.length D)) :
    Calls Tryd.prog 25 #[.pointer (some ⟨b, 0, none⟩)] w fun e w' => e = .returned (.string ⟨(modT t a p ac nx).toArray⟩) ∧ Below w.heap.size w w' := by
  obtain ⟨⟨ht0, ht1, ha0, ha1, hp0, hp1⟩, hl3, hl4, hTl, hac, hnx⟩ := mod_parts hv
  obtain ⟨T, hT⟩ : ∃ T, T = modT t a p ac nx := ⟨_, rfl⟩
  rw [← hT] at hTl ⊢
  have HTL := Lib.hid hTl
  obtain ⟨dt, hdt⟩ : ∃ l, l = Lib.decDigits t.toNat := ⟨_, rfl⟩
  obtain ⟨da, hda⟩ : ∃ l, l = Lib.decDigits a.toNat := ⟨_, rfl⟩
  obtain ⟨dp, hdp⟩ : ∃ l, l = Lib.decDigits p.toNat := ⟨_, rfl⟩
  have d1 := dec_len (n := t.toNat) (by omega)
  have d2 := dec_len (n := a.toNat) (by omega)
  have d3 := dec_len (n := p.toNat) (by omega)
  have h1 : T = headT t a p ++ (tstsT ac ++ actsT nx) := hT
  unfold headT at h1
  rw [← hdt] at d1 h1
  rw [← hda] at d2 h1
  rw [← hdp] at d3 h1
  obtain ⟨s1, hs1⟩ : ∃ s : ByteArray, s = ⟨dt.toArray⟩ := ⟨_, rfl⟩
  obtain ⟨s2, hs2⟩ : ∃ s : ByteArray, s = ⟨da.toArray⟩ := ⟨_, rfl⟩
  obtain ⟨s3, hs3⟩ : ∃ s : ByteArray, s = ⟨dp.toArray⟩ := ⟨_, rfl⟩
  obtain ⟨u1, hu1⟩ : ∃ s : ByteArray, s = ⟨([109, 111, 100, 101, 108, 32] ++ dt).toArray⟩ := ⟨_, rfl⟩
  obtain ⟨u2, hu2⟩ : ∃ s : ByteArray, s = ⟨([109, 111, 100, 101, 108, 32] ++ dt ++ [32]).toArray⟩ := ⟨_, rfl⟩
  obtain ⟨u3, hu3⟩ : ∃ s : ByteArray, s = ⟨([109, 111, 100, 101, 108, 32] ++ dt ++ [32] ++ da).toArray⟩ := ⟨_, rfl⟩
  obtain ⟨u4, hu4⟩ : ∃ s : ByteArray, s = ⟨([109, 111, 100, 101, 108, 32] ++ dt ++ [32] ++ da ++ [32]).toArray⟩ := ⟨_, rfl⟩
  obtain ⟨u5, hu5⟩ : ∃ s : ByteArray, s = ⟨([109, 111, 100, 101, 108, 32] ++ dt ++ [32] ++ da ++ [32] ++ dp).toArray⟩ := ⟨_, rfl⟩
  obtain ⟨u6, hu6⟩ : ∃ s : ByteArray, s = ⟨([109, 111, 100, 101, 108, 32] ++ dt ++ [32] ++ da ++ [32] ++ dp ++ [10]).toArray⟩ := ⟨_, rfl⟩
  have KD1 : Hid (∀ W : World, Calls Tryd.prog 39 #[.int .i64 t] W fun e w' => e = .returned (.string s1) ∧ Below W.heap.size W w') := fun W => by rw [hs1, hdt]; exact decimal_any t ht0 (by omega) W
  have KD2 : Hid (∀ W : World, Calls Tryd.prog 39 #[.int .i64 a] W fun e w' => e = .returned (.string s2) ∧ Below W.heap.size W w') := fun W => by rw [hs2, hda]; exact decimal_any a ha0 (by omega) W
  have KD3 : Hid (∀ W : World, Calls Tryd.prog 39 #[.int .i64 p] W fun e w' => e = .returned (.string s3) ∧ Below W.heap.size W w') := fun W => by rw [hs3, hdp]; exact decimal_any p (by omega) (by omega) W
  have p1 : ∀ W : World, (Op.stringOp .add ⟨#[109, 111, 100, 101, 108, 32]⟩ s1).run Tryd.prog W = .ok (.string u1) W := fun W => by rw [hs1, hu1]; exact add_any [109, 111, 100, 101, 108, 32] dt (by simp only [List.length_cons, List.length_nil]; omega) W
  have p2 : ∀ W : World, (Op.stringOp .add u1 ⟨#[32]⟩).run Tryd.prog W = .ok (.string u2) W := fun W => by rw [hu1, hu2]; exact add_any ([109, 111, 100, 101, 108, 32] ++ dt) [32] (by simp only [List.length_append, List.length_cons, List.length_nil]; omega) W
  have p3 : ∀ W : World, (Op.stringOp .add u2 s2).run Tryd.prog W = .ok (.string u3) W := fun W => by rw [hu2, hs2, hu3]; exact add_any ([109, 111, 100, 101, 108, 32] ++ dt ++ [32]) da (by simp only [List.length_append, List.length_cons, List.length_nil]; omega) W
  have p4 : ∀ W : World, (Op.stringOp .add u3 ⟨#[32]⟩).run Tryd.prog W = .ok (.string u4) W := fun W => by rw [hu3, hu4]; exact add_any ([109, 111, 100, 101, 108, 32] ++ dt ++ [32] ++ da) [32] (by simp only [List.length_append, List.length_cons, List.length_nil]; omega) W
  have p5 : ∀ W : World, (Op.stringOp .add u4 s3).run Tryd.prog W = .ok (.string u5) W := fun W => by rw [hu4, hs3, hu5]; exact add_any ([109, 111, 100, 101, 108, 32] ++ dt ++ [32] ++ da ++ [32]) dp (by simp only [List.length_append, List.length_cons, List.length_nil]; omega) W
  have p6 : ∀ W : World, (Op.stringOp .add u5 ⟨#[10]⟩).run Tryd.prog W = .ok (.string u6) W := fun W => by rw [hu5, hu6]; exact add_any ([109, 111, 100, 101, 108, 32] ++ dt ++ [32] ++ da ++ [32] ++ dp) [10] (by simp only [List.length_append, List.length_cons, List.length_nil]; omega) W
  have HU6 := Lib.hid hu6
  have H1 : Hid (T = ([109, 111, 100, 101, 108, 32] ++ dt ++ [32] ++ da ++ [32] ++ dp ++ [10]) ++ (tstsT (ac.drop 0) ++ actsT nx)) := by show _ = _; rw [h1, List.drop_zero]
  have HAA := Lib.hid hA; have HBB := Lib.hid hB; have HAC := Lib.hid hac; have HNX := Lib.hid hnx
  have S0 : Hid (St w [(b, 0, .int .i64 t), (b, 1, .int .i64 a), (b, 2, .int .i64 p)] w) := ⟨Sees.refl _, g0, g1, g2, trivial⟩
  clear hT hTl hdt hda hdp d1 d2 d3 h1 hs1 hs2 hs3 hu1 hu2 hu3 hu4 hu5 hu6 hA hB hac hnx hv ht0 ht1 ha0 ha1 hp0 hp1
  go_enter Tryd.func25, Tryd.ntmps25
  go_wp2_with fail
  refine wp_region_quietC w [(b, 0, .int .i64 t), (b, 1, .int .i64 a), (b, 2, .int .i64 p)] (by kernel_rfl) (by kernel_rfl) S0.out ?_
  repeat (first | go_big_quiet_skip | (go_big_quiet_want; apply Exists.intro; refine ⟨fun W hW => ?_, ?_⟩; focus (have hK := Lib.hid hW; obtain ⟨hs, hc⟩ := hW; simp only [Has, and_true] at hc; go_simp; (first | (go_at_call_of 39 (Value.int .i64 t); exact quietC_call hK.out (KD1.out _)) | (go_at_call_of 39 (Value.int .i64 a); exact quietC_call hK.out (KD2.out _)) | (go_at_call_of 39 (Value.int .i64 p); exact quietC_call hK.out (KD3.out _)) | rfl))) | (go_simp; go_big_quiet_on))
  refine wpQuiet_nil ?_
  intro w2 H2
  have HT2 := Lib.hid H2.1
  clear H2 S0 KD1 KD2 KD3 p1 p2 p3 p4 p5 p6
  go_wp2_with fail
  go_loopw [3, 4] (fun x i wr => ∃ (n : Nat) (l : List UInt8) (s : ByteArray), n ≤ ac.length ∧ i = .int .i64 n ∧ x = .string s ∧ Hid (s = ⟨l.toArray⟩) ∧ Hid (T = l ++ (tstsT (ac.drop n) ++ actsT nx)) ∧ Hid (Sees w wr)) (fun _ i _ => ac.length - (intOf i).toNat)
  case atStart => exact ⟨0, _, u6, Nat.zero_le _, rfl, rfl, HU6.out, H1.out, HT2.out⟩
  case round =>
    obtain ⟨n, l, s, hn, rfl, rfl, hsl, hTn, hSn⟩ := hrel
    clear HT2 H1 HU6
    have x3 := kc hSn.out g3
    by_cases hnl : n < ac.length
    · obtain ⟨y, z, R, DD, hAe, cA, qA⟩ := bb_row HAA.out hnl
      have hr8 := HAC.out ac[n] (List.getElem_mem hnl)
      have hstep := tstsT_step hnl
      obtain ⟨r, hr⟩ : ∃ x, x = ac[n] := ⟨_, rfl⟩
      rw [← hr] at cA qA hr8 hstep
      obtain ⟨R1, hR1⟩ : ∃ R, R = tstsT (ac.drop (n + 1)) ++ actsT nx := ⟨_, rfl⟩
      have HR1 := Lib.hid hR1
      have hT0 : T = l ++ (([116, 101, 115, 116, 32] ++ bitsT r ++ [10]) ++ R1) := by rw [hTn.out, hstep, hR1]; simp only [List.append_assoc]
      obtain ⟨sb, hsb⟩ : ∃ s' : ByteArray, s' = ⟨(bitsT r).toArray⟩ := ⟨_, rfl⟩
      obtain ⟨v1, hv1⟩ : ∃ s' : ByteArray, s' = ⟨([116, 101, 115, 116, 32] ++ bitsT r).toArray⟩ := ⟨_, rfl⟩
      obtain ⟨v2, hv2⟩ : ∃ s' : ByteArray, s' = ⟨([116, 101, 115, 116, 32] ++ bitsT r ++ [10]).toArray⟩ := ⟨_, rfl⟩
      obtain ⟨v3, hv3⟩ : ∃ s' : ByteArray, s' = ⟨(l ++ ([116, 101, 115, 116, 32] ++ bitsT r ++ [10])).toArray⟩ := ⟨_, rfl⟩
      have hbl := bitsT_len r
      have K : Hid (∀ W : World, Sees w W → Calls Tryd.prog 54 #[.slice R r.length DD] W fun e w' => e = .returned (.string sb) ∧ Below W.heap.size W w') := fun W h => by
        rw [hsb]; exact l05Bits_any r hr8 R DD W (bools_ok.below qA h)
      have q1 : ∀ W : World, (Op.stringOp .add ⟨#[116, 101, 115, 116, 32]⟩ sb).run Tryd.prog W = .ok (.string v1) W := fun W => by rw [hsb, hv1]; exact add_any [116, 101, 115, 116, 32] (bitsT r) (by simp only [List.length_cons, List.length_nil, hbl]; omega) W
      have q2 : ∀ W : World, (Op.stringOp .add v1 ⟨#[10]⟩).run Tryd.prog W = .ok (.string v2) W := fun W => by rw [hv1, hv2]; exact add_any ([116, 101, 115, 116, 32] ++ bitsT r) [10] (by simp only [List.length_append, List.length_cons, List.length_nil, hbl]; omega) W
      obtain ⟨q3, hT2⟩ := addf ([116, 101, 115, 116, 32] ++ bitsT r ++ [10]) hT0 HTL.out hsl.out hv2 hv3
      have HV3 := Lib.hid hv3
      have HT3 : Hid (T = (l ++ ([116, 101, 115, 116, 32] ++ bitsT r ++ [10])) ++ (tstsT (ac.drop (n + 1)) ++ actsT nx)) := by show _ = _; rw [hT2, hR1]
      have cA1 := kc hSn.out cA
      have NL := Lib.hid hnl
      have n0 : (0 : Int) ≤ (n : Int) := Int.natCast_nonneg _
      have n1 : (n : Int) < (ac.length : Int) := by omega
      subst hAe
      clear hr hR1 hT0 hT2 hsb hv1 hv2 hv3 hstep qA cA hTn hsl hnl hbl
      go_wp2_with fail
      refine (K.out _ hSn.out).mono ?_
      rintro e w3 ⟨rfl, hb⟩
      have HS3 := Lib.hid (hSn.out.below hb)
      clear hb x3 cA1
      go_wp2_with fail
      go_roundw
      case rel => exact ⟨n + 1, _, v3, NL.out, by go_num, rfl, HV3.out, HT3.out, HS3.out⟩
      case measure => have := NL.out; simp [intOf]; omega
    · obtain rfl : n = ac.length := by omega
      have H1 : Hid (T = l ++ actsT (nx.drop 0)) := by show _ = _; rw [hTn.out, List.drop_length, List.drop_zero]; rfl
      have HS0 := Lib.hid hsl.out; have HSS := Lib.hid hSn.out
      clear hTn hsl hSn
      go_wp2_with fail
      clear x3
      go_loopw [3, 5] (fun x i wr => ∃ (n : Nat) (l : List UInt8) (s : ByteArray), n ≤ nx.length ∧ i = .int .i64 n ∧ x = .string s ∧ Hid (s = ⟨l.toArray⟩) ∧ Hid (T = l ++ actsT (nx.drop n)) ∧ Hid (Sees w wr)) (fun _ i _ => nx.length - (intOf i).toNat)
      case atStart => exact ⟨0, _, s, Nat.zero_le _, rfl, rfl, HS0.out, H1.out, HSS.out⟩
      case round =>
        obtain ⟨n, l, s, hn, rfl, rfl, hsl, hTn, hSn⟩ := hrel
        clear H1 HS0 HSS
        obtain ⟨wo, rfl⟩ : ∃ wo, wo = wr := ⟨_, rfl⟩
        have x4 := kc hSn.out g4
        by_cases hnl : n < nx.length
        · obtain ⟨y, z, _, hBe, hat⟩ := HBB.out (by rintro rfl; simp at hnl)
          obtain ⟨RB, DB, cB, qB⟩ := hat n nx[n] (List.getElem?_eq_getElem hnl)
          obtain ⟨hr8, hrr⟩ := HNX.out nx[n] (List.getElem_mem hnl)
          have hstep := actsT_step hnl
          obtain ⟨rows, hrows⟩ : ∃ x, x = nx[n] := ⟨_, rfl⟩
          rw [← hrows] at cB qB hr8 hrr hstep
          obtain ⟨R1, hR1⟩ : ∃ R, R = [10] ++ actsT (nx.drop (n + 1)) := ⟨_, rfl⟩
          have HR1 := Lib.hid hR1
          have hT0 : T = l ++ ([97, 99, 116] ++ (rowsB (rows.drop 0) ++ R1)) := by rw [hTn.out, hstep, hR1, List.drop_zero]; simp only [List.append_assoc]
          obtain ⟨v1, hv1⟩ : ∃ s' : ByteArray, s' = ⟨(l ++ [97, 99, 116]).toArray⟩ := ⟨_, rfl⟩
          obtain ⟨q1, hT2⟩ := addf [97, 99, 116] hT0 HTL.out hsl.out (u := ⟨#[97, 99, 116]⟩) rfl hv1
          have HV1 := Lib.hid hv1; have HT2 := Lib.hid hT2
          have HQB := Lib.hid qB; have HRR := Lib.hid hrr; have HCB := Lib.hid cB
          have cB1 := kc hSn.out cB
          have NL := Lib.hid hnl; have HSo := Lib.hid hSn.out
          have n0 : (0 : Int) ≤ (n : Int) := Int.natCast_nonneg _
          have n1 : (n : Int) < (nx.length : Int) := by omega
          have HAT := Lib.hid hat
          subst hBe
          clear hrows hR1 hT0 hT2 hv1 hstep qB cB hTn hsl hrr hat hnl hSn
          go_wp2_with fail
          clear q1 x4 cB1
          go_loopw [3, 6] (fun x i wr => ∃ (k : Nat) (l : List UInt8) (s : ByteArray), k ≤ rows.length ∧ i = .int .i64 k ∧ x = .string s ∧ Hid (s = ⟨l.toArray⟩) ∧ Hid (T = l ++ (rowsB (rows.drop k) ++ R1)) ∧ Hid (Sees w wr)) (fun _ i _ => rows.length - (intOf i).toNat)
          case atStart => exact ⟨0, _, v1, Nat.zero_le _, rfl, rfl, HV1.out, HT2.out, HSo.out⟩
          case round =>
            obtain ⟨k, l, s, hk, rfl, rfl, hsl, hTk, hSk⟩ := hrel
            clear HV1 HT2 HSo
            have x4 := kc hSk.out g4
            have cB1 := kc hSk.out HCB.out
            by_cases hkl : k < rows.length
            · obtain ⟨yr, zr, R, DD, hRe, cA, qA⟩ := bb_row HQB.out hkl
              have hr8' := HRR.out rows[k] (List.getElem_mem hkl)
              have hstep := rowsB_step hkl
              obtain ⟨r, hr⟩ : ∃ x, x = rows[k] := ⟨_, rfl⟩
              rw [← hr] at cA qA hr8' hstep
              have hT0 : T = l ++ (([32] ++ bitsT r) ++ (rowsB (rows.drop (k + 1)) ++ R1)) := by rw [hTk.out, hstep]; simp only [List.append_assoc]
              obtain ⟨sb, hsb⟩ : ∃ s' : ByteArray, s' = ⟨(bitsT r).toArray⟩ := ⟨_, rfl⟩
              obtain ⟨v1, hv1⟩ : ∃ s' : ByteArray, s' = ⟨([32] ++ bitsT r).toArray⟩ := ⟨_, rfl⟩
              obtain ⟨v3, hv3⟩ : ∃ s' : ByteArray, s' = ⟨(l ++ ([32] ++ bitsT r)).toArray⟩ := ⟨_, rfl⟩
              have hbl := bitsT_len r
              have K : Hid (∀ W : World, Sees w W → Calls Tryd.prog 54 #[.slice R r.length DD] W fun e w' => e = .returned (.string sb) ∧ Below W.heap.size W w') := fun W h => by
                rw [hsb]; exact l05Bits_any r hr8' R DD W (bools_ok.below qA h)
              have q1 : ∀ W : World, (Op.stringOp .add ⟨#[32]⟩ sb).run Tryd.prog W = .ok (.string v1) W := fun W => by rw [hsb, hv1]; exact add_any [32] (bitsT r) (by simp only [List.length_cons, List.length_nil, hbl]; omega) W
              obtain ⟨q3, hT2⟩ := addf ([32] ++ bitsT r) hT0 HTL.out hsl.out hv1 hv3
              have HV3 := Lib.hid hv3; have HT3 := Lib.hid hT2
              have cA1 := kc hSk.out cA
              have KL := Lib.hid hkl
              have k0 : (0 : Int) ≤ (k : Int) := Int.natCast_nonneg _
              have k1 : (k : Int) < (rows.length : Int) := by omega
              subst hRe
              clear hr hT0 hT2 hsb hv1 hv3 hstep qA cA hTk hsl hkl hbl
              go_wp2_with fail
              refine (K.out _ hSk.out).mono ?_
              rintro e w3 ⟨rfl, hb⟩
              have HS3 := Lib.hid (hSk.out.below hb)
              clear hb x4 cB1 cA1
              go_wp2_with fail
              go_roundw
              case rel => exact ⟨k + 1, _, v3, KL.out, by go_num, rfl, HV3.out, HT3.out, HS3.out⟩
              case measure => have := KL.out; simp [intOf]; omega
            · obtain rfl : k = rows.length := by omega
              have hT0 : T = l ++ ([10] ++ actsT (nx.drop (n + 1))) := by rw [hTk.out, List.drop_length, HR1.out]; rfl
              obtain ⟨v3, hv3⟩ : ∃ s' : ByteArray, s' = ⟨(l ++ [10]).toArray⟩ := ⟨_, rfl⟩
              obtain ⟨q3, hT2⟩ := addf [10] hT0 HTL.out hsl.out (u := ⟨#[10]⟩) rfl hv3
              have HV3 := Lib.hid hv3; have HT3 := Lib.hid hT2
              clear hT0 hT2 hv3 hTk hsl
              go_wp2_with fail
              go_roundw
              case rel => exact ⟨n + 1, _, v3, NL.out, by go_num, rfl, HV3.out, HT3.out, hSk.out⟩
              case measure => have := NL.out; simp [intOf]; omega
        · obtain rfl : n = nx.length := by omega
          have HE : Hid (s = ⟨T.toArray⟩) := by show _ = _; rw [hsl.out, hTn.out, List.drop_length]; simp [actsT]
          have HS := Lib.hid hSn.out
          clear hTn hsl hSn
          go_wp2_with fail
          go_ret
          exact ⟨ret_str HE.out, HS.out⟩

set_option maxRecDepth 100000 in
theorem specModelText_any (t a p : Int) (ac : List (List Bool)) (nx : List (List (List Bool))) (hs : SmallM ac nx) (A B : Option Addr) (C D : Nat) (w : World) (hA : BB 0 w ac A) (hB : BBB 0 w nx B) :
    Calls Tryd.prog 7 #[.agg #[.int .i64 t, .int .i64 a, .int .i64 p, .slice A ac.length C, .slice B nx.length D]] w fun e w' => e = .returned (.string ⟨(moTx t a p ac nx).toArray⟩) ∧ Below w.heap.size w w' := by
  obtain ⟨q, hq⟩ : ∃ q : Bool, q = validM t a p ac nx := ⟨_, rfl⟩
  have K : Hid (∀ W : World, St w [(w.heap.size, 0, .int .i64 t), (w.heap.size, 1, .int .i64 a), (w.heap.size, 2, .int .i64 p), (w.heap.size, 3, .slice A ac.length C), (w.heap.size, 4, .slice B nx.length D)] W → Calls Tryd.prog 24 #[.pointer (some ⟨w.heap.size, 0, none⟩)] W fun e w' => e = .returned (.bool q) ∧ Below W.heap.size W w') := fun W h => by
    rw [hq]
    exact l05Ok_any t a p ac nx hs A B C D _ W (bb_ok.below hA h.1) (bbb_ok.below hB h.1) h.2.1 h.2.2.1 h.2.2.2.1 h.2.2.2.2.1 h.2.2.2.2.2.1
  cases q
  · have HE : moTx t a p ac nx = [] := if_neg (by rw [← hq]; decide)
    rw [HE]
    clear HE hq hA hB hs
    go_enter Tryd.func7, Tryd.ntmps7
    go_wp2_with fail
    refine (K.out _ ⟨(by unfold Sees; go_grown), (by simp [go_sem]), (by simp [go_sem]), (by simp [go_sem]), (by simp [go_sem]), (by simp [go_sem]), trivial⟩).mono ?_
    rintro e w1 ⟨rfl, hb⟩
    have B1 : Sees w w1 := Sees.below (by unfold Sees; go_grown) hb
    clear hb
    go_wp2_with fail
    go_ret
    exact ⟨rfl, B1⟩
  · have HE : moTx t a p ac nx = modT t a p ac nx := if_pos hq.symm
    rw [HE]
    obtain ⟨sT, hsT⟩ : ∃ s : ByteArray, s = ⟨(modT t a p ac nx).toArray⟩ := ⟨_, rfl⟩
    have K2 : Hid (∀ W : World, St w [(w.heap.size, 0, .int .i64 t), (w.heap.size, 1, .int .i64 a), (w.heap.size, 2, .int .i64 p), (w.heap.size, 3, .slice A ac.length C), (w.heap.size, 4, .slice B nx.length D)] W → Calls Tryd.prog 25 #[.pointer (some ⟨w.heap.size, 0, none⟩)] W fun e w' => e = .returned (.string sT) ∧ Below W.heap.size W w') := fun W h => by
      rw [hsT]
      exact l05Text_any t a p ac nx hq.symm A B C D _ W (bb_ok.below hA h.1) (bbb_ok.below hB h.1) h.2.1 h.2.2.1 h.2.2.2.1 h.2.2.2.2.1 h.2.2.2.2.2.1
    rw [← hsT]
    clear HE hq hA hB hs hsT
    go_enter Tryd.func7, Tryd.ntmps7
    go_wp2_with fail
    refine (K.out _ ⟨(by unfold Sees; go_grown), (by simp [go_sem]), (by simp [go_sem]), (by simp [go_sem]), (by simp [go_sem]), (by simp [go_sem]), trivial⟩).mono ?_
    rintro e w1 ⟨rfl, hb⟩
    have S1 := St.below (w := w) (l := [(w.heap.size, 0, .int .i64 t), (w.heap.size, 1, .int .i64 a), (w.heap.size, 2, .int .i64 p), (w.heap.size, 3, .slice A ac.length C), (w.heap.size, 4, .slice B nx.length D)]) ⟨(by unfold Sees; go_grown), (by simp [go_sem]), (by simp [go_sem]), (by simp [go_sem]), (by simp [go_sem]), (by simp [go_sem]), trivial⟩ hb
    have HS1 := Lib.hid S1
    clear hb S1
    go_wp2_with fail
    refine (K2.out _ HS1.out).mono ?_
    rintro e w2 ⟨rfl, hb⟩
    have B2 := HS1.out.1.below hb
    clear hb
    go_wp2_with fail
    go_ret
    exact ⟨rfl, B2⟩
end Go.Proofs.YtlaebkhmefnmnaaDoor
