/- Contract of spec.AutomatonText. -/
import Derived.Test.YtlaebkhmefnmnaaDoorAuD
import Derived.Test.YtlaebkhmefnmnaaDoorDec2
import Derived.Test.YtlaebkhmefnmnaaDoorRunD
import Derived.Test.YtlaebkhmefnmnaaDoorQuietC
namespace Go.Proofs.YtlaebkhmefnmnaaDoor
open Go.RowKit

theorem addf {T l R : List UInt8} (m : List UInt8) (h : T = l ++ (m ++ R)) (hT : T.length ≤ 1000000) {s u s' : ByteArray} (hs : s = ⟨l.toArray⟩) (hu : u = ⟨m.toArray⟩) (hs' : s' = ⟨(l ++ m).toArray⟩) :
    (∀ W : World, (Op.stringOp .add s u).run Tryd.prog W = .ok (.string s') W) ∧ T = (l ++ m) ++ R := by
  have hl : l.length + m.length ≤ 1000000 := by rw [h] at hT; simp only [List.length_append] at hT; omega
  exact ⟨fun W => by rw [hs, hu, hs']; exact add_any l m (by omega) W, by rw [h, List.append_assoc]⟩
/-- A row of a list of lists. -/
theorem bb_row {ac : List (List Bool)} {w : World} {A : Option Addr} (h : BB 0 w ac A) {i : Nat} (hi : i < ac.length) :
    ∃ y z R D, A = some ⟨y, z, none⟩ ∧ w.cell? ⟨y, z + i, none⟩ = some (.slice R ac[i].length D) ∧ BoolsL 0 w ac[i] R := by
  obtain ⟨y, z, _, hA, hat⟩ := h (by rintro rfl; simp at hi)
  obtain ⟨R, D, c, q⟩ := hat i ac[i] (List.getElem?_eq_getElem hi)
  exact ⟨y, z, R, D, hA, c, q⟩
theorem iii_row {nx : List (List (List Int))} {w : World} {B : Option Addr} (h : III 0 w nx B) {i : Nat} (hi : i < nx.length) :
    ∃ y z R D, B = some ⟨y, z, none⟩ ∧ w.cell? ⟨y, z + i, none⟩ = some (.slice R nx[i].length D) ∧ II 0 w nx[i] R := by
  obtain ⟨y, z, _, hA, hat⟩ := h (by rintro rfl; simp at hi)
  obtain ⟨R, D, c, q⟩ := hat i nx[i] (List.getElem?_eq_getElem hi)
  exact ⟨y, z, R, D, hA, c, q⟩
theorem ii_row {nx : List (List Int)} {w : World} {B : Option Addr} (h : II 0 w nx B) {i : Nat} (hi : i < nx.length) :
    ∃ y z R D, B = some ⟨y, z, none⟩ ∧ w.cell? ⟨y, z + i, none⟩ = some (.slice R nx[i].length D) ∧ IntsL 0 w nx[i] R := by
  obtain ⟨y, z, _, hA, hat⟩ := h (by rintro rfl; simp at hi)
  obtain ⟨R, D, c, q⟩ := hat i nx[i] (List.getElem?_eq_getElem hi)
  exact ⟨y, z, R, D, hA, c, q⟩
theorem bool_at {xs : List Bool} {w : World} {A : Option Addr} (h : BoolsL 0 w xs A) {i : Nat} (hi : i < xs.length) : ∃ y z, A = some ⟨y, z, none⟩ ∧ w.cell? ⟨y, z + i, none⟩ = some (.bool xs[i]) := by
  obtain ⟨y, z, _, hA, hat⟩ := h (by rintro rfl; simp at hi)
  exact ⟨y, z, hA, hat i xs[i] (List.getElem?_eq_getElem hi)⟩
theorem int_at {xs : List Int} {w : World} {A : Option Addr} (h : IntsL 0 w xs A) {i : Nat} (hi : i < xs.length) : ∃ y z, A = some ⟨y, z, none⟩ ∧ w.cell? ⟨y, z + i, none⟩ = some (.int .i64 xs[i]) := by
  obtain ⟨y, z, _, hA, hat⟩ := h (by rintro rfl; simp at hi)
  exact ⟨y, z, hA, hat i xs[i] (List.getElem?_eq_getElem hi)⟩
theorem atoms8 (t : Int) : atomsN t ≤ 8 := (atomsN_bd t).2

/-- What is known of a valid automaton. -/
theorem aut_parts {t a : Int} {ac : List (List Bool)} {nx : List (List (List Int))} (hv : validA t a ac nx = true) : (0 ≤ t ∧ t ≤ 3 ∧ 0 ≤ a ∧ a ≤ 4) ∧ ac.length ≤ 60 ∧ nx.length = ac.length ∧ (autT t a ac nx).length ≤ 1000000 ∧
    ∀ s (h1 : s < ac.length) (h2 : s < nx.length), nx[s].length = ac[s].length ∧ ac[s].length ≤ 8 ∧ ∀ row ∈ nx[s], row.length ≤ 4 ∧ ∀ v ∈ row, -1 ≤ v ∧ v < 100 := by
  obtain ⟨h1, h2, h3, h4, h5⟩ := valid_at hv
  have hs := sigOk_of h1
  have h8 := atoms8 t
  have hall : ∀ s (h1 : s < ac.length) (h2 : s < nx.length), nx[s].length = ac[s].length ∧ ac[s].length ≤ 8 ∧ ∀ row ∈ nx[s], row.length ≤ 4 ∧ ∀ v ∈ row, -1 ≤ v ∧ v < 100 := by
    intro s g1 g2
    obtain ⟨e1, e2, e3⟩ := h5 s g1 g2
    refine ⟨by omega, by omega, fun row hr => ?_⟩
    obtain ⟨f1, f2⟩ := e3 row hr
    exact ⟨by omega, fun v hv => by have := f2 v hv; omega⟩
  refine ⟨hs, h3, h4, ?_, hall⟩
  have hl := stsT_len 4 8 ac nx (fun b hb => by
      obtain ⟨i, hi, rfl⟩ := List.getElem_of_mem hb
      exact (hall i hi (by omega)).2.1) (fun s hs r hr => by
      obtain ⟨i, hi, rfl⟩ := List.getElem_of_mem hs
      obtain ⟨f1, f2⟩ := (hall i (by omega) hi).2.2 r hr
      exact ⟨f1, fun x hx => (f2 x hx).2⟩)
  have d1 := dec_len (n := t.toNat) (by omega)
  have d2 := dec_len (n := a.toNat) (by omega)
  unfold autT
  simp only [List.length_append, List.length_cons, List.length_nil]
  omega

set_option maxRecDepth 100000 in
set_option maxHeartbeats 4000000 in
theorem specAutomatonText_any (t a : Int) (ac : List (List Bool)) (nx : List (List (List Int))) (hs : SmallA ac nx) (A B : Option Addr) (C D : Nat) (w : World) (hA : BB 0 w ac A) (hB : III 0 w nx B) :
    Calls Tryd.prog 12 #[.agg #[.int .i64 t, .int .i64 a, .slice A ac.length C, .slice B nx.length D]] w fun e w' => e = .returned (.string ⟨(auTx t a ac nx).toArray⟩) ∧ Below w.heap.size w w' := by
  obtain ⟨q1, hq1⟩ : ∃ q1 : Bool, q1 = validA t a ac nx := ⟨_, rfl⟩
  have K1 : Hid (∀ W : World, Sees w W → W.heap[w.heap.size]? = some (.cells #[.int .i64 t, .int .i64 a, .slice A ac.length C, .slice B nx.length D] 42 (0, 0)) → Calls Tryd.prog 38 #[.pointer (some ⟨w.heap.size, 0, none⟩)] W fun e w' => e = .returned (.bool q1) ∧ Below W.heap.size W w') := fun W h hb => by
    rw [hq1]; exact l02Ok_any t a ac nx hs A B C D w.heap.size W (hA.sees h) (hB.sees h) (Fo.cell_of_block hb 0) (Fo.cell_of_block hb 1) (Fo.cell_of_block hb 2) (Fo.cell_of_block hb 3)
  cases q1
  · have HD : Hid (auTx t a ac nx = []) := if_neg (by rw [← hq1]; decide)
    rw [HD.out]
    clear hq1 HD
    go_enter Tryd.func12, Tryd.ntmps12
    go_wp2_with fail
    refine (K1.out _ (by unfold Sees; go_grown) (heap_new _ _ _ rfl)).mono ?_
    rintro e w1 ⟨rfl, hb⟩
    have B1 : Sees w w1 := Sees.below (by unfold Sees; go_grown) hb
    clear hb
    go_wp2_with fail
    go_ret
    exact ⟨rfl, B1⟩
  · obtain ⟨⟨ht0, ht1, ha0, ha1⟩, hl60, hnl, hTl, hall⟩ := aut_parts hq1.symm
    have HALL := Lib.hid hall
    have HE : auTx t a ac nx = autT t a ac nx := if_pos hq1.symm
    obtain ⟨T, hT⟩ : ∃ T, T = autT t a ac nx := ⟨_, rfl⟩
    rw [HE, ← hT]
    rw [← hT] at hTl
    have HTL := Lib.hid hTl
    have h1 : T = ([97, 117, 116, 111, 109, 97, 116, 111, 110, 32] ++ Lib.decDigits t.toNat ++ [32] ++ Lib.decDigits a.toNat ++ [10]) ++ stsT ac nx := hT
    obtain ⟨dt, hdt⟩ : ∃ l, l = Lib.decDigits t.toNat := ⟨_, rfl⟩
    obtain ⟨da, hda⟩ : ∃ l, l = Lib.decDigits a.toNat := ⟨_, rfl⟩
    have d1 := dec_len (n := t.toNat) (by omega)
    have d2 := dec_len (n := a.toNat) (by omega)
    rw [← hdt] at d1 h1
    rw [← hda] at d2 h1
    obtain ⟨s1, hs1⟩ : ∃ s : ByteArray, s = ⟨dt.toArray⟩ := ⟨_, rfl⟩
    obtain ⟨s2, hs2⟩ : ∃ s : ByteArray, s = ⟨da.toArray⟩ := ⟨_, rfl⟩
    obtain ⟨s3, hs3⟩ : ∃ s : ByteArray, s = ⟨([97, 117, 116, 111, 109, 97, 116, 111, 110, 32] ++ dt).toArray⟩ := ⟨_, rfl⟩
    obtain ⟨s4, hs4⟩ : ∃ s : ByteArray, s = ⟨([97, 117, 116, 111, 109, 97, 116, 111, 110, 32] ++ dt ++ [32]).toArray⟩ := ⟨_, rfl⟩
    obtain ⟨s5, hs5⟩ : ∃ s : ByteArray, s = ⟨([97, 117, 116, 111, 109, 97, 116, 111, 110, 32] ++ dt ++ [32] ++ da).toArray⟩ := ⟨_, rfl⟩
    obtain ⟨s6, hs6⟩ : ∃ s : ByteArray, s = ⟨([97, 117, 116, 111, 109, 97, 116, 111, 110, 32] ++ dt ++ [32] ++ da ++ [10]).toArray⟩ := ⟨_, rfl⟩
    obtain ⟨s7, hs7⟩ : ∃ s : ByteArray, s = ⟨T.toArray⟩ := ⟨_, rfl⟩
    have KD1 : Hid (∀ W : World, Calls Tryd.prog 39 #[.int .i64 t] W fun e w' => e = .returned (.string s1) ∧ Below W.heap.size W w') := fun W => by rw [hs1, hdt]; exact decimal_any t ht0 (by omega) W
    have KD2 : Hid (∀ W : World, Calls Tryd.prog 39 #[.int .i64 a] W fun e w' => e = .returned (.string s2) ∧ Below W.heap.size W w') := fun W => by rw [hs2, hda]; exact decimal_any a ha0 (by omega) W
    have p1 : ∀ W : World, (Op.stringOp .add ⟨#[97, 117, 116, 111, 109, 97, 116, 111, 110, 32]⟩ s1).run Tryd.prog W = .ok (.string s3) W := fun W => by rw [hs1, hs3]; exact add_any [97, 117, 116, 111, 109, 97, 116, 111, 110, 32] dt (by simp only [List.length_cons, List.length_nil]; omega) W
    have p2 : ∀ W : World, (Op.stringOp .add s3 ⟨#[32]⟩).run Tryd.prog W = .ok (.string s4) W := fun W => by rw [hs3, hs4]; exact add_any ([97, 117, 116, 111, 109, 97, 116, 111, 110, 32] ++ dt) [32] (by simp only [List.length_append, List.length_cons, List.length_nil]; omega) W
    have p3 : ∀ W : World, (Op.stringOp .add s4 s2).run Tryd.prog W = .ok (.string s5) W := fun W => by rw [hs4, hs2, hs5]; exact add_any ([97, 117, 116, 111, 109, 97, 116, 111, 110, 32] ++ dt ++ [32]) da (by simp only [List.length_append, List.length_cons, List.length_nil]; omega) W
    have p4 : ∀ W : World, (Op.stringOp .add s5 ⟨#[10]⟩).run Tryd.prog W = .ok (.string s6) W := fun W => by rw [hs5, hs6]; exact add_any ([97, 117, 116, 111, 109, 97, 116, 111, 110, 32] ++ dt ++ [32] ++ da) [10] (by simp only [List.length_append, List.length_cons, List.length_nil]; omega) W
    have HS6 := Lib.hid hs6; have HS7 := Lib.hid hs7; have H1 := Lib.hid h1
    rw [← hs7]
    have hll : ac.length ≤ 60 := hl60
    have HNL := Lib.hid hnl
    have HAA := Lib.hid hA; have HBB := Lib.hid hB
    clear hnl hq1 HE hT hTl h1 hdt hda d1 d2 hs1 hs2 hs3 hs4 hs5 hs6 hs7 hall hl60 ht0 ht1 ha0 ha1 hA hB
    go_enter Tryd.func12, Tryd.ntmps12
    go_wp2_with fail
    refine (K1.out _ (by unfold Sees; go_grown) (heap_new _ _ _ rfl)).mono ?_
    rintro e w1 ⟨rfl, hb⟩
    have B1 : Sees w w1 := Sees.below (by unfold Sees; go_grown) hb
    have HBX : Hid (w1.heap[w.heap.size]? = some (.cells #[.int .i64 t, .int .i64 a, .slice A ac.length C, .slice B nx.length D] 42 (0, 0))) := (hb.block _ (by simp)).trans (heap_new _ _ _ rfl)
    have zx : w.heap.size < w1.heap.size := (Array.getElem?_eq_some_iff.1 HBX.out).1
    have hX : Hid (St w1 [(w.heap.size, 0, .int .i64 t), (w.heap.size, 1, .int .i64 a)] w1) := ⟨Sees.refl _, Fo.cell_of_block HBX.out 0, Fo.cell_of_block HBX.out 1, trivial⟩
    have HB1 := Lib.hid B1
    clear hb K1
    go_wp2_with fail
    refine wp_region_quietC w1 [(w.heap.size, 0, .int .i64 t), (w.heap.size, 1, .int .i64 a)] (by kernel_rfl) (by kernel_rfl) hX.out ?_
    repeat (first | go_big_quiet_skip | (go_big_quiet_want; apply Exists.intro; refine ⟨fun W hW => ?_, ?_⟩; focus (have hK := Lib.hid hW; obtain ⟨hs, hc⟩ := hW; simp only [Has, and_true] at hc; go_simp; (first | (go_at_call_of 39 (Value.int .i64 t); exact quietC_call hK.out (KD1.out _)) | (go_at_call_of 39 (Value.int .i64 a); exact quietC_call hK.out (KD2.out _)) | rfl))) | (go_simp; go_big_quiet_on))
    refine wpQuiet_nil ?_
    intro w2 H2
    have HT2 := Lib.hid H2.1
    clear H2 hX KD1 KD2 p1 p2 p3 p4
    go_wp2_with fail
    go_loopw [3, 4] (fun x i wr => ∃ (n : Nat) (l : List UInt8) (s : ByteArray), n ≤ ac.length ∧ i = .int .i64 n ∧ x = .string s ∧ Hid (s = ⟨l.toArray⟩) ∧ Hid (T = l ++ stsT (ac.drop n) (nx.drop n)) ∧ Hid (Sees w1 wr)) (fun _ i _ => ac.length - (intOf i).toNat)
    case atStart => exact ⟨0, _, s6, Nat.zero_le _, rfl, rfl, HS6.out, H1.out, HT2.out⟩
    case round =>
      obtain ⟨n, l, s, hn, rfl, rfl, hsl, hTn, hSn⟩ := hrel
      clear HT2
      obtain ⟨wo, rfl⟩ : ∃ wo, wo = wr := ⟨_, rfl⟩
      have hbx := (hSn.out.block _ zx).trans HBX.out
      have x2 : wo.cell? ⟨w.heap.size, 2, none⟩ = some (.slice A ac.length C) := Fo.cell_of_block hbx 2
      have x3 : wo.cell? ⟨w.heap.size, 3, none⟩ = some (.slice B nx.length D) := Fo.cell_of_block hbx 3
      by_cases hnl2 : n < ac.length
      · have hn2 : n < nx.length := by rw [HNL.out]; exact hnl2
        obtain ⟨yA, zA, RA, DA, hAe, cA, qA⟩ := bb_row HAA.out hnl2
        obtain ⟨yB, zB, RB, DB, hBe, cB, qB⟩ := iii_row HBB.out hn2
        obtain ⟨hlen, hl8, hrow⟩ := HALL.out n hnl2 hn2
        have hstep := stsT_step hnl2 hn2
        obtain ⟨bs, hbs⟩ : ∃ x, x = ac[n] := ⟨_, rfl⟩
        obtain ⟨rs, hrs⟩ : ∃ x, x = nx[n] := ⟨_, rfl⟩
        rw [← hbs] at cA qA hlen hl8 hstep
        rw [← hrs] at cB qB hlen hrow hstep
        obtain ⟨R1, hR1⟩ : ∃ R, R = stsT (ac.drop (n + 1)) (nx.drop (n + 1)) := ⟨_, rfl⟩
        have HR1 := Lib.hid hR1
        have hT0 : T = l ++ ([115, 116, 97, 116, 101] ++ (rowsT bs rs ++ ([10] ++ R1))) := by
          rw [hTn.out, hstep, ← hR1]; simp [stT, List.append_assoc]
        obtain ⟨u1, hu1⟩ : ∃ s' : ByteArray, s' = ⟨(l ++ [115, 116, 97, 116, 101]).toArray⟩ := ⟨_, rfl⟩
        obtain ⟨q1, hT1⟩ := addf [115, 116, 97, 116, 101] hT0 HTL.out hsl.out (u := ⟨#[115, 116, 97, 116, 101]⟩) rfl hu1
        have HU1 := Lib.hid hu1; have HT1 := Lib.hid hT1
        have HLEN := Lib.hid hlen; have HROW := Lib.hid hrow
        have HQA := Lib.hid qA; have HQB := Lib.hid qB
        have HSO : Hid (Sees w wo) := HB1.out.below hSn.out
        have cA1 := kc HSO.out cA
        have cB1 := kc HSO.out cB
        have NL := Lib.hid hnl2
        have HSn2 := Lib.hid hSn.out
        have zw : w1.heap.size ≤ wo.heap.size := hSn.out.size
        have HCA := Lib.hid cA1; have HCB := Lib.hid cB1; have HX2 := Lib.hid x2; have HX3 := Lib.hid x3
        subst hAe hBe
        clear hbs hrs hR1 hT0 hT1 hu1 hlen hrow hstep qA qB cA cB hTn hsl hSn hbx
        have n0 : (0 : Int) ≤ (n : Int) := Int.natCast_nonneg _
        have n1 : (n : Int) < (ac.length : Int) := by omega
        have n2 : (n : Int) < (nx.length : Int) := by omega
        go_wp2_with fail
        go_loopw [3, 5] (fun x i wr => ∃ (k : Nat) (l : List UInt8) (s : ByteArray), k ≤ bs.length ∧ i = .int .i64 k ∧ x = .string s ∧ Hid (s = ⟨l.toArray⟩) ∧ Hid (T = l ++ (rowsT (bs.drop k) (rs.drop k) ++ ([10] ++ R1))) ∧ Hid (Sees wo wr)) (fun _ i _ => bs.length - (intOf i).toNat)
        case atStart => exact ⟨0, _, u1, Nat.zero_le _, rfl, rfl, HU1.out, HT1.out, Sees.refl _⟩
        case round =>
          obtain ⟨k, l, s, hk, rfl, rfl, hsl, hTk, hSk⟩ := hrel
          obtain ⟨wp, rfl⟩ : ∃ wp, wp = wr := ⟨_, rfl⟩
          clear q1 x2 x3 cA1 cB1
          have x2 := kc hSk.out HX2.out
          have x3 := kc hSk.out HX3.out
          have cA := kc hSk.out HCA.out
          have cB := kc hSk.out HCB.out
          by_cases hkl : k < bs.length
          · have hk2 : k < rs.length := by rw [HLEN.out]; exact hkl
            obtain ⟨yR, zR, hRe, cR⟩ := bool_at HQA.out hkl
            obtain ⟨yS, zS, RS, DS, hSe, cS, qS⟩ := ii_row HQB.out hk2
            obtain ⟨hr4, hrv⟩ := HROW.out rs[k] (List.getElem_mem hk2)
            have hstep := rowsT_step hkl hk2
            obtain ⟨bk, hbk⟩ : ∃ x, x = bs[k] := ⟨_, rfl⟩
            obtain ⟨row, hrowe⟩ : ∃ x, x = rs[k] := ⟨_, rfl⟩
            rw [← hbk] at cR hstep
            rw [← hrowe] at cS qS hr4 hrv hstep
            obtain ⟨R2, hR2⟩ : ∃ R, R = rowsT (bs.drop (k + 1)) (rs.drop (k + 1)) ++ ([10] ++ R1) := ⟨_, rfl⟩
            have HR2 := Lib.hid hR2
            have hT0 : T = l ++ (markT bk ++ (cellsT row ++ R2)) := by rw [hTk.out, hstep, hR2]; simp [rowT, List.append_assoc]
            obtain ⟨u2, hu2⟩ : ∃ s' : ByteArray, s' = ⟨(l ++ markT bk).toArray⟩ := ⟨_, rfl⟩
            have HSP : Hid (Sees w wp) := HSO.out.below hSk.out
            have cR1 := kc HSP.out cR
            have cS1 := kc HSP.out cS
            have KL := Lib.hid hkl
            have HRV := Lib.hid hrv; have HQS := Lib.hid qS
            have zw2 : wo.heap.size ≤ wp.heap.size := hSk.out.size
            have HSk := Lib.hid hSk.out
            have k0 : (0 : Int) ≤ (k : Int) := Int.natCast_nonneg _
            have k1 : (k : Int) < (bs.length : Int) := by omega
            have k2 : (k : Int) < (rs.length : Int) := by omega
            have HDX : Hid (wp.cell? ⟨w.heap.size, 2, none⟩ = some (.slice (some ⟨yA, zA, none⟩) ac.length C) ∧ wp.cell? ⟨w.heap.size, 3, none⟩ = some (.slice (some ⟨yB, zB, none⟩) nx.length D)) := ⟨x2, x3⟩
            subst hRe hSe
            have HDS : Hid (wp.cell? ⟨yB, zB + n, none⟩ = some (.slice (some ⟨yS, zS, none⟩) rs.length DB) ∧ wp.cell? ⟨yS, zS + k, none⟩ = some (.slice RS row.length DS)) := ⟨cB, cS1⟩
            clear hbk hrowe hR2 hstep qS cR cS hTk hSk hrv
            cases bk
            · have hT0' : T = l ++ ([32, 45] ++ (cellsT row ++ R2)) := hT0
              have hu2' : u2 = ⟨(l ++ [32, 45]).toArray⟩ := hu2
              obtain ⟨q2, hT2⟩ := addf [32, 45] hT0' HTL.out hsl.out (u := ⟨#[32, 45]⟩) rfl hu2'
              have HU2 := Lib.hid hu2; have HT2 := Lib.hid hT2
              clear hu2 hT0 hT2 hT0' hu2'
              go_wp2_with fail
              go_loopw [3, 6] (fun x i wr => ∃ (c : Nat) (l : List UInt8) (s : ByteArray), c ≤ row.length ∧ i = .int .i64 c ∧ x = .string s ∧ Hid (s = ⟨l.toArray⟩) ∧ Hid (T = l ++ (cellsT (row.drop c) ++ R2)) ∧ Hid (Sees wp wr)) (fun _ i _ => row.length - (intOf i).toNat)
              case atStart => exact ⟨0, _, u2, Nat.zero_le _, rfl, rfl, HU2.out, HT2.out, Sees.refl _⟩
              case round =>
                obtain ⟨c, l, s, hc, rfl, rfl, hsl, hTc, hSc⟩ := hrel
                clear q2 x2 x3 cA cB cR1 cS1
                have x3 := kc hSc.out HDX.out.2
                have cB := kc hSc.out HDS.out.1
                have cS := kc hSc.out HDS.out.2
                by_cases hcl : c < row.length
                · obtain ⟨yV, zV, hVe, cV⟩ := int_at HQS.out hcl
                  obtain ⟨hv0, hv1⟩ := HRV.out row[c] (List.getElem_mem hcl)
                  have hstep := cellsT_step hcl
                  obtain ⟨v, hv⟩ : ∃ x, x = row[c] := ⟨_, rfl⟩
                  rw [← hv] at cV hv0 hv1 hstep
                  obtain ⟨R3, hR3⟩ : ∃ R, R = cellsT (row.drop (c + 1)) ++ R2 := ⟨_, rfl⟩
                  have HR3 := Lib.hid hR3
                  have hT0 : T = l ++ (cellT v ++ R3) := by rw [hTc.out, hstep, hR3, List.append_assoc]
                  have HSV : Hid (Sees w wr) := HSP.out.below hSc.out
                  have cV1 := kc HSV.out cV
                  have CL := Lib.hid hcl
                  have c0 : (0 : Int) ≤ (c : Int) := Int.natCast_nonneg _
                  have c1 : (c : Int) < (row.length : Int) := by omega
                  subst hVe
                  clear hv hR3 hstep cV hTc hcl
                  by_cases hneg : v < 0
                  · have hcT : cellT v = [58, 46] := if_pos hneg
                    rw [hcT] at hT0
                    obtain ⟨u3, hu3⟩ : ∃ s' : ByteArray, s' = ⟨(l ++ [58, 46]).toArray⟩ := ⟨_, rfl⟩
                    obtain ⟨q3, hT3⟩ := addf [58, 46] hT0 HTL.out hsl.out (u := ⟨#[58, 46]⟩) rfl hu3
                    have HU3 := Lib.hid hu3
                    have HT3 : Hid (T = (l ++ [58, 46]) ++ (cellsT (row.drop (c + 1)) ++ R2)) := by rw [← HR3.out]; exact hT3
                    clear hT0 hT3 hu3 hcT hsl
                    go_wp2_with fail
                    go_roundw
                    case rel => exact ⟨c + 1, _, u3, CL.out, by go_num, rfl, HU3.out, HT3.out, hSc.out⟩
                    case measure => have := CL.out; simp [intOf]; omega
                  · have hcT : cellT v = [58] ++ Lib.decDigits v.toNat := if_neg hneg
                    rw [hcT] at hT0
                    obtain ⟨dv, hdv⟩ : ∃ l, l = Lib.decDigits v.toNat := ⟨_, rfl⟩
                    have dl := dec_len (n := v.toNat) (by omega)
                    rw [← hdv] at hT0 dl
                    obtain ⟨t1, ht1⟩ : ∃ s : ByteArray, s = ⟨dv.toArray⟩ := ⟨_, rfl⟩
                    obtain ⟨t2, ht2⟩ : ∃ s : ByteArray, s = ⟨([58] ++ dv).toArray⟩ := ⟨_, rfl⟩
                    obtain ⟨u3, hu3⟩ : ∃ s' : ByteArray, s' = ⟨(l ++ ([58] ++ dv)).toArray⟩ := ⟨_, rfl⟩
                    obtain ⟨q3, hT3⟩ := addf ([58] ++ dv) hT0 HTL.out hsl.out (u := t2) ht2 hu3
                    have q4 : ∀ W : World, (Op.stringOp .add ⟨#[58]⟩ t1).run Tryd.prog W = .ok (.string t2) W := fun W => by rw [ht1, ht2]; exact add_any [58] dv (by simp only [List.length_cons, List.length_nil]; omega) W
                    have KD : Hid (∀ W : World, Calls Tryd.prog 39 #[.int .i64 v] W fun e w' => e = .returned (.string t1) ∧ Below W.heap.size W w') := fun W => by rw [ht1, hdv]; exact decimal_any v (by omega) hv1 W
                    have HU3 := Lib.hid hu3
                    have HT3 : Hid (T = (l ++ ([58] ++ dv)) ++ (cellsT (row.drop (c + 1)) ++ R2)) := by rw [← HR3.out]; exact hT3
                    clear hT0 hT3 hu3 hcT hsl ht1 ht2 hdv dl
                    go_wp2_with fail
                    refine (KD.out _).mono ?_
                    rintro e w5 ⟨rfl, hb5⟩
                    have HS5 : Hid (Sees wp w5) := Sees.below hSc.out hb5
                    clear hb5 KD hSc x3 cB cS cV1
                    go_wp2_with fail
                    go_roundw
                    case rel => exact ⟨c + 1, _, u3, CL.out, by go_num, rfl, HU3.out, HT3.out, HS5.out⟩
                    case measure => have := CL.out; simp [intOf]; omega
                · obtain rfl : c = row.length := by omega
                  have HT3 : Hid (T = l ++ (rowsT (bs.drop (k + 1)) (rs.drop (k + 1)) ++ ([10] ++ R1))) := by
                    show _ = _; rw [← HR2.out, hTc.out, List.drop_length]; rfl
                  have HS3 : Hid (Sees wo wr) := HSk.out.below hSc.out
                  clear hTc hSc
                  go_wp2_with fail
                  go_roundw
                  case rel => exact ⟨k + 1, _, s, KL.out, by go_num, rfl, hsl.out, HT3.out, HS3.out⟩
                  case measure => have := KL.out; simp [intOf]; omega
            · have hT0' : T = l ++ ([32, 43] ++ (cellsT row ++ R2)) := hT0
              have hu2' : u2 = ⟨(l ++ [32, 43]).toArray⟩ := hu2
              obtain ⟨q2, hT2⟩ := addf [32, 43] hT0' HTL.out hsl.out (u := ⟨#[32, 43]⟩) rfl hu2'
              have HU2 := Lib.hid hu2; have HT2 := Lib.hid hT2
              clear hu2 hT0 hT2 hT0' hu2'
              go_wp2_with fail
              go_loopw [3, 6] (fun x i wr => ∃ (c : Nat) (l : List UInt8) (s : ByteArray), c ≤ row.length ∧ i = .int .i64 c ∧ x = .string s ∧ Hid (s = ⟨l.toArray⟩) ∧ Hid (T = l ++ (cellsT (row.drop c) ++ R2)) ∧ Hid (Sees wp wr)) (fun _ i _ => row.length - (intOf i).toNat)
              case atStart => exact ⟨0, _, u2, Nat.zero_le _, rfl, rfl, HU2.out, HT2.out, Sees.refl _⟩
              case round =>
                obtain ⟨c, l, s, hc, rfl, rfl, hsl, hTc, hSc⟩ := hrel
                clear q2 x2 x3 cA cB cR1 cS1
                have x3 := kc hSc.out HDX.out.2
                have cB := kc hSc.out HDS.out.1
                have cS := kc hSc.out HDS.out.2
                by_cases hcl : c < row.length
                · obtain ⟨yV, zV, hVe, cV⟩ := int_at HQS.out hcl
                  obtain ⟨hv0, hv1⟩ := HRV.out row[c] (List.getElem_mem hcl)
                  have hstep := cellsT_step hcl
                  obtain ⟨v, hv⟩ : ∃ x, x = row[c] := ⟨_, rfl⟩
                  rw [← hv] at cV hv0 hv1 hstep
                  obtain ⟨R3, hR3⟩ : ∃ R, R = cellsT (row.drop (c + 1)) ++ R2 := ⟨_, rfl⟩
                  have HR3 := Lib.hid hR3
                  have hT0 : T = l ++ (cellT v ++ R3) := by rw [hTc.out, hstep, hR3, List.append_assoc]
                  have HSV : Hid (Sees w wr) := HSP.out.below hSc.out
                  have cV1 := kc HSV.out cV
                  have CL := Lib.hid hcl
                  have c0 : (0 : Int) ≤ (c : Int) := Int.natCast_nonneg _
                  have c1 : (c : Int) < (row.length : Int) := by omega
                  subst hVe
                  clear hv hR3 hstep cV hTc hcl
                  by_cases hneg : v < 0
                  · have hcT : cellT v = [58, 46] := if_pos hneg
                    rw [hcT] at hT0
                    obtain ⟨u3, hu3⟩ : ∃ s' : ByteArray, s' = ⟨(l ++ [58, 46]).toArray⟩ := ⟨_, rfl⟩
                    obtain ⟨q3, hT3⟩ := addf [58, 46] hT0 HTL.out hsl.out (u := ⟨#[58, 46]⟩) rfl hu3
                    have HU3 := Lib.hid hu3
                    have HT3 : Hid (T = (l ++ [58, 46]) ++ (cellsT (row.drop (c + 1)) ++ R2)) := by rw [← HR3.out]; exact hT3
                    clear hT0 hT3 hu3 hcT hsl
                    go_wp2_with fail
                    go_roundw
                    case rel => exact ⟨c + 1, _, u3, CL.out, by go_num, rfl, HU3.out, HT3.out, hSc.out⟩
                    case measure => have := CL.out; simp [intOf]; omega
                  · have hcT : cellT v = [58] ++ Lib.decDigits v.toNat := if_neg hneg
                    rw [hcT] at hT0
                    obtain ⟨dv, hdv⟩ : ∃ l, l = Lib.decDigits v.toNat := ⟨_, rfl⟩
                    have dl := dec_len (n := v.toNat) (by omega)
                    rw [← hdv] at hT0 dl
                    obtain ⟨t1, ht1⟩ : ∃ s : ByteArray, s = ⟨dv.toArray⟩ := ⟨_, rfl⟩
                    obtain ⟨t2, ht2⟩ : ∃ s : ByteArray, s = ⟨([58] ++ dv).toArray⟩ := ⟨_, rfl⟩
                    obtain ⟨u3, hu3⟩ : ∃ s' : ByteArray, s' = ⟨(l ++ ([58] ++ dv)).toArray⟩ := ⟨_, rfl⟩
                    obtain ⟨q3, hT3⟩ := addf ([58] ++ dv) hT0 HTL.out hsl.out (u := t2) ht2 hu3
                    have q4 : ∀ W : World, (Op.stringOp .add ⟨#[58]⟩ t1).run Tryd.prog W = .ok (.string t2) W := fun W => by rw [ht1, ht2]; exact add_any [58] dv (by simp only [List.length_cons, List.length_nil]; omega) W
                    have KD : Hid (∀ W : World, Calls Tryd.prog 39 #[.int .i64 v] W fun e w' => e = .returned (.string t1) ∧ Below W.heap.size W w') := fun W => by rw [ht1, hdv]; exact decimal_any v (by omega) hv1 W
                    have HU3 := Lib.hid hu3
                    have HT3 : Hid (T = (l ++ ([58] ++ dv)) ++ (cellsT (row.drop (c + 1)) ++ R2)) := by rw [← HR3.out]; exact hT3
                    clear hT0 hT3 hu3 hcT hsl ht1 ht2 hdv dl
                    go_wp2_with fail
                    refine (KD.out _).mono ?_
                    rintro e w5 ⟨rfl, hb5⟩
                    have HS5 : Hid (Sees wp w5) := Sees.below hSc.out hb5
                    clear hb5 KD hSc x3 cB cS cV1
                    go_wp2_with fail
                    go_roundw
                    case rel => exact ⟨c + 1, _, u3, CL.out, by go_num, rfl, HU3.out, HT3.out, HS5.out⟩
                    case measure => have := CL.out; simp [intOf]; omega
                · obtain rfl : c = row.length := by omega
                  have HT3 : Hid (T = l ++ (rowsT (bs.drop (k + 1)) (rs.drop (k + 1)) ++ ([10] ++ R1))) := by
                    show _ = _; rw [← HR2.out, hTc.out, List.drop_length]; rfl
                  have HS3 : Hid (Sees wo wr) := HSk.out.below hSc.out
                  clear hTc hSc
                  go_wp2_with fail
                  go_roundw
                  case rel => exact ⟨k + 1, _, s, KL.out, by go_num, rfl, hsl.out, HT3.out, HS3.out⟩
                  case measure => have := KL.out; simp [intOf]; omega
          · obtain rfl : k = bs.length := by omega
            have hT0 : T = l ++ ([10] ++ R1) := by rw [hTk.out, rowsT_end]; rfl
            obtain ⟨u3, hu3⟩ : ∃ s' : ByteArray, s' = ⟨(l ++ [10]).toArray⟩ := ⟨_, rfl⟩
            obtain ⟨q3, hT3⟩ := addf [10] hT0 HTL.out hsl.out (u := ⟨#[10]⟩) rfl hu3
            have HU3 := Lib.hid hu3
            have HT3 : Hid (T = (l ++ [10]) ++ stsT (ac.drop (n + 1)) (nx.drop (n + 1))) := by rw [← HR1.out]; exact hT3
            have HS3 : Hid (Sees w1 wp) := HSn2.out.below hSk.out
            clear hT0 hT3 hu3 hTk hsl hSk
            go_wp2_with fail
            go_roundw
            case rel => exact ⟨n + 1, _, u3, NL.out, by go_num, rfl, HU3.out, HT3.out, HS3.out⟩
            case measure => have := NL.out; simp [intOf]; omega
      · obtain rfl : n = ac.length := by omega
        have e1 : T = l := by rw [hTn.out, stsT_end, List.append_nil]
        have HF : Hid (s = s7) := by show _ = _; rw [hsl.out, HS7.out, e1]
        clear e1
        go_wp2_with fail
        go_ret
        exact ⟨by rw [HF.out]; rfl, HB1.out.below hSn.out⟩
end Go.Proofs.YtlaebkhmefnmnaaDoor
