/- Contract of spec.l02Counts. -/
import Derived.Test.YtpigddjbiaoikaaCntD
import Derived.Test.YtpigddjbiaoikaaLayT
namespace Go.Proofs.Ytpigddjbiaoikaa
open Go.RowKit

set_option maxHeartbeats 4000000 in
set_option maxRecDepth 100000 in
theorem l02Counts_any {t a : Int} {ac : List (List Bool)} {nx : List (List (List Int))} (hv : validA t a ac nx = true) (L : Nat) (hL : L ≤ 10) (A B : Option Addr) (C D : Nat) (b1 : Nat) (w : World) (hA : BB 0 w ac A) (hB : III 0 w nx B)
    (g2 : w.cell? ⟨b1, 2, none⟩ = some (.slice A ac.length C)) (g3 : w.cell? ⟨b1, 3, none⟩ = some (.slice B nx.length D)) :
    Calls Try.prog 50 #[.pointer (some ⟨b1, 0, none⟩), .int .i64 L] w fun e w' => ∃ v, e = .returned v ∧ Tab ac nx ac.length w.heap.size w' (L + 1) v ∧ Below w.heap.size w w' := by
  obtain ⟨i0, hi0, hz0, hz1, hz2⟩ := info_parts Try.infoI
  have HI := Lib.hid hi0; have HZ := Lib.hid hz0; have HS := Lib.hid hz1; have HB := Lib.hid hz2
  obtain ⟨j0, hj0, hy0, hy1, hy2⟩ := info_parts Try.infoInt64SS
  have HI2 := Lib.hid hj0; have HZ2 := Lib.hid hy0; have HS2 := Lib.hid hy1; have HB2 := Lib.hid hy2
  clear hi0 hz0 hz1 hz2 hj0 hy0 hy1 hy2
  obtain ⟨_, hN1, hN60, hnl, hall⟩ := valid_at hv
  obtain ⟨yA, zA, _, rfl, hatA⟩ := hA (by rintro rfl; simp at hN1)
  obtain ⟨yB, zB, _, rfl, hatB⟩ := hB (by rintro rfl; simp at hnl; omega)
  have HV := Lib.hid hv; have HATA := Lib.hid hatA; have HATB := Lib.hid hatB; have HNL := Lib.hid hnl; have HALL := Lib.hid hall
  clear hv hA hB hnl hatA hatB hall
  have T0 : Hid (Tab ac nx ac.length w.heap.size (w.alloc (.cells #[] 24)) 0 (.slice (some ⟨w.heap.size, 0, none⟩) 0 0)) :=
    ⟨[], rfl, World.ownsRow_made w #[] 0 (Nat.le_refl _) (Nat.zero_le _) rfl, fun i p hp => absurd hp (by simp)⟩
  have B0 : Hid (Below w.heap.size w (w.alloc (.cells #[] 24))) := (Below.refl _ _).alloc (Nat.le_refl _) _
  go_enter Try.func50, Try.ntmps50
  go_wp2_with fail
  go_loopw [5, 6] (fun v i wr => ∃ k : Nat, k ≤ L + 1 ∧ i = .int .i64 k ∧ Hid (Tab ac nx ac.length w.heap.size wr k v) ∧ Hid (Below w.heap.size w wr)) (fun _ i _ => L + 1 - (intOf i).toNat)
  case atStart => exact ⟨0, Nat.zero_le _, rfl, T0, B0⟩
  case round =>
    obtain ⟨k, hk, rfl, hT, hb⟩ := hrel
    clear T0 B0
    obtain ⟨wo, rfl⟩ : ∃ wo, wo = wr := ⟨_, rfl⟩
    by_cases hkl : k ≤ L
    · have tk : decide ((k : Int) ≤ (L : Int)) = true := decide_eq_true (by omega)
      have R0 : Hid ((wo.alloc (.cells #[] 2)).ownsRow wo.heap.size 2 1 (.slice (some ⟨wo.heap.size, 0, none⟩) 0 0) 0 (encs (cntRow ac nx k 0))) := World.ownsRow_made wo #[] 0 (Nat.le_refl _) (Nat.zero_le _) rfl
      have B1 : Hid (Below wo.heap.size wo (wo.alloc (.cells #[] 2))) := (Below.refl _ _).alloc (Nat.le_refl _) _
      by_cases hk0 : k = 0
      · have e0 : ((k : Int) == 0) = true := by rw [beq_iff_eq]; omega
        have e1 : decide ((k : Int) = 0) = true := decide_eq_true (by omega)
        have e2 : decide ((0 : Int) < (k : Int)) = false := decide_eq_false (by omega)
        have e3 : decide (0 < k) = false := decide_eq_false (by omega)
        have HK0 := Lib.hid hk0; clear hk0
        go_wp2_with fail
        go_loopw [7, 8] (fun rv i wq => ∃ s : Nat, s ≤ ac.length ∧ i = .int .i64 s ∧ Hid (wq.ownsRow wo.heap.size 2 1 rv s (encs (cntRow ac nx k s))) ∧ Hid (Below wo.heap.size wo wq)) (fun _ i _ => ac.length - (intOf i).toNat)
        case atStart => exact ⟨0, Nat.zero_le _, rfl, R0, B1⟩
        case round =>
        obtain ⟨s, hs, rfl, hR, hq⟩ := hrel
        clear R0 B1
        obtain ⟨wq, rfl⟩ : ∃ wq, wq = wr := ⟨_, rfl⟩
        have hbq : Below w.heap.size w wq := hb.out.trans (hq.out.mono hb.out.size)
        have x2 := kc hbq g2
        have x3 := kc hbq g3
        by_cases hsl : s < ac.length
        · obtain ⟨R1, E1, c1, hQ⟩ := HATA.out s ac[s] (List.getElem?_eq_getElem hsl)
          have hx8 : ac[s].length ≤ 8 := by have := (HALL.out s hsl (by rw [HNL.out]; exact hsl)).1; have := (atomsN_bd t).2; omega
          have hstart : Hid (cnt ac nx k s = ((ac[s]).drop 0).foldl bitAdd 0) := by
            show cnt ac nx k s = _
            rw [HK0.out]
            show (ac.getD s []).foldl bitAdd 0 = _
            simp [List.getD, hsl]
          obtain ⟨x, hx⟩ : ∃ x, x = ac[s] := ⟨_, rfl⟩
          rw [← hx] at c1 hQ hx8 hstart
          have d1 := kc hbq c1
          have s0 : (0 : Int) ≤ (s : Int) := Int.natCast_nonneg _
          have s1 : (s : Int) < (ac.length : Int) := by omega
          have HX := Lib.hid hx; have HQ := Lib.hid hQ
          clear hx c1 hQ
          go_wp2_with fail
          go_loopw [9, 10] (fun sum i wx => ∃ (y : Nat) (z : Int), y ≤ x.length ∧ i = .int .i64 y ∧ sum = .int .i64 z ∧ Hid (cnt ac nx k s = (x.drop y).foldl bitAdd z) ∧ Hid (wx = wq)) (fun _ i _ => x.length - (intOf i).toNat)
          case atStart => exact ⟨0, 0, Nat.zero_le _, rfl, rfl, hstart, rfl⟩
          case round =>
          obtain ⟨y, z, hy, rfl, rfl, hc, hw⟩ := hrel
          clear hstart
          obtain ⟨wx, rfl⟩ : ∃ wx, wx = wr := ⟨_, rfl⟩
          rw [← hw.out] at x2 x3 d1
          by_cases hyl : y < x.length
          · obtain ⟨yR, zR, _, rfl, hatR⟩ := HQ.out (by rintro rfl; simp at hyl)
            have hcell := hatR y x[y] (List.getElem?_eq_getElem hyl)
            have hst := foldl_drop bitAdd x z hyl
            obtain ⟨q, hqe⟩ : ∃ q, q = x[y] := ⟨_, rfl⟩
            rw [← hqe] at hcell hst
            have d2 : wx.cell? ⟨yR, zR + y, none⟩ = some (.bool q) := by rw [hw.out]; exact kc hbq hcell
            have y0 : (0 : Int) ≤ (y : Int) := Int.natCast_nonneg _
            have y1 : (y : Int) < (x.length : Int) := by omega
            have HATR := Lib.hid hatR
            obtain ⟨z2, hz2⟩ : ∃ z2 : Int, Hid (z2 = bitAdd z q) := ⟨_, rfl⟩
            have hc2 : Hid (cnt ac nx k s = (x.drop (y + 1)).foldl bitAdd z2) := by show _ = _; rw [hc.out, hst, hz2.out]
            clear hcell hst hqe hatR hc
            cases q
            · have hz3 : Hid (z = z2) := by show _ = _; rw [hz2.out]; rfl
              go_wp2_with fail
              go_loopw [9, 11] (fun sm i wy => sm = .int .i64 z ∧ i = .int .i64 0 ∧ Hid (wy = wq)) (fun _ _ _ => 0)
              case atStart => exact ⟨rfl, rfl, hw⟩
              case round =>
              obtain ⟨rfl, rfl, hw2⟩ := hrel
              clear x2 x3 d1 d2
              go_wp2_with fail
              go_roundw
              case rel => exact ⟨y + 1, z, by omega, by go_num, rfl, by rw [hz3.out]; exact hc2, hw2⟩
              case measure => simp [intOf]; omega
            · have hz3 : Hid (wrap64 (z + 1) = z2) := by show _ = _; rw [hz2.out]; rfl
              go_wp2_with fail
              go_loopw [9, 11] (fun sm i wy => sm = .int .i64 (wrap64 (z + 1)) ∧ i = .int .i64 0 ∧ Hid (wy = wq)) (fun _ _ _ => 0)
              case atStart => exact ⟨rfl, rfl, hw⟩
              case round =>
              obtain ⟨rfl, rfl, hw2⟩ := hrel
              clear x2 x3 d1 d2
              go_wp2_with fail
              go_roundw
              case rel => exact ⟨y + 1, wrap64 (z + 1), by omega, by go_num, rfl, by rw [hz3.out]; exact hc2, hw2⟩
              case measure => simp [intOf]; omega
          · obtain rfl : y = x.length := by omega
            have hc2 : z = cnt ac nx k s := by rw [hc.out, List.drop_length]; rfl
            have hR2 := hR.out
            rw [← hw.out] at hR2
            have HO := Lib.hid hR2
            have HQ2 : Hid (Below wo.heap.size wo wx) := by show Below _ _ _; rw [hw.out]; exact hq.out
            have HC2 := Lib.hid hc2
            clear hc2 hc hw hR2
            go_wp2_with (at_builtin; refine wpList_append_own_at _ rfl _ _ 24 rfl wo.heap.size 2 i0 (.int .i64 0) 1 8 Try.underlying24 HI.out HZ.out HS.out HB.out rfl (by decide) _ _ _ rfl (HO.out.alloc _) ⟨wx.heap.size, 0, none⟩ 1 1 [.int .i64 z] rfl rfl ?c1 ?c2 ?c3 ?c4 ?c5 ?_)
            case c1 =>
              intro i u hi
              match i, hi with
              | 0, hi => simp at hi; subst hi; simp [Addr.add]
            case c2 => intro u hu; simp at hu; subst hu; rfl
            case c3 => unfold maxLen; omega
            case c4 => omega
            case c5 => have := HQ2.out.size; simp; omega
            intro v' w1 hown' hgrow _ _
            have hb2 : Hid (Below wo.heap.size wo w1) := below_grown (HQ2.out.alloc HQ2.out.size _) hgrow (HO.out.alloc _)
            have HR2 : Hid (w1.ownsRow wo.heap.size 2 1 v' (s + 1) (encs (cntRow ac nx k (s + 1)))) := by
              show World.ownsRow _ _ _ _ _ _ _
              rw [cntRow_step, ← encs_app, ← HC2.out]
              exact hown'
            clear hown' hgrow HO HQ2
            go_wp2_with fail
            go_roundw
            case rel => exact ⟨s + 1, by omega, by go_num, HR2, hb2⟩
            case measure => simp [intOf]; omega
        · obtain rfl : s = ac.length := by omega
          obtain ⟨Z, c, rfl, hin⟩ := own_ints hR.out hq.out.size
          have hlen : (cntRow ac nx k ac.length).length = ac.length := cntRow_len _ _ _ _
          have hrow : Hid (∃ b, Z = some ⟨b, 0, none⟩ ∧ wo.heap.size ≤ b ∧ b < wq.heap.size ∧ CntAt ac nx k ac.length wq b) := by
            rcases hin with ⟨h0, _⟩ | ⟨b, hZ, h1, h2, _, h4⟩
            · rw [h0] at hlen; simp at hlen; omega
            · refine ⟨b, hZ, h1, h2, fun s' hs' => ?_⟩
              rw [h4 s' (by rw [hlen]; exact hs')]
              simp [nth, List.getD, cntRow, hs']
          obtain ⟨b, rfl, hbl, hbh, hcnt⟩ := hrow.out
          have HT := Lib.hid (hT.out.below hq.out)
          have HCNT := Lib.hid hcnt
          have HLT := Lib.hid (fun g hg => hT.out.lt g hg)
          have HQQ := Lib.hid hbq
          have HBL := Lib.hid (And.intro hbl hbh)
          clear hR hin hrow hcnt hbl hbh
          rw [hlen]
          have HT2 := HT.out.below ((Below.refl _ wq).alloc (Nat.le_refl _) (.cells #[.slice (some ⟨b, 0, none⟩) ac.length c] 24))
          obtain ⟨bs, hbsl, hown, hrows⟩ := HT2.ex
          have HOWN := Lib.hid hown; have HROWS := Lib.hid hrows; have HBSL := Lib.hid hbsl
          clear hown hrows hbsl HT2
          go_wp2_with (at_builtin; refine wpList_append_own_at _ rfl _ _ 85 rfl w.heap.size 24 j0 (.slice none 0 0) 1 24 Try.underlying85 HI2.out HZ2.out HS2.out HB2.out rfl (by decide) _ _ _ rfl HOWN.out ⟨wq.heap.size, 0, none⟩ 1 1 [.slice (some ⟨b, 0, none⟩) ac.length c] rfl rfl ?c1 ?c2 ?c3 ?c4 ?c5 ?_)
          case c1 =>
            intro i u hi
            match i, hi with
            | 0, hi => simp at hi; subst hi; simp [Addr.add]
          case c2 => intro u hu; simp at hu; subst hu; rfl
          case c3 => unfold maxLen; omega
          case c4 => omega
          case c5 => have := HQQ.out.size; simp; omega
          intro v' w1 hown' hgrow _ hor
          have hal : (wq.alloc (.cells #[.slice (some ⟨b, 0, none⟩) ac.length c] 24)).heap[b]? = wq.heap[b]? := Below.heap_alloc _ _ _ HBL.out.2
          have T1 : Hid (Tab ac nx ac.length w.heap.size w1 (k + 1) v') := Tab.snoc HBSL.out HROWS.out (HCNT.out.keep hal) (by have := HBL.out.1; have := hb.out.size; omega) (by have := HBL.out.2; simp; omega) (fun he => by have := HLT.out _ he; have := HBL.out.1; omega) hown' hgrow (by rw [World.size_alloc]; exact hor)
          have hb2 : Hid (Below w.heap.size w w1) := below_grown (HQQ.out.alloc HQQ.out.size _) hgrow HOWN.out
          clear hown' hgrow hor hal HOWN HROWS HT HQQ
          go_wp2_with fail
          go_roundw
          case rel => exact ⟨k + 1, by omega, by go_num, T1, hb2⟩
          case measure => simp [intOf]; omega
      · obtain ⟨m, hm⟩ : ∃ m, Hid (k = m + 1) := ⟨k - 1, by show _ = _; omega⟩
        have e0 : ((k : Int) == 0) = false := by rw [beq_eq_false_iff_ne]; omega
        have e1 : decide ((k : Int) = 0) = false := decide_eq_false (by omega)
        have e4 : decide (k = 0) = false := decide_eq_false hk0
        have e2 : decide ((0 : Int) < (k : Int)) = true := decide_eq_true (by omega)
        have e3 : decide (0 < k) = true := decide_eq_true (by omega)
        have hwm : IntKind.i64.wrap ((k : Int) - 1) = (m : Int) := by rw [IntWalk.i64_in _ (by omega)]; have := hm.out; omega
        have m0 : (0 : Int) ≤ (m : Int) := Int.natCast_nonneg _
        have m1 : (m : Int) < (k : Int) := by have := hm.out; omega
        obtain ⟨g, cap, bb, cc, hv5, cg, hcn⟩ := hT.out.row (i := m) (by have := hm.out; omega)
        subst hv5
        have HCG := Lib.hid cg; have HCN := Lib.hid hcn
        clear cg hcn
        go_wp2_with fail
        go_loopw [7, 8] (fun rv i wq => ∃ s : Nat, s ≤ ac.length ∧ i = .int .i64 s ∧ Hid (wq.ownsRow wo.heap.size 2 1 rv s (encs (cntRow ac nx k s))) ∧ Hid (Below wo.heap.size wo wq)) (fun _ i _ => ac.length - (intOf i).toNat)
        case atStart => exact ⟨0, Nat.zero_le _, rfl, R0, B1⟩
        case round =>
        obtain ⟨s, hs, rfl, hR, hq⟩ := hrel
        clear R0 B1
        obtain ⟨wq, rfl⟩ : ∃ wq, wq = wr := ⟨_, rfl⟩
        have hbq : Below w.heap.size w wq := hb.out.trans (hq.out.mono hb.out.size)
        have x2 := kc hbq g2
        have x3 := kc hbq g3
        by_cases hsl : s < ac.length
        · have hsn : s < nx.length := by rw [HNL.out]; exact hsl
          obtain ⟨R1, E1, c1, _⟩ := HATA.out s ac[s] (List.getElem?_eq_getElem hsl)
          obtain ⟨R2, E2, c2, hQ⟩ := HATB.out s nx[s] (List.getElem?_eq_getElem hsn)
          obtain ⟨h1, h2, h3⟩ := HALL.out s hsl hsn
          have hx8 : ac[s].length ≤ 8 := by have := (atomsN_bd t).2; omega
          have hxr : nx[s].length = ac[s].length := by omega
          have hstart : Hid (cnt ac nx k s = ((nx[s]).drop 0).foldl (fun acc row => row.foldl (toAdd (cnt ac nx m)) acc) 0) := by
            show cnt ac nx k s = _
            rw [hm.out]
            show (nx.getD s []).foldl _ 0 = _
            simp [List.getD, hsn]
          obtain ⟨x, hx⟩ : ∃ x, x = ac[s] := ⟨_, rfl⟩
          obtain ⟨rows, hrw⟩ : ∃ rows, rows = nx[s] := ⟨_, rfl⟩
          rw [← hx] at c1 hx8 hxr
          rw [← hrw] at c2 hQ hstart hxr h3
          have d1 := kc hbq c1
          have d2 := kc hbq c2
          have s0 : (0 : Int) ≤ (s : Int) := Int.natCast_nonneg _
          have s1 : (s : Int) < (ac.length : Int) := by omega
          have s2 : (s : Int) < (nx.length : Int) := by omega
          have HX := Lib.hid (And.intro hx hrw); have HQ := Lib.hid hQ; have HXR := Lib.hid hxr; have H3 := Lib.hid h3
          clear hx hrw c1 c2 hQ hxr h1 h2 h3
          go_wp2_with fail
          go_loopw [9, 10] (fun sum i wx => ∃ (y : Nat) (z : Int), y ≤ x.length ∧ i = .int .i64 y ∧ sum = .int .i64 z ∧ Hid (cnt ac nx k s = (rows.drop y).foldl (fun acc row => row.foldl (toAdd (cnt ac nx m)) acc) z) ∧ Hid (wx = wq)) (fun _ i _ => x.length - (intOf i).toNat)
          case atStart => exact ⟨0, 0, Nat.zero_le _, rfl, rfl, hstart, rfl⟩
          case round =>
          obtain ⟨y, z, hy, rfl, rfl, hc, hw⟩ := hrel
          clear hstart
          obtain ⟨wx, rfl⟩ : ∃ wx, wx = wr := ⟨_, rfl⟩
          rw [← hw.out] at x2 x3 d1 d2
          by_cases hyl : y < x.length
          · have hyr : y < rows.length := by rw [HXR.out]; exact hyl
            obtain ⟨yR, zR, _, rfl, hatR⟩ := HQ.out (by rintro rfl; simp at hyr)
            obtain ⟨R3, E3, c3, hQ3⟩ := hatR y rows[y] (List.getElem?_eq_getElem hyr)
            have hst := foldl_drop (fun acc row => row.foldl (toAdd (cnt ac nx m)) acc) rows z hyr
            obtain ⟨hrl, hrv⟩ := H3.out rows[y] (List.getElem_mem hyr)
            obtain ⟨row, hre⟩ : ∃ row, row = rows[y] := ⟨_, rfl⟩
            rw [← hre] at c3 hst hQ3 hrl hrv
            have d3 : wx.cell? ⟨yR, zR + y, none⟩ = some (.slice R3 row.length E3) := by rw [hw.out]; exact kc hbq c3
            have y0 : (0 : Int) ≤ (y : Int) := Int.natCast_nonneg _
            have y1 : (y : Int) < (rows.length : Int) := by omega
            have y2 : (y : Int) < (x.length : Int) := by omega
            have HRE := Lib.hid hre; have HATR := Lib.hid hatR; have HQ3 := Lib.hid hQ3; have HRV := Lib.hid hrv
            have hc1 : Hid (cnt ac nx k s = (rows.drop (y + 1)).foldl (fun acc row => row.foldl (toAdd (cnt ac nx m)) acc) (row.foldl (toAdd (cnt ac nx m)) z)) := hc.out.trans hst
            have hra4 : row.length ≤ 4 := by have := (sigOk_of (valid_at HV.out).1).2.2.2; omega
            clear hre hatR hQ3 hrv hc hst c3 hrl
            go_wp2_with fail
            go_loopw [9, 11] (fun sm i wy => ∃ (c : Nat) (z2 : Int), c ≤ row.length ∧ i = .int .i64 c ∧ sm = .int .i64 z2 ∧ Hid (row.foldl (toAdd (cnt ac nx m)) z = (row.drop c).foldl (toAdd (cnt ac nx m)) z2) ∧ Hid (wy = wq)) (fun _ i _ => row.length - (intOf i).toNat)
            case atStart => exact ⟨0, z, Nat.zero_le _, rfl, rfl, rfl, hw⟩
            case round =>
            obtain ⟨c, z2, hcl, rfl, rfl, hf, hw2⟩ := hrel
            obtain ⟨wz, rfl⟩ : ∃ wz, wz = wr := ⟨_, rfl⟩
            rw [hw.out, ← hw2.out] at x2 x3 d1 d2 d3
            by_cases hcr : c < row.length
            · obtain ⟨yv, zv, _, rfl, hatv⟩ := HQ3.out (by rintro rfl; simp at hcr)
              have cv := hatv c row[c] (List.getElem?_eq_getElem hcr)
              have hst := foldl_drop (toAdd (cnt ac nx m)) row z2 hcr
              have hvb := HRV.out row[c] (List.getElem_mem hcr)
              obtain ⟨v, hve⟩ : ∃ v, v = row[c] := ⟨_, rfl⟩
              rw [← hve] at cv hst hvb
              have d4 : wz.cell? ⟨yv, zv + c, none⟩ = some (.int .i64 v) := by rw [hw2.out]; exact kc hbq cv
              have k0 : (0 : Int) ≤ (c : Int) := Int.natCast_nonneg _
              have k1 : (c : Int) < (row.length : Int) := by omega
              have HATV := Lib.hid hatv; have HVE := Lib.hid hve
              clear hatv hve cv
              by_cases hv0 : 0 ≤ v
              · obtain ⟨s', rfl⟩ := Int.eq_ofNat_of_zero_le hv0
                have hs' : s' < ac.length := by omega
                have t0 : decide ((0 : Int) ≤ (s' : Int)) = true := decide_eq_true hv0
                have d5 : wz.cell? ⟨g, m, none⟩ = some (.slice (some ⟨bb, 0, none⟩) ac.length cc) := by rw [hw2.out]; exact kc hq.out HCG.out
                have d6 : wz.cell? ⟨bb, s', none⟩ = some (.int .i64 (cnt ac nx m s')) := by rw [hw2.out]; exact kc hq.out (HCN.out s' hs')
                have k2 : (s' : Int) < (ac.length : Int) := by omega
                have hf2 : Hid (row.foldl (toAdd (cnt ac nx m)) z = (row.drop (c + 1)).foldl (toAdd (cnt ac nx m)) (wrap64 (z2 + cnt ac nx m s'))) := by
                  show _ = _
                  rw [hf.out, hst]
                  unfold toAdd
                  rw [if_pos hv0]
                  rfl
                clear hf hst hvb hv0
                obtain ⟨cm, hcm⟩ : ∃ cm, cm = cnt ac nx m s' := ⟨_, rfl⟩
                rw [← hcm] at d6 hf2
                clear hcm
                go_wp2_with fail
                clear x2 x3 d1 d2 d3 d4 d5 d6
                go_roundw
                case rel => exact ⟨c + 1, wrap64 (z2 + cm), by omega, by go_num, rfl, hf2, hw2⟩
                case measure => simp [intOf]; omega
              · have t0 : decide ((0 : Int) ≤ v) = false := decide_eq_false hv0
                have hf2 : Hid (row.foldl (toAdd (cnt ac nx m)) z = (row.drop (c + 1)).foldl (toAdd (cnt ac nx m)) z2) := by
                  show _ = _
                  rw [hf.out, hst]
                  unfold toAdd
                  rw [if_neg hv0]
                clear hf hst hvb hv0
                go_wp2_with fail
                clear x2 x3 d1 d2 d3 d4
                go_roundw
                case rel => exact ⟨c + 1, z2, by omega, by go_num, rfl, hf2, hw2⟩
                case measure => simp [intOf]; omega
            · obtain rfl : c = row.length := by omega
              have hz2 : Hid (row.foldl (toAdd (cnt ac nx m)) z = z2) := by show _ = _; rw [hf.out, List.drop_length]; rfl
              have hc2 : Hid (cnt ac nx k s = (rows.drop (y + 1)).foldl (fun acc row => row.foldl (toAdd (cnt ac nx m)) acc) z2) := by show _ = _; rw [hc1.out, hz2.out]
              clear hf hc1
              go_wp2_with fail
              clear x2 x3 d1 d2 d3
              go_roundw
              case rel => exact ⟨y + 1, z2, by omega, by go_num, rfl, hc2, hw2⟩
              case measure => simp [intOf]; omega
          · obtain rfl : y = x.length := by omega
            rw [← HXR.out] at hc
            have hc2 : z = cnt ac nx k s := by rw [hc.out, List.drop_length]; rfl
            have hR2 := hR.out
            rw [← hw.out] at hR2
            have HO := Lib.hid hR2
            have HQ2 : Hid (Below wo.heap.size wo wx) := by show Below _ _ _; rw [hw.out]; exact hq.out
            have HC2 := Lib.hid hc2
            clear hc2 hc hw hR2
            go_wp2_with (at_builtin; refine wpList_append_own_at _ rfl _ _ 24 rfl wo.heap.size 2 i0 (.int .i64 0) 1 8 Try.underlying24 HI.out HZ.out HS.out HB.out rfl (by decide) _ _ _ rfl (HO.out.alloc _) ⟨wx.heap.size, 0, none⟩ 1 1 [.int .i64 z] rfl rfl ?c1 ?c2 ?c3 ?c4 ?c5 ?_)
            case c1 =>
              intro i u hi
              match i, hi with
              | 0, hi => simp at hi; subst hi; simp [Addr.add]
            case c2 => intro u hu; simp at hu; subst hu; rfl
            case c3 => unfold maxLen; omega
            case c4 => omega
            case c5 => have := HQ2.out.size; simp; omega
            intro v' w1 hown' hgrow _ _
            have hb2 : Hid (Below wo.heap.size wo w1) := below_grown (HQ2.out.alloc HQ2.out.size _) hgrow (HO.out.alloc _)
            have HR2 : Hid (w1.ownsRow wo.heap.size 2 1 v' (s + 1) (encs (cntRow ac nx k (s + 1)))) := by
              show World.ownsRow _ _ _ _ _ _ _
              rw [cntRow_step, ← encs_app, ← HC2.out]
              exact hown'
            clear hown' hgrow HO HQ2
            go_wp2_with fail
            go_roundw
            case rel => exact ⟨s + 1, by omega, by go_num, HR2, hb2⟩
            case measure => simp [intOf]; omega
        · obtain rfl : s = ac.length := by omega
          obtain ⟨Z, c, rfl, hin⟩ := own_ints hR.out hq.out.size
          have hlen : (cntRow ac nx k ac.length).length = ac.length := cntRow_len _ _ _ _
          have hrow : Hid (∃ b, Z = some ⟨b, 0, none⟩ ∧ wo.heap.size ≤ b ∧ b < wq.heap.size ∧ CntAt ac nx k ac.length wq b) := by
            rcases hin with ⟨h0, _⟩ | ⟨b, hZ, h1, h2, _, h4⟩
            · rw [h0] at hlen; simp at hlen; omega
            · refine ⟨b, hZ, h1, h2, fun s' hs' => ?_⟩
              rw [h4 s' (by rw [hlen]; exact hs')]
              simp [nth, List.getD, cntRow, hs']
          obtain ⟨b, rfl, hbl, hbh, hcnt⟩ := hrow.out
          have HT := Lib.hid (hT.out.below hq.out)
          have HCNT := Lib.hid hcnt
          have HLT := Lib.hid (fun g hg => hT.out.lt g hg)
          have HQQ := Lib.hid hbq
          have HBL := Lib.hid (And.intro hbl hbh)
          clear hR hin hrow hcnt hbl hbh
          rw [hlen]
          have HT2 := HT.out.below ((Below.refl _ wq).alloc (Nat.le_refl _) (.cells #[.slice (some ⟨b, 0, none⟩) ac.length c] 24))
          obtain ⟨bs, hbsl, hown, hrows⟩ := HT2.ex
          have HOWN := Lib.hid hown; have HROWS := Lib.hid hrows; have HBSL := Lib.hid hbsl
          clear hown hrows hbsl HT2
          go_wp2_with (at_builtin; refine wpList_append_own_at _ rfl _ _ 85 rfl w.heap.size 24 j0 (.slice none 0 0) 1 24 Try.underlying85 HI2.out HZ2.out HS2.out HB2.out rfl (by decide) _ _ _ rfl HOWN.out ⟨wq.heap.size, 0, none⟩ 1 1 [.slice (some ⟨b, 0, none⟩) ac.length c] rfl rfl ?c1 ?c2 ?c3 ?c4 ?c5 ?_)
          case c1 =>
            intro i u hi
            match i, hi with
            | 0, hi => simp at hi; subst hi; simp [Addr.add]
          case c2 => intro u hu; simp at hu; subst hu; rfl
          case c3 => unfold maxLen; omega
          case c4 => omega
          case c5 => have := HQQ.out.size; simp; omega
          intro v' w1 hown' hgrow _ hor
          have hal : (wq.alloc (.cells #[.slice (some ⟨b, 0, none⟩) ac.length c] 24)).heap[b]? = wq.heap[b]? := Below.heap_alloc _ _ _ HBL.out.2
          have T1 : Hid (Tab ac nx ac.length w.heap.size w1 (k + 1) v') := Tab.snoc HBSL.out HROWS.out (HCNT.out.keep hal) (by have := HBL.out.1; have := hb.out.size; omega) (by have := HBL.out.2; simp; omega) (fun he => by have := HLT.out _ he; have := HBL.out.1; omega) hown' hgrow (by rw [World.size_alloc]; exact hor)
          have hb2 : Hid (Below w.heap.size w w1) := below_grown (HQQ.out.alloc HQQ.out.size _) hgrow HOWN.out
          clear hown' hgrow hor hal HOWN HROWS HT HQQ
          go_wp2_with fail
          go_roundw
          case rel => exact ⟨k + 1, by omega, by go_num, T1, hb2⟩
          case measure => simp [intOf]; omega
    · obtain rfl : k = L + 1 := by omega
      have tk : decide ((L : Int) + 1 ≤ (L : Int)) = false := decide_eq_false (by omega)
      go_wp2_with fail
      go_ret
      exact ⟨_, rfl, hT.out, hb.out⟩
end Go.Proofs.Ytpigddjbiaoikaa
