/- Contract of impl.FollowWord. -/
import Derived.Test.YtlfafcbieeambaaDoorFolS
import Derived.Test.YtlfafcbieeambaaDoorRnA
import Derived.Test.YtlfafcbieeambaaDoorRnN
import Derived.Test.YtlfafcbieeambaaDoorWldI
import Derived.Test.YtlfafcbieeambaaDoorVWordI
import Derived.Test.YtlfafcbieeambaaDoorSWord
namespace Go.Proofs.YtlfafcbieeambaaDoor
open Go.RowKit

set_option maxHeartbeats 8000000 in
set_option maxRecDepth 100000 in
theorem implFollowWord_any (t a : Int) (p : List Int) (nx : List (List Int)) (m : Int) (xs ys : List Int) (hs : SmallW p nx) (hx : xs.length + ys.length ≤ 1048576) (A B Z Y : Option Addr) (C D C2 D2 : Nat) (w : World) (hA : Ints w p A) (hB : II 0 w nx B) (hZ : Ints w xs Z) (hY : Ints w ys Y) (T : TypeId) (gv : Value) (hg : w.cell? ⟨1, 0, none⟩ = some (.iface T gv)) :
    Calls Tryd.prog 17 #[.agg #[.int .i64 t, .int .i64 a], .agg #[.slice A p.length C, .slice B nx.length D], .int .i64 m, .agg #[.slice Z xs.length C2, .slice Y ys.length D2]] w fun e w' => e = .returned (.tuple #[.int .i64 (folO t a p nx m xs ys).1, .int .i64 (folO t a p nx m xs ys).2]) ∧ Below w.heap.size w w' := by
  obtain ⟨q1, hq1⟩ : ∃ q1 : Bool, q1 = validD t a p nx := ⟨_, rfl⟩
  have K1 : Hid (∀ W : World, Sees w W → Calls Tryd.prog 43 #[.agg #[.int .i64 t, .int .i64 a], .agg #[.slice A p.length C, .slice B nx.length D]] W fun e w' => e = .returned (.bool q1) ∧ Below W.heap.size W w') := fun W h => by
    rw [hq1]
    exact implValidWorld_any t a p nx hs A B C D W (hA.sees h) (ii_ok.below hB h)
  obtain ⟨q2, hq2⟩ : ∃ q2 : Bool, q2 = validW t a xs ys := ⟨_, rfl⟩
  have K2 : Hid (∀ W : World, Sees w W → Calls Tryd.prog 44 #[.agg #[.int .i64 t, .int .i64 a], .agg #[.slice Z xs.length C2, .slice Y ys.length D2]] W fun e w' => e = .returned (.bool q2) ∧ Below W.heap.size W w') := fun W h => by
    rw [hq2]
    exact implValidWord_any t a xs ys hx Z Y C2 D2 W (hZ.sees h) (hY.sees h)
  obtain ⟨q3, hq3⟩ : ∃ q3 : Bool, q3 = belowB m p.length := ⟨_, rfl⟩
  have K3 : Hid (∀ W : World, Calls Tryd.prog 45 #[.int .i64 m, .int .i64 (p.length : Int)] W fun e w' => e = .returned (.bool q3) ∧ Below W.heap.size W w') := fun W => (below_any m p.length W).mono fun e w' h => ⟨by rw [hq3]; exact h.1, by rw [← h.2]; exact Below.refl _ _⟩
  obtain ⟨w0, hw0⟩ : ∃ w0, w0 = ((w.alloc (.cells #[.int .i64 t, .int .i64 a] 32)).alloc (.cells #[.slice A p.length C, .slice B nx.length D] 53)).alloc (.cells #[.slice Z xs.length C2, .slice Y ys.length D2] 55) := ⟨_, rfl⟩
  have S0 : St w [(w.heap.size, 0, .int .i64 t), (w.heap.size, 1, .int .i64 a), (w.heap.size + 1, 0, .slice A p.length C), (w.heap.size + 1, 1, .slice B nx.length D), (w.heap.size + 1 + 1, 0, .slice Z xs.length C2), (w.heap.size + 1 + 1, 1, .slice Y ys.length D2)] w0 := by
    rw [hw0]
    exact ⟨(((Sees.refl w).alloc _).alloc _).alloc _, (by simp [go_sem]), (by simp [go_sem]), (by simp [go_sem]), (by simp [go_sem]), (by simp [go_sem]), (by simp [go_sem]), trivial⟩
  have HA := Lib.hid hA; have HB := Lib.hid hB; have HZ := Lib.hid hZ; have HY := Lib.hid hY; have HG := Lib.hid hg
  clear hA hB hZ hY hs hg
  cases q1
  · have HD : Hid (folO t a p nx m xs ys = (0, 1)) := by show _ = _; unfold folO; rw [← hq1]; rfl
    clear hq1 hq2 hq3 K2 K3
    go_enter Tryd.func17, Tryd.ntmps17
    go_wp2_with fail
    rw [← hw0]
    refine (K1.out _ S0.1).mono ?_
    rintro e w1 ⟨rfl, hb⟩
    have S1 := St.below S0 hb
    obtain ⟨_, x0, x1, x2, x3, x4, x5, _⟩ := id S1
    clear hb hw0
    go_wp2_with fail
    clear x0 x1 x2 x3 x4 x5
    go_ret2
    exact ⟨ret_two (congrArg Prod.fst HD.out).symm (congrArg Prod.snd HD.out).symm, S1.1⟩
  cases q2
  · have HD : Hid (folO t a p nx m xs ys = (0, 1)) := by show _ = _; unfold folO; rw [← hq1, ← hq2]; rfl
    clear hq1 hq2 hq3 K3
    go_enter Tryd.func17, Tryd.ntmps17
    go_wp2_with fail
    rw [← hw0]
    refine (K1.out _ S0.1).mono ?_
    rintro e w1 ⟨rfl, hb⟩
    have S1 := St.below S0 hb
    obtain ⟨_, x0, x1, x2, x3, x4, x5, _⟩ := id S1
    clear hb hw0
    go_wp2_with fail
    clear x0 x1 x2 x3 x4 x5
    refine (K2.out _ S1.1).mono ?_
    rintro e w2 ⟨rfl, hb⟩
    have S2 := St.below S1 hb
    obtain ⟨_, x0, x1, x2, x3, x4, x5, _⟩ := id S2
    clear hb S1
    go_wp2_with fail
    clear x0 x1 x2 x3 x4 x5
    go_ret2
    exact ⟨ret_two (congrArg Prod.fst HD.out).symm (congrArg Prod.snd HD.out).symm, S2.1⟩
  cases q3
  · have HD : Hid (folO t a p nx m xs ys = (0, 2)) := by
      show _ = _
      unfold folO
      rw [← hq1, ← hq2]
      have h := of_decide_eq_false (hq3.symm : decide _ = false)
      show (if 0 ≤ m ∧ m < p.length then folR p nx ys xs m.toNat else (0, 2)) = (0, 2)
      rw [if_neg h]
    clear hq1 hq2 hq3
    go_enter Tryd.func17, Tryd.ntmps17
    go_wp2_with fail
    rw [← hw0]
    refine (K1.out _ S0.1).mono ?_
    rintro e w1 ⟨rfl, hb⟩
    have S1 := St.below S0 hb
    obtain ⟨_, x0, x1, x2, x3, x4, x5, _⟩ := id S1
    clear hb hw0
    go_wp2_with fail
    clear x0 x1 x2 x3 x4 x5
    refine (K2.out _ S1.1).mono ?_
    rintro e w2 ⟨rfl, hb⟩
    have S2 := St.below S1 hb
    obtain ⟨_, x0, x1, x2, x3, x4, x5, _⟩ := id S2
    clear hb S1
    go_wp2_with fail
    clear x0 x1 x2 x3 x4 x5
    refine (K3.out _).mono ?_
    rintro e w3 ⟨rfl, hb⟩
    have S3 := St.below S2 hb
    obtain ⟨_, x0, x1, x2, x3, x4, x5, _⟩ := id S3
    clear hb S2
    go_wp2_with fail
    clear x0 x1 x2 x3 x4 x5
    go_ret2
    exact ⟨ret_two (congrArg Prod.fst HD.out).symm (congrArg Prod.snd HD.out).symm, S3.1⟩
  have hm := of_decide_eq_true (hq3.symm : decide _ = true)
  have HF : Hid (folO t a p nx m xs ys = folR p nx ys xs m.toNat) := by
    show _ = _
    unfold folO
    rw [← hq1, ← hq2]
    show (if 0 ≤ m ∧ m < p.length then folR p nx ys xs m.toNat else (0, 2)) = _
    rw [if_pos hm]
  have OK := Lib.hid (fol_ok hq1.symm hq2.symm)
  obtain ⟨σ0, hσ⟩ : ∃ σ : Nat, m = σ := ⟨m.toNat, by omega⟩
  have hσ1 : σ0 < p.length := by omega
  subst hσ
  rw [Int.toNat_natCast] at HF
  have HR : Hid (folO t a p nx (σ0 : Int) xs ys = match goW nx σ0 ys with | some z => if atomsW p nx σ0 ys = xs then ((z : Int), 0) else (0, 4) | none => (0, 4)) := HF.out.trans (folR_go p nx ys xs σ0 OK.out.len)
  have hy10 := OK.out.y10
  clear hq1 hq2 hq3 hm HF
  go_enter Tryd.func17, Tryd.ntmps17
  go_wp2_with fail
  rw [← hw0]
  refine (K1.out _ S0.1).mono ?_
  rintro e w1 ⟨rfl, hb⟩
  have S1 := St.below S0 hb
  obtain ⟨_, x0, x1, x2, x3, x4, x5, _⟩ := id S1
  clear hb hw0
  go_wp2_with fail
  clear x0 x1 x2 x3 x4 x5
  refine (K2.out _ S1.1).mono ?_
  rintro e w2 ⟨rfl, hb⟩
  have S2 := St.below S1 hb
  obtain ⟨_, x0, x1, x2, x3, x4, x5, _⟩ := id S2
  clear hb S1
  go_wp2_with fail
  clear x0 x1 x2 x3 x4 x5
  refine (K3.out _).mono ?_
  rintro e w3 ⟨rfl, hb⟩
  have S3 := St.below S2 hb
  obtain ⟨_, x0, x1, x2, x3, x4, x5, _⟩ := id S3
  clear hb S2
  go_wp2_with fail
  clear x0 x1 x2 x3 x4 x5
  have KN := Lib.hid (newRunner_any p σ0 hσ1 0 A C B nx.length D w3 (HA.out.sees S3.1))
  refine KN.out.mono ?_
  rintro e w4 ⟨b, v1, v2, rfl, RN⟩
  have HS := Lib.hid S3
  obtain ⟨_, x0, x1, x2, x3, x4, x5, _⟩ := St.below S3 RN.sees
  have HRN := Lib.hid RN
  have HAs := Lib.hid (HA.out.sees S3.1); have HBs := Lib.hid (ii_ok.below HB.out S3.1); have HGs := Lib.hid (kc S3.1 HG.out)
  clear S3 K1 K2 K3 S0 KN RN
  go_wp2_with fail
  clear x0 x1 x2 x3 x4 x5
  go_loopw [35] (fun i wr => ∃ j : Nat, j ≤ ys.length ∧ i = .int .i64 j ∧ Hid (∃ (σ : Nat) (u1 u2 : Value) (pre : List Int), σ < p.length ∧ pre.length = j ∧ Rn w3 b A p.length C B nx.length D 0 0 (σ : Int) u1 u2 (pre ++ [nth p σ]) (ys.take j) wr ∧ goW nx σ0 ys = goW nx σ (ys.drop j) ∧ atomsW p nx σ0 ys = pre ++ atomsW p nx σ (ys.drop j))) (fun i _ => ys.length - (intOf i).toNat)
  case atStart => exact ⟨0, Nat.zero_le _, rfl, ⟨σ0, v1, v2, [], hσ1, rfl, HRN.out, rfl, rfl⟩⟩
  case round =>
    obtain ⟨j, hj, rfl, hI⟩ := hrel
    clear HRN
    obtain ⟨σ, u1, u2, pre, hσ, hpre, RN, hgo, hat⟩ := hI.out
    have S4 := St.below HS.out RN.sees
    obtain ⟨_, x0, x1, x2, x3, x4, x5, _⟩ := id S4
    by_cases hjl : j < ys.length
    · obtain ⟨yY, zY, rfl, hatY⟩ := HY.out (by rintro rfl; simp at hjl)
      obtain ⟨y, hy, hy1, hrl, hnx, hn1, hn2⟩ := OK.out.next hσ hjl
      have cY := kc S4.1 (hatY j hjl)
      rw [hy1] at cY
      have KA := Lib.hid (act_any RN HAs.out HBs.out hσ y hy hrl hn2 T gv HGs.out (by simp; omega) (by simp; omega))
      have hdr : ys.drop j = (y : Int) :: ys.drop (j + 1) := by rw [drop_getD ys j hjl, hy1]
      have htk : ys.take (j + 1) = ys.take j ++ [(y : Int)] := by
        rw [List.take_succ_eq_append_getElem hjl]
        have : ys[j] = (y : Int) := by rw [← hy1]; simp [nth, List.getD, hjl]
        rw [this]
      have hnx2 : nxt nx σ (y : Int) = nth nx[y] σ := by rw [← hy1]; exact hnx
      have HDR := Lib.hid hdr; have HTK := Lib.hid htk; have HNX := Lib.hid hnx2; have HGO := Lib.hid hgo; have HAT := Lib.hid hat; have HPRE := Lib.hid hpre
      have HAY := Lib.hid hatY; have HRN2 := Lib.hid RN.sees
      have j0 : (0 : Int) ≤ (j : Int) := Int.natCast_nonneg _
      have j1 : (j : Int) < (ys.length : Int) := by omega
      clear hatY hdr htk hnx hnx2 hgo hat hpre hrl hn1 hn2 hy1 RN hI
      go_wp2_with fail
      refine KA.out.mono ?_
      rintro e w5 (⟨hz, rfl, R5⟩ | ⟨ζ, hz, rfl, u1', u2', R5⟩)
      · have HD : Hid (folO t a p nx (σ0 : Int) xs ys = (0, 4)) := by
          show _ = _
          rw [HR.out, HGO.out, HDR.out]
          have : goW nx σ ((y : Int) :: ys.drop (j + 1)) = none := by
            show (if nxt nx σ (y : Int) < 0 then none else _) = none
            rw [HNX.out, if_pos hz]
          rw [this]
        have B5 := Lib.hid (HS.out.1.below R5.sees)
        clear R5 hz x0 x1 x2 x3 x4 x5 cY KA S4
        go_wp2_with fail
        go_ret2
        exact ⟨ret_two (congrArg Prod.fst HD.out).symm (congrArg Prod.snd HD.out).symm, B5.out⟩
      · have hζ : ζ < p.length := by
          have := (OK.out.next hσ hjl)
          obtain ⟨y', hy', hy1', _, _, _, hn2'⟩ := this
          have e1 : nth ys j = (y : Int) := by
            have := HDR.out
            rw [drop_getD ys j hjl] at this
            exact (List.cons.inj this).1
          have e2 : y' = y := by omega
          subst e2
          omega
        have HN : Hid (∃ (σ : Nat) (u1 u2 : Value) (pre : List Int), σ < p.length ∧ pre.length = j + 1 ∧ Rn w3 b A p.length C B nx.length D 0 0 (σ : Int) u1 u2 (pre ++ [nth p σ]) (ys.take (j + 1)) w5 ∧ goW nx σ0 ys = goW nx σ (ys.drop (j + 1)) ∧ atomsW p nx σ0 ys = pre ++ atomsW p nx σ (ys.drop (j + 1))) := by
          have hnz : ¬ nxt nx σ (y : Int) < 0 := by rw [HNX.out, hz]; omega
          have hzt : (nxt nx σ (y : Int)).toNat = ζ := by rw [HNX.out, hz]; rfl
          refine ⟨ζ, u1', u2', pre ++ [nth p σ], hζ, by simp [HPRE.out], by rw [HTK.out]; exact R5, ?_, ?_⟩
          · rw [HGO.out, HDR.out]
            show (if nxt nx σ (y : Int) < 0 then none else goW nx (nxt nx σ (y : Int)).toNat (ys.drop (j + 1))) = _
            rw [if_neg hnz, hzt]
          · rw [HAT.out, HDR.out]
            show pre ++ (nth p σ :: atomsW p nx (nxt nx σ (y : Int)).toNat (ys.drop (j + 1))) = _
            rw [hzt, List.append_assoc]
            rfl
        clear R5 hz x0 x1 x2 x3 x4 x5 cY KA S4
        go_wp2_with fail
        go_roundw
        case rel => exact ⟨j + 1, by omega, by go_num, HN⟩
        case measure => simp [intOf]; omega
    · obtain rfl : j = ys.length := by omega
      have hg2 : goW nx σ0 ys = some σ := by rw [hgo, List.drop_length]; rfl
      have ha2 : atomsW p nx σ0 ys = pre ++ [nth p σ] := by rw [hat, List.drop_length]; rfl
      have HD : Hid (folO t a p nx (σ0 : Int) xs ys = if pre ++ [nth p σ] = xs then ((σ : Int), 0) else (0, 4)) := by show _ = _; rw [HR.out, hg2, ha2]
      rw [List.take_length] at RN
      obtain ⟨tr, htr⟩ : ∃ tr, tr = pre ++ [nth p σ] := ⟨_, rfl⟩
      have hlt : tr.length ≤ 11 := by rw [htr]; simp; omega
      rw [← htr] at RN HD
      obtain ⟨A1, D1, rfl⟩ := RN.form1
      obtain ⟨A2, D2', rfl⟩ := RN.form2
      have I1 : Ints wr tr A1 := by
        obtain ⟨A1', D1', he, hi⟩ := own_ints RN.o1 RN.sees.size
        cases he
        exact hi.ints
      have I2 : Ints wr ys A2 := by
        obtain ⟨A1', D1', he, hi⟩ := own_ints RN.o2 RN.sees.size
        cases he
        exact hi.ints
      have KS : Hid (∀ W : World, Sees wr W → Calls Tryd.prog 48 #[.agg #[.slice A1 tr.length D1, .slice A2 ys.length D2'], .agg #[.slice Z xs.length C2, .slice Y ys.length D2]] W fun e w' => e = .returned (.bool (decide (tr = xs))) ∧ Below W.heap.size W w') := fun W h =>
        (implSameWord_any tr ys xs ys (by omega) A1 A2 Z Y D1 D2' C2 D2 W (I1.sees h) (I2.sees h) ((HZ.out.sees S4.1).sees h) ((HY.out.sees S4.1).sees h)).mono fun e w' hh => ⟨by rw [hh.1]; simp, hh.2⟩
      obtain ⟨q, hq⟩ : ∃ q : Bool, q = decide (tr = xs) := ⟨_, rfl⟩
      rw [← hq] at KS
      have HQ := Lib.hid hq
      clear hq
      obtain ⟨z0, z1, z2, z3, z4, z5, z6, e3, e4, e5⟩ := seven_rn RN.blk
      have B4 := Lib.hid S4.1
      clear hg2 ha2 htr I1 I2 hgo hat hpre hI RN S4 x0 x1 x2 x3 z0 z1 z2 z6 e3 e4 e5
      cases q
      all_goals
        go_wp2_with fail
        go_region_held3 (fun w' => Sees wr w' ∧ w'.cell? ⟨b, 3, none⟩ = some (.int .i64 (σ : Int)) ∧ w'.cell? ⟨b, 4, none⟩ = some (.slice A1 tr.length D1) ∧ w'.cell? ⟨b, 5, none⟩ = some (.slice A2 ys.length D2') ∧ w'.cell? ⟨w.heap.size + 1 + 1, 0, none⟩ = some (.slice Z xs.length C2) ∧ w'.cell? ⟨w.heap.size + 1 + 1, 1, none⟩ = some (.slice Y ys.length D2) ∧ True)
          (first | exact ⟨(Sees.refl wr).drew, z3, z4, z5, x4, x5, trivial⟩ | exact ⟨Sees.below (Sees.refl wr).drew hb1, kc hb1 z3, kc hb1 z4, kc hb1 z5, kc hb1 x4, kc hb1 x5, trivial⟩ | (go_keep; done))
          (first | (go_at_call 48; refine (KS.out _ (Sees.refl wr).drew).mono ?_; rintro e w6 ⟨rfl, hb1⟩))
        have B6 := Lib.hid (B4.out.below (Sees.below (Sees.refl wr).drew hb1))
        have z3' := kc hb1 z3
        clear hb1 z3 z4 z5 x4 x5 KS
      · have HE : Hid (folO t a p nx (σ0 : Int) xs ys = (0, 4)) := by show _ = _; rw [HD.out, if_neg (of_decide_eq_false HQ.out.symm)]
        clear HQ HD
        have HD := HE
        go_wp2_with fail
        go_ret2
        exact ⟨ret_two (congrArg Prod.fst HD.out).symm (congrArg Prod.snd HD.out).symm, B6.out⟩
      · have HE : Hid (folO t a p nx (σ0 : Int) xs ys = ((σ : Int), 0)) := by show _ = _; rw [HD.out, if_pos (of_decide_eq_true HQ.out.symm)]
        clear HQ HD
        have HD := HE
        go_wp2_with fail
        go_ret2
        exact ⟨ret_two (congrArg Prod.fst HD.out).symm (congrArg Prod.snd HD.out).symm, B6.out⟩
end Go.Proofs.YtlfafcbieeambaaDoor
