/- Contract of spec.FollowWord. -/
import Derived.Test.YtlfafcbieeambaaDoorFolD
import Derived.Test.YtlfafcbieeambaaDoorWldS
namespace Go.Proofs.YtlfafcbieeambaaDoor
open Go.RowKit

theorem ret_two {a b c d : Int} (h1 : a = b) (h2 : c = d) : Ending.returned (.tuple #[.int .i64 a, .int .i64 c]) = .returned (.tuple #[.int .i64 b, .int .i64 d]) := by rw [h1, h2]

set_option maxHeartbeats 8000000 in
set_option maxRecDepth 100000 in
theorem specFollowWord_any (t a : Int) (p : List Int) (nx : List (List Int)) (m : Int) (xs ys : List Int) (hs : SmallW p nx) (hx : xs.length + ys.length ≤ 1048576) (A B Z Y : Option Addr) (C D C2 D2 : Nat) (w : World) (hA : Ints w p A) (hB : II 0 w nx B) (hZ : Ints w xs Z) (hY : Ints w ys Y) :
    Calls Tryd.prog 14 #[.agg #[.int .i64 t, .int .i64 a], .agg #[.slice A p.length C, .slice B nx.length D], .int .i64 m, .agg #[.slice Z xs.length C2, .slice Y ys.length D2]] w fun e w' => e = .returned (.tuple #[.int .i64 (folO t a p nx m xs ys).1, .int .i64 (folO t a p nx m xs ys).2]) ∧ Below w.heap.size w w' := by
  obtain ⟨q1, hq1⟩ : ∃ q1 : Bool, q1 = validD t a p nx := ⟨_, rfl⟩
  have K1 : Hid (∀ W : World, St w [(w.heap.size, 0, .int .i64 t), (w.heap.size, 1, .int .i64 a), (w.heap.size + 1, 0, .slice A p.length C), (w.heap.size + 1, 1, .slice B nx.length D), (w.heap.size + 1 + 1, 0, .slice Z xs.length C2), (w.heap.size + 1 + 1, 1, .slice Y ys.length D2)] W → Calls Tryd.prog 38 #[.agg #[.int .i64 t, .int .i64 a], .pointer (some ⟨w.heap.size + 1, 0, none⟩)] W fun e w' => e = .returned (.bool q1) ∧ Below W.heap.size W w') := fun W h => by
    rw [hq1]
    exact l06World_any t a p nx hs A B C D _ W (hA.sees h.1) (ii_ok.below hB h.1) h.2.2.2.1 h.2.2.2.2.1
  obtain ⟨q2, hq2⟩ : ∃ q2 : Bool, q2 = validW t a xs ys := ⟨_, rfl⟩
  have K2 : Hid (∀ W : World, St w [(w.heap.size, 0, .int .i64 t), (w.heap.size, 1, .int .i64 a), (w.heap.size + 1, 0, .slice A p.length C), (w.heap.size + 1, 1, .slice B nx.length D), (w.heap.size + 1 + 1, 0, .slice Z xs.length C2), (w.heap.size + 1 + 1, 1, .slice Y ys.length D2)] W → Calls Tryd.prog 39 #[.agg #[.int .i64 t, .int .i64 a], .pointer (some ⟨w.heap.size + 1 + 1, 0, none⟩)] W fun e w' => e = .returned (.bool q2) ∧ Below W.heap.size W w') := fun W h => by
    rw [hq2]
    exact l01Word_any xs ys hx t a Z Y C2 D2 _ 0 W (hZ.sees h.1) (hY.sees h.1) h.2.2.2.2.2.1 h.2.2.2.2.2.2.1
  obtain ⟨d, hd⟩ : ∃ d : Int, d = (p.length : Int) - 1 := ⟨_, rfl⟩
  have wd : IntKind.i64.wrap ((p.length : Int) - 1) = d := by rw [hd]; exact IntWalk.i64_in _ (by have := hs.1; omega)
  obtain ⟨q3, hq3⟩ : ∃ q3 : Bool, q3 = inB m 0 ((p.length : Int) - 1) := ⟨_, rfl⟩
  have K3 : Hid (∀ W : World, Calls Tryd.prog 40 #[.int .i64 m, .int .i64 0, .int .i64 d] W fun e w' => e = .returned (.bool q3) ∧ Below W.heap.size W w') := fun W => (in_any m 0 d W).mono fun e w' h => ⟨by rw [hq3, ← hd]; exact h.1, by rw [← h.2]; exact Below.refl _ _⟩
  obtain ⟨w0, hw0⟩ : ∃ w0, w0 = ((w.alloc (.cells #[.int .i64 t, .int .i64 a] 32)).alloc (.cells #[.slice A p.length C, .slice B nx.length D] 53)).alloc (.cells #[.slice Z xs.length C2, .slice Y ys.length D2] 55) := ⟨_, rfl⟩
  have S0 : St w [(w.heap.size, 0, .int .i64 t), (w.heap.size, 1, .int .i64 a), (w.heap.size + 1, 0, .slice A p.length C), (w.heap.size + 1, 1, .slice B nx.length D), (w.heap.size + 1 + 1, 0, .slice Z xs.length C2), (w.heap.size + 1 + 1, 1, .slice Y ys.length D2)] w0 := by
    rw [hw0]
    exact ⟨(((Sees.refl w).alloc _).alloc _).alloc _, (by simp [go_sem]), (by simp [go_sem]), (by simp [go_sem]), (by simp [go_sem]), (by simp [go_sem]), (by simp [go_sem]), trivial⟩
  have HA := Lib.hid hA; have HB := Lib.hid hB; have HZ := Lib.hid hZ; have HY := Lib.hid hY
  clear hA hB hZ hY hs hd
  cases q1
  · have HD : Hid (folO t a p nx m xs ys = (0, 1)) := by show _ = _; unfold folO; rw [← hq1]; rfl
    clear hq1 hq2 hq3 K2 K3 wd
    go_enter Tryd.func14, Tryd.ntmps14
    go_wp2_with fail
    rw [← hw0]
    refine (K1.out _ S0).mono ?_
    rintro e w1 ⟨rfl, hb⟩
    have S1 := St.below S0 hb
    obtain ⟨_, x0, x1, x2, x3, x4, x5, _⟩ := id S1
    clear hb hw0
    go_wp2_with fail
    clear x0 x1 x2 x3 x4 x5
    go_ret2
    exact ⟨ret_two (congrArg Prod.fst HD.out).symm (congrArg Prod.snd HD.out).symm, S1.1⟩
  cases q2
  · have HD : Hid (folO t a p nx m xs ys = (0, 1)) := by show _ = _; unfold folO; rw [← hq1, ← hq2]; rfl
    clear hq1 hq2 hq3 K3 wd
    go_enter Tryd.func14, Tryd.ntmps14
    go_wp2_with fail
    rw [← hw0]
    refine (K1.out _ S0).mono ?_
    rintro e w1 ⟨rfl, hb⟩
    have S1 := St.below S0 hb
    obtain ⟨_, x0, x1, x2, x3, x4, x5, _⟩ := id S1
    clear hb hw0
    go_wp2_with fail
    clear x0 x1 x2 x3 x4 x5
    refine (K2.out _ S1).mono ?_
    rintro e w2 ⟨rfl, hb⟩
    have S2 := St.below S1 hb
    obtain ⟨_, x0, x1, x2, x3, x4, x5, _⟩ := id S2
    clear hb S1
    go_wp2_with fail
    clear x0 x1 x2 x3 x4 x5
    go_ret2
    exact ⟨ret_two (congrArg Prod.fst HD.out).symm (congrArg Prod.snd HD.out).symm, S2.1⟩
  cases q3
  · have HD : Hid (folO t a p nx m xs ys = (0, 2)) := by
      show _ = _
      unfold folO
      rw [← hq1, ← hq2]
      have h := of_decide_eq_false (hq3.symm : decide _ = false)
      show (if 0 ≤ m ∧ m < p.length then folR p nx ys xs m.toNat else (0, 2)) = (0, 2)
      rw [if_neg (by omega)]
    clear hq1 hq2 hq3
    go_enter Tryd.func14, Tryd.ntmps14
    go_wp2_with fail
    rw [← hw0]
    refine (K1.out _ S0).mono ?_
    rintro e w1 ⟨rfl, hb⟩
    have S1 := St.below S0 hb
    obtain ⟨_, x0, x1, x2, x3, x4, x5, _⟩ := id S1
    clear hb hw0
    go_wp2_with fail
    clear x0 x1 x2 x3 x4 x5
    refine (K2.out _ S1).mono ?_
    rintro e w2 ⟨rfl, hb⟩
    have S2 := St.below S1 hb
    obtain ⟨_, x0, x1, x2, x3, x4, x5, _⟩ := id S2
    clear hb S1
    go_wp2_with fail
    clear x0 x1 x2 x3 x4 x5
    refine (K3.out _).mono ?_
    rintro e w3 ⟨rfl, hb⟩
    have S3 := St.below S2 hb
    obtain ⟨_, x0, x1, x2, x3, x4, x5, _⟩ := id S3
    clear hb S2
    go_wp2_with fail
    clear x0 x1 x2 x3 x4 x5
    go_ret2
    exact ⟨ret_two (congrArg Prod.fst HD.out).symm (congrArg Prod.snd HD.out).symm, S3.1⟩
  have hm := of_decide_eq_true (hq3.symm : decide _ = true)
  have HF : Hid (folO t a p nx m xs ys = folR p nx (ys.drop 0) (xs.drop 0) m.toNat) := by
    show _ = _
    unfold folO
    rw [← hq1, ← hq2]
    show (if 0 ≤ m ∧ m < p.length then folR p nx ys xs m.toNat else (0, 2)) = _
    rw [if_pos (by omega), List.drop_zero, List.drop_zero]
  have OK := Lib.hid (fol_ok hq1.symm hq2.symm)
  obtain ⟨σ0, hσ⟩ : ∃ σ : Nat, m = σ := ⟨m.toNat, by omega⟩
  have hσ1 : σ0 < p.length := by omega
  have hlen : Hid (xs.length = ys.length + 1) := OK.out.len
  subst hσ
  rw [Int.toNat_natCast] at HF
  clear hq1 hq2 hq3 hm
  go_enter Tryd.func14, Tryd.ntmps14
  go_wp2_with fail
  rw [← hw0]
  refine (K1.out _ S0).mono ?_
  rintro e w1 ⟨rfl, hb⟩
  have S1 := St.below S0 hb
  obtain ⟨_, x0, x1, x2, x3, x4, x5, _⟩ := id S1
  clear hb hw0
  go_wp2_with fail
  clear x0 x1 x2 x3 x4 x5
  refine (K2.out _ S1).mono ?_
  rintro e w2 ⟨rfl, hb⟩
  have S2 := St.below S1 hb
  obtain ⟨_, x0, x1, x2, x3, x4, x5, _⟩ := id S2
  clear hb S1
  go_wp2_with fail
  clear x0 x1 x2 x3 x4 x5
  refine (K3.out _).mono ?_
  rintro e w3 ⟨rfl, hb⟩
  have S3 := St.below S2 hb
  obtain ⟨_, x0, x1, x2, x3, x4, x5, _⟩ := id S3
  clear hb S2
  go_wp2_with fail
  clear x0 x1 x2 x3 x4 x5
  have HS := Lib.hid S3
  clear S3 K1 K2 K3 wd S0
  go_loopw [2, 10] (fun s i wr => ∃ (j σ : Nat), j ≤ ys.length ∧ i = .int .i64 j ∧ s = .int .i64 σ ∧ σ < p.length ∧ Hid (folO t a p nx σ0 xs ys = folR p nx (ys.drop j) (xs.drop j) σ) ∧ Hid (St w [(w.heap.size, 0, .int .i64 t), (w.heap.size, 1, .int .i64 a), (w.heap.size + 1, 0, .slice A p.length C), (w.heap.size + 1, 1, .slice B nx.length D), (w.heap.size + 1 + 1, 0, .slice Z xs.length C2), (w.heap.size + 1 + 1, 1, .slice Y ys.length D2)] wr)) (fun _ i _ => ys.length - (intOf i).toNat)
  case atStart => exact ⟨0, σ0, Nat.zero_le _, rfl, rfl, hσ1, HF, HS⟩
  case round =>
    obtain ⟨j, σ, hj, rfl, rfl, hσ, hq, hS⟩ := hrel
    clear HF HS
    obtain ⟨hb, x0, x1, x2, x3, x4, x5, _⟩ := hS.out
    obtain ⟨yA, zA, rfl, hatA⟩ := HA.out (by rintro rfl; simp at hσ)
    obtain ⟨yZ, zZ, rfl, hatZ⟩ := HZ.out (by rintro rfl; have := hlen.out; simp at this)
    have cA := kc hb (hatA σ hσ)
    have s0 : (0 : Int) ≤ (σ : Int) := Int.natCast_nonneg _
    have s1 : (σ : Int) < (p.length : Int) := by omega
    have j0 : (0 : Int) ≤ (j : Int) := Int.natCast_nonneg _
    have j2 : (j : Int) < (xs.length : Int) := by have := hlen.out; omega
    have cZ := kc hb (hatZ j (by have := hlen.out; omega))
    obtain ⟨u, hu⟩ : ∃ u : Int, u = nth p σ := ⟨_, rfl⟩
    obtain ⟨v, hv⟩ : ∃ v : Int, v = nth xs j := ⟨_, rfl⟩
    rw [← hu] at cA
    rw [← hv] at cZ
    have HU := Lib.hid hu; have HV := Lib.hid hv
    have HAT := Lib.hid hatA; have HAT2 := Lib.hid hatZ
    clear hu hv hatA hatZ
    by_cases hjl : j < ys.length
    · obtain ⟨yY, zY, rfl, hatY⟩ := HY.out (by rintro rfl; simp at hjl)
      obtain ⟨y, hy, hy1, hrl, hnx, hn1, hn2⟩ := OK.out.next hσ hjl
      have cY := kc hb (hatY j hjl)
      rw [hy1] at cY
      obtain ⟨yB, zB, _, rfl, hatB⟩ := HB.out (by rintro rfl; simp at hy)
      obtain ⟨Bj, Dj, cB', hRow⟩ := hatB y nx[y] (List.getElem?_eq_getElem hy)
      obtain ⟨yR, zR, rfl, hatR⟩ := IntsL.ints hRow (by intro h; rw [h] at hrl; simp at hrl; omega)
      have cB := kc hb cB'
      have cR := kc hb (hatR σ (by omega))
      have hst := folR_step p nx ys xs σ j hjl hlen.out
      rw [hnx, ← HU.out, ← HV.out] at hst
      rw [hrl] at cB
      obtain ⟨z, hz⟩ : ∃ z : Int, z = nth nx[y] σ := ⟨_, rfl⟩
      rw [← hz] at cR hst hn1 hn2
      have j1 : (j : Int) < (ys.length : Int) := by omega
      have yy0 : (0 : Int) ≤ (y : Int) := Int.natCast_nonneg _
      have yy1 : (y : Int) < (nx.length : Int) := by omega
      have HST := Lib.hid (hq.out.trans hst)
      have HY1 := Lib.hid hatY; have HB1 := Lib.hid hatB; have HR1 := Lib.hid hatR; have HRL := Lib.hid hrl
      clear hatY hatB hatR hRow cB' hst hy1 hnx hz hrl hq
      by_cases huv : u = v
      case neg =>
        have tb : (u != v) = true := by rw [bne_iff_ne]; exact huv
        have HD : Hid (folO t a p nx σ0 xs ys = (0, 4)) := by show _ = _; rw [HST.out, if_neg (fun h => huv h.1)]
        clear huv HST
        go_wp2_with fail
        go_quiet (fail)
        have S4 := St.below hS.out (Joins.below_draws _ _ nq)
        clear x0 x1 x2 x3 x4 x5 cA cZ cY cB cR
        go_wp2_with fail
        go_ret2
        exact ⟨ret_two (congrArg Prod.fst HD.out).symm (congrArg Prod.snd HD.out).symm, S4.1⟩
      have tb : (u != v) = false := by simp [huv]
      by_cases hz0 : z < 0
      case pos =>
        have HD : Hid (folO t a p nx σ0 xs ys = (0, 4)) := by show _ = _; rw [HST.out, if_neg (fun h => h.2 hz0)]
        have tz : decide (z < 0) = true := decide_eq_true hz0
        clear huv HST
        go_wp2_with fail
        go_quiet (fail)
        have S4 := St.below hS.out (Joins.below_draws _ _ nq)
        clear x0 x1 x2 x3 x4 x5 cA cZ cY cB cR
        go_wp2_with fail
        go_ret2
        exact ⟨ret_two (congrArg Prod.fst HD.out).symm (congrArg Prod.snd HD.out).symm, S4.1⟩
      have HE : Hid (folO t a p nx σ0 xs ys = folR p nx (ys.drop (j + 1)) (xs.drop (j + 1)) z.toNat) := by show _ = _; rw [HST.out, if_pos ⟨huv, hz0⟩]
      obtain ⟨ζ, hζ⟩ : ∃ ζ : Nat, z = ζ := ⟨z.toNat, by omega⟩
      subst hζ
      rw [Int.toNat_natCast] at HE
      have tz : decide ((ζ : Int) < 0) = false := decide_eq_false hz0
      have hζ1 : ζ < p.length := by omega
      clear huv HST hn1 hn2
      go_wp2_with fail
      go_quiet (fail)
      have S4 := Lib.hid (St.below hS.out (Joins.below_draws _ _ nq))
      go_wp2_with fail
      go_quiet (fail)
      have S5 := Lib.hid (St.below S4.out (Joins.below_draws _ _ nq))
      have S6 := Lib.hid (St.below hS.out (Joins.below_draws _ _ nq))
      clear x0 x1 x2 x3 x4 x5 cA cZ cY cB cR
      go_wp2_with fail
      go_roundw
      case rel => first | exact ⟨j + 1, ζ, by omega, by go_num, rfl, hζ1, HE, S5⟩ | exact ⟨j + 1, ζ, by omega, by go_num, rfl, hζ1, HE, S6⟩ | exact ⟨j + 1, ζ, by omega, by go_num, rfl, hζ1, HE, St.below hS.out (Joins.below_draws _ _ _)⟩
      case measure => simp [intOf]; omega
    · obtain rfl : j = ys.length := by omega
      have hst := folR_end p nx ys xs σ hlen.out
      rw [← HU.out, ← HV.out] at hst
      have HST := Lib.hid (hq.out.trans hst)
      clear hst hq
      by_cases huv : u = v
      case neg =>
        have tb : (u != v) = true := by rw [bne_iff_ne]; exact huv
        have HD : Hid (folO t a p nx σ0 xs ys = (0, 4)) := by show _ = _; rw [HST.out, if_neg huv]
        clear huv HST
        go_wp2_with fail
        go_quiet (fail)
        have S4 := St.below hS.out (Joins.below_draws _ _ nq)
        clear x0 x1 x2 x3 x4 x5 cA cZ
        go_wp2_with fail
        go_ret2
        exact ⟨ret_two (congrArg Prod.fst HD.out).symm (congrArg Prod.snd HD.out).symm, S4.1⟩
      · have tb : (u != v) = false := by simp [huv]
        have HD : Hid (folO t a p nx σ0 xs ys = ((σ : Int), 0)) := by show _ = _; rw [HST.out, if_pos huv]
        clear huv HST
        go_wp2_with fail
        go_quiet (fail)
        have S4 := St.below hS.out (Joins.below_draws _ _ nq)
        clear x0 x1 x2 x3 x4 x5 cA cZ
        go_wp2_with fail
        go_ret2
        exact ⟨ret_two (congrArg Prod.fst HD.out).symm (congrArg Prod.snd HD.out).symm, S4.1⟩
end Go.Proofs.YtlfafcbieeambaaDoor
