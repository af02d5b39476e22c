/- Contracts of spec.ValidWord, impl.ValidWord. -/
import Derived.Test.YtcgbepmhfimbjaaVWord
namespace Go.Proofs.Ytcgbepmhfimbjaa
open Go.RowKit

set_option maxRecDepth 100000 in
set_option maxHeartbeats 2000000 in
theorem implValidWord_any (t a : Int) (p r : List Int) (h0 : p.length + r.length ≤ 1048576) (A B : Option Addr) (C D : Nat) (w : World) (hl : Ints w p A) (hr : Ints w r B) :
    Calls Try.prog 81 #[.agg #[.int .i64 t, .int .i64 a], .agg #[.slice A p.length C, .slice B r.length D]] w fun e w' => e = .returned (.bool (validW t a p r)) ∧ Below w.heap.size w w' := by
  obtain ⟨q1, hq1⟩ : ∃ q1 : Bool, q1 = sigOk t a := ⟨_, rfl⟩
  have K1 : Hid (∀ W : World, Calls Try.prog 92 #[.agg #[.int .i64 t, .int .i64 a]] W fun e w' => e = .returned (.bool q1) ∧ Below W.heap.size W w') := fun W => by rw [hq1]; exact implValidSig_any t a W
  cases q1
  · have HD : Hid (validW t a p r = false) := by show _ = _; unfold validW; rw [← hq1]; rfl
    clear hq1
    go_enter Try.func81, Try.ntmps81
    go_wp2_with fail
    refine (K1.out _).mono ?_
    rintro e w1 ⟨rfl, hb⟩
    have H1 : Hid (St w [(w.heap.size, 0, .int .i64 t), (w.heap.size, 1, .int .i64 a), (w.heap.size + 1, 0, .slice A p.length C), (w.heap.size + 1, 1, .slice B r.length D)] w1) := St.below (l := [(w.heap.size, 0, .int .i64 t), (w.heap.size, 1, .int .i64 a), (w.heap.size + 1, 0, .slice A p.length C), (w.heap.size + 1, 1, .slice B r.length D)]) ⟨(by unfold Sees; go_grown), (by simp [go_sem]), (by simp [go_sem]), (by simp [go_sem]), (by simp [go_sem]), trivial⟩ hb
    clear hb
    obtain ⟨sS, s0, s1, s2, s3, _⟩ := H1.out
    go_wp2_with fail
    go_ret
    exact ⟨ret_bool HD.out.symm, H1.out.1⟩

  have hsg := sigOk_of hq1.symm
  by_cases hlen : 10 < r.length
  · have HD : Hid (validW t a p r = false) := by
      show _ = _
      unfold validW
      rw [decide_eq_false (p := r.length ≤ 10) (by omega)]; simp
    have z1 : decide ((10 : Int) < (r.length : Int)) = true := decide_eq_true (by omega)
    clear hq1
    go_enter Try.func81, Try.ntmps81
    go_wp2_with fail
    refine (K1.out _).mono ?_
    rintro e w1 ⟨rfl, hb⟩
    have H1 : Hid (St w [(w.heap.size, 0, .int .i64 t), (w.heap.size, 1, .int .i64 a), (w.heap.size + 1, 0, .slice A p.length C), (w.heap.size + 1, 1, .slice B r.length D)] w1) := St.below (l := [(w.heap.size, 0, .int .i64 t), (w.heap.size, 1, .int .i64 a), (w.heap.size + 1, 0, .slice A p.length C), (w.heap.size + 1, 1, .slice B r.length D)]) ⟨(by unfold Sees; go_grown), (by simp [go_sem]), (by simp [go_sem]), (by simp [go_sem]), (by simp [go_sem]), trivial⟩ hb
    clear hb
    obtain ⟨sS, s0, s1, s2, s3, _⟩ := H1.out
    go_wp2_with fail
    go_ret
    exact ⟨ret_bool HD.out.symm, H1.out.1⟩

  have z1 : decide ((10 : Int) < (r.length : Int)) = false := decide_eq_false (by omega)
  by_cases hpl : p.length = r.length + 1
  case neg =>
    have HD : Hid (validW t a p r = false) := by
      show _ = _
      unfold validW
      rw [decide_eq_false hpl]; simp
    have z2 : ((p.length : Int) != (r.length : Int) + 1) = true := by rw [bne_iff_ne]; omega
    clear hq1
    go_enter Try.func81, Try.ntmps81
    go_wp2_with fail
    refine (K1.out _).mono ?_
    rintro e w1 ⟨rfl, hb⟩
    have H1 : Hid (St w [(w.heap.size, 0, .int .i64 t), (w.heap.size, 1, .int .i64 a), (w.heap.size + 1, 0, .slice A p.length C), (w.heap.size + 1, 1, .slice B r.length D)] w1) := St.below (l := [(w.heap.size, 0, .int .i64 t), (w.heap.size, 1, .int .i64 a), (w.heap.size + 1, 0, .slice A p.length C), (w.heap.size + 1, 1, .slice B r.length D)]) ⟨(by unfold Sees; go_grown), (by simp [go_sem]), (by simp [go_sem]), (by simp [go_sem]), (by simp [go_sem]), trivial⟩ hb
    clear hb
    obtain ⟨sS, s0, s1, s2, s3, _⟩ := H1.out
    go_wp2_with fail
    go_ret
    exact ⟨ret_bool HD.out.symm, H1.out.1⟩

  have z2 : ((p.length : Int) != (r.length : Int) + 1) = false := by
    rw [show (p.length : Int) = (r.length : Int) + 1 by omega]; simp
  have HD : Hid (validW t a p r = (p.all (atomB t) && r.all (actB a))) := by
    show _ = _
    unfold validW
    rw [← hq1, decide_eq_true hpl, decide_eq_true (p := r.length ≤ 10) (by omega)]; simp
  obtain ⟨na, hna⟩ : ∃ na : Int, na = atomsN t := ⟨_, rfl⟩
  have KA : Hid (∀ W : World, Calls Try.prog 155 #[.agg #[.int .i64 t, .int .i64 a]] W fun e w' => e = .returned (.int .i64 na) ∧ Below W.heap.size W w') := fun W => by rw [hna]; exact atomCount_any t a W hsg.1 hsg.2.1
  have HNA := Lib.hid hna
  clear hna hq1 hpl
  go_enter Try.func81, Try.ntmps81
  go_wp2_with fail
  refine (K1.out _).mono ?_
  rintro e w1 ⟨rfl, hb⟩
  have H1 : Hid (St w [(w.heap.size, 0, .int .i64 t), (w.heap.size, 1, .int .i64 a), (w.heap.size + 1, 0, .slice A p.length C), (w.heap.size + 1, 1, .slice B r.length D)] w1) := St.below (l := [(w.heap.size, 0, .int .i64 t), (w.heap.size, 1, .int .i64 a), (w.heap.size + 1, 0, .slice A p.length C), (w.heap.size + 1, 1, .slice B r.length D)]) ⟨(by unfold Sees; go_grown), (by simp [go_sem]), (by simp [go_sem]), (by simp [go_sem]), (by simp [go_sem]), trivial⟩ hb
  clear hb
  obtain ⟨sS, s0, s1, s2, s3, _⟩ := H1.out
  go_wp2_with fail
  clear s0 s1 s2 s3 sS
  go_loopw [31] (fun i wr => ∃ j : Nat, j ≤ p.length ∧ i = .int .i64 j ∧ Hid (p.all (atomB t) = (p.drop j).all (atomB t)) ∧ Hid (St w [(w.heap.size, 0, .int .i64 t), (w.heap.size, 1, .int .i64 a), (w.heap.size + 1, 0, .slice A p.length C), (w.heap.size + 1, 1, .slice B r.length D)] wr)) (fun i _ => p.length - (intOf i).toNat)
  case atStart => exact ⟨0, Nat.zero_le _, rfl, rfl, H1⟩
  case round =>
    obtain ⟨j, hj, rfl, hq, hS⟩ := hrel
    obtain ⟨sS, s0, s1, s2, s3, _⟩ := hS.out
    by_cases hjl : j < p.length
    · obtain ⟨b', o', hA, hat⟩ := hl (by rintro rfl; simp at hjl)
      have c0 := kc sS (hat j hjl)
      have hat2 := Lib.hid hat; clear hat
      subst hA
      obtain ⟨q2, hqe⟩ : ∃ q2 : Bool, q2 = atomB t (nth p j) := ⟨_, rfl⟩
      have K2 : Hid (∀ W : World, Calls Try.prog 154 #[.int .i64 (nth p j), .int .i64 na] W fun e w' => e = .returned (.bool q2) ∧ W = w') := fun W => by rw [hqe, atomB_below, ← HNA.out]; exact below_any (nth p j) na W
      have hq1 : Hid (p.all (atomB t) = (q2 && (p.drop (j + 1)).all (atomB t))) := by show _ = _; rw [hq.out, all_step _ _ _ hjl, hqe]
      clear hqe hq
      go_wp2_with fail
      refine (KA.out _).mono ?_
      rintro e w1 ⟨rfl, hb1⟩
      have H2 : Hid (St w [(w.heap.size, 0, .int .i64 t), (w.heap.size, 1, .int .i64 a), (w.heap.size + 1, 0, .slice (some ⟨b', o', none⟩) p.length C), (w.heap.size + 1, 1, .slice B r.length D)] w1) := hS.out.below hb1
      have H2S := H2.out.1
      clear hb1 s0 s1 s2 s3 sS hS c0
      go_wp2_with fail
      refine (K2.out _).mono ?_
      rintro e w' ⟨rfl, rfl⟩
      cases q2
      · go_wp2_with fail
        go_ret
        exact ⟨ret_bool (by rw [HD.out, hq1.out]; simp), H2S⟩
      · have hq2 : Hid (p.all (atomB t) = (p.drop (j + 1)).all (atomB t)) := hq1.out
        clear hq1
        go_wp2_with fail
        go_roundw
        case rel => exact ⟨j + 1, by omega, by go_num, hq2, H2⟩
        case measure => simp [intOf]; omega
    · obtain rfl : j = p.length := by omega
      have HE : Hid (p.all (atomB t) = true) := by show _ = _; rw [hq.out, all_end]
      clear hq
      go_wp2_with fail
      clear s0 s1 s2 s3 sS
      go_loopw [44] (fun i wr => ∃ j : Nat, j ≤ r.length ∧ i = .int .i64 j ∧ Hid (r.all (actB a) = (r.drop j).all (actB a)) ∧ Hid (St w [(w.heap.size, 0, .int .i64 t), (w.heap.size, 1, .int .i64 a), (w.heap.size + 1, 0, .slice A p.length C), (w.heap.size + 1, 1, .slice B r.length D)] wr)) (fun i _ => r.length - (intOf i).toNat)
      case atStart => exact ⟨0, Nat.zero_le _, rfl, rfl, hS⟩
      case round =>
        obtain ⟨j, hj, rfl, hq, hS⟩ := hrel
        obtain ⟨sS, s0, s1, s2, s3, _⟩ := hS.out
        by_cases hjl : j < r.length
        · obtain ⟨b', o', hA, hat⟩ := hr (by rintro rfl; simp at hjl)
          have c0 := kc sS (hat j hjl)
          have hat2 := Lib.hid hat; clear hat
          subst hA
          obtain ⟨q2, hqe⟩ : ∃ q2 : Bool, q2 = actB a (nth r j) := ⟨_, rfl⟩
          have K2 : Hid (∀ W : World, Calls Try.prog 154 #[.int .i64 (nth r j), .int .i64 a] W fun e w' => e = .returned (.bool q2) ∧ W = w') := fun W => by rw [hqe, actB_below]; exact below_any (nth r j) a W
          have hq1 : Hid (r.all (actB a) = (q2 && (r.drop (j + 1)).all (actB a))) := by show _ = _; rw [hq.out, all_step _ _ _ hjl, hqe]
          clear hqe hq
          go_wp2_with fail
          refine (K2.out _).mono ?_
          rintro e w' ⟨rfl, rfl⟩
          have H2 : Hid (St w [(w.heap.size, 0, .int .i64 t), (w.heap.size, 1, .int .i64 a), (w.heap.size + 1, 0, .slice A p.length C), (w.heap.size + 1, 1, .slice (some ⟨b', o', none⟩) r.length D)] wr) := hS.out
          have H2S := H2.out.1
          clear s0 s1 s2 s3 sS hS c0
          cases q2
          · go_wp2_with fail
            go_ret
            exact ⟨ret_bool (by rw [HD.out, HE.out, hq1.out]; simp), H2S⟩
          · have hq2 : Hid (r.all (actB a) = (r.drop (j + 1)).all (actB a)) := hq1.out
            clear hq1
            go_wp2_with fail
            go_roundw
            case rel => exact ⟨j + 1, by omega, by go_num, hq2, H2⟩
            case measure => simp [intOf]; omega
        · obtain rfl : j = r.length := by omega
          have HR : Hid (r.all (actB a) = true) := by show _ = _; rw [hq.out, all_end]
          clear hq
          go_wp2_with fail
          go_ret
          exact ⟨ret_bool (by rw [HD.out, HE.out, HR.out]; rfl), hS.out.1⟩

end Go.Proofs.Ytcgbepmhfimbjaa
