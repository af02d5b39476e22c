/- Contracts of slices.EqualFunc at programs, impl.SameProg. -/
import Derived.Test.YtlfafcbieeambaaPg
import Derived.Test.YtlfafcbieeambaaSameI
namespace Go.Proofs.Ytlfafcbieeambaa
open Go.RowKit

/-- What is said of impl.SameProg, of kids of a size. -/
def SameSaid (N : Nat) : Prop := ∀ (f0 f1 : Pg), f0.nodes < N → f0.len ≤ 9223372036854775807 → f0.Fits → ∀ (cf0 cf1 : Fo), cf0.len ≤ 9223372036854775807 → cf0.Fits → ∀ (k0 n0 ck0 cn0 k1 n1 ck1 cn1 : Int) (A B A' B' : Option Addr) (C D C' D' : Nat) (w : World), cf0.Lies w A → f0.Lies w B → cf1.Lies w A' → f1.Lies w B' →
      Calls Try.prog 23 #[.agg #[.int .i64 k0, .int .i64 n0, .int .i64 ck0, .int .i64 cn0, .slice A cf0.len C, .slice B f0.len D], .agg #[.int .i64 k1, .int .i64 n1, .int .i64 ck1, .int .i64 cn1, .slice A' cf1.len C', .slice B' f1.len D']] w fun e w' => e = .returned (.bool (decide (k0 = k1 ∧ n0 = n1 ∧ (ck0 = ck1 ∧ cn0 = cn1 ∧ cf0 = cf1) ∧ f0 = f1))) ∧ Below w.heap.size w w'

set_option maxHeartbeats 2000000 in
set_option maxRecDepth 100000 in
theorem equalProgs_of {N : Nat} (ih : SameSaid N) (f0 f1 : Pg) (hN : f0.nodes < N + 1) (hm : f0.len ≤ 9223372036854775807) (hf : f0.Fits) (A A' : Option Addr) (C C' : Nat) (w : World) (hl : f0.Lies w A) (hl' : f1.Lies w A') :
    Calls Try.prog 58 #[.slice A f0.len C, .slice A' f1.len C', .func (.func 23) #[] #[]] w fun e w' => e = .returned (.bool (decide (f0 = f1))) ∧ Below w.heap.size w w' := by
  have IH := Lib.hid ih; clear ih
  by_cases hlen : f0.len = f1.len
  · have HL := Lib.hid hlen
    have tl : ((f0.len : Int) != (f1.len : Int)) = false := by simp [hlen]
    clear hlen
    have HH := Lib.hid hl; have HH' := Lib.hid hl'; have HF := Lib.hid hf
    clear hl hl' hf
    go_enter Try.func58, Try.ntmps58
    go_wp2_with fail
    go_loopw [17] (fun i wr => ∃ j : Nat, j ≤ f0.len ∧ i = .int .i64 j ∧ Hid ((f0 = f1) = (f0.drop j = f1.drop j)) ∧ Hid (Below w.heap.size w wr)) (fun i _ => f0.len - (intOf i).toNat)
    case atStart => exact ⟨0, Nat.zero_le _, rfl, (by show _ = _; rfl), Below.refl _ _⟩
    case round =>
      obtain ⟨j, hj, rfl, hq, hw⟩ := hrel
      clear tl
      by_cases hjl : j < f0.len
      · obtain ⟨c, p, rfl, hat⟩ := HH.out (by rintro rfl; simp [Pg.len] at hjl)
        obtain ⟨c', p', rfl, hat'⟩ := HH'.out (by rintro rfl; have := HL.out; simp [Pg.len] at this; omega)
        obtain ⟨k2, n2, ck2, cn2, cf2, ks, r, A1, C1, B1, D1, e1, e2, c0, c1, c2, c3, c4, hA1, c5, hB1⟩ := Pg.Lies.row hat hjl
        obtain ⟨k3, n3, ck3, cn3, cf3, ks', r', A2, C2, B2, D2, e3, e4, d0, d1, d2, d3, d4, hA2, d5, hB2⟩ := Pg.Lies.row hat' (by rw [← HL.out]; exact hjl)
        have hfd := Pg.fits_drop HF.out j
        have hnd := f0.nodes_drop j
        rw [e1.out] at hfd hnd
        have hkn : ks.nodes < N := by simp only [Pg.nodes] at hnd; omega
        have hq' : Hid ((f0 = f1) = ((k2 = k3 ∧ n2 = n3 ∧ (ck2 = ck3 ∧ cn2 = cn3 ∧ cf2 = cf3) ∧ ks = ks') ∧ f0.drop (j + 1) = f1.drop (j + 1))) := by
          show _ = _
          rw [hq.out, e1.out, e3.out, ← e2.out, ← e4.out]
          simp [and_assoc]
        obtain ⟨q, hqe⟩ : ∃ q : Bool, q = decide (k2 = k3 ∧ n2 = n3 ∧ (ck2 = ck3 ∧ cn2 = cn3 ∧ cf2 = cf3) ∧ ks = ks') := ⟨_, rfl⟩
        have KC : Hid (∀ W : World, Sees w W → Calls Try.prog 23 #[.agg #[.int .i64 k2, .int .i64 n2, .int .i64 ck2, .int .i64 cn2, .slice A1 cf2.len C1, .slice B1 ks.len D1], .agg #[.int .i64 k3, .int .i64 n3, .int .i64 ck3, .int .i64 cn3, .slice A2 cf3.len C2, .slice B2 ks'.len D2]] W fun e w' => e = .returned (.bool q) ∧ Below W.heap.size W w') := fun W h => by
          rw [hqe]
          exact IH.out ks ks' hkn hfd.2.1 hfd.2.2.1 cf2 cf3 hfd.1.1 hfd.1.2 k2 n2 ck2 cn2 k3 n3 ck3 cn3 A1 B1 A2 B2 C1 D1 C2 D2 W (hA1.sees h) (hB1.sees h) (hA2.sees h) (hB2.sees h)
        have HQ := Lib.hid hqe
        have HAT := Lib.hid hat; have HAT' := Lib.hid hat'
        have hb := hw.out
        have a0 := kc hb c0; have a1 := kc hb c1; have a2 := kc hb c2; have a3 := kc hb c3; have a4 := kc hb c4; have a5 := kc hb c5
        have b0 := kc hb d0; have b1 := kc hb d1; have b2 := kc hb d2; have b3 := kc hb d3; have b4 := kc hb d4; have b5 := kc hb d5
        have hj0 : (0 : Int) ≤ (j : Int) := Int.natCast_nonneg _
        have hj1 : (j : Int) < (f0.len : Int) := by omega
        have hj2 : (j : Int) < (f1.len : Int) := by have := HL.out; omega
        have y0 := ka (.cells #[.int .i64 k2, .int .i64 n2, .int .i64 ck2, .int .i64 cn2, .slice A1 cf2.len C1, .slice B1 ks.len D1] 50) b0; have y1 := ka (.cells #[.int .i64 k2, .int .i64 n2, .int .i64 ck2, .int .i64 cn2, .slice A1 cf2.len C1, .slice B1 ks.len D1] 50) b1; have y2 := ka (.cells #[.int .i64 k2, .int .i64 n2, .int .i64 ck2, .int .i64 cn2, .slice A1 cf2.len C1, .slice B1 ks.len D1] 50) b2; have y3 := ka (.cells #[.int .i64 k2, .int .i64 n2, .int .i64 ck2, .int .i64 cn2, .slice A1 cf2.len C1, .slice B1 ks.len D1] 50) b3; have y4 := ka (.cells #[.int .i64 k2, .int .i64 n2, .int .i64 ck2, .int .i64 cn2, .slice A1 cf2.len C1, .slice B1 ks.len D1] 50) b4; have y5 := ka (.cells #[.int .i64 k2, .int .i64 n2, .int .i64 ck2, .int .i64 cn2, .slice A1 cf2.len C1, .slice B1 ks.len D1] 50) b5
        clear b0 b1 b2 b3 b4 b5 hfd hnd hq hqe c0 c1 c2 c3 c4 c5 d0 d1 d2 d3 d4 d5 hA1 hB1 hA2 hB2 e1 e2 e3 e4 hat hat' IH
        go_wp2_with fail
        refine (KC.out _ (((show Sees w wr from hw.out).alloc _).alloc _)).mono ?_
        rintro e w1 ⟨rfl, hb1⟩
        have hw2 : Hid (Below w.heap.size w w1) := Sees.below (((show Sees w wr from hw.out).alloc _).alloc _) hb1
        clear hb1 hb a0 a1 a2 a3 a4 a5 y0 y1 y2 y3 y4 y5 KC
        cases q
        · have hq2 : Hid (decide (f0 = f1) = false) := by
            show _ = _
            refine decide_eq_false (fun h4 => of_decide_eq_false HQ.out.symm ?_)
            rw [hq'.out] at h4
            exact h4.1
          clear HQ hq'
          go_wp2_with fail
          go_ret
          exact ⟨ret_bool hq2.out.symm, hw2.out⟩
        · have hq2 : Hid ((f0 = f1) = (f0.drop (j + 1) = f1.drop (j + 1))) := by
            show _ = _
            rw [hq'.out]
            have h2 := of_decide_eq_true HQ.out.symm
            simp [h2]
          clear HQ hq'
          go_wp2_with fail
          go_roundw
          case rel => exact ⟨j + 1, by omega, by go_num, hq2, hw2⟩
          case measure => simp [intOf]; omega
      · obtain rfl : j = f0.len := by omega
        have hq2 : Hid (decide (f0 = f1) = true) := by
          show _ = _
          have h1 := hq.out
          rw [Pg.drop_len, HL.out, Pg.drop_len] at h1
          exact decide_eq_true (by rw [h1])
        clear hq
        go_wp2_with fail
        go_ret
        exact ⟨ret_bool hq2.out.symm, hw.out⟩
  · have tl : ((f0.len : Int) != (f1.len : Int)) = true := by rw [bne_iff_ne]; omega
    have HD : Hid (decide (f0 = f1) = false) := decide_eq_false (fun h => hlen (by rw [h]))
    clear hlen
    go_enter Try.func58, Try.ntmps58
    go_wp2_with fail
    go_ret
    exact ⟨ret_bool HD.out.symm, Below.refl _ _⟩

set_option maxHeartbeats 2000000 in
set_option maxRecDepth 100000 in
theorem sameProg_aux : ∀ N : Nat, SameSaid N := by
  intro N
  induction N with
  | zero => intro f0 f1 hN; exact absurd hN (Nat.not_lt_zero _)
  | succ N ih =>
    intro f0 f1 hN hm hf cf0 cf1 hcm hcf k0 n0 ck0 cn0 k1 n1 ck1 cn1 A B A' B' C D C' D' w hA hB hA' hB'
    obtain ⟨q1, hq1⟩ : ∃ q1 : Bool, q1 = decide (ck0 = ck1 ∧ cn0 = cn1 ∧ cf0 = cf1) := ⟨_, rfl⟩
    obtain ⟨q2, hq2⟩ : ∃ q2 : Bool, q2 = decide (f0 = f1) := ⟨_, rfl⟩
    have K1 : Hid (∀ W : World, Sees w W → Calls Try.prog 57 #[.agg #[.int .i64 ck0, .int .i64 cn0, .slice A cf0.len C], .agg #[.int .i64 ck1, .int .i64 cn1, .slice A' cf1.len C']] W fun e w' => e = .returned (.bool q1) ∧ Below W.heap.size W w') := fun W h => by
      rw [hq1]
      exact implSameExpr_aux (cf0.nodes + 1) cf0 cf1 (Nat.lt_succ_self _) hcm hcf ck0 cn0 ck1 cn1 A A' C C' W (hA.sees h) (hA'.sees h)
    have K2 : Hid (∀ W : World, Sees w W → Calls Try.prog 58 #[.slice B f0.len D, .slice B' f1.len D', .func (.func 23) #[] #[]] W fun e w' => e = .returned (.bool q2) ∧ Below W.heap.size W w') := fun W h => by
      rw [hq2]
      exact equalProgs_of ih f0 f1 hN hm hf B B' D D' W (hB.sees h) (hB'.sees h)
    have HD : Hid (decide (k0 = k1 ∧ n0 = n1 ∧ (ck0 = ck1 ∧ cn0 = cn1 ∧ cf0 = cf1) ∧ f0 = f1) = (decide (k0 = k1) && (decide (n0 = n1) && (q1 && q2)))) := by
      show _ = _
      rw [hq1, hq2, Bool.eq_iff_iff]
      simp
    clear hq1 hq2 hA hB hA' hB' ih hf hcf
    by_cases hk : k0 = k1
    case neg =>
      have tk : (k0 == k1) = false := by rw [beq_eq_false_iff_ne]; exact hk
      have HE : Hid (decide (k0 = k1 ∧ n0 = n1 ∧ (ck0 = ck1 ∧ cn0 = cn1 ∧ cf0 = cf1) ∧ f0 = f1) = false) := by show _ = _; rw [HD.out, decide_eq_false hk]; rfl
      clear hk HD
      go_enter Try.func23, Try.ntmps23
      go_wp2_with fail
      go_ret
      exact ⟨ret_bool HE.out.symm, by go_grown⟩
    have tk : (k0 == k1) = true := by simp [hk]
    rw [decide_eq_true hk] at HD
    clear hk
    by_cases hn : n0 = n1
    case neg =>
      have tn : (n0 == n1) = false := by rw [beq_eq_false_iff_ne]; exact hn
      have HE : Hid (decide (k0 = k1 ∧ n0 = n1 ∧ (ck0 = ck1 ∧ cn0 = cn1 ∧ cf0 = cf1) ∧ f0 = f1) = false) := by show _ = _; rw [HD.out, decide_eq_false hn]; rfl
      clear hn HD
      go_enter Try.func23, Try.ntmps23
      go_wp2_with fail
      go_ret
      exact ⟨ret_bool HE.out.symm, by go_grown⟩
    have tn : (n0 == n1) = true := by simp [hn]
    rw [decide_eq_true hn] at HD
    clear hn
    cases q1
    · have HE : Hid (decide (k0 = k1 ∧ n0 = n1 ∧ (ck0 = ck1 ∧ cn0 = cn1 ∧ cf0 = cf1) ∧ f0 = f1) = false) := by show _ = _; rw [HD.out]; rfl
      clear HD
      go_enter Try.func23, Try.ntmps23
      go_wp2_with fail
      refine (K1.out _ (by unfold Sees; go_grown)).mono ?_
      rintro e w1 ⟨rfl, hb⟩
      have B1 : Sees w w1 := Sees.below (by unfold Sees; go_grown) hb
      clear hb
      go_wp2_with fail
      go_ret
      exact ⟨ret_bool HE.out.symm, B1⟩
    · have HE : Hid (decide (k0 = k1 ∧ n0 = n1 ∧ (ck0 = ck1 ∧ cn0 = cn1 ∧ cf0 = cf1) ∧ f0 = f1) = q2) := by show _ = _; rw [HD.out]; rfl
      clear HD
      go_enter Try.func23, Try.ntmps23
      go_wp2_with fail
      refine (K1.out _ (by unfold Sees; go_grown)).mono ?_
      rintro e w1 ⟨rfl, hb⟩
      have S1 : Hid (St w [(w.heap.size, 5, .slice B f0.len D), (w.heap.size + 1, 5, .slice B' f1.len D')] w1) := St.below ⟨(by unfold Sees; go_grown), (by simp [go_sem]), (by simp [go_sem]), trivial⟩ hb
      obtain ⟨_, x0, x1, _⟩ := S1.out
      clear hb
      go_wp2_with fail
      clear x0 x1
      refine (K2.out _ S1.out.1).mono ?_
      rintro e w2 ⟨rfl, hb⟩
      have B2 := S1.out.1.below hb
      clear hb S1
      go_wp2_with fail
      go_ret
      exact ⟨ret_bool HE.out.symm, B2⟩

theorem implSameProg_any (cf0 : Fo) (f0 : Pg) (cf1 : Fo) (f1 : Pg) (hcm : cf0.len ≤ 9223372036854775807) (hcf : cf0.Fits) (hm : f0.len ≤ 9223372036854775807) (hf : f0.Fits) (k0 n0 ck0 cn0 k1 n1 ck1 cn1 : Int) (A B A' B' : Option Addr) (C D C' D' : Nat) (w : World) (hA : cf0.Lies w A) (hB : f0.Lies w B) (hA' : cf1.Lies w A') (hB' : f1.Lies w B') :
    Calls Try.prog 23 #[.agg #[.int .i64 k0, .int .i64 n0, .int .i64 ck0, .int .i64 cn0, .slice A cf0.len C, .slice B f0.len D], .agg #[.int .i64 k1, .int .i64 n1, .int .i64 ck1, .int .i64 cn1, .slice A' cf1.len C', .slice B' f1.len D']] w fun e w' => e = .returned (.bool (decide (k0 = k1 ∧ n0 = n1 ∧ (ck0 = ck1 ∧ cn0 = cn1 ∧ cf0 = cf1) ∧ f0 = f1))) ∧ Below w.heap.size w w' :=
  sameProg_aux (f0.nodes + 1) f0 f1 (Nat.lt_succ_self _) hm hf cf0 cf1 hcm hcf k0 n0 ck0 cn0 k1 n1 ck1 cn1 A B A' B' C D C' D' w hA hB hA' hB'
end Go.Proofs.Ytlfafcbieeambaa
