/- Contracts of impl.atomCondition, conditionOf. -/
import Derived.Test.YtlpgkhdecccmlaaRConT
import Derived.Test.YtlpgkhdecccmlaaRNode
namespace Go.Proofs.YtlpgkhdecccmlaaR
open Go.RowKit

set_option maxRecDepth 100000 in
set_option maxHeartbeats 4000000 in
theorem atomCondition_any (t a x : Int) (ht0 : 0 ≤ t) (ht1 : t ≤ 3) (hx0 : 0 ≤ x) (hx1 : x ≤ 7) (w : World) :
    Calls Try.prog 137 #[.agg #[.int .i64 t, .int .i64 a], .int .i64 x] w fun e w' => e = .returned (prodN x t.toNat).val ∧ Below w.heap.size w w' := by
  obtain ⟨m, rfl⟩ : ∃ m : Nat, t = (m : Int) := ⟨t.toNat, by omega⟩
  rw [Int.toNat_natCast]
  have hm : m ≤ 3 := by omega
  clear ht0 ht1
  have KH : ∀ j : Nat, j < 3 → Hid (∀ W : World, Calls Try.prog 180 #[.int .i64 (j : Int), .int .i64 x] W fun e w' => e = .returned (.bool (bitB x j)) ∧ Below W.heap.size W w') := fun j hj W => holdsAt_any j x (Int.natCast_nonneg _) (by omega) hx0 hx1 W
  have KN : ∀ j : Nat, Hid (∀ W : World, Calls Try.prog 177 #[.iface 251 (.agg #[.int .i64 (j : Int)])] W fun e w' => e = .returned (Nd.not (.test j)).val ∧ Below W.heap.size W w') := fun j W => newNot_any (.test j) W (by simp [Nd.size])
  have KD : ∀ j : Nat, j < 3 → Hid (∀ W : World, Calls Try.prog 178 #[(prodN x j).val, (litN x j).val] W fun e w' => e = .returned (Nd.dot (prodN x j) (litN x j)).val ∧ Below W.heap.size W w') := fun j hj W => newDot_any _ _ W (by have := prodN_size x j; have := litN_size x j; omega)
  go_enter Try.func137, Try.ntmps137
  go_wp2_with fail
  go_loopw [5, 12] (fun v i wr => ∃ j : Nat, j ≤ m ∧ i = .int .i64 j ∧ v = (prodN x j).val ∧ Hid (Sees w wr)) (fun _ i _ => m - (intOf i).toNat)
  case atStart => exact ⟨0, Nat.zero_le _, rfl, rfl, by show Sees _ _; unfold Sees; go_grown⟩
  case round =>
    obtain ⟨j, hj, rfl, rfl, hb⟩ := hrel
    by_cases hjl : j < m
    · have tj : decide ((j : Int) < (m : Int)) = true := decide_eq_true (by omega)
      have hj3 : j < 3 := by omega
      have KJ := KH j hj3
      have KM := KN j
      have KK := KD j hj3
      obtain ⟨q, hq⟩ : ∃ q : Bool, q = bitB x j := ⟨_, rfl⟩
      rw [← hq] at KJ
      obtain ⟨P, hP⟩ : ∃ P : Value, P = (prodN x j).val := ⟨_, rfl⟩
      obtain ⟨V, hV⟩ : ∃ V : Value, Hid (V = (litN x j).val) := ⟨_, rfl⟩
      obtain ⟨D, hD⟩ : ∃ D : Value, Hid (D = (Nd.dot (prodN x j) (litN x j)).val) := ⟨_, rfl⟩
      rw [← hP, ← hV.out, ← hD.out] at KK
      rw [← hP]
      have hjm := Lib.hid hjl
      have wj : IntKind.i64.wrap ((j : Int) + 1) = (j : Int) + 1 := IntWalk.i64_in _ (by omega)
      cases q
      · have hlit : Hid (V = (Nd.not (.test j)).val) := by show _ = _; rw [hV.out]; unfold litN; rw [← hq]; rfl
        rw [← hlit.out] at KM
        clear hq hP hj3 KH KN KD
        rcases Nat.eq_zero_or_pos j with rfl | hj0
        · have hz : decide ((0 : Nat) < m) = true := decide_eq_true hjl
          clear hjl
          go_wp2_with fail
          refine (KJ.out _).mono ?_
          rintro e w2 ⟨rfl, hb2⟩
          have B2 := Lib.hid (Sees.below hb.out hb2)
          clear hb2
          go_wp2_with fail
          refine (KM.out _).mono ?_
          rintro e w3 ⟨rfl, hb3⟩
          have B3 := Lib.hid (Sees.below B2.out hb3)
          clear hb3
          go_wp2_with fail
          go_roundw
          case rel => exact ⟨1, by have := hjm.out; omega, by go_num, hV.out, B3⟩
          case measure => (have := hjm.out; simp [intOf]; try omega)
        · have hz : ((j : Int) == 0) = false := by rw [beq_eq_false_iff_ne]; omega
          have hz2 : decide ((j : Int) = 0) = false := decide_eq_false (by omega)
          have hD2 : Hid (D = (prodN x (j + 1)).val) := by show _ = _; rw [hD.out]; cases j with | zero => exact absurd hj0 (by decide) | succ i => rfl
          clear hjl hj0
          go_wp2_with fail
          refine (KJ.out _).mono ?_
          rintro e w2 ⟨rfl, hb2⟩
          have B2 := Lib.hid (Sees.below hb.out hb2)
          clear hb2
          go_wp2_with fail
          refine (KM.out _).mono ?_
          rintro e w3 ⟨rfl, hb3⟩
          have B3 := Lib.hid (Sees.below B2.out hb3)
          clear hb3
          go_wp2_with fail
          refine (KK.out _).mono ?_
          rintro e w4 ⟨rfl, hb4⟩
          have B4 := Lib.hid (Sees.below B3.out hb4)
          clear hb4
          go_wp2_with fail
          go_roundw
          case rel => exact ⟨j + 1, by have := hjm.out; omega, by go_num, hD2.out, B4⟩
          case measure => (have := hjm.out; simp [intOf]; try omega)
      · have hlit : Hid (V = (Nd.test j).val) := by show _ = _; rw [hV.out]; unfold litN; rw [← hq]; rfl
        have hKK : Hid (∀ W : World, Calls Try.prog 178 #[P, .iface 251 (.agg #[.int .i64 (j : Int)])] W fun e w' => e = .returned D ∧ Below W.heap.size W w') := by
          have h := KK.out
          rw [hlit.out] at h
          exact h
        have hV2 : Hid (.iface 251 (.agg #[.int .i64 (j : Int)]) = (litN x j).val) := by show _ = _; rw [← hV.out, hlit.out]; rfl
        clear hq hP hj3 KH KN KD KM KK
        rcases Nat.eq_zero_or_pos j with rfl | hj0
        · have hz : decide ((0 : Nat) < m) = true := decide_eq_true hjl
          clear hjl
          go_wp2_with fail
          refine (KJ.out _).mono ?_
          rintro e w2 ⟨rfl, hb2⟩
          have B2 := Lib.hid (Sees.below hb.out hb2)
          clear hb2
          go_wp2_with fail
          go_roundw
          case rel => exact ⟨1, by have := hjm.out; omega, by go_num, hV2.out, B2⟩
          case measure => (have := hjm.out; simp [intOf]; try omega)
        · have hz : ((j : Int) == 0) = false := by rw [beq_eq_false_iff_ne]; omega
          have hz2 : decide ((j : Int) = 0) = false := decide_eq_false (by omega)
          have hD2 : Hid (D = (prodN x (j + 1)).val) := by show _ = _; rw [hD.out]; cases j with | zero => exact absurd hj0 (by decide) | succ i => rfl
          clear hjl hj0
          go_wp2_with fail
          refine (KJ.out _).mono ?_
          rintro e w2 ⟨rfl, hb2⟩
          have B2 := Lib.hid (Sees.below hb.out hb2)
          clear hb2
          go_wp2_with fail
          refine (hKK.out _).mono ?_
          rintro e w4 ⟨rfl, hb4⟩
          have B4 := Lib.hid (Sees.below B2.out hb4)
          clear hb4
          go_wp2_with fail
          go_roundw
          case rel => exact ⟨j + 1, by have := hjm.out; omega, by go_num, hD2.out, B4⟩
          case measure => (have := hjm.out; simp [intOf]; try omega)
    · obtain rfl : j = m := by omega
      have tj : decide ((j : Int) < (j : Int)) = false := decide_eq_false (by omega)
      obtain ⟨P, hP⟩ : ∃ P : Value, Hid (P = (prodN x j).val) := ⟨_, rfl⟩
      rw [← hP.out]
      clear hjl KH KN KD
      go_wp2_with fail
      go_ret
      exact ⟨congrArg Ending.returned hP.out, hb.out⟩

set_option maxRecDepth 100000 in
set_option maxHeartbeats 4000000 in
theorem conditionOf_any (t a : Int) (ht0 : 0 ≤ t) (ht1 : t ≤ 3) (xs : List Int) (hr : risesB t xs = true) (A : Option Addr) (C : Nat) (w : World) (hl : Ints w xs A) :
    Calls Try.prog 77 #[.agg #[.int .i64 t, .int .i64 a], .slice A xs.length C] w (ExEnd (sumN t xs).kd (sumN t xs).nm (sumN t xs).ks w) := by
  have hlen := rises_len hr
  have KA : Hid (∀ j : Nat, j < xs.length → ∀ W : World, Calls Try.prog 137 #[.agg #[.int .i64 t, .int .i64 a], .int .i64 (nth xs j)] W fun e w' => e = .returned (prodN (nth xs j) t.toNat).val ∧ Below W.heap.size W w') :=
    fun j hj W => atomCondition_any t a (nth xs j) ht0 ht1 (rises_bd hr hj).1 (rises_bd hr hj).2 W
  have KS : Hid (∀ j : Nat, j < xs.length → ∀ W : World, Calls Try.prog 136 #[(sumN t (xs.take j)).val, (prodN (nth xs j) t.toNat).val] W fun e w' => e = .returned (sumN t (xs.take (j + 1))).val ∧ Below W.heap.size W w') := fun j hj W => by
    rw [sumN_take t xs hj]
    exact newSum_any _ _ W (by have h1 := sumN_size t ht1 (xs.take j); have h2 := prodN_size (nth xs j) t.toNat; rw [List.length_take] at h1; omega)
  have KE : Hid (∀ W : World, Calls Try.prog 138 #[(sumN t xs).val] W (ExEnd (sumN t xs).kd (sumN t xs).nm (sumN t xs).ks W)) := fun W => exprOf_any _ W (by have h1 := sumN_size t ht1 xs; omega)
  obtain ⟨W0, hW0⟩ : ∃ W0, W0 = (w.alloc (.cells #[.int .i64 t, .int .i64 a] 31)).alloc (.cells #[.int .i64 0, .int .i64 0, .slice none 0 0] 35) := ⟨_, rfl⟩
  have R0 : Hid (Bk w t a W0) := by show Bk _ _ _ _; rw [hW0]; exact Bk.start w t a
  have HL := Lib.hid hl
  clear hr ht0 ht1 hl
  go_enter Try.func77, Try.ntmps77
  go_wp2_with fail
  rw [← hW0]
  clear hW0
  go_loopw [5, 12] (fun v i wr => ∃ j : Nat, j ≤ xs.length ∧ i = .int .i64 j ∧ v = (sumN t (xs.take j)).val ∧ Hid (Bk w t a wr)) (fun _ i _ => xs.length - (intOf i).toNat)
  case atStart => exact ⟨0, Nat.zero_le _, rfl, rfl, R0⟩
  case round =>
    obtain ⟨j, hj, rfl, rfl, hR⟩ := hrel
    clear R0
    by_cases hjl : j < xs.length
    · obtain ⟨b, o, rfl, hat⟩ := HL.out (by rintro rfl; simp at hjl)
      obtain ⟨hS, r0, _, _⟩ := hR.out
      obtain ⟨g0, g1⟩ := cells2 r0
      have cj := kc hS (hat j hjl)
      have KJ := Lib.hid (KA.out j hjl)
      have KT := Lib.hid (KS.out j hjl)
      obtain ⟨P, hP⟩ : ∃ P : Value, P = (sumN t (xs.take j)).val := ⟨_, rfl⟩
      obtain ⟨V, hV⟩ : ∃ V : Value, V = (prodN (nth xs j) t.toNat).val := ⟨_, rfl⟩
      obtain ⟨D, hD⟩ : ∃ D : Value, D = (sumN t (xs.take (j + 1))).val := ⟨_, rfl⟩
      rw [← hP, ← hV, ← hD] at KT
      rw [← hV] at KJ
      rw [← hP]
      have HD := Lib.hid hD
      have hjm := Lib.hid hjl
      have j0 : (0 : Int) ≤ (j : Int) := Int.natCast_nonneg _
      have j1 : (j : Int) < (xs.length : Int) := by omega
      clear hat hS r0 hjl hP hV hD
      go_wp2_with fail
      refine (KJ.out _).mono ?_
      rintro e w2 ⟨rfl, hb⟩
      have R2 := Lib.hid (hR.out.below hb)
      clear hb g0 g1 cj
      go_wp2_with fail
      refine (KT.out _).mono ?_
      rintro e w3 ⟨rfl, hb⟩
      have R3 := Lib.hid (R2.out.below hb)
      clear hb
      go_wp2_with fail
      go_roundw
      case rel => exact ⟨j + 1, by have := hjm.out; omega, by go_num, HD.out, R3⟩
      case measure => (have := hjm.out; simp [intOf]; try omega)
    · obtain rfl : j = xs.length := by omega
      rw [List.take_length]
      obtain ⟨P, hP⟩ : ∃ P : Value, P = (sumN t xs).val := ⟨_, rfl⟩
      rw [← hP] at KE ⊢
      clear hjl hP
      go_wp2_with fail
      refine (KE.out _).mono ?_
      rintro e w2 ⟨Z, rfl, hX, hb⟩
      have HX := Lib.hid (hX.mono (lo' := w.heap.size + 1 + 1) hR.out.2.2.2 (Nat.le_refl _))
      have R2 := Lib.hid (hR.out.below hb)
      clear hX hb
      obtain ⟨_, _, r1, _⟩ := R2.out
      obtain ⟨c0, c1, c2, f0, f1, f2⟩ := cells3 r1
      clear r1
      go_wp2_with fail
      have HBF : (((w2.setCell ⟨w.heap.size + 1, 0, none⟩ (.int .i64 (sumN t xs).kd)).setCell ⟨w.heap.size + 1, 1, none⟩ (.int .i64 (sumN t xs).nm)).setCell ⟨w.heap.size + 1, 2, none⟩ (.slice Z (sumN t xs).ks.len (sumN t xs).ks.len)).heap[w.heap.size + 1]? = some (.cells #[.int .i64 (sumN t xs).kd, .int .i64 (sumN t xs).nm, .slice Z (sumN t xs).ks.len (sumN t xs).ks.len] 35 (0, 0)) := by
        rw [Fo.block_setCell (Fo.block_setCell (Fo.block_setCell R2.out.2.2.1 _) _) _]; rfl
      obtain ⟨p0, p1, p2, _⟩ := cells3 HBF
      refine bodyPost_ret (v := .agg #[.int .i64 (sumN t xs).kd, .int .i64 (sumN t xs).nm, .slice Z (sumN t xs).ks.len (sumN t xs).ks.len]) (by simp [results, Try.results77, go_sem, p0, p1, p2]) rfl ⟨Z, rfl, ?_, Below.setCell (p := ⟨w.heap.size + 1, 2, none⟩) (Below.setCell (p := ⟨w.heap.size + 1, 1, none⟩) (Below.setCell (p := ⟨w.heap.size + 1, 0, none⟩) R2.out.1 (show w.heap.size ≤ w.heap.size + 1 by omega) _) (show w.heap.size ≤ w.heap.size + 1 by omega) _) (show w.heap.size ≤ w.heap.size + 1 by omega) _⟩
      exact (HX.out.agree (Fo.Agree.setCell (Fo.Agree.setCell (Fo.Agree.setCell (Fo.Agree.refl _ _ _) ⟨w.heap.size + 1, 0, none⟩ (Or.inl (Nat.lt_succ_self _)) _) ⟨w.heap.size + 1, 1, none⟩ (Or.inl (Nat.lt_succ_self _)) _) ⟨w.heap.size + 1, 2, none⟩ (Or.inl (Nat.lt_succ_self _)) _)).mono (by omega) (by simp)

end Go.Proofs.YtlpgkhdecccmlaaR
