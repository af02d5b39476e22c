/- Contracts of spec.l00Rises, l07Of, ConditionOf. -/
import Derived.Test.YtlpgkhdecccmlaaRConS
import Derived.Deep.RegionLaw
import Derived.Test.YtlpgkhdecccmlaaRSpD0
import Derived.Test.YtlpgkhdecccmlaaRQuietC
import Derived.Test.YtlpgkhdecccmlaaREndE
import Derived.Deep.RegionHeld3
import Derived.Deep.DrawnRows
namespace Go.Proofs.YtlpgkhdecccmlaaR
open Go.RowKit
attribute [local go_sem ↓] Go.wp_at_zero Go.wp_at_succ


set_option maxRecDepth 100000 in
set_option maxHeartbeats 4000000 in
theorem l07Of_any (t a : Int) (ht0 : 0 ≤ t) (ht1 : t ≤ 3) (xs : List Int) (hr : risesB t xs = true) (A : Option Addr) (C : Nat) (w : World) (hl : Ints w xs A) :
    Calls Try.prog 73 #[.agg #[.int .i64 t, .int .i64 a], .slice A xs.length C] w fun e w' => ∃ Z D, e = .returned (.agg #[.int .i64 (sumN t xs).kd, .int .i64 (sumN t xs).nm, .slice Z (sumN t xs).ks.len D]) ∧ (sumN t xs).ks.LiesIn w' w.heap.size w'.heap.size Z ∧ Below w.heap.size w w' := by
  have hlen := rises_len hr
  have K0 : Hid (∀ W : World, Calls Try.prog 134 #[] W fun e w' => e = .returned (.agg #[.int .i64 1, .int .i64 0, .slice none 0 0]) ∧ Below W.heap.size W w') := fun W => l02Zero_any W
  have KA : Hid (∀ j : Nat, j < xs.length → ∀ W : World, Calls Try.prog 135 #[.agg #[.int .i64 t, .int .i64 a], .int .i64 (nth xs j)] W fun e w' => ∃ Z C, e = .returned (.agg #[.int .i64 (prodN (nth xs j) t.toNat).kd, .int .i64 (prodN (nth xs j) t.toNat).nm, .slice Z (prodN (nth xs j) t.toNat).ks.len C]) ∧ (prodN (nth xs j) t.toNat).ks.LiesIn w' W.heap.size w'.heap.size Z ∧ Below W.heap.size W w') :=
    fun j hj W => l02AtomExpr_any t a (nth xs j) ht0 ht1 (rises_bd hr hj).1 (rises_bd hr hj).2 W
  obtain ⟨W0, hW0⟩ : ∃ W0, W0 = (w.alloc (.cells #[.int .i64 t, .int .i64 a] 31)).alloc (.cells #[.int .i64 0, .int .i64 0, .slice none 0 0] 35) := ⟨_, rfl⟩
  have S0 : Sees w W0 := by rw [hW0]; exact ((Sees.refl w).alloc _).alloc _
  have k0 : W0.heap[w.heap.size]? = some (.cells #[.int .i64 t, .int .i64 a] 31 (0, 0)) := by rw [hW0]; exact (Below.heap_alloc _ _ _ (by simp)).trans (heap_new _ _ _ (by simp))
  have k1 : W0.heap[w.heap.size + 1]? = some (.cells #[.int .i64 0, .int .i64 0, .slice none 0 0] 35 (0, 0)) := by rw [hW0]; exact heap_new _ _ _ (by simp)
  have z0 : W0.heap.size = w.heap.size + 1 + 1 := by rw [hW0]; simp
  have HL := Lib.hid hl
  clear hr ht0 ht1 hl
  go_enter Try.func73, Try.ntmps73
  go_wp2_with fail
  rw [← hW0]
  clear hW0
  refine (K0.out _).mono ?_
  rintro e w1 ⟨rfl, hb⟩
  have HZ := hb.size
  have HS1 : Hid (AtSt w w1.heap.size t a 1 0 .nil none 0 (w1.alloc (.cells #[.int .i64 1, .int .i64 0, .slice none 0 0] 35))) :=
    ⟨(S0.below hb).alloc _, by simp, (Below.heap_alloc _ _ _ (by omega)).trans ((hb.block _ (by omega)).trans k0), (Below.heap_alloc _ _ _ (by omega)).trans ((hb.block _ (by omega)).trans k1), heap_new _ _ _ rfl, Fo.LiesIn.nil _ _ _⟩
  have hB : w.heap.size + 1 + 1 ≤ w1.heap.size := by omega
  clear hb S0 k0 k1 HZ z0 K0
  go_wp2_with fail
  go_loopw [6] (fun i wr => ∃ (j : Nat) (A' : Option Addr) (C' : Nat), j ≤ xs.length ∧ i = .int .i64 j ∧ Hid (AtSt w w1.heap.size t a (sumN t (xs.take j)).kd (sumN t (xs.take j)).nm (sumN t (xs.take j)).ks A' C' wr)) (fun i _ => xs.length - (intOf i).toNat)
  case atStart => exact ⟨0, none, 0, Nat.zero_le _, rfl, HS1⟩
  case round =>
    obtain ⟨j, A', C', hj, rfl, HI⟩ := hrel
    clear HS1
    by_cases hjl : j < xs.length
    · obtain ⟨b, o, rfl, hat⟩ := HL.out (by rintro rfl; simp at hjl)
      obtain ⟨hS, hz, k0, k1, k2, _⟩ := HI.out
      obtain ⟨g0, g1⟩ := cells2 k0
      obtain ⟨c0, c1, c2, _⟩ := cells3 k2
      have cj := kc hS (hat j hjl)
      have HS : Hid (St w [(w.heap.size, 0, .int .i64 t), (w.heap.size, 1, .int .i64 a), (b, o + j, .int .i64 (nth xs j))] wr) := ⟨hS, g0, g1, cj, trivial⟩
      have KJ := Lib.hid (KA.out j hjl)
      have hstep := Lib.hid (sumN_take t xs hjl)
      have hjm := Lib.hid hjl
      have j0 : (0 : Int) ≤ (j : Int) := Int.natCast_nonneg _
      have j1 : (j : Int) < (xs.length : Int) := by omega
      clear hat hS hz k0 k1 k2 hjl
      obtain ⟨P, hP⟩ : ∃ P : Nd, P = prodN (nth xs j) t.toNat := ⟨_, rfl⟩
      rw [← hP] at KJ hstep
      clear hP
      go_wp2_with fail
      go_region_law (first
        | (go_simp; go_at_call 135; refine (KJ.out _).mono ?_; rintro e v1 ⟨Z1, D1, rfl, hL1, hb1⟩; have HM1 := Lib.hid ((HI.out.below hB (Below.drew (Below.refl _ _))).below hB hb1); have hlo : w1.heap.size + 1 ≤ wr.heap.size := HI.out.2.1; have T1 : St w [(w.heap.size, 0, .int .i64 t), (w.heap.size, 1, .int .i64 a), (b, o + j, .int .i64 (nth xs j))] v1 := St.below HS.out.drew hb1; obtain ⟨_, z0, z1, z2, _⟩ := T1; obtain ⟨_, _, _, _, k8, _⟩ := HM1.out; obtain ⟨y0, y1, y2, _⟩ := cells3 k8; clear k8)
        | (go_simp; go_at_call 117; refine (l02Pair_any 6 (sumN t (xs.take j)).kd (sumN t (xs.take j)).nm (sumN t (xs.take j)).ks P.kd P.nm P.ks A' Z1 C' D1 (w1.heap.size + 1) v1 HM1.out.2.2.2.2.2 (hL1.mono hlo (Nat.le_refl _)) HM1.out.2.1).mono ?_; rintro e v2 ⟨Z2, rfl, hL2, hb2⟩; have HM2 := Lib.hid (HM1.out.below hB hb2); obtain ⟨_, _, _, _, k9, _⟩ := HM2.out; obtain ⟨d0, d1, d2, e0, e1, e2⟩ := cells3 k9; clear k9))
      all_goals
        have HN := Lib.hid (HM2.out.put hB 6 0 _ Z2 2 hL2)
        go_wp2_with fail
        go_roundw
        case rel => exact ⟨j + 1, Z2, 2, by have := hjm.out; omega, by go_num, by show AtSt _ _ _ _ _ _ _ _ _ _; rw [hstep.out]; exact HN.out⟩
        case measure => (have := hjm.out; simp [intOf]; try omega)
    · obtain rfl : j = xs.length := by omega
      obtain ⟨_, _, k0, k1, k2, _⟩ := HI.out
      have HR := Lib.hid k1
      rw [List.take_length] at HI k2
      have HI2 := Lib.hid HI.out
      obtain ⟨c0, c1, c2, _⟩ := cells3 k2
      obtain ⟨d0, d1, d2, e0, e1, e2⟩ := cells3 k1
      clear hjl k0 k1 k2
      clear HI
      go_wp2_with fail
      have hkf : (((wr.setCell ⟨w.heap.size + 1, 0, none⟩ (.int .i64 (sumN t xs).kd)).setCell ⟨w.heap.size + 1, 1, none⟩ (.int .i64 (sumN t xs).nm)).setCell ⟨w.heap.size + 1, 2, none⟩ (.slice A' (sumN t xs).ks.len C')).heap[w.heap.size + 1]? = some (.cells #[.int .i64 (sumN t xs).kd, .int .i64 (sumN t xs).nm, .slice A' (sumN t xs).ks.len C'] 35 (0, 0)) := by
        rw [Fo.block_setCell (Fo.block_setCell (Fo.block_setCell HR.out _) _) _]; rfl
      obtain ⟨p0, p1, p2, _⟩ := cells3 hkf
      refine bodyPost_ret (v := .agg #[.int .i64 (sumN t xs).kd, .int .i64 (sumN t xs).nm, .slice A' (sumN t xs).ks.len C']) (by simp [results, Try.results73, go_sem, p0, p1, p2]) rfl ⟨A', C', rfl, ?_, Below.setCell (Below.setCell (Below.setCell HI2.out.1 (show w.heap.size ≤ w.heap.size + 1 by omega) _) (show w.heap.size ≤ w.heap.size + 1 by omega) _) (show w.heap.size ≤ w.heap.size + 1 by omega) _⟩
      exact (HI2.out.2.2.2.2.2.agree (Fo.Agree.setCell (Fo.Agree.setCell (Fo.Agree.setCell (Fo.Agree.refl _ _ _) _ (Or.inl (show w.heap.size + 1 < w1.heap.size + 1 by omega)) _) _ (Or.inl (show w.heap.size + 1 < w1.heap.size + 1 by omega)) _) _ (Or.inl (show w.heap.size + 1 < w1.heap.size + 1 by omega)) _)).mono (by omega) (by simp)
end Go.Proofs.YtlpgkhdecccmlaaR
