/- Contracts of spec.l01Kids, l01Left, l00Max, l01Depth, l01Tree, l01Ok, ValidExpr. Contract of spec.l05Set. Contracts of spec.l05Tests, spec.l05Ok, spec.ValidModel, spec.l05CostsOk, spec.ValidCosts. RestrictModel: contract of the model's. -/
import Derived.Test.YtmblgkpgfofceaaTreeD
import Derived.Deep.QuietTactic
import Derived.BigQuiet
import Derived.Deep.RegionHeld3
import Derived.Lib.SmallJoins
import Derived.Test.YtmblgkpgfofceaaAscD
import Derived.Test.YtmblgkpgfofceaaRmd
import Derived.Test.YtmblgkpgfofceaaQuietC
import Derived.Deep.DrawnRows
import Derived.Test.YtmblgkpgfofceaaVMD
import Derived.Test.YtmblgkpgfofceaaRsMD
namespace Go.Proofs.Ytmblgkpgfofceaa
open Go.RowKit

theorem quiet_add {P : Program} {f : FuncId} {args : Array Value} {w : World} {a n : Nat} {v : Value}
    (h : Calls P f args (w.drewN (a + n)) fun e w' => e = .returned v ∧ ∃ m, w' = (w.drewN (a + n)).drewN m) :
    Calls P f args (w.drewN (a + n)) fun e w'' => e = .returned v ∧ ∃ m, w'' = w.drewN (a + m) :=
  h.mono fun _ _ ⟨he, m, hm⟩ => ⟨he, n + m, by rw [hm, World.drewN_drewN, Nat.add_assoc]⟩
theorem quiet_add_same {P : Program} {f : FuncId} {args : Array Value} {w : World} {a n : Nat} {v : Value}
    (h : Calls P f args (w.drewN (a + n)) fun e w' => e = .returned v ∧ w' = w.drewN (a + n)) :
    Calls P f args (w.drewN (a + n)) fun e w'' => e = .returned v ∧ ∃ m, w'' = w.drewN (a + m) :=
  h.mono fun _ _ ⟨he, hm⟩ => ⟨he, n, hm⟩

theorem kinds (k : Int) : (k = 1 ∨ k = 2 ∨ k = 3 ∨ k = 4 ∨ k = 5 ∨ k = 6 ∨ k = 7 ∨ k = 8) ∨ (kidC k = -1 ∧ (k == 1) = false ∧ (k == 2) = false ∧ (k == 3) = false ∧ (k == 4) = false ∧ (k == 5) = false ∧ (k == 6) = false ∧ (k == 7) = false ∧ (k == 8) = false) := by
  by_cases h : k = 1 ∨ k = 2 ∨ k = 3 ∨ k = 4 ∨ k = 5 ∨ k = 6 ∨ k = 7 ∨ k = 8
  · exact Or.inl h
  · refine Or.inr ⟨?_, ?_, ?_, ?_, ?_, ?_, ?_, ?_, ?_⟩
    · unfold kidC; rw [if_neg (by omega), if_neg (by omega), if_neg (by omega)]
    all_goals (rw [beq_eq_false_iff_ne]; omega)

theorem l01Kids_any (k : Int) (w : World) : Calls Try.prog 147 #[.int .i64 k] w fun e w' => e = .returned (.int .i64 (kidC k)) ∧ w = w' := by
  rcases kinds k with h | ⟨h0, h1, h2, h3, h4, h5, h6, h7, h8⟩
  · rcases h with rfl | rfl | rfl | rfl | rfl | rfl | rfl | rfl
    all_goals
      go_enter Try.func147, Try.ntmps147
      go_wp2
      go_ret
      exact ⟨rfl, rfl⟩
  · have H0 := Lib.hid h0; clear h0
    go_enter Try.func147, Try.ntmps147
    go_wp2
    go_ret
    exact ⟨ret_int H0.out.symm, rfl⟩

theorem l00Max_any (a b : Int) (w : World) : Calls Try.prog 146 #[.int .i64 a, .int .i64 b] w fun e w' => e = .returned (.int .i64 (max a b)) ∧ w = w' := by
  by_cases h : b < a
  · have H0 : Hid (max a b = a) := by show _ = _; omega
    go_enter Try.func146, Try.ntmps146
    go_wp2
    go_ret
    exact ⟨ret_int H0.out.symm, rfl⟩
  · have H0 : Hid (max a b = b) := by show _ = _; omega
    go_enter Try.func146, Try.ntmps146
    go_wp2
    go_ret
    exact ⟨ret_int H0.out.symm, rfl⟩

set_option maxHeartbeats 400000 in
theorem l01Left_any : ∀ (N : Nat) (f : Fo), f.nodes < N → f.nodes ≤ 1048576 → ∀ (l : Int) (A : Option Addr) (C b o : Nat) (w : World), 0 ≤ l → l ≤ 1048576 → f.Lies w A → w.cell? ⟨b, o + 2, none⟩ = some (.slice A f.len C) →
      Calls Try.prog 116 #[.pointer (some ⟨b, o, none⟩), .int .i64 l] w fun e w' => e = .returned (.int .i64 (f.left (l - 1))) ∧ w = w' := by
  intro N
  induction N with
  | zero => intro f hN; exact absurd hN (Nat.not_lt_zero _)
  | succ N ih =>
    intro f hN hm l A C b o w hl0 hl1 hl hc2
    have IH := Lib.hid ih; clear ih
    have hln := f.len_le_nodes
    go_enter Try.func116, Try.ntmps116
    go_wp2_with fail
    go_loop [1, 5] (fun x i => ∃ (j : Nat) (q : Int), j ≤ f.len ∧ i = .int .i64 j ∧ x = .int .i64 q ∧ -1 ≤ q ∧ q ≤ 1048576 ∧ Hid (f.left (l - 1) = (f.drop j).left q)) (fun _ i => f.len - (intOf i).toNat)
    case atStart => exact ⟨0, _, Nat.zero_le _, rfl, rfl, by omega, by omega, rfl⟩
    case round =>
      obtain ⟨j, q, hj, rfl, rfl, hq0, hq1, hq⟩ := hrel
      by_cases hjl : j < f.len
      · obtain ⟨b', o', rfl, hat⟩ := hl (by rintro rfl; simp [Fo.len] at hjl)
        obtain ⟨k', n', ks, r, A1, C1, e1, e2, c0, c1, c2, hl1'⟩ := Fo.Lies.row hat hjl
        by_cases hneg : q < 0
        · have hq2 : Hid (f.left (l - 1) = q) := by
            show _ = _
            rw [hq.out, Fo.left_neg _ hneg]
          clear hq
          go_wp2_with fail
          go_ret
          exact ⟨ret_int hq2.out.symm, rfl⟩
        · have hnd := f.nodes_drop j
          rw [e1.out] at hnd
          simp only [Fo.nodes] at hnd
          have hkn : ks.nodes < N ∧ ks.nodes ≤ 1048576 := by omega
          have hg := ks.left_ge (q - 1) (by omega)
          obtain ⟨x, hx, hx0, hx1⟩ : ∃ x : Int, x = ks.left (q - 1) ∧ -1 ≤ x ∧ x ≤ 1048576 := ⟨_, rfl, hg.1, by omega⟩
          have hq2 : Hid (f.left (l - 1) = (f.drop (j + 1)).left x) := by
            show _ = _
            rw [hq.out, e1.out, hx, e2.out]
            simp only [Fo.left]
            rw [if_neg hneg]
          have KC : Hid (∀ W : World, W = w → Calls Try.prog 116 #[.pointer (some ⟨b', o' + j * 3, none⟩), .int .i64 q] W fun e w' => e = .returned (.int .i64 x) ∧ W = w') := fun W h => by subst h; rw [hx]; exact IH.out ks hkn.1 hkn.2 q A1 C1 b' _ _ (by omega) hq1 hl1' c2
          clear hnd hq hx hg
          go_wp2_with fail
          refine (KC.out _ rfl).mono ?_
          rintro e w' ⟨rfl, rfl⟩
          go_wp2_with fail
          go_round
          case rel => exact ⟨j + 1, x, by omega, by go_num, rfl, hx0, hx1, hq2⟩
          case measure => simp [intOf]; omega
      · obtain rfl : j = f.len := by omega
        have hq2 : Hid (f.left (l - 1) = q) := by
          show _ = _
          rw [hq.out, Fo.drop_len]; rfl
        clear hq
        go_wp2_with fail
        go_ret
        exact ⟨ret_int hq2.out.symm, rfl⟩

set_option maxHeartbeats 400000 in
theorem l01Depth_any : ∀ (N : Nat) (f : Fo), f.nodes < N → f.nodes ≤ 1048576 → ∀ (A : Option Addr) (C b o : Nat) (w : World), f.Lies w A → w.cell? ⟨b, o + 2, none⟩ = some (.slice A f.len C) →
      Calls Try.prog 117 #[.pointer (some ⟨b, o, none⟩)] w fun e w' => e = .returned (.int .i64 (f.deep + 1)) ∧ w = w' := by
  intro N
  induction N with
  | zero => intro f hN; exact absurd hN (Nat.not_lt_zero _)
  | succ N ih =>
    intro f hN hm A C b o w hl hc2
    have IH := Lib.hid ih; clear ih
    have hln := f.len_le_nodes
    have hdp := f.deep_le
    go_enter Try.func117, Try.ntmps117
    go_wp2_with fail
    go_loop [3, 4] (fun x i => ∃ (j : Nat) (q : Int), j ≤ f.len ∧ i = .int .i64 j ∧ x = .int .i64 q ∧ 0 ≤ q ∧ q ≤ 1048576 ∧ Hid ((f.deep : Int) = max q (f.drop j).deep)) (fun _ i => f.len - (intOf i).toNat)
    case atStart => exact ⟨0, 0, Nat.zero_le _, rfl, rfl, by omega, by omega, by show _ = _; simp only [Fo.drop]; omega⟩
    case round =>
      obtain ⟨j, q, hj, rfl, rfl, hq0, hq1, hq⟩ := hrel
      by_cases hjl : j < f.len
      · obtain ⟨b', o', rfl, hat⟩ := hl (by rintro rfl; simp [Fo.len] at hjl)
        obtain ⟨k', n', ks, r, A1, C1, e1, e2, c0, c1, c2, hl1⟩ := Fo.Lies.row hat hjl
        have hnd := f.nodes_drop j
        have hq' := hq.out
        rw [e1.out] at hnd hq'
        simp only [Fo.nodes, Fo.deep] at hnd hq'
        have hkd := ks.deep_le
        have hkn : ks.nodes < N ∧ ks.nodes ≤ 1048576 := by omega
        obtain ⟨x, hx, hx0, hx1⟩ : ∃ x : Int, x = (ks.deep : Int) + 1 ∧ 0 ≤ x ∧ x ≤ 1048576 := ⟨_, rfl, by omega, by omega⟩
        have KC : Hid (∀ W : World, W = w → Calls Try.prog 117 #[.pointer (some ⟨b', o' + j * 3, none⟩)] W fun e w' => e = .returned (.int .i64 x) ∧ W = w') := fun W h => by subst h; rw [hx]; exact IH.out ks hkn.1 hkn.2 A1 C1 b' _ _ hl1 c2
        obtain ⟨y, hy, hy0, hy1⟩ : ∃ y : Int, y = max q x ∧ 0 ≤ y ∧ y ≤ 1048576 := ⟨_, rfl, by omega, by omega⟩
        have KM : Hid (∀ W : World, Calls Try.prog 146 #[.int .i64 q, .int .i64 x] W fun e w' => e = .returned (.int .i64 y) ∧ W = w') := fun W => by rw [hy]; exact l00Max_any q x W
        have hq2 : Hid ((f.deep : Int) = max y (f.drop (j + 1)).deep) := by
          show _ = _
          rw [e2.out]
          omega
        clear hnd hq hq' hx hy hkd
        go_wp2_with fail
        refine (KC.out _ rfl).mono ?_
        rintro e w' ⟨rfl, rfl⟩
        go_wp2_with fail
        refine (KM.out _).mono ?_
        rintro e w' ⟨rfl, rfl⟩
        go_wp2_with fail
        go_round
        case rel => exact ⟨j + 1, y, by omega, by go_num, rfl, hy0, hy1, hq2⟩
        case measure => simp [intOf]; omega
      · obtain rfl : j = f.len := by omega
        have hq2 : Hid ((f.deep : Int) + 1 = q + 1) := by
          have := hq.out
          rw [Fo.drop_len] at this
          simp only [Fo.deep] at this
          show _ = _
          omega
        clear hq
        go_wp2_with fail
        go_ret
        exact ⟨ret_int hq2.out.symm, rfl⟩

end Go.Proofs.Ytmblgkpgfofceaa

namespace Go.Proofs.Ytmblgkpgfofceaa
open Go.RowKit
attribute [local go_sem ↓] Go.wp_at_zero Go.wp_at_succ
set_option linter.unusedVariables false

set_option maxRecDepth 100000 in
set_option maxHeartbeats 4000000 in
theorem l05Set_any (p : Int) (hp0 : 1 ≤ p) (hp8 : p ≤ 8) (xs : List Int) (hm : xs.length ≤ 1048576) (A : Option Addr) (C bm : Nat) (w : World) (hl : Ints w xs A) (hc : w.cell? ⟨bm, 2, none⟩ = some (.int .i64 p)) :
    Calls Try.prog 74 #[.pointer (some ⟨bm, 0, none⟩), .slice A xs.length C] w fun e w' => e = .returned (.bool (ascB p xs)) ∧ Below w.heap.size w w' := by
  obtain ⟨d, hd⟩ : ∃ d : Int, d = p - 1 := ⟨_, rfl⟩
  have sbp : IntKind.i64.wrap (p - 1) = d := by rw [hd]; exact IntWalk.i64_in _ (by omega)
  have HCM := Lib.hid hc
  have K : ∀ x : Int, Hid (∀ W : World, Calls Try.prog 102 #[.int .i64 x, .int .i64 0, .int .i64 d] W fun e w' => e = .returned (.bool (belowB x p)) ∧ Below W.heap.size W w') := fun x W => (in_any x 0 d W).mono fun e w' h => ⟨by rw [← in_below, ← hd]; exact h.1, by rw [← h.2]; exact Below.refl _ _⟩
  have HK := Lib.hid K; have HL := Lib.hid hl
  clear K hl hd hc hp0 hp8
  have hA0 : Hid ((List.range 0).all (ascAt p xs) = true) := rfl
  go_enter Try.func74, Try.ntmps74
  go_wp2_with fail
  go_loopw [5] (fun i wr => ∃ j : Nat, j ≤ xs.length ∧ i = .int .i64 j ∧ Hid ((List.range j).all (ascAt p xs) = true) ∧ Hid (Sees w wr)) (fun i _ => xs.length - (intOf i).toNat)
  case atStart => exact ⟨0, Nat.zero_le _, rfl, hA0, Sees.refl w⟩
  case round =>
    obtain ⟨j, hj, rfl, hA, hb⟩ := hrel
    clear hA0
    by_cases hjl : j < xs.length
    · obtain ⟨b, o, rfl, hat⟩ := HL.out (by rintro rfl; simp at hjl)
      have c0 := kc hb.out (hat j hjl)
      have cm := kc hb.out HCM.out
      have HX := Lib.hid (HK.out (nth xs j))
      obtain ⟨q, hq⟩ : ∃ q : Bool, q = belowB (nth xs j) p := ⟨_, rfl⟩
      have K3 : Hid (∀ W : World, Calls Try.prog 102 #[.int .i64 (nth xs j), .int .i64 0, .int .i64 d] W fun e w' => e = .returned (.bool q) ∧ Below W.heap.size W w') := by rw [hq]; exact HX.out
      have hjm := Lib.hid hjl
      have j0 : (0 : Int) ≤ (j : Int) := Int.natCast_nonneg _
      have j1 : (j : Int) < (xs.length : Int) := by omega
      clear hjl
      rcases j with _ | j
      · cases q
        · have HE := Lib.hid (asc_no hjm.out (show ascAt p xs 0 = false by unfold ascAt; rw [← hq]; rfl))
          clear hat HX
          clear hq
          go_wp2_with fail
          refine wp_region_quietC wr [(bm, 2, .int .i64 p), (b, o, .int .i64 (nth xs 0))] (by kernel_rfl) (by kernel_rfl) ⟨Below.refl _ _, cm, (by simpa using c0), trivial⟩ ?_
          repeat (first | go_big_quiet_skip | (go_big_quiet_want; apply Exists.intro; refine ⟨fun W hW => ?_, ?_⟩; focus (have hK := Lib.hid hW; obtain ⟨hs, hc⟩ := hW; simp only [Has, and_true] at hc; go_simp; (first | rfl | exact ⟨rfl, rfl⟩ | (with_reducible exact quietC_call hK.out (K3.out _))))) | (go_simp; go_big_quiet_on))
          refine wpQuiet_nil ?_
          intro w2 H1
          have hb2 := Lib.hid (Sees.below hb.out H1.1)
          clear H1
          go_wp2_with fail
          go_ret
          exact ⟨ret_bool HE.out.symm, hb2.out⟩
        · have HE := Lib.hid (asc_step hA.out (show ascAt p xs 0 = true by unfold ascAt; rw [← hq]; rfl))
          clear hat HX
          clear hq
          go_wp2_with fail
          refine wp_region_quietC wr [(bm, 2, .int .i64 p), (b, o, .int .i64 (nth xs 0))] (by kernel_rfl) (by kernel_rfl) ⟨Below.refl _ _, cm, (by simpa using c0), trivial⟩ ?_
          repeat (first | go_big_quiet_skip | (go_big_quiet_want; apply Exists.intro; refine ⟨fun W hW => ?_, ?_⟩; focus (have hK := Lib.hid hW; obtain ⟨hs, hc⟩ := hW; simp only [Has, and_true] at hc; go_simp; (first | rfl | exact ⟨rfl, rfl⟩ | (with_reducible exact quietC_call hK.out (K3.out _))))) | (go_simp; go_big_quiet_on))
          refine wpQuiet_nil ?_
          intro w2 H1
          have hb2 := Lib.hid (Sees.below hb.out H1.1)
          clear H1
          go_wp2_with fail
          go_roundw
          case rel => exact ⟨0 + 1, by have := hjm.out; omega, by go_num, HE, hb2⟩
          case measure => (have := hjm.out; simp [intOf]; try omega)
      · have c1 := kc hb.out (hat j (by have := hjm.out; omega))
        have gp : decide ((0 : Int) < (j : Int) + 1) = true := decide_eq_true (by omega)
        have sb : IntKind.i64.wrap ((j : Int) + 1 - 1) = (j : Int) := by rw [Int.add_sub_cancel]; exact IntWalk.i64_in _ (by have := hjm.out; omega)
        have sb2 : IntKind.i64.wrap (j : Int) = (j : Int) := IntWalk.i64_in _ (by have := hjm.out; omega)
        have j2 : (0 : Int) ≤ (j : Int) + 1 := by omega
        have j3 : (j : Int) + 1 < (xs.length : Int) := by have := hjm.out; omega
        have j4 : (0 : Int) ≤ (j : Int) := by omega
        have j5 : (j : Int) < (xs.length : Int) := by have := hjm.out; omega
        cases q
        · have HE := Lib.hid (asc_no hjm.out (show ascAt p xs (j + 1) = false by unfold ascAt; rw [← hq]; rfl))
          clear hat HX
          clear hq
          go_wp2_with fail
          refine wp_region_quietC wr [(bm, 2, .int .i64 p), (b, o + (j + 1), .int .i64 (nth xs (j + 1))), (b, o + j, .int .i64 (nth xs j))] (by kernel_rfl) (by kernel_rfl) ⟨Below.refl _ _, cm, c0, c1, trivial⟩ ?_
          repeat (first | go_big_quiet_skip | (go_big_quiet_want; apply Exists.intro; refine ⟨fun W hW => ?_, ?_⟩; focus (have hK := Lib.hid hW; obtain ⟨hs, hc⟩ := hW; simp only [Has, and_true] at hc; go_simp; (first | rfl | exact ⟨rfl, rfl⟩ | (with_reducible exact quietC_call hK.out (K3.out _))))) | (go_simp; go_big_quiet_on))
          refine wpQuiet_nil ?_
          intro w2 H1
          have hb2 := Lib.hid (Sees.below hb.out H1.1)
          clear H1
          go_wp2_with fail
          go_ret
          exact ⟨ret_bool HE.out.symm, hb2.out⟩
        · by_cases hle : nth xs (j + 1) ≤ nth xs j
          · have tle : decide (nth xs (j + 1) ≤ nth xs j) = true := decide_eq_true hle
            have HE := Lib.hid (asc_no hjm.out (show ascAt p xs (j + 1) = false by unfold ascAt; rw [← hq, decide_eq_false (show ¬ (j + 1 = 0) by omega), Nat.add_sub_cancel, decide_eq_false (show ¬ (nth xs j < nth xs (j + 1)) by omega)]; rfl))
            clear hat HX
            clear hq hle
            go_wp2_with fail
            refine wp_region_quietC wr [(bm, 2, .int .i64 p), (b, o + (j + 1), .int .i64 (nth xs (j + 1))), (b, o + j, .int .i64 (nth xs j))] (by kernel_rfl) (by kernel_rfl) ⟨Below.refl _ _, cm, c0, c1, trivial⟩ ?_
            repeat (first | go_big_quiet_skip | (go_big_quiet_want; apply Exists.intro; refine ⟨fun W hW => ?_, ?_⟩; focus (have hK := Lib.hid hW; obtain ⟨hs, hc⟩ := hW; simp only [Has, and_true] at hc; go_simp; (first | rfl | exact ⟨rfl, rfl⟩ | (with_reducible exact quietC_call hK.out (K3.out _))))) | (go_simp; go_big_quiet_on))
            refine wpQuiet_nil ?_
            intro w2 H1
            have hb2 := Lib.hid (Sees.below hb.out H1.1)
            clear H1
            go_wp2_with fail
            go_ret
            exact ⟨ret_bool HE.out.symm, hb2.out⟩
          · have tle : decide (nth xs (j + 1) ≤ nth xs j) = false := decide_eq_false hle
            have HE := Lib.hid (asc_step hA.out (show ascAt p xs (j + 1) = true by unfold ascAt; rw [← hq, decide_eq_false (show ¬ (j + 1 = 0) by omega), Nat.add_sub_cancel, decide_eq_true (show nth xs j < nth xs (j + 1) by omega)]; rfl))
            clear hat HX
            clear hq hle
            go_wp2_with fail
            refine wp_region_quietC wr [(bm, 2, .int .i64 p), (b, o + (j + 1), .int .i64 (nth xs (j + 1))), (b, o + j, .int .i64 (nth xs j))] (by kernel_rfl) (by kernel_rfl) ⟨Below.refl _ _, cm, c0, c1, trivial⟩ ?_
            repeat (first | go_big_quiet_skip | (go_big_quiet_want; apply Exists.intro; refine ⟨fun W hW => ?_, ?_⟩; focus (have hK := Lib.hid hW; obtain ⟨hs, hc⟩ := hW; simp only [Has, and_true] at hc; go_simp; (first | rfl | exact ⟨rfl, rfl⟩ | (with_reducible exact quietC_call hK.out (K3.out _))))) | (go_simp; go_big_quiet_on))
            refine wpQuiet_nil ?_
            intro w2 H1
            have hb2 := Lib.hid (Sees.below hb.out H1.1)
            clear H1
            go_wp2_with fail
            go_roundw
            case rel => exact ⟨(j + 1) + 1, by have := hjm.out; omega, by go_num, HE, hb2⟩
            case measure => (have := hjm.out; simp [intOf]; try omega)
    · obtain rfl : j = xs.length := by omega
      have HE : Hid (ascB p xs = true) := hA.out
      clear hjl
      go_wp2_with fail
      go_ret
      exact ⟨ret_bool HE.out.symm, hb.out⟩
end Go.Proofs.Ytmblgkpgfofceaa

namespace Go.Proofs.Ytmblgkpgfofceaa
open Go.RowKit
attribute [local go_sem ↓] Go.wp_at_zero Go.wp_at_succ

set_option maxHeartbeats 2000000 in
set_option maxRecDepth 100000 in
theorem l05Tests_any (t a p : Int) (ac : List (List Bool)) (f1 : ac.length ≤ 1048576) (f2 : ∀ x ∈ ac, x.length ≤ 1048576) (A : Option Addr) (C : Nat) (w : World) (hA : BB 0 w ac A) :
    Calls Try.prog 125 #[.agg #[.int .i64 t, .int .i64 a], .int .i64 p, .slice A ac.length C] w fun e w' => e = .returned (.bool (validT t a p ac)) ∧ Below w.heap.size w w' := by
  obtain ⟨q1, hq1⟩ : ∃ q1 : Bool, q1 = sigOk t a := ⟨_, rfl⟩
  have K1 : Hid (∀ W : World, Calls Try.prog 101 #[.agg #[.int .i64 t, .int .i64 a]] W fun e w' => e = .returned (.bool q1) ∧ Below W.heap.size W w') := fun W => by rw [hq1]; exact l01Sig_any t a W
  obtain ⟨q2, hq2⟩ : ∃ q2 : Bool, q2 = inB p 1 8 := ⟨_, rfl⟩
  have K2 : Hid (∀ W : World, Calls Try.prog 102 #[.int .i64 p, .int .i64 1, .int .i64 8] W fun e w' => e = .returned (.bool q2) ∧ Below W.heap.size W w') := fun W => (in_any p 1 8 W).mono fun e w' h => ⟨by rw [hq2]; exact h.1, by rw [← h.2]; exact Below.refl _ _⟩
  have HA := Lib.hid hA; have HF := Lib.hid f2
  obtain ⟨w0, hw0⟩ : ∃ w0, w0 = w.alloc (.cells #[.int .i64 t, .int .i64 a] 29) := ⟨_, rfl⟩
  have B0 : Sees w w0 := by rw [hw0]; exact (Sees.refl w).alloc _
  have g0 : w0.cell? ⟨w.heap.size, 0, none⟩ = some (.int .i64 t) := by rw [hw0]; simp [go_sem]
  clear hA f2
  cases q1
  · have HD : Hid (validT t a p ac = false) := by show _ = _; unfold validT; rw [← hq1]; rfl
    clear hq1 hq2
    go_enter Try.func125, Try.ntmps125
    go_wp2_with fail
    rw [← hw0]
    refine (K1.out _).mono ?_
    rintro e w1 ⟨rfl, hb⟩
    clear hw0
    go_wp2_with fail
    go_ret
    exact ⟨ret_bool HD.out.symm, B0.below hb⟩
  cases q2
  · have HD : Hid (validT t a p ac = false) := by show _ = _; unfold validT; rw [← hq1, ← hq2]; rfl
    clear hq1 hq2
    go_enter Try.func125, Try.ntmps125
    go_wp2_with fail
    rw [← hw0]
    refine (K1.out _).mono ?_
    rintro e w1 ⟨rfl, hb⟩
    clear hw0
    go_wp2_with fail
    refine (K2.out _).mono ?_
    rintro e w2 ⟨rfl, hb2⟩
    have hb3 := (B0.below hb).below hb2
    clear hb hb2
    go_wp2_with fail
    go_ret
    exact ⟨ret_bool HD.out.symm, hb3⟩
  by_cases hlen : (ac.length : Int) = t
  case neg =>
    have HD : Hid (validT t a p ac = false) := by show _ = _; unfold validT; rw [← hq1, ← hq2, decide_eq_false hlen]; rfl
    have tn : ((ac.length : Int) != t) = true := by rw [bne_iff_ne]; exact hlen
    clear hq1 hq2 hlen
    go_enter Try.func125, Try.ntmps125
    go_wp2_with fail
    rw [← hw0]
    refine (K1.out _).mono ?_
    rintro e w1 ⟨rfl, hb⟩
    clear hw0
    go_wp2_with fail
    refine (K2.out _).mono ?_
    rintro e w2 ⟨rfl, hb2⟩
    have x0 := kc hb2 (kc hb g0)
    have hb3 := (B0.below hb).below hb2
    clear hb hb2
    go_wp2_with fail
    go_ret
    exact ⟨ret_bool HD.out.symm, hb3⟩
  have HD : Hid (validT t a p ac = allF (isRow p) ac 0) := by show _ = _; unfold validT; rw [← hq1, ← hq2, decide_eq_true hlen, allF_zero]; rfl
  have tn : ((ac.length : Int) != t) = false := by simp [hlen]
  clear hq1 hq2 hlen
  go_enter Try.func125, Try.ntmps125
  go_wp2_with fail
  rw [← hw0]
  refine (K1.out _).mono ?_
  rintro e w1 ⟨rfl, hb⟩
  clear hw0
  go_wp2_with fail
  refine (K2.out _).mono ?_
  rintro e w2 ⟨rfl, hb2⟩
  have x0 := kc hb2 (kc hb g0)
  have hb3 := (B0.below hb).below hb2
  clear hb hb2
  go_wp2_with fail
  have HB3 := Lib.hid hb3; clear hb3 x0 tn
  go_loopw [7] (fun i wr => ∃ j : Nat, j ≤ ac.length ∧ i = .int .i64 j ∧ Hid (validT t a p ac = allF (isRow p) ac j) ∧ Hid (Sees w wr)) (fun i _ => ac.length - (intOf i).toNat)
  case atStart => exact ⟨0, Nat.zero_le _, rfl, HD, HB3⟩
  case round =>
    obtain ⟨j, hj, rfl, hq, hB'⟩ := hrel
    clear HD HB3
    by_cases hjl : j < ac.length
    · obtain ⟨yA, zA, _, rfl, hat⟩ := HA.out (by rintro rfl; simp at hjl)
      obtain ⟨Aj, Cj, cA, _⟩ := hat j ac[j] (List.getElem?_eq_getElem hjl)
      have hst := allF_step (isRow p) ac hjl
      have hfx := HF.out ac[j] (List.getElem_mem hjl)
      obtain ⟨x, hx⟩ : ∃ x, x = ac[j] := ⟨_, rfl⟩
      rw [← hx] at cA hst hfx
      have hb := hB'.out
      have xA := kc hb cA
      have HAT := Lib.hid hat; have HX := Lib.hid hx
      have HST : Hid (validT t a p ac = (isRow p x && allF (isRow p) ac (j + 1))) := hq.out.trans hst
      have j0 : (0 : Int) ≤ (j : Int) := Int.natCast_nonneg _
      have j1 : (j : Int) < (ac.length : Int) := by omega
      clear hat hx hst hq cA
      by_cases hxp : (x.length : Int) = p
      · have tb : ((x.length : Int) != p) = false := by simp [hxp]
        have HE : Hid (validT t a p ac = allF (isRow p) ac (j + 1)) := by show _ = _; rw [HST.out, isRow_pos hxp]; rfl
        clear hxp HST
        go_wp2_with fail
        go_roundw
        case rel => exact ⟨j + 1, by omega, by go_num, HE, hB'⟩
        case measure => simp [intOf]; omega
      · have tb : ((x.length : Int) != p) = true := by rw [bne_iff_ne]; exact hxp
        have HE : Hid (validT t a p ac = false) := by show _ = _; rw [HST.out, isRow_neg hxp]; rfl
        clear hxp HST
        go_wp2_with fail
        go_ret
        exact ⟨ret_bool HE.out.symm, hb⟩
    · obtain rfl : j = ac.length := by omega
      have HE : Hid (validT t a p ac = true) := by show _ = _; rw [hq.out, allF_end]
      have hb := hB'.out
      clear hq
      go_wp2_with fail
      go_ret
      exact ⟨ret_bool HE.out.symm, hb⟩

set_option maxHeartbeats 4000000 in
set_option maxRecDepth 100000 in
theorem l05Ok_any (t a p : Int) (ac : List (List Bool)) (nx : List (List (List Bool))) (hs : SmallM ac nx) (A B : Option Addr) (C D : Nat) (b : Nat) (w : World) (hA : BB 0 w ac A) (hB : BBB 0 w nx B)
    (g0 : w.cell? ⟨b, 0, none⟩ = some (.int .i64 t)) (g1 : w.cell? ⟨b, 1, none⟩ = some (.int .i64 a)) (g2 : w.cell? ⟨b, 2, none⟩ = some (.int .i64 p)) (g3 : w.cell? ⟨b, 3, none⟩ = some (.slice A ac.length C)) (g4 : w.cell? ⟨b, 4, none⟩ = some (.slice B nx.length D)) :
    Calls Try.prog 73 #[.pointer (some ⟨b, 0, none⟩)] w fun e w' => e = .returned (.bool (validM t a p ac nx)) ∧ Below w.heap.size w w' := by
  obtain ⟨f1, f2, f3, f4⟩ := hs
  obtain ⟨q1, hq1⟩ : ∃ q1 : Bool, q1 = validT t a p ac := ⟨_, rfl⟩
  have K1 : Hid (∀ W : World, Sees w W → Calls Try.prog 125 #[.agg #[.int .i64 t, .int .i64 a], .int .i64 p, .slice A ac.length C] W fun e w' => e = .returned (.bool q1) ∧ Below W.heap.size W w') := fun W h => by rw [hq1]; exact l05Tests_any t a p ac f1 f2 A C W (bb_ok.below hA h)
  have HB := Lib.hid hB; have HF := Lib.hid f4
  clear hA hB f2 f4
  cases q1
  · have HD : Hid (validM t a p ac nx = false) := by show _ = _; unfold validM; rw [← hq1]; rfl
    clear hq1
    go_enter Try.func73, Try.ntmps73
    go_wp2_with fail
    refine wp_region_quietC w [(b, 0, .int .i64 t), (b, 1, .int .i64 a), (b, 2, .int .i64 p), (b, 3, .slice A ac.length C), (b, 4, .slice B nx.length D)] (by kernel_rfl) (by kernel_rfl) ⟨Below.refl _ _, g0, g1, g2, g3, g4, trivial⟩ ?_
    repeat (first | go_big_quiet_skip | (go_big_quiet_want; apply Exists.intro; refine ⟨fun W hW => ?_, ?_⟩; focus (have hK := Lib.hid hW; obtain ⟨hs, hc⟩ := hW; simp only [Has, and_true] at hc; go_simp; (first | rfl | exact ⟨rfl, rfl⟩ | exact quietC_call hK.out (K1.out _ hs)))) | (go_simp; go_big_quiet_on))
    refine wpQuiet_nil ?_
    intro w1 H1
    have hb : Below w.heap.size w w1 := H1.1
    clear H1
    go_wp2_with fail
    go_ret
    exact ⟨ret_bool HD.out.symm, hb⟩
  have HBD := Lib.hid (validT_bd hq1.symm)
  by_cases hlen : (nx.length : Int) = a
  case neg =>
    have HD : Hid (validM t a p ac nx = false) := by show _ = _; unfold validM; rw [← hq1, decide_eq_false hlen]; rfl
    have tn : ((nx.length : Int) != a) = true := by rw [bne_iff_ne]; exact hlen
    clear hq1 hlen
    go_enter Try.func73, Try.ntmps73
    go_wp2_with fail
    refine wp_region_quietC w [(b, 0, .int .i64 t), (b, 1, .int .i64 a), (b, 2, .int .i64 p), (b, 3, .slice A ac.length C), (b, 4, .slice B nx.length D)] (by kernel_rfl) (by kernel_rfl) ⟨Below.refl _ _, g0, g1, g2, g3, g4, trivial⟩ ?_
    repeat (first | go_big_quiet_skip | (go_big_quiet_want; apply Exists.intro; refine ⟨fun W hW => ?_, ?_⟩; focus (have hK := Lib.hid hW; obtain ⟨hs, hc⟩ := hW; simp only [Has, and_true] at hc; go_simp; (first | rfl | exact ⟨rfl, rfl⟩ | exact quietC_call hK.out (K1.out _ hs)))) | (go_simp; go_big_quiet_on))
    refine wpQuiet_nil ?_
    intro w1 H1
    have hb : Below w.heap.size w w1 := H1.1
    clear H1
    go_wp2_with fail
    go_ret
    exact ⟨ret_bool HD.out.symm, hb⟩
  have HD : Hid (validM t a p ac nx = allF (actM p) nx 0) := by show _ = _; unfold validM; rw [← hq1, decide_eq_true hlen, allF_zero]; rfl
  have tn : ((nx.length : Int) != a) = false := by simp [hlen]
  have hn4 : nx.length ≤ 4 := by have := HBD.out; omega
  clear hq1 hlen
  go_enter Try.func73, Try.ntmps73
  go_wp2_with fail
  refine wp_region_quietC w [(b, 0, .int .i64 t), (b, 1, .int .i64 a), (b, 2, .int .i64 p), (b, 3, .slice A ac.length C), (b, 4, .slice B nx.length D)] (by kernel_rfl) (by kernel_rfl) ⟨Below.refl _ _, g0, g1, g2, g3, g4, trivial⟩ ?_
  repeat (first | go_big_quiet_skip | (go_big_quiet_want; apply Exists.intro; refine ⟨fun W hW => ?_, ?_⟩; focus (have hK := Lib.hid hW; obtain ⟨hs, hc⟩ := hW; simp only [Has, and_true] at hc; go_simp; (first | rfl | exact ⟨rfl, rfl⟩ | exact quietC_call hK.out (K1.out _ hs)))) | (go_simp; go_big_quiet_on))
  refine wpQuiet_nil ?_
  intro w1 H1
  have hb : Below w.heap.size w w1 := H1.1
  have x4 := kc hb g4
  clear H1
  go_wp2_with fail
  have HB3 := Lib.hid hb; clear hb x4 tn
  go_loopw [3] (fun i wr => ∃ j : Nat, j ≤ nx.length ∧ i = .int .i64 j ∧ Hid (validM t a p ac nx = allF (actM p) nx j) ∧ Hid (Below w.heap.size w wr)) (fun i _ => nx.length - (intOf i).toNat)
  case atStart => exact ⟨0, Nat.zero_le _, rfl, HD, HB3⟩
  case round =>
    obtain ⟨j, hj, rfl, hq, hB'⟩ := hrel
    clear HD HB3
    by_cases hjn : j < nx.length
    · obtain ⟨yB, zB, _, rfl, hatB⟩ := HB.out (by rintro rfl; simp at hjn)
      obtain ⟨Bj, Dj, cB, hRows⟩ := hatB j nx[j] (List.getElem?_eq_getElem hjn)
      have hst := allF_step (actM p) nx hjn
      have hfr := HF.out nx[j] (List.getElem_mem hjn)
      obtain ⟨rows, hr⟩ : ∃ rows, rows = nx[j] := ⟨_, rfl⟩
      rw [← hr] at cB hRows hst hfr
      have hb := hB'.out
      have x2 := kc hb g2; have x4 := kc hb g4; have xB := kc hb cB
      have HAT := Lib.hid hatB; have HR := Lib.hid hr; have HROWS := Lib.hid hRows; have HFR := Lib.hid hfr; have HCB := Lib.hid cB
      have HST : Hid (validM t a p ac nx = (actM p rows && allF (actM p) nx (j + 1))) := hq.out.trans hst
      have j0 : (0 : Int) ≤ (j : Int) := Int.natCast_nonneg _
      have j1 : (j : Int) < (nx.length : Int) := by omega
      have hrl := hfr.1
      clear hatB hr hst hq hRows hfr cB
      by_cases hrp : (rows.length : Int) = p
      case neg =>
        have tb : ((rows.length : Int) != p) = true := by rw [bne_iff_ne]; exact hrp
        have HE : Hid (validM t a p ac nx = false) := by show _ = _; rw [HST.out]; unfold actM; rw [isRow_neg hrp]; rfl
        clear hrp
        go_wp2_with fail
        go_region_held3 (fun w' => Sees w w' ∧ w'.cell? ⟨b, 2, none⟩ = some (.int .i64 p) ∧ w'.cell? ⟨b, 4, none⟩ = some (.slice (some ⟨yB, zB, none⟩) nx.length D) ∧ w'.cell? ⟨yB, zB + j, none⟩ = some (.slice Bj rows.length Dj) ∧ True) (first | exact ⟨Sees.drew hb, x2, x4, xB, trivial⟩ | (go_keep; done)) (fail)
        go_wp2_with fail
        go_ret
        exact ⟨ret_bool HE.out.symm, Below.drew hb⟩
      have tb : ((rows.length : Int) != p) = false := by simp [hrp]
      have HE : Hid (validM t a p ac nx = (allF (isRow p) rows 0 && allF (actM p) nx (j + 1))) := by
        show _ = _
        rw [HST.out]
        unfold actM
        rw [isRow_pos hrp, allF_zero]
        rfl
      have HRP := Lib.hid hrp
      clear hrp HST
      go_wp2_with fail
      go_region_held3 (fun w' => Sees w w' ∧ w'.cell? ⟨b, 2, none⟩ = some (.int .i64 p) ∧ w'.cell? ⟨b, 4, none⟩ = some (.slice (some ⟨yB, zB, none⟩) nx.length D) ∧ w'.cell? ⟨yB, zB + j, none⟩ = some (.slice Bj rows.length Dj) ∧ True) (first | exact ⟨Sees.drew hb, x2, x4, xB, trivial⟩ | (go_keep; done)) (fail)
      have HB4 : Hid (Below w.heap.size w wr.drew) := Below.drew hb
      clear hb x2 x4 xB tb hB'
      go_wp2_with fail
      go_loopw [4] (fun i wr => ∃ k : Nat, k ≤ rows.length ∧ i = .int .i64 k ∧ Hid (validM t a p ac nx = (allF (isRow p) rows k && allF (actM p) nx (j + 1))) ∧ Hid (Below w.heap.size w wr)) (fun i _ => rows.length - (intOf i).toNat)
      case atStart => exact ⟨0, Nat.zero_le _, rfl, HE, HB4⟩
      case round =>
        obtain ⟨k, hk, rfl, hq, hB'⟩ := hrel
        clear HE HB4
        have hb := hB'.out
        have x2 := kc hb g2; have x4 := kc hb g4; have xB := kc hb HCB.out
        by_cases hkl : k < rows.length
        · obtain ⟨yR, zR, _, rfl, hatR⟩ := HROWS.out (by rintro rfl; simp at hkl)
          obtain ⟨Bk, Dk, cR, hRow⟩ := hatR k rows[k] (List.getElem?_eq_getElem hkl)
          have hst := allF_step (isRow p) rows hkl
          have hfr := HFR.out.2 rows[k] (List.getElem_mem hkl)
          obtain ⟨row, hrow⟩ : ∃ row, row = rows[k] := ⟨_, rfl⟩
          rw [← hrow] at cR hRow hst hfr
          have xR := kc hb cR
          have HAT2 := Lib.hid hatR; have HRW := Lib.hid hrow; have HROW := Lib.hid hRow; have HCR := Lib.hid cR
          have HST : Hid (validM t a p ac nx = (isRow p row && (allF (isRow p) rows (k + 1) && allF (actM p) nx (j + 1)))) := by
            show _ = _
            rw [hq.out, hst, Bool.and_assoc]
          have k0 : (0 : Int) ≤ (k : Int) := Int.natCast_nonneg _
          have k1 : (k : Int) < (rows.length : Int) := by omega
          clear hatR hrow hst hq hRow cR
          by_cases hrp : (row.length : Int) = p
          case neg =>
            have tb : ((row.length : Int) != p) = true := by rw [bne_iff_ne]; exact hrp
            have HE : Hid (validM t a p ac nx = false) := by show _ = _; rw [HST.out]; rw [isRow_neg hrp]; rfl
            clear hrp
            go_wp2_with fail
            go_region_held3 (fun w' => Sees w w' ∧ w'.cell? ⟨b, 2, none⟩ = some (.int .i64 p) ∧ w'.cell? ⟨b, 4, none⟩ = some (.slice (some ⟨yB, zB, none⟩) nx.length D) ∧ w'.cell? ⟨yB, zB + j, none⟩ = some (.slice (some ⟨yR, zR, none⟩) rows.length Dj) ∧ w'.cell? ⟨yR, zR + k, none⟩ = some (.slice Bk row.length Dk) ∧ True) (first | exact ⟨Sees.drew hb, x2, x4, xB, xR, trivial⟩ | (go_keep; done)) (fail)
            go_wp2_with fail
            go_ret
            exact ⟨ret_bool HE.out.symm, Below.drew hb⟩
          have tb : ((row.length : Int) != p) = false := by simp [hrp]
          have HE : Hid (validM t a p ac nx = ((allF (isRow p) rows (k + 1) && allF (actM p) nx (j + 1)))) := by
            show _ = _
            rw [HST.out]
            skip
            rw [isRow_pos hrp]
            rfl
          clear hrp HST
          go_wp2_with fail
          go_region_held3 (fun w' => Sees w w' ∧ w'.cell? ⟨b, 2, none⟩ = some (.int .i64 p) ∧ w'.cell? ⟨b, 4, none⟩ = some (.slice (some ⟨yB, zB, none⟩) nx.length D) ∧ w'.cell? ⟨yB, zB + j, none⟩ = some (.slice (some ⟨yR, zR, none⟩) rows.length Dj) ∧ w'.cell? ⟨yR, zR + k, none⟩ = some (.slice Bk row.length Dk) ∧ True) (first | exact ⟨Sees.drew hb, x2, x4, xB, xR, trivial⟩ | (go_keep; done)) (fail)
          have HB5 : Hid (Below w.heap.size w wr.drew) := Below.drew hb
          clear hb x2 x4 xB xR tb hB'
          go_wp2_with fail
          go_roundw
          case rel => exact ⟨k + 1, by omega, by go_num, HE, HB5⟩
          case measure => simp [intOf]; omega
        · obtain rfl : k = rows.length := by omega
          have HE : Hid (validM t a p ac nx = allF (actM p) nx (j + 1)) := by show _ = _; rw [hq.out, allF_end]; rfl
          clear hq
          go_wp2_with fail
          go_roundw
          case rel => exact ⟨j + 1, by omega, by go_num, HE, hB'⟩
          case measure => simp [intOf]; omega
    · obtain rfl : j = nx.length := by omega
      have HE : Hid (validM t a p ac nx = true) := by show _ = _; rw [hq.out, allF_end]
      have hb := hB'.out
      have x4 := kc hb g4
      clear hq
      go_wp2_with fail
      go_ret
      exact ⟨ret_bool HE.out.symm, hb⟩

end Go.Proofs.Ytmblgkpgfofceaa

namespace Go.Proofs.Ytmblgkpgfofceaa
open Go.RowKit
set_option linter.unusedVariables false

set_option maxHeartbeats 4000000 in
set_option maxRecDepth 100000 in
theorem specRestrictModel_no (t a p : Int) (ac : List (List Bool)) (nx : List (List (List Bool))) (xs : List Int) (hs : SmallM ac nx) (hx : xs.length ≤ 1048576) (hv : validM t a p ac nx = false) (A B P : Option Addr) (C D PC : Nat) (w : World) (hA0 : BB 0 w ac A) (hB0 : BBB 0 w nx B) (hP0 : Ints w xs P) :
    Calls Try.prog 29 #[.agg #[.int .i64 t, .int .i64 a, .int .i64 p, .slice A ac.length C, .slice B nx.length D], .slice P xs.length PC] w (MEnd 0 0 0 [] [] 1 w) := by
  obtain ⟨w0, hw0⟩ : ∃ w0, w0 = (w.alloc (.cells #[.int .i64 t, .int .i64 a, .int .i64 p, .slice A ac.length C, .slice B nx.length D] 63)).alloc (.cells #[.int .i64 0, .int .i64 0, .int .i64 0, .slice none 0 0, .slice none 0 0] 63) := ⟨_, rfl⟩
  have B0 : Sees w w0 := by rw [hw0]; exact ((Sees.refl w).alloc _).alloc _
  have hA := hA0.sees B0; have hB := hB0.sees B0; have hP : Ints w0 xs P := hP0.sees B0
  have hc0 : w0.heap[w.heap.size]? = some (.cells #[.int .i64 t, .int .i64 a, .int .i64 p, .slice A ac.length C, .slice B nx.length D] 63 (0, 0)) := by
    rw [hw0]; exact (Below.heap_alloc _ _ _ (by simp)).trans (heap_new _ _ _ rfl)
  have hr0 : w0.heap[w.heap.size + 1]? = some (.cells #[.int .i64 0, .int .i64 0, .int .i64 0, .slice none 0 0, .slice none 0 0] 63 (0, 0)) := by
    rw [hw0]; exact heap_new _ _ _ (by simp)
  have z0 : w.heap.size + 2 ≤ w0.heap.size := by rw [hw0]; simp
  have K1 : Hid (∀ W : World, Sees w0 W → Calls Try.prog 73 #[.pointer (some ⟨w.heap.size, 0, none⟩)] W fun e w' => e = .returned (.bool false) ∧ Below W.heap.size W w') := fun W h => by
    obtain ⟨g0, g1, g2, g3, g4, _, _, _, _, _⟩ := five_facts ((h.block _ (by omega)).trans hc0)
    rw [← hv]; exact l05Ok_any t a p ac nx hs A B C D _ W (hA.sees h) (hB.sees h) g0 g1 g2 g3 g4
  have HC0 := Lib.hid hc0; have HR0 := Lib.hid hr0
  have FIN : Hid (∀ W : World, Below w0.heap.size w0 W → Sees w W) := fun W h => B0.below h
  clear hA hB hP hA0 hB0 hP0 hv hs B0 hc0 hr0
  go_enter Try.func29, Try.ntmps29
  have HW0 := Lib.hid hw0
  go_wp2_with fail
  rw [← hw0]
  clear hw0
  refine (K1.out _ (Sees.refl _)).mono ?_
  rintro e w1 ⟨rfl, hb⟩
  have HB1 := Lib.hid hb
  have HR1 := Lib.hid ((hb.block _ (by omega)).trans HR0.out)
  have HC1 := Lib.hid ((hb.block _ (by omega)).trans HC0.out)
  have z1 : w.heap.size + 1 < w1.heap.size := Nat.lt_of_lt_of_le (by omega) hb.size
  clear hb K1
  obtain ⟨u0, u1, u2, u3, u4, x0, x1, x2, x3, x4⟩ := five_facts HR1.out
  go_wp2_with fail
  obtain ⟨y0, y1, y2, y3, y4, _, _, _, _, _⟩ := five_facts (five_block HR1.out (.int .i64 0) (.int .i64 0) (.int .i64 0) (.slice none 0 0) (.slice none 0 0))
  refine bodyPost_ret (v := .tuple #[.agg #[.int .i64 0, .int .i64 0, .int .i64 0, .slice none 0 0, .slice none 0 0], .int .i64 1]) (by simp [results, Try.results29, go_sem, y0, y1, y2, y3, y4]) rfl ?_
  exact MEnd.no (five_below (FIN.out _ HB1.out) (by omega) _ _ _ _ _)
set_option maxHeartbeats 4000000 in
set_option maxRecDepth 100000 in
theorem specRestrictModel_asc (t a p : Int) (ac : List (List Bool)) (nx : List (List (List Bool))) (xs : List Int) (hs : SmallM ac nx) (hx : xs.length ≤ 1048576) (hv : validM t a p ac nx = true) (ha : ascB p xs = false) (he : xs.length ≠ 0) (A B P : Option Addr) (C D PC : Nat) (w : World) (hA0 : BB 0 w ac A) (hB0 : BBB 0 w nx B) (hP0 : Ints w xs P) :
    Calls Try.prog 29 #[.agg #[.int .i64 t, .int .i64 a, .int .i64 p, .slice A ac.length C, .slice B nx.length D], .slice P xs.length PC] w (MEnd 0 0 0 [] [] 2 w) := by
  obtain ⟨_, _, _, _, hp1, hp8, _, _, _, _⟩ := validM_bd hv
  obtain ⟨w0, hw0⟩ : ∃ w0, w0 = (w.alloc (.cells #[.int .i64 t, .int .i64 a, .int .i64 p, .slice A ac.length C, .slice B nx.length D] 63)).alloc (.cells #[.int .i64 0, .int .i64 0, .int .i64 0, .slice none 0 0, .slice none 0 0] 63) := ⟨_, rfl⟩
  have B0 : Sees w w0 := by rw [hw0]; exact ((Sees.refl w).alloc _).alloc _
  have hA := hA0.sees B0; have hB := hB0.sees B0; have hP : Ints w0 xs P := hP0.sees B0
  have hc0 : w0.heap[w.heap.size]? = some (.cells #[.int .i64 t, .int .i64 a, .int .i64 p, .slice A ac.length C, .slice B nx.length D] 63 (0, 0)) := by
    rw [hw0]; exact (Below.heap_alloc _ _ _ (by simp)).trans (heap_new _ _ _ rfl)
  have hr0 : w0.heap[w.heap.size + 1]? = some (.cells #[.int .i64 0, .int .i64 0, .int .i64 0, .slice none 0 0, .slice none 0 0] 63 (0, 0)) := by
    rw [hw0]; exact heap_new _ _ _ (by simp)
  have z0 : w.heap.size + 2 ≤ w0.heap.size := by rw [hw0]; simp
  have K1 : Hid (∀ W : World, Sees w0 W → Calls Try.prog 73 #[.pointer (some ⟨w.heap.size, 0, none⟩)] W fun e w' => e = .returned (.bool true) ∧ Below W.heap.size W w') := fun W h => by
    obtain ⟨g0, g1, g2, g3, g4, _, _, _, _, _⟩ := five_facts ((h.block _ (by omega)).trans hc0)
    rw [← hv]; exact l05Ok_any t a p ac nx hs A B C D _ W (hA.sees h) (hB.sees h) g0 g1 g2 g3 g4
  have K2 : Hid (∀ W : World, Sees w0 W → Calls Try.prog 74 #[.pointer (some ⟨w.heap.size, 0, none⟩), .slice P xs.length PC] W fun e w' => e = .returned (.bool false) ∧ Below W.heap.size W w') := fun W h => by
    obtain ⟨g0, g1, g2, g3, g4, _, _, _, _, _⟩ := five_facts ((h.block _ (by omega)).trans hc0)
    rw [← ha]; exact l05Set_any p hp1 hp8 xs hx P PC _ W (hP.sees h) g2
  have tl : decide (((xs.length : Nat) : Int) = 0) = false := decide_eq_false (by omega)
  have te : (((xs.length : Nat) : Int) == 0) = false := by simpa using tl
  clear ha
  have HC0 := Lib.hid hc0; have HR0 := Lib.hid hr0
  have FIN : Hid (∀ W : World, Below w0.heap.size w0 W → Sees w W) := fun W h => B0.below h
  clear hA hB hP hA0 hB0 hP0 hv hs B0 hc0 hr0
  go_enter Try.func29, Try.ntmps29
  have HW0 := Lib.hid hw0
  go_wp2_with fail
  rw [← hw0]
  clear hw0
  refine (K1.out _ (Sees.refl _)).mono ?_
  rintro e w1 ⟨rfl, hb⟩
  have HB1 := Lib.hid hb
  have HR1 := Lib.hid ((hb.block _ (by omega)).trans HR0.out)
  have HC1 := Lib.hid ((hb.block _ (by omega)).trans HC0.out)
  have z1 : w.heap.size + 1 < w1.heap.size := Nat.lt_of_lt_of_le (by omega) hb.size
  clear hb K1
  go_wp2_with fail
  refine (K2.out _ HB1.out).mono ?_
  rintro e w2 ⟨rfl, hb⟩
  have HB2 := Lib.hid (HB1.out.trans (hb.mono HB1.out.size))
  have HR2 := Lib.hid ((hb.block _ (by omega)).trans HR1.out)
  have HC2 := Lib.hid ((hb.block _ (by omega)).trans HC1.out)
  have z2 : w.heap.size + 1 < w2.heap.size := Nat.lt_of_lt_of_le z1 hb.size
  clear hb K2
  obtain ⟨u0, u1, u2, u3, u4, x0, x1, x2, x3, x4⟩ := five_facts HR2.out
  go_wp2_with fail
  obtain ⟨y0, y1, y2, y3, y4, _, _, _, _, _⟩ := five_facts (five_block HR2.out (.int .i64 0) (.int .i64 0) (.int .i64 0) (.slice none 0 0) (.slice none 0 0))
  refine bodyPost_ret (v := .tuple #[.agg #[.int .i64 0, .int .i64 0, .int .i64 0, .slice none 0 0, .slice none 0 0], .int .i64 2]) (by simp [results, Try.results29, go_sem, y0, y1, y2, y3, y4]) rfl ?_
  exact MEnd.no (five_below (FIN.out _ HB2.out) (by omega) _ _ _ _ _)
set_option maxHeartbeats 4000000 in
set_option maxRecDepth 100000 in
theorem specRestrictModel_nil (t a p : Int) (ac : List (List Bool)) (nx : List (List (List Bool))) (xs : List Int) (hs : SmallM ac nx) (hx : xs.length ≤ 1048576) (hv : validM t a p ac nx = true) (ha : ascB p xs = true) (he : xs.length = 0) (A B P : Option Addr) (C D PC : Nat) (w : World) (hA0 : BB 0 w ac A) (hB0 : BBB 0 w nx B) (hP0 : Ints w xs P) :
    Calls Try.prog 29 #[.agg #[.int .i64 t, .int .i64 a, .int .i64 p, .slice A ac.length C, .slice B nx.length D], .slice P xs.length PC] w (MEnd 0 0 0 [] [] 2 w) := by
  obtain ⟨_, _, _, _, hp1, hp8, _, _, _, _⟩ := validM_bd hv
  obtain ⟨w0, hw0⟩ : ∃ w0, w0 = (w.alloc (.cells #[.int .i64 t, .int .i64 a, .int .i64 p, .slice A ac.length C, .slice B nx.length D] 63)).alloc (.cells #[.int .i64 0, .int .i64 0, .int .i64 0, .slice none 0 0, .slice none 0 0] 63) := ⟨_, rfl⟩
  have B0 : Sees w w0 := by rw [hw0]; exact ((Sees.refl w).alloc _).alloc _
  have hA := hA0.sees B0; have hB := hB0.sees B0; have hP : Ints w0 xs P := hP0.sees B0
  have hc0 : w0.heap[w.heap.size]? = some (.cells #[.int .i64 t, .int .i64 a, .int .i64 p, .slice A ac.length C, .slice B nx.length D] 63 (0, 0)) := by
    rw [hw0]; exact (Below.heap_alloc _ _ _ (by simp)).trans (heap_new _ _ _ rfl)
  have hr0 : w0.heap[w.heap.size + 1]? = some (.cells #[.int .i64 0, .int .i64 0, .int .i64 0, .slice none 0 0, .slice none 0 0] 63 (0, 0)) := by
    rw [hw0]; exact heap_new _ _ _ (by simp)
  have z0 : w.heap.size + 2 ≤ w0.heap.size := by rw [hw0]; simp
  have K1 : Hid (∀ W : World, Sees w0 W → Calls Try.prog 73 #[.pointer (some ⟨w.heap.size, 0, none⟩)] W fun e w' => e = .returned (.bool true) ∧ Below W.heap.size W w') := fun W h => by
    obtain ⟨g0, g1, g2, g3, g4, _, _, _, _, _⟩ := five_facts ((h.block _ (by omega)).trans hc0)
    rw [← hv]; exact l05Ok_any t a p ac nx hs A B C D _ W (hA.sees h) (hB.sees h) g0 g1 g2 g3 g4
  have tl : decide (((xs.length : Nat) : Int) = 0) = true := decide_eq_true (by omega)
  have te : (((xs.length : Nat) : Int) == 0) = true := by simpa using tl
  clear ha
  have HC0 := Lib.hid hc0; have HR0 := Lib.hid hr0
  have FIN : Hid (∀ W : World, Below w0.heap.size w0 W → Sees w W) := fun W h => B0.below h
  clear hA hB hP hA0 hB0 hP0 hv hs B0 hc0 hr0
  go_enter Try.func29, Try.ntmps29
  have HW0 := Lib.hid hw0
  go_wp2_with fail
  rw [← hw0]
  clear hw0
  refine (K1.out _ (Sees.refl _)).mono ?_
  rintro e w1 ⟨rfl, hb⟩
  have HB1 := Lib.hid hb
  have HR1 := Lib.hid ((hb.block _ (by omega)).trans HR0.out)
  have HC1 := Lib.hid ((hb.block _ (by omega)).trans HC0.out)
  have z1 : w.heap.size + 1 < w1.heap.size := Nat.lt_of_lt_of_le (by omega) hb.size
  clear hb K1
  obtain ⟨u0, u1, u2, u3, u4, x0, x1, x2, x3, x4⟩ := five_facts HR1.out
  go_wp2_with fail
  obtain ⟨y0, y1, y2, y3, y4, _, _, _, _, _⟩ := five_facts (five_block HR1.out (.int .i64 0) (.int .i64 0) (.int .i64 0) (.slice none 0 0) (.slice none 0 0))
  refine bodyPost_ret (v := .tuple #[.agg #[.int .i64 0, .int .i64 0, .int .i64 0, .slice none 0 0, .slice none 0 0], .int .i64 2]) (by simp [results, Try.results29, go_sem, y0, y1, y2, y3, y4]) rfl ?_
  exact MEnd.no (five_below (FIN.out _ HB1.out) (by omega) _ _ _ _ _)
set_option maxHeartbeats 4000000 in
set_option maxRecDepth 100000 in
theorem specRestrictModel_yes (t a p : Nat) (ac : List (List Bool)) (nx : List (List (List Bool))) (xs : List Int) (hs : SmallM ac nx) (hx : xs.length ≤ 1048576) (hv : validM t a p ac nx = true) (ha : ascB p xs = true) (he : xs.length ≠ 0) (A B P : Option Addr) (C D PC : Nat) (w : World) (hA0 : BB 0 w ac A) (hB0 : BBB 0 w nx B) (hP0 : Ints w xs P) :
    Calls Try.prog 29 #[.agg #[.int .i64 (t : Int), .int .i64 (a : Int), .int .i64 (p : Int), .slice A ac.length C, .slice B nx.length D], .slice P xs.length PC] w (MEnd t a xs.length (rsT t xs ac) (rsA xs nx) 0 w) := by
  have ok := rsOk_of hv ha
  obtain ⟨_, _, _, _, hp1, hp8, _, _, _, _⟩ := validM_bd hv
  obtain ⟨w0, hw0⟩ : ∃ w0, w0 = (w.alloc (.cells #[.int .i64 (t : Int), .int .i64 (a : Int), .int .i64 (p : Int), .slice A ac.length C, .slice B nx.length D] 63)).alloc (.cells #[.int .i64 0, .int .i64 0, .int .i64 0, .slice none 0 0, .slice none 0 0] 63) := ⟨_, rfl⟩
  have B0 : Sees w w0 := by rw [hw0]; exact ((Sees.refl w).alloc _).alloc _
  have hA := hA0.sees B0; have hB := hB0.sees B0; have hP : Ints w0 xs P := hP0.sees B0
  have hc0 : w0.heap[w.heap.size]? = some (.cells #[.int .i64 (t : Int), .int .i64 (a : Int), .int .i64 (p : Int), .slice A ac.length C, .slice B nx.length D] 63 (0, 0)) := by
    rw [hw0]; exact (Below.heap_alloc _ _ _ (by simp)).trans (heap_new _ _ _ rfl)
  have hr0 : w0.heap[w.heap.size + 1]? = some (.cells #[.int .i64 0, .int .i64 0, .int .i64 0, .slice none 0 0, .slice none 0 0] 63 (0, 0)) := by
    rw [hw0]; exact heap_new _ _ _ (by simp)
  have z0 : w.heap.size + 2 ≤ w0.heap.size := by rw [hw0]; simp
  have K1 : Hid (∀ W : World, Sees w0 W → Calls Try.prog 73 #[.pointer (some ⟨w.heap.size, 0, none⟩)] W fun e w' => e = .returned (.bool true) ∧ Below W.heap.size W w') := fun W h => by
    obtain ⟨g0, g1, g2, g3, g4, _, _, _, _, _⟩ := five_facts ((h.block _ (by omega)).trans hc0)
    rw [← hv]; exact l05Ok_any t a p ac nx hs A B C D _ W (hA.sees h) (hB.sees h) g0 g1 g2 g3 g4
  have K2 : Hid (∀ W : World, Sees w0 W → Calls Try.prog 74 #[.pointer (some ⟨w.heap.size, 0, none⟩), .slice P xs.length PC] W fun e w' => e = .returned (.bool true) ∧ Below W.heap.size W w') := fun W h => by
    obtain ⟨g0, g1, g2, g3, g4, _, _, _, _, _⟩ := five_facts ((h.block _ (by omega)).trans hc0)
    rw [← ha]; exact l05Set_any p hp1 hp8 xs hx P PC _ W (hP.sees h) g2
  obtain ⟨ts, hts0⟩ : ∃ ts, ts = rsT t xs ac := ⟨_, rfl⟩
  obtain ⟨acts, hacts0⟩ : ∃ acts, acts = rsA xs nx := ⟨_, rfl⟩
  have K3 : Hid (∀ W : World, Sees w0 W → Calls Try.prog 75 #[.pointer (some ⟨w.heap.size, 0, none⟩), .slice P xs.length PC] W (MRet t a xs.length ts acts W)) := fun W h => by
    obtain ⟨g0, g1, g2, g3, g4, _, _, _, _, _⟩ := five_facts ((h.block _ (by omega)).trans hc0)
    rw [hts0, hacts0]; exact l05Pick_any t a p xs ac nx ok A B P C D PC _ W (hA.sees h) (hB.sees h) (hP.sees h) g0 g1 g3 g4
  rw [← hts0, ← hacts0]
  clear hts0 hacts0 ok ha
  have tl : decide (((xs.length : Nat) : Int) = 0) = false := decide_eq_false (by omega)
  have te : (((xs.length : Nat) : Int) == 0) = false := by simpa using tl
  have HC0 := Lib.hid hc0; have HR0 := Lib.hid hr0
  have FIN : Hid (∀ W : World, Below w0.heap.size w0 W → Sees w W) := fun W h => B0.below h
  clear hA hB hP hA0 hB0 hP0 hv hs B0 hc0 hr0
  go_enter Try.func29, Try.ntmps29
  have HW0 := Lib.hid hw0
  go_wp2_with fail
  rw [← hw0]
  clear hw0
  refine (K1.out _ (Sees.refl _)).mono ?_
  rintro e w1 ⟨rfl, hb⟩
  have HB1 := Lib.hid hb
  have HR1 := Lib.hid ((hb.block _ (by omega)).trans HR0.out)
  have HC1 := Lib.hid ((hb.block _ (by omega)).trans HC0.out)
  have z1 : w.heap.size + 1 < w1.heap.size := Nat.lt_of_lt_of_le (by omega) hb.size
  clear hb K1
  go_wp2_with fail
  refine (K2.out _ HB1.out).mono ?_
  rintro e w2 ⟨rfl, hb⟩
  have HB2 := Lib.hid (HB1.out.trans (hb.mono HB1.out.size))
  have HR2 := Lib.hid ((hb.block _ (by omega)).trans HR1.out)
  have HC2 := Lib.hid ((hb.block _ (by omega)).trans HC1.out)
  have z2 : w.heap.size + 1 < w2.heap.size := Nat.lt_of_lt_of_le z1 hb.size
  clear hb K2
  go_wp2_with fail
  refine (K3.out _ HB2.out).mono ?_
  rintro e w3 ⟨A1, B1, C1, D1, m, rfl, hm1, hm2, hts, hacts, hb⟩
  have HB3 := Lib.hid (HB2.out.trans (hb.mono HB2.out.size))
  have HR3 := Lib.hid ((hb.block _ (by omega)).trans HR2.out)
  have HT := Lib.hid hts; have HA := Lib.hid hacts
  clear hb K3 hts hacts
  obtain ⟨u0, u1, u2, u3, u4, x0, x1, x2, x3, x4⟩ := five_facts HR3.out
  go_wp2_with fail
  obtain ⟨y0, y1, y2, y3, y4, _, _, _, _, _⟩ := five_facts (five_block HR3.out (.int .i64 (t : Int)) (.int .i64 (a : Int)) (.int .i64 (xs.length : Int)) (.slice A1 ts.length C1) (.slice B1 acts.length D1))
  refine bodyPost_ret (v := .tuple #[.agg #[.int .i64 (t : Int), .int .i64 (a : Int), .int .i64 (xs.length : Int), .slice A1 ts.length C1, .slice B1 acts.length D1], .int .i64 0]) (by simp [results, Try.results29, go_sem, y0, y1, y2, y3, y4]) rfl ?_
  exact mend5 HT.out HA.out (FIN.out _ HB3.out) (show w.heap.size ≤ w.heap.size + 1 by omega) (by omega) hm1 (Nat.le_refl _) hm2 (Nat.le_refl _) rfl rfl _ _ _ _ _
theorem specRestrictModel_any (t a p : Int) (ac : List (List Bool)) (nx : List (List (List Bool))) (xs : List Int) (hs : SmallM ac nx) (hx : xs.length ≤ 1048576) (A B P : Option Addr) (C D PC : Nat) (w : World) (hA0 : BB 0 w ac A) (hB0 : BBB 0 w nx B) (hP0 : Ints w xs P) :
    Calls Try.prog 29 #[.agg #[.int .i64 t, .int .i64 a, .int .i64 p, .slice A ac.length C, .slice B nx.length D], .slice P xs.length PC] w (REnd t a p ac nx xs w) := by
  by_cases hv : validM t a p ac nx = true
  · by_cases ha : ascB p xs = true
    · by_cases he : xs.length = 0
      · exact (specRestrictModel_nil t a p ac nx xs hs hx hv ha he A B P C D PC w hA0 hB0 hP0).mono fun e w' h => REnd.bad hv (by simp [he]) h
      · obtain ⟨ht, _, ha0, _, hp, _⟩ := validM_bd hv
        obtain ⟨t, rfl⟩ := Int.eq_ofNat_of_zero_le ht
        obtain ⟨a, rfl⟩ := Int.eq_ofNat_of_zero_le ha0
        obtain ⟨p, rfl⟩ := Int.eq_ofNat_of_zero_le (show 0 ≤ p by omega)
        exact (specRestrictModel_yes t a p ac nx xs hs hx hv ha he A B P C D PC w hA0 hB0 hP0).mono fun e w' h => REnd.yes hv ha he h
    · have ha : ascB p xs = false := by simpa using ha
      by_cases he : xs.length = 0
      · exact absurd (show ascB p xs = true by unfold ascB; rw [he]; rfl) (by simp [ha])
      · exact (specRestrictModel_asc t a p ac nx xs hs hx hv ha he A B P C D PC w hA0 hB0 hP0).mono fun e w' h => REnd.bad hv (by simp [ha]) h
  · have hv : validM t a p ac nx = false := by simpa using hv
    exact (specRestrictModel_no t a p ac nx xs hs hx hv A B P C D PC w hA0 hB0 hP0).mono fun e w' h => REnd.no hv h
end Go.Proofs.Ytmblgkpgfofceaa
