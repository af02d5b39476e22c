/- Contract of spec.l02AtomExpr. -/
import Derived.Test.YtlpgkhdecccmlaaRConP
namespace Go.Proofs.YtlpgkhdecccmlaaR
open Go.RowKit

theorem cells2 {W : World} {b : Nat} {x y : Value} {T : TypeId} (h : W.heap[b]? = some (.cells #[x, y] T (0, 0))) : W.cell? ⟨b, 0, none⟩ = some x ∧ W.cell? ⟨b, 1, none⟩ = some y := ⟨Fo.cell_of_block h 0, Fo.cell_of_block h 1⟩
/-- The state of the loop, behind the stores into the expression that is being made. -/
def AtSt (w : World) (B : Nat) (m a : Int) (k n : Int) (F : Fo) (Z : Option Addr) (C : Nat) (W : World) : Prop :=
  Sees w W ∧ B < W.heap.size ∧ W.heap[w.heap.size]? = some (.cells #[.int .i64 m, .int .i64 a] 31 (0, 0)) ∧ W.heap[w.heap.size + 1]? = some (.cells #[.int .i64 0, .int .i64 0, .slice none 0 0] 35 (0, 0)) ∧ W.heap[B]? = some (.cells #[.int .i64 k, .int .i64 n, .slice Z F.len C] 35 (0, 0)) ∧ F.LiesIn W (B + 1) W.heap.size Z
theorem AtSt.below {w : World} {B : Nat} {m a k n : Int} {F : Fo} {Z : Option Addr} {C : Nat} {W W' : World} (h : AtSt w B m a k n F Z C W) (hB : w.heap.size + 1 + 1 ≤ B) (hb : Below W.heap.size W W') : AtSt w B m a k n F Z C W' := by
  obtain ⟨h1, h2, h3, h4, h5, h6⟩ := h
  have hz := hb.size
  exact ⟨Sees.below h1 hb, by omega, (hb.block _ (by omega)).trans h3, (hb.block _ (by omega)).trans h4, (hb.block _ h2).trans h5, (h6.agree ((Fo.Agree.of_below hb).mono (Nat.zero_le _) (Nat.le_refl _))).mono (Nat.le_refl _) hz⟩
theorem AtSt.put {w : World} {B : Nat} {m a k n : Int} {F : Fo} {Z : Option Addr} {C : Nat} {W : World} (h : AtSt w B m a k n F Z C W) (hB : w.heap.size + 1 + 1 ≤ B) (k' n' : Int) (F' : Fo) (Z' : Option Addr) (C' : Nat) (hF : F'.LiesIn W (B + 1) W.heap.size Z') :
    AtSt w B m a k' n' F' Z' C' (((W.setCell ⟨B, 0, none⟩ (.int .i64 k')).setCell ⟨B, 1, none⟩ (.int .i64 n')).setCell ⟨B, 2, none⟩ (.slice Z' F'.len C')) := by
  obtain ⟨h1, h2, h3, h4, h5, h6⟩ := h
  have ag : Fo.Agree W (((W.setCell ⟨B, 0, none⟩ (.int .i64 k')).setCell ⟨B, 1, none⟩ (.int .i64 n')).setCell ⟨B, 2, none⟩ (.slice Z' F'.len C')) (B + 1) W.heap.size :=
    Fo.Agree.setCell (Fo.Agree.setCell (Fo.Agree.setCell (Fo.Agree.refl _ _ _) ⟨B, 0, none⟩ (Or.inl (Nat.lt_succ_self B)) _) ⟨B, 1, none⟩ (Or.inl (Nat.lt_succ_self B)) _) ⟨B, 2, none⟩ (Or.inl (Nat.lt_succ_self B)) _
  have hs : (((W.setCell ⟨B, 0, none⟩ (.int .i64 k')).setCell ⟨B, 1, none⟩ (.int .i64 n')).setCell ⟨B, 2, none⟩ (.slice Z' F'.len C')).heap.size = W.heap.size := by simp
  have hw : w.heap.size ≤ B := by omega
  have he : Sees w (((W.setCell ⟨B, 0, none⟩ (.int .i64 k')).setCell ⟨B, 1, none⟩ (.int .i64 n')).setCell ⟨B, 2, none⟩ (.slice Z' F'.len C')) := Below.setCell (p := ⟨B, 2, none⟩) (Below.setCell (p := ⟨B, 1, none⟩) (Below.setCell (p := ⟨B, 0, none⟩) h1 hw _) hw _) hw _
  have hk : ∀ x, x ≠ B → (((W.setCell ⟨B, 0, none⟩ (.int .i64 k')).setCell ⟨B, 1, none⟩ (.int .i64 n')).setCell ⟨B, 2, none⟩ (.slice Z' F'.len C')).heap[x]? = W.heap[x]? := fun x hx =>
    (Below.heap_setCell _ ⟨B, 2, none⟩ _ _ hx).trans ((Below.heap_setCell _ ⟨B, 1, none⟩ _ _ hx).trans (Below.heap_setCell _ ⟨B, 0, none⟩ _ _ hx))
  have hb : (((W.setCell ⟨B, 0, none⟩ (.int .i64 k')).setCell ⟨B, 1, none⟩ (.int .i64 n')).setCell ⟨B, 2, none⟩ (.slice Z' F'.len C')).heap[B]? = some (.cells #[.int .i64 k', .int .i64 n', .slice Z' F'.len C'] 35 (0, 0)) := by
    rw [Fo.block_setCell (Fo.block_setCell (Fo.block_setCell h5 _) _) _]; rfl
  generalize ((W.setCell ⟨B, 0, none⟩ (.int .i64 k')).setCell ⟨B, 1, none⟩ (.int .i64 n')).setCell ⟨B, 2, none⟩ (.slice Z' F'.len C') = W' at ag hs he hk hb ⊢
  exact ⟨he, by omega, (hk _ (by omega)).trans h3, (hk _ (by omega)).trans h4, hb, (hF.agree ag).mono (Nat.le_refl _) (by omega)⟩
/-- The same, where the kids are made behind the stores. -/
theorem AtSt.make {w : World} {B : Nat} {m a k n : Int} {F : Fo} {Z : Option Addr} {C : Nat} {W : World} (h : AtSt w B m a k n F Z C W) (hB : w.heap.size + 1 + 1 ≤ B) (k' n' : Int) (F' : Fo) (Z' : Option Addr) (C' : Nat) {W' : World}
    (hb : Below W.heap.size (((W.setCell ⟨B, 0, none⟩ (.int .i64 k')).setCell ⟨B, 1, none⟩ (.int .i64 n')).setCell ⟨B, 2, none⟩ (.slice Z' F'.len C')) W') (hF : F'.LiesIn W' (B + 1) W'.heap.size Z') : AtSt w B m a k' n' F' Z' C' W' := by
  have h2 := h.put hB k' n' .nil Z' C' (Fo.LiesIn.nil _ _ _)
  have hs : (((W.setCell ⟨B, 0, none⟩ (.int .i64 k')).setCell ⟨B, 1, none⟩ (.int .i64 n')).setCell ⟨B, 2, none⟩ (.slice Z' F'.len C')).heap.size = W.heap.size := by simp
  have h5 : (((W.setCell ⟨B, 0, none⟩ (.int .i64 k')).setCell ⟨B, 1, none⟩ (.int .i64 n')).setCell ⟨B, 2, none⟩ (.slice Z' F'.len C')).heap[B]? = some (.cells #[.int .i64 k', .int .i64 n', .slice Z' F'.len C'] 35 (0, 0)) := by
    rw [Fo.block_setCell (Fo.block_setCell (Fo.block_setCell h.2.2.2.2.1 _) _) _]; rfl
  have hz := hb.size
  have hlt := h.2.1
  have hw : w.heap.size ≤ B := by omega
  have he : Sees w (((W.setCell ⟨B, 0, none⟩ (.int .i64 k')).setCell ⟨B, 1, none⟩ (.int .i64 n')).setCell ⟨B, 2, none⟩ (.slice Z' F'.len C')) := Below.setCell (p := ⟨B, 2, none⟩) (Below.setCell (p := ⟨B, 1, none⟩) (Below.setCell (p := ⟨B, 0, none⟩) h.1 hw _) hw _) hw _
  have hk : ∀ x, x ≠ B → (((W.setCell ⟨B, 0, none⟩ (.int .i64 k')).setCell ⟨B, 1, none⟩ (.int .i64 n')).setCell ⟨B, 2, none⟩ (.slice Z' F'.len C')).heap[x]? = W.heap[x]? := fun x hx =>
    (Below.heap_setCell _ ⟨B, 2, none⟩ _ _ hx).trans ((Below.heap_setCell _ ⟨B, 1, none⟩ _ _ hx).trans (Below.heap_setCell _ ⟨B, 0, none⟩ _ _ hx))
  rw [← hs] at hb hlt
  generalize ((W.setCell ⟨B, 0, none⟩ (.int .i64 k')).setCell ⟨B, 1, none⟩ (.int .i64 n')).setCell ⟨B, 2, none⟩ (.slice Z' F'.len C') = V at *
  exact ⟨Sees.below he hb, by omega, (hb.block _ (by omega)).trans ((hk _ (by omega)).trans h.2.2.1), (hb.block _ (by omega)).trans ((hk _ (by omega)).trans h.2.2.2.1), (hb.block _ hlt).trans h5, hF⟩
theorem bit0_fact (x : Int) (h0 : 0 ≤ x) (h1 : x ≤ 7) : (bits BinOp.and IntKind.i64 x 1 == 0) = !(bitB x (0 : Nat)) := by
  have hx : x = 0 ∨ x = 1 ∨ x = 2 ∨ x = 3 ∨ x = 4 ∨ x = 5 ∨ x = 6 ∨ x = 7 := by omega
  rcases hx with rfl | rfl | rfl | rfl | rfl | rfl | rfl | rfl <;> decide
theorem bit1_fact (x : Int) (h0 : 0 ≤ x) (h1 : x ≤ 7) : (bits BinOp.and IntKind.i64 (x / 2) 1 == 0) = !(bitB x (1 : Nat)) := by
  have hx : x = 0 ∨ x = 1 ∨ x = 2 ∨ x = 3 ∨ x = 4 ∨ x = 5 ∨ x = 6 ∨ x = 7 := by omega
  rcases hx with rfl | rfl | rfl | rfl | rfl | rfl | rfl | rfl <;> decide
theorem bit2_fact (x : Int) (h0 : 0 ≤ x) (h1 : x ≤ 7) : (bits BinOp.and IntKind.i64 (x / 4) 1 == 0) = !(bitB x (2 : Nat)) := by
  have hx : x = 0 ∨ x = 1 ∨ x = 2 ∨ x = 3 ∨ x = 4 ∨ x = 5 ∨ x = 6 ∨ x = 7 := by omega
  rcases hx with rfl | rfl | rfl | rfl | rfl | rfl | rfl | rfl <;> decide

set_option maxRecDepth 100000 in
set_option maxHeartbeats 4000000 in
theorem l02AtomExpr_any (t a x : Int) (ht0 : 0 ≤ t) (ht1 : t ≤ 3) (hx0 : 0 ≤ x) (hx1 : x ≤ 7) (w : World) :
    Calls Try.prog 135 #[.agg #[.int .i64 t, .int .i64 a], .int .i64 x] w fun e w' => ∃ Z C, e = .returned (.agg #[.int .i64 (prodN x t.toNat).kd, .int .i64 (prodN x t.toNat).nm, .slice Z (prodN x t.toNat).ks.len C]) ∧ (prodN x t.toNat).ks.LiesIn w' w.heap.size w'.heap.size Z ∧ Below w.heap.size w w' := by
  obtain ⟨m, rfl⟩ : ∃ m : Nat, t = (m : Int) := ⟨t.toNat, by omega⟩
  rw [Int.toNat_natCast]
  have hm : m ≤ 3 := by omega
  clear ht0 ht1
  have K0 : Hid (∀ W : World, Calls Try.prog 181 #[] W fun e w' => e = .returned (.agg #[.int .i64 2, .int .i64 0, .slice none 0 0]) ∧ Below W.heap.size W w') := fun W => l02One_any W
  obtain ⟨W0, hW0⟩ : ∃ W0, W0 = (w.alloc (.cells #[.int .i64 m, .int .i64 a] 31)).alloc (.cells #[.int .i64 0, .int .i64 0, .slice none 0 0] 35) := ⟨_, rfl⟩
  have S0 : Sees w W0 := by rw [hW0]; exact ((Sees.refl w).alloc _).alloc _
  have k0 : W0.heap[w.heap.size]? = some (.cells #[.int .i64 m, .int .i64 a] 31 (0, 0)) := by rw [hW0]; exact (Below.heap_alloc _ _ _ (by simp)).trans (heap_new _ _ _ (by simp))
  have k1 : W0.heap[w.heap.size + 1]? = some (.cells #[.int .i64 0, .int .i64 0, .slice none 0 0] 35 (0, 0)) := by rw [hW0]; exact heap_new _ _ _ (by simp)
  have z0 : W0.heap.size = w.heap.size + 1 + 1 := by rw [hW0]; simp
  go_enter Try.func135, Try.ntmps135
  go_wp2_with fail
  rw [← hW0]
  clear hW0
  refine (K0.out _).mono ?_
  rintro e w1 ⟨rfl, hb⟩
  have HZ := hb.size
  have HS1 : Hid (AtSt w w1.heap.size m a 2 0 .nil none 0 (w1.alloc (.cells #[.int .i64 2, .int .i64 0, .slice none 0 0] 35))) :=
    ⟨(S0.below hb).alloc _, by simp, (Below.heap_alloc _ _ _ (by omega)).trans ((hb.block _ (by omega)).trans k0), (Below.heap_alloc _ _ _ (by omega)).trans ((hb.block _ (by omega)).trans k1), heap_new _ _ _ rfl, Fo.LiesIn.nil _ _ _⟩
  have hB : w.heap.size + 1 + 1 ≤ w1.heap.size := by omega
  clear hb S0 k0 k1 HZ z0 K0
  go_wp2_with fail
  go_loopw [6] (fun i wr => ∃ (j : Nat) (A : Option Addr) (C : Nat), j ≤ m ∧ i = .int .i64 j ∧ Hid (AtSt w w1.heap.size m a (prodN x j).kd (prodN x j).nm (prodN x j).ks A C wr)) (fun i _ => m - (intOf i).toNat)
  case atStart => exact ⟨0, none, 0, Nat.zero_le _, rfl, HS1⟩
  case round =>
    obtain ⟨j, A, C, hj, rfl, HI⟩ := hrel
    clear HS1
    obtain ⟨_, hz, k0, k1, k2, _⟩ := HI.out
    obtain ⟨g0, g1⟩ := cells2 k0
    obtain ⟨c0, c1, c2, f0, f1, f2⟩ := cells3 k2
    have r1 := k1
    clear k0 k1 k2
    by_cases hjl : j < m
    · have tj : decide ((j : Int) < (m : Int)) = true := decide_eq_true (by omega)
      have hj3 : j = 0 ∨ j = 1 ∨ j = 2 := by omega
      obtain ⟨q, hq⟩ : ∃ q : Bool, q = bitB x j := ⟨_, rfl⟩
      clear r1
      have hne : w1.heap.size ≠ wr.heap.size := by omega
      have hne2 : w1.heap.size ≠ wr.heap.size + 1 := by omega
      have hne3 : wr.heap.size ≠ w1.heap.size := by omega
      have hne4 : wr.heap.size + 1 ≠ w1.heap.size := by omega
      rcases hj3 with rfl | rfl | rfl
      · cases q
        · have hbt : (bits BinOp.and IntKind.i64 x 1 == 0) = true := by rw [bit0_fact x hx0 hx1, ← hq]; rfl
          have hlit : Hid (litN x 0 = .not (.test 0)) := by show _ = _; unfold litN; rw [← hq]; rfl
          have tj2 : decide ((0 : Int) < (m : Int)) = true := tj
          have tj3 : decide (0 < m) = true := decide_eq_true hjl
          have hjm := Lib.hid hjl
          clear hq hjl
          have HN : Hid (AtSt w w1.heap.size m a 5 0 (.cons 3 0 .nil .nil) (some ⟨wr.heap.size + 1, 0, none⟩) 1 (((((wr.setCell ⟨w1.heap.size, 0, none⟩ (.int .i64 5)).setCell ⟨w1.heap.size, 1, none⟩ (.int .i64 0)).setCell ⟨w1.heap.size, 2, none⟩ (.slice (some ⟨wr.heap.size + 1, 0, none⟩) 1 1)).alloc (.cells #[.int .i64 5, .int .i64 0, .slice (some ⟨wr.heap.size + 1, 0, none⟩) 1 1] 35)).alloc (.cells #[.int .i64 3, .int .i64 0, .slice none 0 0] 35))) := HI.out.make hB 5 0 (.cons 3 0 .nil .nil) (some ⟨wr.heap.size + 1, 0, none⟩) 1 (((Below.refl _ _).alloc (by first | (simp; done) | (simp; omega)) _).alloc (by first | (simp; done) | (simp; omega)) _) (Fo.LiesIn.one (hi := wr.heap.size) (Fo.LiesIn.nil _ _ none) (k := 3) (n := 0) (C := 0) (Fo.Agree.refl _ _ _) (b := wr.heap.size + 1) (heap_new _ _ _ (by simp)) (by omega) (by simp) (by first | (simp; done) | (simp; omega)))
          go_wp2_with fail
          go_roundw
          case rel => exact ⟨1, (some ⟨wr.heap.size + 1, 0, none⟩), 1, by have := hjm.out; omega, by go_num, by show AtSt _ _ _ _ (litN x 0).kd (litN x 0).nm (litN x 0).ks _ _ _; rw [hlit.out]; exact HN.out⟩
          case measure => (have := hjm.out; simp [intOf]; try omega)
        · have hbt : (bits BinOp.and IntKind.i64 x 1 == 0) = false := by rw [bit0_fact x hx0 hx1, ← hq]; rfl
          have hlit : Hid (litN x 0 = .test 0) := by show _ = _; unfold litN; rw [← hq]; rfl
          have tj2 : decide ((0 : Int) < (m : Int)) = true := tj
          have tj3 : decide (0 < m) = true := decide_eq_true hjl
          have hjm := Lib.hid hjl
          clear hq hjl
          have HN : Hid (AtSt w w1.heap.size m a 3 0 .nil none 0 ((((wr.setCell ⟨w1.heap.size, 0, none⟩ (.int .i64 3)).setCell ⟨w1.heap.size, 1, none⟩ (.int .i64 0)).setCell ⟨w1.heap.size, 2, none⟩ (.slice none 0 0)).alloc (.cells #[.int .i64 3, .int .i64 0, .slice none 0 0] 35))) := HI.out.make hB 3 0 .nil none 0 ((Below.refl _ _).alloc (by simp) _) (Fo.LiesIn.nil _ _ _)
          go_wp2_with fail
          go_roundw
          case rel => exact ⟨1, none, 0, by have := hjm.out; omega, by go_num, by show AtSt _ _ _ _ (litN x 0).kd (litN x 0).nm (litN x 0).ks _ _ _; rw [hlit.out]; exact HN.out⟩
          case measure => (have := hjm.out; simp [intOf]; try omega)
      · cases q
        · have hbt : (bits BinOp.and IntKind.i64 (x / 2) 1 == 0) = true := by rw [bit1_fact x hx0 hx1, ← hq]; rfl
          have hlit : Hid (litN x 1 = .not (.test 1)) := by show _ = _; unfold litN; rw [← hq]; rfl
          have tj2 : decide ((1 : Int) < (m : Int)) = true := tj
          have tj3 : decide (1 < m) = true := decide_eq_true hjl
          have hjm := Lib.hid hjl
          clear hq hjl
          have hbel : Below wr.heap.size wr ((wr.alloc (.cells #[.int .i64 5, .int .i64 0, .slice (some ⟨wr.heap.size + 1, 0, none⟩) 1 1] 35)).alloc (.cells #[.int .i64 3, .int .i64 1, .slice none 0 0] 35)) := by go_grown
          have HL : Hid ((((.cons 3 1 .nil .nil)) : Fo).LiesIn ((wr.alloc (.cells #[.int .i64 5, .int .i64 0, .slice (some ⟨wr.heap.size + 1, 0, none⟩) 1 1] 35)).alloc (.cells #[.int .i64 3, .int .i64 1, .slice none 0 0] 35)) (w1.heap.size + 1) (((wr.alloc (.cells #[.int .i64 5, .int .i64 0, .slice (some ⟨wr.heap.size + 1, 0, none⟩) 1 1] 35)).alloc (.cells #[.int .i64 3, .int .i64 1, .slice none 0 0] 35))).heap.size (some ⟨wr.heap.size + 1, 0, none⟩)) := (Fo.LiesIn.one (hi := wr.heap.size) (Fo.LiesIn.nil _ _ none) (W := wr) (k := 3) (n := 1) (C := 0) ((Fo.Agree.of_below hbel).mono (Nat.zero_le _) (Nat.le_refl _)) (b := wr.heap.size + 1) (hi' := (((wr.alloc (.cells #[.int .i64 5, .int .i64 0, .slice (some ⟨wr.heap.size + 1, 0, none⟩) 1 1] 35)).alloc (.cells #[.int .i64 3, .int .i64 1, .slice none 0 0] 35))).heap.size) (heap_new _ _ _ (by simp)) (by omega) (by simp) (by simp; omega))
          have HM := Lib.hid (HI.out.below hB hbel)
          have KP := Lib.hid (l02Pair_any 7 (prodN x 1).kd (prodN x 1).nm (prodN x 1).ks 5 0 (.cons 3 1 .nil .nil) A (some ⟨wr.heap.size + 1, 0, none⟩) C 1 (w1.heap.size + 1) ((wr.alloc (.cells #[.int .i64 5, .int .i64 0, .slice (some ⟨wr.heap.size + 1, 0, none⟩) 1 1] 35)).alloc (.cells #[.int .i64 3, .int .i64 1, .slice none 0 0] 35)) HM.out.2.2.2.2.2 HL.out HM.out.2.1)
          clear hbel HL
          go_wp2_with fail
          refine KP.out.mono ?_
          rintro e w2 ⟨Z2, rfl, hL2, hb2⟩
          have HM2 := Lib.hid (HM.out.below hB hb2)
          have HN := Lib.hid (HM2.out.put hB 7 0 _ Z2 2 hL2)
          obtain ⟨_, _, _, _, k2, _⟩ := HM2.out
          clear c0 c1 c2 f0 f1 f2 g0 g1 hne hne2 hne3 hne4 hb2 hL2
          obtain ⟨c0, c1, c2, f0, f1, f2⟩ := cells3 k2
          clear k2
          go_wp2_with fail
          go_roundw
          case rel => exact ⟨2, Z2, 2, by have := hjm.out; omega, by go_num, by show AtSt _ _ _ _ (Nd.dot (prodN x 1) (litN x 1)).kd (Nd.dot (prodN x 1) (litN x 1)).nm (Nd.dot (prodN x 1) (litN x 1)).ks _ _ _; rw [hlit.out]; exact HN.out⟩
          case measure => (have := hjm.out; simp [intOf]; try omega)
        · have hbt : (bits BinOp.and IntKind.i64 (x / 2) 1 == 0) = false := by rw [bit1_fact x hx0 hx1, ← hq]; rfl
          have hlit : Hid (litN x 1 = .test 1) := by show _ = _; unfold litN; rw [← hq]; rfl
          have tj2 : decide ((1 : Int) < (m : Int)) = true := tj
          have tj3 : decide (1 < m) = true := decide_eq_true hjl
          have hjm := Lib.hid hjl
          clear hq hjl
          have hbel : Below wr.heap.size wr (wr.alloc (.cells #[.int .i64 3, .int .i64 1, .slice none 0 0] 35)) := by go_grown
          have HL : Hid (((.nil) : Fo).LiesIn (wr.alloc (.cells #[.int .i64 3, .int .i64 1, .slice none 0 0] 35)) (w1.heap.size + 1) ((wr.alloc (.cells #[.int .i64 3, .int .i64 1, .slice none 0 0] 35))).heap.size none) := (Fo.LiesIn.nil _ _ _)
          have HM := Lib.hid (HI.out.below hB hbel)
          have KP := Lib.hid (l02Pair_any 7 (prodN x 1).kd (prodN x 1).nm (prodN x 1).ks 3 1 .nil A none C 0 (w1.heap.size + 1) (wr.alloc (.cells #[.int .i64 3, .int .i64 1, .slice none 0 0] 35)) HM.out.2.2.2.2.2 HL.out HM.out.2.1)
          clear hbel HL
          go_wp2_with fail
          refine KP.out.mono ?_
          rintro e w2 ⟨Z2, rfl, hL2, hb2⟩
          have HM2 := Lib.hid (HM.out.below hB hb2)
          have HN := Lib.hid (HM2.out.put hB 7 0 _ Z2 2 hL2)
          obtain ⟨_, _, _, _, k2, _⟩ := HM2.out
          clear c0 c1 c2 f0 f1 f2 g0 g1 hne hne2 hne3 hne4 hb2 hL2
          obtain ⟨c0, c1, c2, f0, f1, f2⟩ := cells3 k2
          clear k2
          go_wp2_with fail
          go_roundw
          case rel => exact ⟨2, Z2, 2, by have := hjm.out; omega, by go_num, by show AtSt _ _ _ _ (Nd.dot (prodN x 1) (litN x 1)).kd (Nd.dot (prodN x 1) (litN x 1)).nm (Nd.dot (prodN x 1) (litN x 1)).ks _ _ _; rw [hlit.out]; exact HN.out⟩
          case measure => (have := hjm.out; simp [intOf]; try omega)
      · cases q
        · have hbt : (bits BinOp.and IntKind.i64 (x / 4) 1 == 0) = true := by rw [bit2_fact x hx0 hx1, ← hq]; rfl
          have hlit : Hid (litN x 2 = .not (.test 2)) := by show _ = _; unfold litN; rw [← hq]; rfl
          have tj2 : decide ((2 : Int) < (m : Int)) = true := tj
          have tj3 : decide (2 < m) = true := decide_eq_true hjl
          have hjm := Lib.hid hjl
          clear hq hjl
          have hbel : Below wr.heap.size wr ((wr.alloc (.cells #[.int .i64 5, .int .i64 0, .slice (some ⟨wr.heap.size + 1, 0, none⟩) 1 1] 35)).alloc (.cells #[.int .i64 3, .int .i64 2, .slice none 0 0] 35)) := by go_grown
          have HL : Hid ((((.cons 3 2 .nil .nil)) : Fo).LiesIn ((wr.alloc (.cells #[.int .i64 5, .int .i64 0, .slice (some ⟨wr.heap.size + 1, 0, none⟩) 1 1] 35)).alloc (.cells #[.int .i64 3, .int .i64 2, .slice none 0 0] 35)) (w1.heap.size + 1) (((wr.alloc (.cells #[.int .i64 5, .int .i64 0, .slice (some ⟨wr.heap.size + 1, 0, none⟩) 1 1] 35)).alloc (.cells #[.int .i64 3, .int .i64 2, .slice none 0 0] 35))).heap.size (some ⟨wr.heap.size + 1, 0, none⟩)) := (Fo.LiesIn.one (hi := wr.heap.size) (Fo.LiesIn.nil _ _ none) (W := wr) (k := 3) (n := 2) (C := 0) ((Fo.Agree.of_below hbel).mono (Nat.zero_le _) (Nat.le_refl _)) (b := wr.heap.size + 1) (hi' := (((wr.alloc (.cells #[.int .i64 5, .int .i64 0, .slice (some ⟨wr.heap.size + 1, 0, none⟩) 1 1] 35)).alloc (.cells #[.int .i64 3, .int .i64 2, .slice none 0 0] 35))).heap.size) (heap_new _ _ _ (by simp)) (by omega) (by simp) (by simp; omega))
          have HM := Lib.hid (HI.out.below hB hbel)
          have KP := Lib.hid (l02Pair_any 7 (prodN x 2).kd (prodN x 2).nm (prodN x 2).ks 5 0 (.cons 3 2 .nil .nil) A (some ⟨wr.heap.size + 1, 0, none⟩) C 1 (w1.heap.size + 1) ((wr.alloc (.cells #[.int .i64 5, .int .i64 0, .slice (some ⟨wr.heap.size + 1, 0, none⟩) 1 1] 35)).alloc (.cells #[.int .i64 3, .int .i64 2, .slice none 0 0] 35)) HM.out.2.2.2.2.2 HL.out HM.out.2.1)
          clear hbel HL
          go_wp2_with fail
          refine KP.out.mono ?_
          rintro e w2 ⟨Z2, rfl, hL2, hb2⟩
          have HM2 := Lib.hid (HM.out.below hB hb2)
          have HN := Lib.hid (HM2.out.put hB 7 0 _ Z2 2 hL2)
          obtain ⟨_, _, _, _, k2, _⟩ := HM2.out
          clear c0 c1 c2 f0 f1 f2 g0 g1 hne hne2 hne3 hne4 hb2 hL2
          obtain ⟨c0, c1, c2, f0, f1, f2⟩ := cells3 k2
          clear k2
          go_wp2_with fail
          go_roundw
          case rel => exact ⟨3, Z2, 2, by have := hjm.out; omega, by go_num, by show AtSt _ _ _ _ (Nd.dot (prodN x 2) (litN x 2)).kd (Nd.dot (prodN x 2) (litN x 2)).nm (Nd.dot (prodN x 2) (litN x 2)).ks _ _ _; rw [hlit.out]; exact HN.out⟩
          case measure => (have := hjm.out; simp [intOf]; try omega)
        · have hbt : (bits BinOp.and IntKind.i64 (x / 4) 1 == 0) = false := by rw [bit2_fact x hx0 hx1, ← hq]; rfl
          have hlit : Hid (litN x 2 = .test 2) := by show _ = _; unfold litN; rw [← hq]; rfl
          have tj2 : decide ((2 : Int) < (m : Int)) = true := tj
          have tj3 : decide (2 < m) = true := decide_eq_true hjl
          have hjm := Lib.hid hjl
          clear hq hjl
          have hbel : Below wr.heap.size wr (wr.alloc (.cells #[.int .i64 3, .int .i64 2, .slice none 0 0] 35)) := by go_grown
          have HL : Hid (((.nil) : Fo).LiesIn (wr.alloc (.cells #[.int .i64 3, .int .i64 2, .slice none 0 0] 35)) (w1.heap.size + 1) ((wr.alloc (.cells #[.int .i64 3, .int .i64 2, .slice none 0 0] 35))).heap.size none) := (Fo.LiesIn.nil _ _ _)
          have HM := Lib.hid (HI.out.below hB hbel)
          have KP := Lib.hid (l02Pair_any 7 (prodN x 2).kd (prodN x 2).nm (prodN x 2).ks 3 2 .nil A none C 0 (w1.heap.size + 1) (wr.alloc (.cells #[.int .i64 3, .int .i64 2, .slice none 0 0] 35)) HM.out.2.2.2.2.2 HL.out HM.out.2.1)
          clear hbel HL
          go_wp2_with fail
          refine KP.out.mono ?_
          rintro e w2 ⟨Z2, rfl, hL2, hb2⟩
          have HM2 := Lib.hid (HM.out.below hB hb2)
          have HN := Lib.hid (HM2.out.put hB 7 0 _ Z2 2 hL2)
          obtain ⟨_, _, _, _, k2, _⟩ := HM2.out
          clear c0 c1 c2 f0 f1 f2 g0 g1 hne hne2 hne3 hne4 hb2 hL2
          obtain ⟨c0, c1, c2, f0, f1, f2⟩ := cells3 k2
          clear k2
          go_wp2_with fail
          go_roundw
          case rel => exact ⟨3, Z2, 2, by have := hjm.out; omega, by go_num, by show AtSt _ _ _ _ (Nd.dot (prodN x 2) (litN x 2)).kd (Nd.dot (prodN x 2) (litN x 2)).nm (Nd.dot (prodN x 2) (litN x 2)).ks _ _ _; rw [hlit.out]; exact HN.out⟩
          case measure => (have := hjm.out; simp [intOf]; try omega)
    · obtain rfl : j = m := by omega
      have tj : decide ((j : Int) < (j : Int)) = false := decide_eq_false (by omega)
      have HR := Lib.hid r1
      obtain ⟨d0, d1, d2, e0, e1, e2⟩ := cells3 r1
      clear hjl r1
      go_wp2_with fail
      have hkf : (((wr.setCell ⟨w.heap.size + 1, 0, none⟩ (.int .i64 (prodN x j).kd)).setCell ⟨w.heap.size + 1, 1, none⟩ (.int .i64 (prodN x j).nm)).setCell ⟨w.heap.size + 1, 2, none⟩ (.slice A (prodN x j).ks.len C)).heap[w.heap.size + 1]? = some (.cells #[.int .i64 (prodN x j).kd, .int .i64 (prodN x j).nm, .slice A (prodN x j).ks.len C] 35 (0, 0)) := by
        rw [Fo.block_setCell (Fo.block_setCell (Fo.block_setCell HR.out _) _) _]; rfl
      obtain ⟨p0, p1, p2, _⟩ := cells3 hkf
      refine bodyPost_ret (v := .agg #[.int .i64 (prodN x j).kd, .int .i64 (prodN x j).nm, .slice A (prodN x j).ks.len C]) (by simp [results, Try.results135, go_sem, p0, p1, p2]) rfl ⟨A, C, rfl, ?_, Below.setCell (Below.setCell (Below.setCell HI.out.1 (show w.heap.size ≤ w.heap.size + 1 by omega) _) (show w.heap.size ≤ w.heap.size + 1 by omega) _) (show w.heap.size ≤ w.heap.size + 1 by omega) _⟩
      exact (HI.out.2.2.2.2.2.agree (Fo.Agree.setCell (Fo.Agree.setCell (Fo.Agree.setCell (Fo.Agree.refl _ _ _) _ (Or.inl (show w.heap.size + 1 < w1.heap.size + 1 by omega)) _) _ (Or.inl (show w.heap.size + 1 < w1.heap.size + 1 by omega)) _) _ (Or.inl (show w.heap.size + 1 < w1.heap.size + 1 by omega)) _)).mono (by omega) (by simp)
end Go.Proofs.YtlpgkhdecccmlaaR
