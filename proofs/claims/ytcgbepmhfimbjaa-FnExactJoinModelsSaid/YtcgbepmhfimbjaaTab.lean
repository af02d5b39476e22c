/- impl.tableOf at truth values: a table that a function value fills, in blocks of its own. -/
import Derived.Test.YtcgbepmhfimbjaaRx0
import Derived.Shelf.Abstract
import Derived.Deep.RegionWith
namespace Go.Proofs.Ytcgbepmhfimbjaa
open Go.RowKit
set_option linter.unusedVariables false

def tab {α : Type} (R C : Nat) (T : Nat → Nat → α) : List (List α) := (List.range R).map fun x => (List.range C).map fun y => T x y
theorem tab_len {α : Type} (R C : Nat) (T : Nat → Nat → α) : (tab R C T).length = R := by simp [tab]
theorem tab_row {α : Type} (R C : Nat) (T : Nat → Nat → α) {j : Nat} (h : j < (tab R C T).length) : (tab R C T)[j] = (List.range C).map fun y => T j y := by simp [tab]
/-- A row comes in that was made and hung up before it was filled. -/
theorem FRowF.add2 {α : Type} {E : TypeId} {Q : World → α → Option Addr → FP → Prop} {ln : α → Nat} {xs : List α} {B : Nat} {wr w3 : World} {j : Nat} (hQ : FootOk Q) (h : FRowF E Q ln xs B wr j) (hj : j < xs.length) (hB : B < wr.heap.size) (hs : wr.heap.size ≤ w3.heap.size)
    (hk : ∀ k, k < wr.heap.size → k ≠ B → w3.heap[k]? = wr.heap[k]?) {A : Option Addr} (hset : w3.heap[B]? = (wr.setCell ⟨B, j, none⟩ (.slice A (ln xs[j]) (ln xs[j]))).heap[B]?) (hA : Q w3 xs[j] A (rng wr.heap.size w3.heap.size)) : FRowF E Q ln xs B w3 (j + 1) := by
  obtain ⟨cs, G, hc, hsz, hi, hg, hd⟩ := h
  refine ⟨cs.setIfInBounds j (.slice A (ln xs[j]) (ln xs[j])), fun i => if i = j then rng wr.heap.size w3.heap.size else G i, hset.trans (Fo.block_setCell hc _), by simp [hsz], fun i x hij hx => ?_, fun i k hk2 => ?_, fun i i' k h1 h2 => ?_⟩
  · simp only [Array.getElem?_setIfInBounds]
    by_cases hji : i = j
    · subst hji
      rw [if_pos rfl, if_pos (by omega), if_pos rfl]
      obtain ⟨_, rfl⟩ := List.getElem?_eq_some_iff.1 hx
      exact ⟨A, rfl, hA⟩
    · rw [if_neg (fun he => hji he.symm), if_neg hji]
      obtain ⟨A', h1, h2⟩ := hi i x (by omega) hx
      exact ⟨A', h1, hQ.keep h2 fun k hk3 => hk k (hg i k hk3).2.2 (by have := (hg i k hk3).2.1; omega)⟩
  · dsimp only at hk2
    by_cases hji : i = j
    · rw [if_pos hji] at hk2
      exact ⟨by omega, by have := hk2.1; omega, hk2.2⟩
    · rw [if_neg hji] at hk2
      have := hg i k hk2
      exact ⟨by omega, this.2.1, Nat.lt_of_lt_of_le this.2.2 hs⟩
  · dsimp only at h1 h2
    by_cases hj1 : i = j <;> by_cases hj2 : i' = j
    · rw [hj1, hj2]
    · rw [if_pos hj1] at h1
      rw [if_neg hj2] at h2
      have := (hg i' k h2).2.2
      have := h1.1
      omega
    · rw [if_neg hj1] at h1
      rw [if_pos hj2] at h2
      have := (hg i k h1).2.2
      have := h2.1
      omega
    · rw [if_neg hj1] at h1
      rw [if_neg hj2] at h2
      exact hd i i' k h1 h2
/-- What is so while a row is filled that hangs in place j of block B, and lies in the block that came next behind world wr. -/
structure Fil (B j : Nat) (wr : World) (v : Value) (E : TypeId) {α : Type} (enc : α → Value) (row : List α) (W : World) (k : Nat) : Prop where
  hung : W.heap[B]? = (wr.setCell ⟨B, j, none⟩ v).heap[B]?
  row : CRow E enc row wr.heap.size W k
  kept : ∀ b, b < wr.heap.size → b ≠ B → W.heap[b]? = wr.heap[b]?
  size : wr.heap.size < W.heap.size
  os : W.os = wr.os
  tape : W.tape = wr.tape
  output : W.output = wr.output
theorem Fil.below {B j : Nat} {wr : World} {v : Value} {E : TypeId} {α : Type} {enc : α → Value} {row : List α} {W W' : World} {k : Nat} (h : Fil B j wr v E enc row W k) (hB : B < wr.heap.size) (hb : Below W.heap.size W W') : Fil B j wr v E enc row W' k := by
  obtain ⟨cs, h1, h2, h3⟩ := h.row
  exact ⟨(hb.block B (by have := h.size; omega)).trans h.hung, ⟨cs, (hb.block _ h.size).trans h1, h2, h3⟩, fun b h4 h5 => (hb.block b (by have := h.size; omega)).trans (h.kept b h4 h5), Nat.lt_of_lt_of_le h.size hb.size, hb.os.trans h.os, hb.tape.trans h.tape, hb.output.trans h.output⟩
theorem Fil.drew {B j : Nat} {wr : World} {v : Value} {E : TypeId} {α : Type} {enc : α → Value} {row : List α} {W : World} {k : Nat} (h : Fil B j wr v E enc row W k) : Fil B j wr v E enc row W.drew k := ⟨h.hung, h.row, h.kept, h.size, h.os, h.tape, h.output⟩
theorem Fil.step {B j : Nat} {wr : World} {v : Value} {E : TypeId} {α : Type} {enc : α → Value} {row : List α} {W : World} {k : Nat} (h : Fil B j wr v E enc row W k) (hB : B < wr.heap.size) (hk : k < row.length) {x : α} (hx : row[k]? = some x) : Fil B j wr v E enc row (W.setCell ⟨wr.heap.size, k, none⟩ (enc x)) (k + 1) :=
  ⟨(Below.heap_setCell _ _ _ _ (by show B ≠ wr.heap.size; omega)).trans h.hung, h.row.step hk hx, fun b h4 h5 => (Below.heap_setCell _ _ _ _ (by show b ≠ wr.heap.size; omega)).trans (h.kept b h4 h5), by simpa using h.size, h.os, h.tape, h.output⟩
theorem Fil.start {B j : Nat} {wr : World} {v : Value} {E : TypeId} {α : Type} {enc : α → Value} {row : List α} {cs : Array Value} (hB : B < wr.heap.size) (hs : cs.size = row.length) : Fil B j wr v E enc row ((wr.alloc (.cells cs E)).setCell ⟨B, j, none⟩ v) 0 := by
  have hbb : (wr.alloc (.cells cs E)).heap[B]? = wr.heap[B]? := Below.heap_alloc _ _ _ hB
  refine ⟨?_, ⟨cs, (Below.heap_setCell _ _ _ _ (by show wr.heap.size ≠ B; omega)).trans (heap_new _ _ _ rfl), hs, fun i x hi => absurd hi (Nat.not_lt_zero _)⟩, fun b h4 h5 => (Below.heap_setCell _ _ _ _ h5).trans (Below.heap_alloc _ _ _ h4), by simp, rfl, rfl, rfl⟩
  simp only [World.setCell, Array.getElem?_modify, if_pos]
  rw [show (wr.alloc (.cells cs E)).heap[B]? = wr.heap[B]? from hbb]
theorem Fil.belowW {B j : Nat} {wr : World} {v : Value} {E : TypeId} {α : Type} {enc : α → Value} {row : List α} {W w : World} {k : Nat} (h : Fil B j wr v E enc row W k) (hb : Below w.heap.size w wr) (hB : w.heap.size ≤ B) : Below w.heap.size w W :=
  hb.trans ⟨h.os, h.tape, h.output, Nat.le_of_lt h.size, fun k hk => h.kept k (by have := hb.size; omega) (by omega)⟩

set_option maxHeartbeats 4000000 in
set_option maxRecDepth 100000 in
theorem tableOfX_any (N : Nat) (caps : Array Value) (eg : ∀ args w, (callFunc N args).run Try.prog w = .ok (.enter N args) w) (R C : Nat) (hR : R ≤ 8) (hC : C ≤ 8) (T : Nat → Nat → Bool) (w : World)
    (KC : Hid (∀ (W : World) (x y : Nat), Sees w W → x < R → y < C → Calls Try.prog N (#[.int .i64 (x : Int), .int .i64 (y : Int)] ++ caps) W fun e w' => e = .returned (.bool (T x y)) ∧ Below W.heap.size W w')) :
    Calls Try.prog 141 #[.int .i64 (R : Int), .int .i64 (C : Int), .func (.func N) #[] caps] w fun e w' => ∃ A, e = .returned (.slice A R R) ∧ BBX w' (tab R C T) A (rng w.heap.size w'.heap.size) ∧ Below w.heap.size w w' := by
  obtain ⟨xs, hxs⟩ : ∃ xs, xs = tab R C T := ⟨_, rfl⟩
  have hxl : xs.length = R := by rw [hxs, tab_len]
  rw [← hxs]
  have hmk := make_BoolSS R (by omega)
  have hmc := make_BoolS C (by omega)
  have HX := Lib.hid hxs; have HXL := Lib.hid hxl; have HMC := Lib.hid hmc
  have H0 : Hid (FRowF 104 BoolsF List.length xs w.heap.size (w.alloc (.cells (zeroBoolSS R) 104)) 0) := frowF_start (by rw [size_zeroBoolSS, hxl])
  clear hmc hxs hxl
  go_enter Try.func141, Try.ntmps141
  go_wp2_with fail
  go_loopw [14] (fun i wr => ∃ j : Nat, j ≤ R ∧ i = .int .i64 j ∧ Hid (FRowF 104 BoolsF List.length xs w.heap.size wr j) ∧ Hid (Below w.heap.size w wr) ∧ Hid (w.heap.size < wr.heap.size)) (fun i _ => R - (intOf i).toNat)
  case atStart => exact ⟨0, Nat.zero_le _, rfl, H0.out, (Below.refl _ _).alloc (Nat.le_refl _) _, by show _ < _; simp⟩
  case round =>
    clear hmk H0
    obtain ⟨j, hj, rfl, hF, hb, hlt⟩ := hrel
    obtain ⟨wo, rfl⟩ : ∃ wo, wo = wr := ⟨_, rfl⟩
    by_cases hjl : j < R
    · have hjx : j < xs.length := by rw [HXL.out]; exact hjl
      obtain ⟨⟨v0, g0'⟩, fz'⟩ := hF.out.cell hjx
      have g0 := ka (.cells (zeroBoolS C) 4) g0'
      have fz : (wo.alloc (.cells (zeroBoolS C) 4)).frozen? ⟨w.heap.size, j, none⟩ = false := (World.frozen?_of_block (a := ⟨w.heap.size, j, none⟩) (Below.heap_alloc _ _ _ hlt.out)).trans fz'
      have hrow : xs[j] = (List.range C).map fun y => T j y := by
        have h1 := HX.out
        subst h1
        exact tab_row R C T hjx
      obtain ⟨row, hrw⟩ : ∃ row, row = xs[j] := ⟨_, rfl⟩
      have hrl : row.length = C := by rw [hrw, hrow]; simp
      have hrg : Hid (∀ y, y < C → row[y]? = some (T j y)) := fun y hy => by rw [hrw, hrow]; simp [hy]
      have HRW := Lib.hid hrw; have HRL := Lib.hid hrl; have JL := Lib.hid hjl
      have S0 : Hid (Fil w.heap.size j wo (.slice (some ⟨wo.heap.size, 0, none⟩) C C) 4 Value.bool row ((wo.alloc (.cells (zeroBoolS C) 4)).setCell ⟨w.heap.size, j, none⟩ (.slice (some ⟨wo.heap.size, 0, none⟩) C C)) 0) := Fil.start hlt.out (by rw [size_zeroBoolS, hrl])
      have hmc := HMC.out wo
      have c1 : ((wo.alloc (.cells (zeroBoolS C) 4)).setCell ⟨w.heap.size, j, none⟩ (.slice (some ⟨wo.heap.size, 0, none⟩) C C)).cell? ⟨w.heap.size, j, none⟩ = some (.slice (some ⟨wo.heap.size, 0, none⟩) C C) := World.cell?_setCell_same (h := g0) ..
      have j0 : (0 : Int) ≤ (j : Int) := Int.natCast_nonneg _
      have j1 : (j : Int) < (R : Int) := by omega
      have HC1 := Lib.hid c1
      clear g0' fz' hrow hrw hrl
      go_wp2_with fail
      clear hmc g0 fz c1
      go_loopw [27] (fun i wr => ∃ k : Nat, k ≤ C ∧ i = .int .i64 k ∧ Hid (Fil w.heap.size j wo (.slice (some ⟨wo.heap.size, 0, none⟩) C C) 4 Value.bool row wr k)) (fun i _ => C - (intOf i).toNat)
      case atStart => exact ⟨0, Nat.zero_le _, rfl, S0.out⟩
      case round =>
        obtain ⟨k, hk, rfl, hS⟩ := hrel
        clear S0
        by_cases hkl : k < C
        · have c1 : wr.cell? ⟨w.heap.size, j, none⟩ = some (.slice (some ⟨wo.heap.size, 0, none⟩) C C) := by
            obtain ⟨⟨v1, h1⟩, _⟩ := hF.out.cell hjx
            exact (World.cell?_of_block (a := ⟨w.heap.size, j, none⟩) hS.out.hung).trans (World.cell?_setCell_same (h := h1) ..)
          have hsw : Sees w wr := hS.out.belowW hb.out (Nat.le_refl _)
          have K := KC.out wr.drew j k hsw.drew JL.out hkl
          have hx := hrg.out k hkl
          obtain ⟨q, hq⟩ : ∃ q, q = T j k := ⟨_, rfl⟩
          rw [← hq] at K hx
          have HK := Lib.hid K; have HXX := Lib.hid hx; have KL := Lib.hid hkl
          have k0 : (0 : Int) ≤ (k : Int) := Int.natCast_nonneg _
          have k1 : (k : Int) < (C : Int) := by omega
          have hkr : Hid (k < row.length) := by show _ < _; rw [HRL.out]; exact hkl
          obtain ⟨⟨d0v, d0⟩, dz⟩ := hS.out.row.cell hkr.out
          clear hq K hx hkl hsw
          go_wp2_with fail
          go_region_with (go_at_fn N; refine HK.out.mono ?_; rintro e wa ⟨rfl, hba⟩; have hS2 := hS.out.drew.below hlt.out hba; have c2 := kc hba c1; have e0 := kc hba d0; have ez : wa.frozen? ⟨wo.heap.size, k, none⟩ = false := (hS2.row.cell hkr.out).2)
          all_goals
            have hS3 := Lib.hid (hS2.step hlt.out hkr.out HXX.out)
            go_wp2_with fail
            go_roundw
            case rel => exact ⟨k + 1, KL.out, by go_num, hS3.out⟩
            case measure => have := KL.out; simp [intOf]; omega
        · obtain rfl : k = C := by omega
          have hln : List.length xs[j] = k := by rw [← HRW.out, HRL.out]
          have HF2 : Hid (FRowF 104 BoolsF List.length xs w.heap.size wr (j + 1)) := by
            refine hF.out.add2 boolsF_ok hjx hlt.out (Nat.le_of_lt hS.out.size) hS.out.kept (A := some ⟨wo.heap.size, 0, none⟩) (by rw [hln]; exact hS.out.hung) ?_
            rw [← HRW.out]
            have h5 := hS.out.row
            rw [← HRL.out] at h5
            exact h5.doneF (Nat.le_refl _) (Nat.le_refl _)
          have HB2 : Hid (Below w.heap.size w wr) := hS.out.belowW hb.out (Nat.le_refl _)
          have HL2 : Hid (w.heap.size < wr.heap.size) := Nat.lt_trans hlt.out hS.out.size
          clear hln
          go_wp2_with fail
          go_roundw
          case rel => exact ⟨j + 1, JL.out, by go_num, HF2.out, HB2.out, HL2.out⟩
          case measure => have := JL.out; simp [intOf]; omega
    · obtain rfl : j = R := by omega
      have HD : Hid (BBX wo xs (some ⟨w.heap.size, 0, none⟩) (rng w.heap.size wo.heap.size)) := by
        have h5 := hF.out
        rw [← HXL.out] at h5
        exact h5.doneX (Nat.le_refl _) (Nat.le_refl _)
      go_wp2_with fail
      go_ret
      exact ⟨_, rfl, HD.out, hb.out⟩
theorem tableOf_any (N : Nat) (caps : Array Value) (eg : ∀ args w, (callFunc N args).run Try.prog w = .ok (.enter N args) w) (R C : Nat) (hR : R ≤ 8) (hC : C ≤ 8) (T : Nat → Nat → Bool) (w : World)
    (KC : Hid (∀ (W : World) (x y : Nat), Sees w W → x < R → y < C → Calls Try.prog N (#[.int .i64 (x : Int), .int .i64 (y : Int)] ++ caps) W fun e w' => e = .returned (.bool (T x y)) ∧ Below W.heap.size W w')) :
    Calls Try.prog 141 #[.int .i64 (R : Int), .int .i64 (C : Int), .func (.func N) #[] caps] w fun e w' => ∃ A, e = .returned (.slice A R R) ∧ BBF w' (tab R C T) A (rng w.heap.size w'.heap.size) ∧ Below w.heap.size w w' :=
  (tableOfX_any N caps eg R C hR hC T w KC).mono fun e w' ⟨A, h1, h2, h3⟩ => ⟨A, h1, h2.toF, h3⟩
end Go.Proofs.Ytcgbepmhfimbjaa
