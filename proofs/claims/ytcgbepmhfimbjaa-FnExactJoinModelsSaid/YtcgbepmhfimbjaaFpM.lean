/- Marks put into lists, and lists of lists, in blocks of their own, and found again: laws.markBoolS .. heldBoolSSS. -/
import Derived.Test.YtcgbepmhfimbjaaFpt
namespace Go.Proofs.Ytcgbepmhfimbjaa
open Go.RowKit

/-- The mark of a number, at truth values. -/
def mb (k : Int) : Bool := k % 3 == 0
def mkE {α : Type} (val : Int → α) (k : Int) : List α → List α
  | [] => []
  | _ :: r => val k :: mkE val (k + 1) r
theorem mkE_len {α : Type} (val : Int → α) : ∀ (xs : List α) (k : Int), (mkE val k xs).length = xs.length
  | [], _ => rfl
  | _ :: r, k => by simp [mkE, mkE_len val r (k + 1)]
theorem mkE_get {α : Type} (val : Int → α) : ∀ (xs : List α) (k : Int) (i : Nat), i < xs.length → (mkE val k xs)[i]? = some (val (k + i))
  | [], _, _, h => absurd h (by simp)
  | x :: r, k, 0, _ => by simp [mkE]
  | x :: r, k, i + 1, h => by
    have := mkE_get val r (k + 1) i (by simpa using h)
    simp only [mkE, List.getElem?_cons_succ]
    rw [this]
    congr 2
    omega
def szL {α : Type} (sz : α → Nat) (xs : List α) : Nat := (xs.map sz).sum
def mkL {α : Type} (mk : Int → α → α) (sz : α → Nat) (k : Int) : List α → List α
  | [] => []
  | x :: r => mk k x :: mkL mk sz (k + sz x) r
theorem mkL_len {α : Type} (mk : Int → α → α) (sz : α → Nat) : ∀ (xs : List α) (k : Int), (mkL mk sz k xs).length = xs.length
  | [], _ => rfl
  | x :: r, k => by simp [mkL, mkL_len mk sz r (k + sz x)]
theorem mkL_get {α : Type} (mk : Int → α → α) (sz : α → Nat) : ∀ (xs : List α) (k : Int) (i : Nat) (x : α), xs[i]? = some x → (mkL mk sz k xs)[i]? = some (mk (k + szL sz (xs.take i)) x)
  | [], _, _, _, h => absurd h (by simp)
  | y :: r, k, 0, x, h => by
    simp only [List.getElem?_cons_zero, Option.some.injEq] at h
    subst h
    simp [mkL, szL]
  | y :: r, k, i + 1, x, h => by
    simp only [List.getElem?_cons_succ] at h
    have := mkL_get mk sz r (k + sz y) i x h
    simp only [mkL, List.getElem?_cons_succ]
    rw [this]
    congr 2
    simp only [szL, List.take_succ_cons, List.map_cons, List.sum_cons]
    omega
theorem szL_step {α : Type} (sz : α → Nat) (xs : List α) {j : Nat} (h : j < xs.length) : szL sz (xs.take (j + 1)) = szL sz (xs.take j) + sz xs[j] := by
  unfold szL
  rw [List.take_succ_eq_append_getElem h]
  simp only [List.map_append, List.sum_append, List.map_cons, List.map_nil, List.sum_cons, List.sum_nil, Nat.add_zero]
theorem szL_end {α : Type} (sz : α → Nat) (xs : List α) : szL sz (xs.take xs.length) = szL sz xs := by rw [List.take_length]
theorem szL_le {α : Type} (sz : α → Nat) (xs : List α) (j : Nat) : szL sz (xs.take j) ≤ szL sz xs := by
  unfold szL
  have h : xs.map sz = (xs.take j).map sz ++ (xs.drop j).map sz := by rw [← List.map_append, List.take_append_drop]
  rw [h, List.sum_append]
  omega
/-- A row of which the first j are marked. -/
def MRwC {α : Type} (enc : α → Value) (val : Int → α) (k : Int) (xs : List α) (b : Nat) (wr : World) (j : Nat) : Prop :=
  (∀ i, wr.frozen? ⟨b, i, none⟩ = false) ∧ (∀ i, i < j → wr.cell? ⟨b, i, none⟩ = some (enc (val (k + i)))) ∧ ∀ i (x : α), j ≤ i → xs[i]? = some x → wr.cell? ⟨b, i, none⟩ = some (enc x)
theorem MRwC.step {α : Type} {enc : α → Value} {val : Int → α} {k : Int} {xs : List α} {b : Nat} {wr : World} {j : Nat} (h : MRwC enc val k xs b wr j) (hj : j < xs.length) : MRwC enc val k xs b (wr.setCell ⟨b, j, none⟩ (enc (val (k + j)))) (j + 1) := by
  obtain ⟨h1, h2, h3⟩ := h
  refine ⟨fun i => by rw [World.frozen?_setCell]; exact h1 i, fun i hi => ?_, fun i x h4 h5 => ?_⟩
  · by_cases hij : j = i
    · subst hij
      exact World.cell?_setCell_same (h := h3 j _ (Nat.le_refl _) (List.getElem?_eq_getElem hj)) ..
    · rw [World.cell?_setCell_other (a := ⟨b, j, none⟩) (b := ⟨b, i, none⟩) (h := fun h => hij (by cases h; rfl))]
      exact h2 i (by omega)
  · rw [World.cell?_setCell_other (a := ⟨b, j, none⟩) (b := ⟨b, i, none⟩) (h := fun h => by cases h; omega)]
    exact h3 i x (by omega) h5
def MRw {α : Type} (Q : World → α → Option Addr → FP → Prop) (ln : α → Nat) (xs ys : List α) (b : Nat) (G : Nat → FP) (wr : World) (j : Nat) : Prop :=
  (∀ i, wr.frozen? ⟨b, i, none⟩ = false) ∧ ∀ i (x y : α), xs[i]? = some x → ys[i]? = some y → ∃ B C, wr.cell? ⟨b, i, none⟩ = some (.slice B (ln x) C) ∧ Q wr (if i < j then y else x) B (G i)
theorem MRw.step {α : Type} {Q : World → α → Option Addr → FP → Prop} (hQ : FootOk Q) {ln : α → Nat} {xs ys : List α} {b : Nat} {G : Nat → FP} {wr w2 : World} {j : Nat} {x y : α} {B : Option Addr} {C : Nat} (h : MRw Q ln xs ys b G wr j)
    (hx : xs[j]? = some x) (hy : ys[j]? = some y) (hc : wr.cell? ⟨b, j, none⟩ = some (.slice B (ln x) C)) (hb : b < wr.heap.size) (hg : ∀ i k, G i k → k ≠ b ∧ k < wr.heap.size) (hd : ∀ i i' k, G i k → G i' k → i = i') (h2 : Q w2 y B (G j)) (hbt : ButF (G j) wr w2) :
    MRw Q ln xs ys b G w2 (j + 1) := by
  have hbb : w2.heap[b]? = wr.heap[b]? := hbt.block b hb fun hk => (hg j b hk).1 rfl
  refine ⟨fun i => (World.frozen?_of_block (a := ⟨b, i, none⟩) hbb).trans (h.1 i), fun i x' y' hx' hy' => ?_⟩
  by_cases hij : i = j
  · subst hij
    rw [hx] at hx'; rw [hy] at hy'
    cases hx'; cases hy'
    exact ⟨B, C, (World.cell?_of_block (a := ⟨b, i, none⟩) hbb).trans hc, by rw [if_pos (Nat.lt_succ_self _)]; exact h2⟩
  · obtain ⟨B', C', h3, h4⟩ := h.2 i x' y' hx' hy'
    refine ⟨B', C', (World.cell?_of_block (a := ⟨b, i, none⟩) hbb).trans h3, ?_⟩
    have he : (if i < j + 1 then y' else x') = (if i < j then y' else x') := by
      by_cases h5 : i < j
      · rw [if_pos h5, if_pos (by omega)]
      · rw [if_neg h5, if_neg (by omega)]
    rw [he]
    exact hQ.keep h4 fun k hk => hbt.block k (hg i k hk).2 fun hk2 => hij (hd i j k hk hk2)

theorem markBoolS_nil (k : Int) (A : Option Addr) (C : Nat) (w : World) :
      Calls Try.prog 144 #[.slice A 0 C, .int .i64 k] w fun e w' => e = .returned (.int .i64 k) ∧ w' = w := by
  go_enter Try.func144, Try.ntmps144
  go_wp2_with fail
  go_loopw [1, 5] (fun x i wr => x = .int .i64 k ∧ i = .int .i64 0 ∧ wr = w) (fun _ _ _ => 0)
  case atStart => exact ⟨rfl, rfl, rfl⟩
  case round =>
    obtain ⟨rfl, rfl, rfl⟩ := hrel
    go_wp2_with fail
    go_ret
    exact ⟨rfl, rfl⟩

set_option maxHeartbeats 400000 in
theorem markBoolSF (xs : List Bool) (hm : xs.length ≤ 1048576) (k : Int) (hk0 : 0 ≤ k) (hk1 : k ≤ 16777216) (A : Option Addr) (C : Nat) (w : World) (F : FP) (hX : BoolsF w xs A F) :
      Calls Try.prog 144 #[.slice A xs.length C, .int .i64 k] w fun e w' => e = .returned (.int .i64 (k + xs.length)) ∧ BoolsF w' (mkE mb k xs) A F ∧ ButF F w w' := by
  rcases hX with rfl | ⟨b, rfl, hFb, hfz, hc⟩
  · refine (markBoolS_nil k A C w).mono ?_
    rintro e w' ⟨rfl, rfl⟩
    exact ⟨by simp, Or.inl rfl, ButF.refl _ _⟩
  have hR : MRwC (Value.bool) mb k xs b w 0 := ⟨hfz, fun i hi => absurd hi (Nat.not_lt_zero _), fun i x _ hx => hc i x hx⟩
  clear hfz hc
  go_enter Try.func144, Try.ntmps144
  go_wp2_with fail
  go_loopw [1, 5] (fun x i wr => ∃ j : Nat, j ≤ xs.length ∧ i = .int .i64 j ∧ x = .int .i64 (k + j) ∧ MRwC (Value.bool) mb k xs b wr j ∧ ButF F w wr) (fun _ i _ => xs.length - (intOf i).toNat)
  case atStart => exact ⟨0, Nat.zero_le _, rfl, by simp, hR, ButF.refl _ _⟩
  case round =>
    obtain ⟨j, hj, rfl, rfl, hM, hbt⟩ := hrel
    by_cases hjl : j < xs.length
    · have c0 := hM.2.2 j xs[j] (Nat.le_refl _) (List.getElem?_eq_getElem hjl)
      obtain ⟨x0, hx0⟩ : ∃ x0, x0 = xs[j] := ⟨_, rfl⟩
      rw [← hx0] at c0
      have fz := hM.1 j
      have hM2 := Lib.hid (hM.step hjl)
      have hb2 := Lib.hid (hbt.set (i := j) hFb ((Value.bool) (mb (k + j))))
      have wk : IntKind.i64.wrap (k + (j : Int) + 1) = k + (j : Int) + 1 := IntWalk.i64_in _ (by omega)
      clear hM hbt hx0
      go_wp2_with fail
      go_roundw
      case rel => exact ⟨j + 1, by omega, by go_num, by go_num, hM2.out, hb2.out⟩
      case measure => simp [intOf]; omega
    · obtain rfl : j = xs.length := by omega
      go_wp2_with fail
      go_ret
      exact ⟨rfl, Or.inr ⟨b, rfl, hFb, hM.1, fun i x hx => by
        obtain ⟨hl, _⟩ := List.getElem?_eq_some_iff.1 hx
        rw [mkE_len] at hl
        rw [mkE_get _ _ _ _ hl] at hx
        cases hx
        exact hM.2.1 i hl⟩, hbt⟩

set_option maxHeartbeats 400000 in
theorem heldBoolSF (xs : List Bool) (hm : xs.length ≤ 1048576) (k : Int) (hk0 : 0 ≤ k) (hk1 : k ≤ 16777216) (A : Option Addr) (C : Nat) (w : World) (hX : BoolsL 0 w (mkE mb k xs) A) :
      Calls Try.prog 145 #[.slice A xs.length C, .int .i64 k] w fun e w' => e = .returned (.int .i64 (k + xs.length)) ∧ Below w.heap.size w w' := by
  go_enter Try.func145, Try.ntmps145
  go_wp2_with fail
  go_loopw [1, 5] (fun x i wr => ∃ j : Nat, j ≤ xs.length ∧ i = .int .i64 j ∧ x = .int .i64 (k + j) ∧ Below w.heap.size w wr) (fun _ i _ => xs.length - (intOf i).toNat)
  case atStart => exact ⟨0, Nat.zero_le _, rfl, by simp, Below.refl _ _⟩
  case round =>
    obtain ⟨j, hj, rfl, rfl, hb⟩ := hrel
    by_cases hjl : j < xs.length
    · obtain ⟨b, o, _, rfl, hat⟩ := hX (by intro h; have := congrArg List.length h; rw [mkE_len] at this; simp only [List.length_nil] at this; omega)
      have c0' := hat j _ (mkE_get mb xs k j hjl)
      have c0 : wr.cell? ⟨b, o + j, none⟩ = some (.bool ((k + (j : Int)) % 3 == 0)) := kc hb c0'
      have wk : IntKind.i64.wrap (k + (j : Int) + 1) = k + (j : Int) + 1 := IntWalk.i64_in _ (by omega)
      have HAT := Lib.hid hat
      clear hat c0'
      go_wp2_with fail
      go_roundw
      case rel => exact ⟨j + 1, by omega, by go_num, by go_num, hb⟩
      case measure => simp [intOf]; omega
    · obtain rfl : j = xs.length := by omega
      go_wp2_with fail
      go_ret
      exact ⟨rfl, hb⟩

theorem markInt64S_nil (k : Int) (A : Option Addr) (C : Nat) (w : World) :
      Calls Try.prog 196 #[.slice A 0 C, .int .i64 k] w fun e w' => e = .returned (.int .i64 k) ∧ w' = w := by
  go_enter Try.func196, Try.ntmps196
  go_wp2_with fail
  go_loopw [1, 5] (fun x i wr => x = .int .i64 k ∧ i = .int .i64 0 ∧ wr = w) (fun _ _ _ => 0)
  case atStart => exact ⟨rfl, rfl, rfl⟩
  case round =>
    obtain ⟨rfl, rfl, rfl⟩ := hrel
    go_wp2_with fail
    go_ret
    exact ⟨rfl, rfl⟩

set_option maxHeartbeats 400000 in
theorem markInt64SF (xs : List Int) (hm : xs.length ≤ 1048576) (k : Int) (hk0 : 0 ≤ k) (hk1 : k ≤ 16777216) (A : Option Addr) (C : Nat) (w : World) (F : FP) (hX : IntsF w xs A F) :
      Calls Try.prog 196 #[.slice A xs.length C, .int .i64 k] w fun e w' => e = .returned (.int .i64 (k + xs.length)) ∧ IntsF w' (mkE id k xs) A F ∧ ButF F w w' := by
  rcases hX with rfl | ⟨b, rfl, hFb, hfz, hc⟩
  · refine (markInt64S_nil k A C w).mono ?_
    rintro e w' ⟨rfl, rfl⟩
    exact ⟨by simp, Or.inl rfl, ButF.refl _ _⟩
  have hR : MRwC (Value.int .i64) id k xs b w 0 := ⟨hfz, fun i hi => absurd hi (Nat.not_lt_zero _), fun i x _ hx => hc i x hx⟩
  clear hfz hc
  go_enter Try.func196, Try.ntmps196
  go_wp2_with fail
  go_loopw [1, 5] (fun x i wr => ∃ j : Nat, j ≤ xs.length ∧ i = .int .i64 j ∧ x = .int .i64 (k + j) ∧ MRwC (Value.int .i64) id k xs b wr j ∧ ButF F w wr) (fun _ i _ => xs.length - (intOf i).toNat)
  case atStart => exact ⟨0, Nat.zero_le _, rfl, by simp, hR, ButF.refl _ _⟩
  case round =>
    obtain ⟨j, hj, rfl, rfl, hM, hbt⟩ := hrel
    by_cases hjl : j < xs.length
    · have c0 := hM.2.2 j xs[j] (Nat.le_refl _) (List.getElem?_eq_getElem hjl)
      obtain ⟨x0, hx0⟩ : ∃ x0, x0 = xs[j] := ⟨_, rfl⟩
      rw [← hx0] at c0
      have fz := hM.1 j
      have hM2 := Lib.hid (hM.step hjl)
      have hb2 := Lib.hid (hbt.set (i := j) hFb ((Value.int .i64) (id (k + j))))
      have wk : IntKind.i64.wrap (k + (j : Int) + 1) = k + (j : Int) + 1 := IntWalk.i64_in _ (by omega)
      clear hM hbt hx0
      go_wp2_with fail
      go_roundw
      case rel => exact ⟨j + 1, by omega, by go_num, by go_num, hM2.out, hb2.out⟩
      case measure => simp [intOf]; omega
    · obtain rfl : j = xs.length := by omega
      go_wp2_with fail
      go_ret
      exact ⟨rfl, Or.inr ⟨b, rfl, hFb, hM.1, fun i x hx => by
        obtain ⟨hl, _⟩ := List.getElem?_eq_some_iff.1 hx
        rw [mkE_len] at hl
        rw [mkE_get _ _ _ _ hl] at hx
        cases hx
        exact hM.2.1 i hl⟩, hbt⟩

theorem markBoolSS_nil (k : Int) (A : Option Addr) (C : Nat) (w : World) :
      Calls Try.prog 71 #[.slice A 0 C, .int .i64 k] w fun e w' => e = .returned (.int .i64 k) ∧ w' = w := by
  go_enter Try.func71, Try.ntmps71
  go_wp2_with fail
  go_loopw [1, 5] (fun x i wr => x = .int .i64 k ∧ i = .int .i64 0 ∧ wr = w) (fun _ _ _ => 0)
  case atStart => exact ⟨rfl, rfl, rfl⟩
  case round =>
    obtain ⟨rfl, rfl, rfl⟩ := hrel
    go_wp2_with fail
    go_ret
    exact ⟨rfl, rfl⟩

set_option maxHeartbeats 1000000 in
theorem markBoolSSF (xs : List (List Bool)) (hm : xs.length ≤ 1048576) (hl : (∀ x ∈ xs, x.length ≤ 1048576)) (k : Int) (hk0 : 0 ≤ k) (hk1 : k + szL List.length xs ≤ 16777216) (A : Option Addr) (C : Nat) (w : World) (F : FP) (hF : ∀ b, F b → b < w.heap.size) (hX : BBF w xs A F) :
      Calls Try.prog 71 #[.slice A xs.length C, .int .i64 k] w fun e w' => e = .returned (.int .i64 (k + szL List.length xs)) ∧ BBF w' (mkL (mkE mb) List.length k xs) A F ∧ ButF F w w' := by
  rcases hX with rfl | ⟨b, G, rfl, hFb, hfz, hc, hg, hd⟩
  · refine (markBoolSS_nil k A C w).mono ?_
    rintro e w' ⟨rfl, rfl⟩
    exact ⟨by simp [szL], Or.inl rfl, ButF.refl _ _⟩
  obtain ⟨ys, hys⟩ : ∃ ys, ys = mkL (mkE mb) List.length k xs := ⟨_, rfl⟩
  have hyl : ys.length = xs.length := by rw [hys, mkL_len]
  have hR : Hid (MRw BoolsF List.length xs ys b G w 0) := ⟨hfz, fun i x y hx hy => by obtain ⟨B, D, h1, h2⟩ := hc i x hx; exact ⟨B, D, h1, by rw [if_neg (Nat.not_lt_zero _)]; exact h2⟩⟩
  have HG := Lib.hid hg; have HD := Lib.hid hd; have HL := Lib.hid hl; have HF := Lib.hid hF; have HYS := Lib.hid hys; have HYL := Lib.hid hyl
  have hq0 : Hid (k = k + (szL List.length (xs.take 0) : Nat)) := by show _ = _; simp [szL]
  rw [← hys]
  clear hfz hc hg hd hl hF hys hyl
  go_enter Try.func71, Try.ntmps71
  go_wp2_with fail
  go_loopw [1, 5] (fun x i wr => ∃ (j : Nat) (q : Int), j ≤ xs.length ∧ i = .int .i64 j ∧ x = .int .i64 q ∧ Hid (q = k + (szL List.length (xs.take j) : Nat)) ∧ Hid (MRw BoolsF List.length xs ys b G wr j) ∧ Hid (ButF F w wr)) (fun _ i _ => xs.length - (intOf i).toNat)
  case atStart => exact ⟨0, k, Nat.zero_le _, rfl, rfl, hq0, hR, ButF.refl _ _⟩
  case round =>
    clear hR hq0
    obtain ⟨j, q, hj, rfl, rfl, hq, hM, hbt⟩ := hrel
    by_cases hjl : j < xs.length
    · have hx0 := List.getElem?_eq_getElem hjl
      have hin := List.getElem_mem hjl
      have hstep := szL_step List.length xs hjl
      have hle := szL_le List.length xs (j + 1)
      have hmk := mkL_get (mkE mb) List.length xs k j _ hx0
      obtain ⟨x, hx⟩ : ∃ x, x = xs[j] := ⟨_, rfl⟩
      rw [← hx] at hx0 hin hstep hmk
      have hy0 : ys[j]? = some ((mkE mb) q x) := by rw [HYS.out, hmk, hq.out]
      obtain ⟨B, D, c0, hQ⟩ := hM.out.2 j x _ hx0 hy0
      rw [if_neg (Nat.lt_irrefl _)] at hQ
      have hsz := hbt.out.size
      have hbl : b < wr.heap.size := Nat.lt_of_lt_of_le (HF.out b hFb) hsz
      have hgl : Hid (∀ i k, G i k → k ≠ b ∧ k < wr.heap.size) := fun i k hk => ⟨(HG.out i k hk).2, Nat.lt_of_lt_of_le (HF.out k (HG.out i k hk).1) hsz⟩
      have hlx := HL.out x hin
      have hqb : 0 ≤ q ∧ q + (List.length x : Nat) ≤ 16777216 := by have := hq.out; omega
      have K : Hid (Calls Try.prog 144 #[.slice B x.length D, .int .i64 q] wr fun e w' => e = .returned (.int .i64 (q + (List.length x : Nat))) ∧ BoolsF w' ((mkE mb) q x) B (G j) ∧ ButF (G j) wr w') := markBoolSF x hlx q hqb.1 (by omega) B D wr (G j) hQ
      have hq2 : Hid (q + (List.length x : Nat) = k + (szL List.length (xs.take (j + 1)) : Nat)) := by show _ = _; rw [hstep, hq.out]; omega
      have HX0 := Lib.hid hx0; have HY0 := Lib.hid hy0; have HX := Lib.hid hx; have C0 := Lib.hid c0
      have j0 : (0 : Int) ≤ (j : Int) := Int.natCast_nonneg _
      have j1 : (j : Int) < (xs.length : Int) := by omega
      clear hx0 hy0 hx hin hstep hle hmk hQ hlx hq hsz
      go_wp2_with fail
      refine K.out.mono ?_
      rintro e w2 ⟨rfl, hQ2, hb2⟩
      have HM2 : Hid (MRw BoolsF List.length xs ys b G w2 (j + 1)) := MRw.step boolsF_ok hM.out HX0.out HY0.out C0.out hbl hgl.out HD.out hQ2 hb2
      have HB2 : Hid (ButF F w w2) := hbt.out.trans (hb2.mono fun k hk => (HG.out j k hk).1)
      clear hQ2 hb2 hbl
      go_wp2_with fail
      go_roundw
      case rel => exact ⟨j + 1, _, by omega, by go_num, rfl, hq2, HM2, HB2⟩
      case measure => simp [intOf]; omega
    · obtain rfl : j = xs.length := by omega
      have HQ : Hid (q = k + (szL List.length xs : Nat)) := by show _ = _; rw [hq.out, szL_end]
      clear hq
      go_wp2_with fail
      go_ret
      exact ⟨ret_int HQ.out, Or.inr ⟨b, G, rfl, hFb, hM.out.1, fun i y hy => by
        obtain ⟨hl, _⟩ := List.getElem?_eq_some_iff.1 hy
        rw [HYL.out] at hl
        have hx := List.getElem?_eq_getElem hl
        obtain ⟨B, D, h1, h2⟩ := hM.out.2 i _ y hx hy
        rw [if_pos hl] at h2
        have hmk := mkL_get (mkE mb) List.length xs k i _ hx
        rw [← HYS.out, hy] at hmk
        cases hmk
        exact ⟨B, D, by rw [h1]; simp [mkE_len], h2⟩, HG.out, HD.out⟩, hbt.out⟩

set_option maxHeartbeats 1000000 in
theorem heldBoolSSF (xs : List (List Bool)) (hm : xs.length ≤ 1048576) (hl : (∀ x ∈ xs, x.length ≤ 1048576)) (k : Int) (hk0 : 0 ≤ k) (hk1 : k + szL List.length xs ≤ 16777216) (A : Option Addr) (C : Nat) (w : World) (hX : BB 0 w (mkL (mkE mb) List.length k xs) A) :
      Calls Try.prog 73 #[.slice A xs.length C, .int .i64 k] w fun e w' => e = .returned (.int .i64 (k + szL List.length xs)) ∧ Below w.heap.size w w' := by
  have HL := Lib.hid hl; have HX := Lib.hid hX
  have hq0 : Hid (k = k + (szL List.length (xs.take 0) : Nat)) := by show _ = _; simp [szL]
  clear hl hX
  go_enter Try.func73, Try.ntmps73
  go_wp2_with fail
  go_loopw [1, 5] (fun x i wr => ∃ (j : Nat) (q : Int), j ≤ xs.length ∧ i = .int .i64 j ∧ x = .int .i64 q ∧ Hid (q = k + (szL List.length (xs.take j) : Nat)) ∧ Below w.heap.size w wr) (fun _ i _ => xs.length - (intOf i).toNat)
  case atStart => exact ⟨0, k, Nat.zero_le _, rfl, rfl, hq0, Below.refl _ _⟩
  case round =>
    clear hq0
    obtain ⟨j, q, hj, rfl, rfl, hq, hb⟩ := hrel
    by_cases hjl : j < xs.length
    · have hx0 := List.getElem?_eq_getElem hjl
      have hin := List.getElem_mem hjl
      have hstep := szL_step List.length xs hjl
      have hle := szL_le List.length xs (j + 1)
      have hmk := mkL_get (mkE mb) List.length xs k j _ hx0
      obtain ⟨x, hx⟩ : ∃ x, x = xs[j] := ⟨_, rfl⟩
      rw [← hx] at hx0 hin hstep hmk
      rw [← hq.out] at hmk
      obtain ⟨b, o, _, rfl, hat⟩ := HX.out (by intro h; have := congrArg List.length h; rw [mkL_len] at this; simp only [List.length_nil] at this; omega)
      obtain ⟨B, D, c0', hQ⟩ := hat j _ hmk
      have hln : ((mkE mb) q x).length = x.length := by simp [mkE_len]
      rw [hln] at c0'
      have c0 := kc hb c0'
      have hlx := HL.out x hin
      have hqb : 0 ≤ q ∧ q + (List.length x : Nat) ≤ 16777216 := by have := hq.out; omega
      have hQ' := bools_ok.below hQ hb
      have K : Hid (Calls Try.prog 145 #[.slice B x.length D, .int .i64 q] wr fun e w' => e = .returned (.int .i64 (q + (List.length x : Nat))) ∧ Below wr.heap.size wr w') := heldBoolSF x hlx q hqb.1 (by omega) B D wr hQ'
      have hq2 : Hid (q + (List.length x : Nat) = k + (szL List.length (xs.take (j + 1)) : Nat)) := by show _ = _; rw [hstep, hq.out]; omega
      have HXX := Lib.hid hx; have HAT := Lib.hid hat
      have j0 : (0 : Int) ≤ (j : Int) := Int.natCast_nonneg _
      have j1 : (j : Int) < (xs.length : Int) := by omega
      have tq : ¬ (q + (List.length x : Nat) < 0) := by omega
      obtain ⟨z, hz, hz0⟩ : ∃ z : Int, Hid (z = q + (List.length x : Nat)) ∧ ¬ z < 0 := ⟨_, rfl, tq⟩
      rw [← hz.out] at K hq2
      clear hx0 hx hin hstep hle hmk hQ hQ' hlx hq hat c0' hln tq hqb
      go_wp2_with fail
      refine K.out.mono ?_
      rintro e w2 ⟨rfl, hb1⟩
      have hb2 := hb.trans (hb1.mono hb.size)
      clear hb1 hb c0
      go_wp2_with fail
      go_roundw
      case rel => exact ⟨j + 1, _, by omega, by go_num, rfl, hq2, hb2⟩
      case measure => simp [intOf]; omega
    · obtain rfl : j = xs.length := by omega
      have HQ : Hid (q = k + (szL List.length xs : Nat)) := by show _ = _; rw [hq.out, szL_end]
      clear hq
      go_wp2_with fail
      go_ret
      exact ⟨ret_int HQ.out, hb⟩

theorem markInt64SS_nil (k : Int) (A : Option Addr) (C : Nat) (w : World) :
      Calls Try.prog 190 #[.slice A 0 C, .int .i64 k] w fun e w' => e = .returned (.int .i64 k) ∧ w' = w := by
  go_enter Try.func190, Try.ntmps190
  go_wp2_with fail
  go_loopw [1, 5] (fun x i wr => x = .int .i64 k ∧ i = .int .i64 0 ∧ wr = w) (fun _ _ _ => 0)
  case atStart => exact ⟨rfl, rfl, rfl⟩
  case round =>
    obtain ⟨rfl, rfl, rfl⟩ := hrel
    go_wp2_with fail
    go_ret
    exact ⟨rfl, rfl⟩

set_option maxHeartbeats 1000000 in
theorem markInt64SSF (xs : List (List Int)) (hm : xs.length ≤ 1048576) (hl : (∀ x ∈ xs, x.length ≤ 1048576)) (k : Int) (hk0 : 0 ≤ k) (hk1 : k + szL List.length xs ≤ 16777216) (A : Option Addr) (C : Nat) (w : World) (F : FP) (hF : ∀ b, F b → b < w.heap.size) (hX : IIF w xs A F) :
      Calls Try.prog 190 #[.slice A xs.length C, .int .i64 k] w fun e w' => e = .returned (.int .i64 (k + szL List.length xs)) ∧ IIF w' (mkL (mkE id) List.length k xs) A F ∧ ButF F w w' := by
  rcases hX with rfl | ⟨b, G, rfl, hFb, hfz, hc, hg, hd⟩
  · refine (markInt64SS_nil k A C w).mono ?_
    rintro e w' ⟨rfl, rfl⟩
    exact ⟨by simp [szL], Or.inl rfl, ButF.refl _ _⟩
  obtain ⟨ys, hys⟩ : ∃ ys, ys = mkL (mkE id) List.length k xs := ⟨_, rfl⟩
  have hyl : ys.length = xs.length := by rw [hys, mkL_len]
  have hR : Hid (MRw IntsF List.length xs ys b G w 0) := ⟨hfz, fun i x y hx hy => by obtain ⟨B, D, h1, h2⟩ := hc i x hx; exact ⟨B, D, h1, by rw [if_neg (Nat.not_lt_zero _)]; exact h2⟩⟩
  have HG := Lib.hid hg; have HD := Lib.hid hd; have HL := Lib.hid hl; have HF := Lib.hid hF; have HYS := Lib.hid hys; have HYL := Lib.hid hyl
  have hq0 : Hid (k = k + (szL List.length (xs.take 0) : Nat)) := by show _ = _; simp [szL]
  rw [← hys]
  clear hfz hc hg hd hl hF hys hyl
  go_enter Try.func190, Try.ntmps190
  go_wp2_with fail
  go_loopw [1, 5] (fun x i wr => ∃ (j : Nat) (q : Int), j ≤ xs.length ∧ i = .int .i64 j ∧ x = .int .i64 q ∧ Hid (q = k + (szL List.length (xs.take j) : Nat)) ∧ Hid (MRw IntsF List.length xs ys b G wr j) ∧ Hid (ButF F w wr)) (fun _ i _ => xs.length - (intOf i).toNat)
  case atStart => exact ⟨0, k, Nat.zero_le _, rfl, rfl, hq0, hR, ButF.refl _ _⟩
  case round =>
    clear hR hq0
    obtain ⟨j, q, hj, rfl, rfl, hq, hM, hbt⟩ := hrel
    by_cases hjl : j < xs.length
    · have hx0 := List.getElem?_eq_getElem hjl
      have hin := List.getElem_mem hjl
      have hstep := szL_step List.length xs hjl
      have hle := szL_le List.length xs (j + 1)
      have hmk := mkL_get (mkE id) List.length xs k j _ hx0
      obtain ⟨x, hx⟩ : ∃ x, x = xs[j] := ⟨_, rfl⟩
      rw [← hx] at hx0 hin hstep hmk
      have hy0 : ys[j]? = some ((mkE id) q x) := by rw [HYS.out, hmk, hq.out]
      obtain ⟨B, D, c0, hQ⟩ := hM.out.2 j x _ hx0 hy0
      rw [if_neg (Nat.lt_irrefl _)] at hQ
      have hsz := hbt.out.size
      have hbl : b < wr.heap.size := Nat.lt_of_lt_of_le (HF.out b hFb) hsz
      have hgl : Hid (∀ i k, G i k → k ≠ b ∧ k < wr.heap.size) := fun i k hk => ⟨(HG.out i k hk).2, Nat.lt_of_lt_of_le (HF.out k (HG.out i k hk).1) hsz⟩
      have hlx := HL.out x hin
      have hqb : 0 ≤ q ∧ q + (List.length x : Nat) ≤ 16777216 := by have := hq.out; omega
      have K : Hid (Calls Try.prog 196 #[.slice B x.length D, .int .i64 q] wr fun e w' => e = .returned (.int .i64 (q + (List.length x : Nat))) ∧ IntsF w' ((mkE id) q x) B (G j) ∧ ButF (G j) wr w') := markInt64SF x hlx q hqb.1 (by omega) B D wr (G j) hQ
      have hq2 : Hid (q + (List.length x : Nat) = k + (szL List.length (xs.take (j + 1)) : Nat)) := by show _ = _; rw [hstep, hq.out]; omega
      have HX0 := Lib.hid hx0; have HY0 := Lib.hid hy0; have HX := Lib.hid hx; have C0 := Lib.hid c0
      have j0 : (0 : Int) ≤ (j : Int) := Int.natCast_nonneg _
      have j1 : (j : Int) < (xs.length : Int) := by omega
      clear hx0 hy0 hx hin hstep hle hmk hQ hlx hq hsz
      go_wp2_with fail
      refine K.out.mono ?_
      rintro e w2 ⟨rfl, hQ2, hb2⟩
      have HM2 : Hid (MRw IntsF List.length xs ys b G w2 (j + 1)) := MRw.step intsF_ok hM.out HX0.out HY0.out C0.out hbl hgl.out HD.out hQ2 hb2
      have HB2 : Hid (ButF F w w2) := hbt.out.trans (hb2.mono fun k hk => (HG.out j k hk).1)
      clear hQ2 hb2 hbl
      go_wp2_with fail
      go_roundw
      case rel => exact ⟨j + 1, _, by omega, by go_num, rfl, hq2, HM2, HB2⟩
      case measure => simp [intOf]; omega
    · obtain rfl : j = xs.length := by omega
      have HQ : Hid (q = k + (szL List.length xs : Nat)) := by show _ = _; rw [hq.out, szL_end]
      clear hq
      go_wp2_with fail
      go_ret
      exact ⟨ret_int HQ.out, Or.inr ⟨b, G, rfl, hFb, hM.out.1, fun i y hy => by
        obtain ⟨hl, _⟩ := List.getElem?_eq_some_iff.1 hy
        rw [HYL.out] at hl
        have hx := List.getElem?_eq_getElem hl
        obtain ⟨B, D, h1, h2⟩ := hM.out.2 i _ y hx hy
        rw [if_pos hl] at h2
        have hmk := mkL_get (mkE id) List.length xs k i _ hx
        rw [← HYS.out, hy] at hmk
        cases hmk
        exact ⟨B, D, by rw [h1]; simp [mkE_len], h2⟩, HG.out, HD.out⟩, hbt.out⟩

theorem markBoolSSS_nil (k : Int) (A : Option Addr) (C : Nat) (w : World) :
      Calls Try.prog 72 #[.slice A 0 C, .int .i64 k] w fun e w' => e = .returned (.int .i64 k) ∧ w' = w := by
  go_enter Try.func72, Try.ntmps72
  go_wp2_with fail
  go_loopw [1, 5] (fun x i wr => x = .int .i64 k ∧ i = .int .i64 0 ∧ wr = w) (fun _ _ _ => 0)
  case atStart => exact ⟨rfl, rfl, rfl⟩
  case round =>
    obtain ⟨rfl, rfl, rfl⟩ := hrel
    go_wp2_with fail
    go_ret
    exact ⟨rfl, rfl⟩

set_option maxHeartbeats 1000000 in
theorem markBoolSSSF (xs : List (List (List Bool))) (hm : xs.length ≤ 1048576) (hl : (∀ x ∈ xs, x.length ≤ 1048576 ∧ ∀ y ∈ x, y.length ≤ 1048576)) (k : Int) (hk0 : 0 ≤ k) (hk1 : k + szL (szL List.length) xs ≤ 16777216) (A : Option Addr) (C : Nat) (w : World) (F : FP) (hF : ∀ b, F b → b < w.heap.size) (hX : BBBF w xs A F) :
      Calls Try.prog 72 #[.slice A xs.length C, .int .i64 k] w fun e w' => e = .returned (.int .i64 (k + szL (szL List.length) xs)) ∧ BBBF w' (mkL (mkL (mkE mb) List.length) (szL List.length) k xs) A F ∧ ButF F w w' := by
  rcases hX with rfl | ⟨b, G, rfl, hFb, hfz, hc, hg, hd⟩
  · refine (markBoolSSS_nil k A C w).mono ?_
    rintro e w' ⟨rfl, rfl⟩
    exact ⟨by simp [szL], Or.inl rfl, ButF.refl _ _⟩
  obtain ⟨ys, hys⟩ : ∃ ys, ys = mkL (mkL (mkE mb) List.length) (szL List.length) k xs := ⟨_, rfl⟩
  have hyl : ys.length = xs.length := by rw [hys, mkL_len]
  have hR : Hid (MRw BBF List.length xs ys b G w 0) := ⟨hfz, fun i x y hx hy => by obtain ⟨B, D, h1, h2⟩ := hc i x hx; exact ⟨B, D, h1, by rw [if_neg (Nat.not_lt_zero _)]; exact h2⟩⟩
  have HG := Lib.hid hg; have HD := Lib.hid hd; have HL := Lib.hid hl; have HF := Lib.hid hF; have HYS := Lib.hid hys; have HYL := Lib.hid hyl
  have hq0 : Hid (k = k + (szL (szL List.length) (xs.take 0) : Nat)) := by show _ = _; simp [szL]
  rw [← hys]
  clear hfz hc hg hd hl hF hys hyl
  go_enter Try.func72, Try.ntmps72
  go_wp2_with fail
  go_loopw [1, 5] (fun x i wr => ∃ (j : Nat) (q : Int), j ≤ xs.length ∧ i = .int .i64 j ∧ x = .int .i64 q ∧ Hid (q = k + (szL (szL List.length) (xs.take j) : Nat)) ∧ Hid (MRw BBF List.length xs ys b G wr j) ∧ Hid (ButF F w wr)) (fun _ i _ => xs.length - (intOf i).toNat)
  case atStart => exact ⟨0, k, Nat.zero_le _, rfl, rfl, hq0, hR, ButF.refl _ _⟩
  case round =>
    clear hR hq0
    obtain ⟨j, q, hj, rfl, rfl, hq, hM, hbt⟩ := hrel
    by_cases hjl : j < xs.length
    · have hx0 := List.getElem?_eq_getElem hjl
      have hin := List.getElem_mem hjl
      have hstep := szL_step (szL List.length) xs hjl
      have hle := szL_le (szL List.length) xs (j + 1)
      have hmk := mkL_get (mkL (mkE mb) List.length) (szL List.length) xs k j _ hx0
      obtain ⟨x, hx⟩ : ∃ x, x = xs[j] := ⟨_, rfl⟩
      rw [← hx] at hx0 hin hstep hmk
      have hy0 : ys[j]? = some ((mkL (mkE mb) List.length) q x) := by rw [HYS.out, hmk, hq.out]
      obtain ⟨B, D, c0, hQ⟩ := hM.out.2 j x _ hx0 hy0
      rw [if_neg (Nat.lt_irrefl _)] at hQ
      have hsz := hbt.out.size
      have hbl : b < wr.heap.size := Nat.lt_of_lt_of_le (HF.out b hFb) hsz
      have hgl : Hid (∀ i k, G i k → k ≠ b ∧ k < wr.heap.size) := fun i k hk => ⟨(HG.out i k hk).2, Nat.lt_of_lt_of_le (HF.out k (HG.out i k hk).1) hsz⟩
      have hlx := HL.out x hin
      have hqb : 0 ≤ q ∧ q + ((szL List.length) x : Nat) ≤ 16777216 := by have := hq.out; omega
      have K : Hid (Calls Try.prog 71 #[.slice B x.length D, .int .i64 q] wr fun e w' => e = .returned (.int .i64 (q + ((szL List.length) x : Nat))) ∧ BBF w' ((mkL (mkE mb) List.length) q x) B (G j) ∧ ButF (G j) wr w') := markBoolSSF x hlx.1 hlx.2 q hqb.1 hqb.2 B D wr (G j) (fun k hk => (hgl.out j k hk).2) hQ
      have hq2 : Hid (q + ((szL List.length) x : Nat) = k + (szL (szL List.length) (xs.take (j + 1)) : Nat)) := by show _ = _; rw [hstep, hq.out]; omega
      have HX0 := Lib.hid hx0; have HY0 := Lib.hid hy0; have HX := Lib.hid hx; have C0 := Lib.hid c0
      have j0 : (0 : Int) ≤ (j : Int) := Int.natCast_nonneg _
      have j1 : (j : Int) < (xs.length : Int) := by omega
      clear hx0 hy0 hx hin hstep hle hmk hQ hlx hq hsz
      go_wp2_with fail
      refine K.out.mono ?_
      rintro e w2 ⟨rfl, hQ2, hb2⟩
      have HM2 : Hid (MRw BBF List.length xs ys b G w2 (j + 1)) := MRw.step bbF_ok hM.out HX0.out HY0.out C0.out hbl hgl.out HD.out hQ2 hb2
      have HB2 : Hid (ButF F w w2) := hbt.out.trans (hb2.mono fun k hk => (HG.out j k hk).1)
      clear hQ2 hb2 hbl
      go_wp2_with fail
      go_roundw
      case rel => exact ⟨j + 1, _, by omega, by go_num, rfl, hq2, HM2, HB2⟩
      case measure => simp [intOf]; omega
    · obtain rfl : j = xs.length := by omega
      have HQ : Hid (q = k + (szL (szL List.length) xs : Nat)) := by show _ = _; rw [hq.out, szL_end]
      clear hq
      go_wp2_with fail
      go_ret
      exact ⟨ret_int HQ.out, Or.inr ⟨b, G, rfl, hFb, hM.out.1, fun i y hy => by
        obtain ⟨hl, _⟩ := List.getElem?_eq_some_iff.1 hy
        rw [HYL.out] at hl
        have hx := List.getElem?_eq_getElem hl
        obtain ⟨B, D, h1, h2⟩ := hM.out.2 i _ y hx hy
        rw [if_pos hl] at h2
        have hmk := mkL_get (mkL (mkE mb) List.length) (szL List.length) xs k i _ hx
        rw [← HYS.out, hy] at hmk
        cases hmk
        exact ⟨B, D, by rw [h1]; simp [mkL_len], h2⟩, HG.out, HD.out⟩, hbt.out⟩

set_option maxHeartbeats 1000000 in
theorem heldBoolSSSF (xs : List (List (List Bool))) (hm : xs.length ≤ 1048576) (hl : (∀ x ∈ xs, x.length ≤ 1048576 ∧ ∀ y ∈ x, y.length ≤ 1048576)) (k : Int) (hk0 : 0 ≤ k) (hk1 : k + szL (szL List.length) xs ≤ 16777216) (A : Option Addr) (C : Nat) (w : World) (hX : BBB 0 w (mkL (mkL (mkE mb) List.length) (szL List.length) k xs) A) :
      Calls Try.prog 74 #[.slice A xs.length C, .int .i64 k] w fun e w' => e = .returned (.int .i64 (k + szL (szL List.length) xs)) ∧ Below w.heap.size w w' := by
  have HL := Lib.hid hl; have HX := Lib.hid hX
  have hq0 : Hid (k = k + (szL (szL List.length) (xs.take 0) : Nat)) := by show _ = _; simp [szL]
  clear hl hX
  go_enter Try.func74, Try.ntmps74
  go_wp2_with fail
  go_loopw [1, 5] (fun x i wr => ∃ (j : Nat) (q : Int), j ≤ xs.length ∧ i = .int .i64 j ∧ x = .int .i64 q ∧ Hid (q = k + (szL (szL List.length) (xs.take j) : Nat)) ∧ Below w.heap.size w wr) (fun _ i _ => xs.length - (intOf i).toNat)
  case atStart => exact ⟨0, k, Nat.zero_le _, rfl, rfl, hq0, Below.refl _ _⟩
  case round =>
    clear hq0
    obtain ⟨j, q, hj, rfl, rfl, hq, hb⟩ := hrel
    by_cases hjl : j < xs.length
    · have hx0 := List.getElem?_eq_getElem hjl
      have hin := List.getElem_mem hjl
      have hstep := szL_step (szL List.length) xs hjl
      have hle := szL_le (szL List.length) xs (j + 1)
      have hmk := mkL_get (mkL (mkE mb) List.length) (szL List.length) xs k j _ hx0
      obtain ⟨x, hx⟩ : ∃ x, x = xs[j] := ⟨_, rfl⟩
      rw [← hx] at hx0 hin hstep hmk
      rw [← hq.out] at hmk
      obtain ⟨b, o, _, rfl, hat⟩ := HX.out (by intro h; have := congrArg List.length h; rw [mkL_len] at this; simp only [List.length_nil] at this; omega)
      obtain ⟨B, D, c0', hQ⟩ := hat j _ hmk
      have hln : ((mkL (mkE mb) List.length) q x).length = x.length := by simp [mkL_len]
      rw [hln] at c0'
      have c0 := kc hb c0'
      have hlx := HL.out x hin
      have hqb : 0 ≤ q ∧ q + ((szL List.length) x : Nat) ≤ 16777216 := by have := hq.out; omega
      have hQ' := bb_ok.below hQ hb
      have K : Hid (Calls Try.prog 73 #[.slice B x.length D, .int .i64 q] wr fun e w' => e = .returned (.int .i64 (q + ((szL List.length) x : Nat))) ∧ Below wr.heap.size wr w') := heldBoolSSF x hlx.1 hlx.2 q hqb.1 hqb.2 B D wr hQ'
      have hq2 : Hid (q + ((szL List.length) x : Nat) = k + (szL (szL List.length) (xs.take (j + 1)) : Nat)) := by show _ = _; rw [hstep, hq.out]; omega
      have HXX := Lib.hid hx; have HAT := Lib.hid hat
      have j0 : (0 : Int) ≤ (j : Int) := Int.natCast_nonneg _
      have j1 : (j : Int) < (xs.length : Int) := by omega
      have tq : ¬ (q + ((szL List.length) x : Nat) < 0) := by omega
      obtain ⟨z, hz, hz0⟩ : ∃ z : Int, Hid (z = q + ((szL List.length) x : Nat)) ∧ ¬ z < 0 := ⟨_, rfl, tq⟩
      rw [← hz.out] at K hq2
      clear hx0 hx hin hstep hle hmk hQ hQ' hlx hq hat c0' hln tq hqb
      go_wp2_with fail
      refine K.out.mono ?_
      rintro e w2 ⟨rfl, hb1⟩
      have hb2 := hb.trans (hb1.mono hb.size)
      clear hb1 hb c0
      go_wp2_with fail
      go_roundw
      case rel => exact ⟨j + 1, _, by omega, by go_num, rfl, hq2, hb2⟩
      case measure => simp [intOf]; omega
    · obtain rfl : j = xs.length := by omega
      have HQ : Hid (q = k + (szL (szL List.length) xs : Nat)) := by show _ = _; rw [hq.out, szL_end]
      clear hq
      go_wp2_with fail
      go_ret
      exact ⟨ret_int HQ.out, hb⟩

theorem markInt64SSS_nil (k : Int) (A : Option Addr) (C : Nat) (w : World) :
      Calls Try.prog 116 #[.slice A 0 C, .int .i64 k] w fun e w' => e = .returned (.int .i64 k) ∧ w' = w := by
  go_enter Try.func116, Try.ntmps116
  go_wp2_with fail
  go_loopw [1, 5] (fun x i wr => x = .int .i64 k ∧ i = .int .i64 0 ∧ wr = w) (fun _ _ _ => 0)
  case atStart => exact ⟨rfl, rfl, rfl⟩
  case round =>
    obtain ⟨rfl, rfl, rfl⟩ := hrel
    go_wp2_with fail
    go_ret
    exact ⟨rfl, rfl⟩

set_option maxHeartbeats 1000000 in
theorem markInt64SSSF (xs : List (List (List Int))) (hm : xs.length ≤ 1048576) (hl : (∀ x ∈ xs, x.length ≤ 1048576 ∧ ∀ y ∈ x, y.length ≤ 1048576)) (k : Int) (hk0 : 0 ≤ k) (hk1 : k + szL (szL List.length) xs ≤ 16777216) (A : Option Addr) (C : Nat) (w : World) (F : FP) (hF : ∀ b, F b → b < w.heap.size) (hX : IIIF w xs A F) :
      Calls Try.prog 116 #[.slice A xs.length C, .int .i64 k] w fun e w' => e = .returned (.int .i64 (k + szL (szL List.length) xs)) ∧ IIIF w' (mkL (mkL (mkE id) List.length) (szL List.length) k xs) A F ∧ ButF F w w' := by
  rcases hX with rfl | ⟨b, G, rfl, hFb, hfz, hc, hg, hd⟩
  · refine (markInt64SSS_nil k A C w).mono ?_
    rintro e w' ⟨rfl, rfl⟩
    exact ⟨by simp [szL], Or.inl rfl, ButF.refl _ _⟩
  obtain ⟨ys, hys⟩ : ∃ ys, ys = mkL (mkL (mkE id) List.length) (szL List.length) k xs := ⟨_, rfl⟩
  have hyl : ys.length = xs.length := by rw [hys, mkL_len]
  have hR : Hid (MRw IIF List.length xs ys b G w 0) := ⟨hfz, fun i x y hx hy => by obtain ⟨B, D, h1, h2⟩ := hc i x hx; exact ⟨B, D, h1, by rw [if_neg (Nat.not_lt_zero _)]; exact h2⟩⟩
  have HG := Lib.hid hg; have HD := Lib.hid hd; have HL := Lib.hid hl; have HF := Lib.hid hF; have HYS := Lib.hid hys; have HYL := Lib.hid hyl
  have hq0 : Hid (k = k + (szL (szL List.length) (xs.take 0) : Nat)) := by show _ = _; simp [szL]
  rw [← hys]
  clear hfz hc hg hd hl hF hys hyl
  go_enter Try.func116, Try.ntmps116
  go_wp2_with fail
  go_loopw [1, 5] (fun x i wr => ∃ (j : Nat) (q : Int), j ≤ xs.length ∧ i = .int .i64 j ∧ x = .int .i64 q ∧ Hid (q = k + (szL (szL List.length) (xs.take j) : Nat)) ∧ Hid (MRw IIF List.length xs ys b G wr j) ∧ Hid (ButF F w wr)) (fun _ i _ => xs.length - (intOf i).toNat)
  case atStart => exact ⟨0, k, Nat.zero_le _, rfl, rfl, hq0, hR, ButF.refl _ _⟩
  case round =>
    clear hR hq0
    obtain ⟨j, q, hj, rfl, rfl, hq, hM, hbt⟩ := hrel
    by_cases hjl : j < xs.length
    · have hx0 := List.getElem?_eq_getElem hjl
      have hin := List.getElem_mem hjl
      have hstep := szL_step (szL List.length) xs hjl
      have hle := szL_le (szL List.length) xs (j + 1)
      have hmk := mkL_get (mkL (mkE id) List.length) (szL List.length) xs k j _ hx0
      obtain ⟨x, hx⟩ : ∃ x, x = xs[j] := ⟨_, rfl⟩
      rw [← hx] at hx0 hin hstep hmk
      have hy0 : ys[j]? = some ((mkL (mkE id) List.length) q x) := by rw [HYS.out, hmk, hq.out]
      obtain ⟨B, D, c0, hQ⟩ := hM.out.2 j x _ hx0 hy0
      rw [if_neg (Nat.lt_irrefl _)] at hQ
      have hsz := hbt.out.size
      have hbl : b < wr.heap.size := Nat.lt_of_lt_of_le (HF.out b hFb) hsz
      have hgl : Hid (∀ i k, G i k → k ≠ b ∧ k < wr.heap.size) := fun i k hk => ⟨(HG.out i k hk).2, Nat.lt_of_lt_of_le (HF.out k (HG.out i k hk).1) hsz⟩
      have hlx := HL.out x hin
      have hqb : 0 ≤ q ∧ q + ((szL List.length) x : Nat) ≤ 16777216 := by have := hq.out; omega
      have K : Hid (Calls Try.prog 190 #[.slice B x.length D, .int .i64 q] wr fun e w' => e = .returned (.int .i64 (q + ((szL List.length) x : Nat))) ∧ IIF w' ((mkL (mkE id) List.length) q x) B (G j) ∧ ButF (G j) wr w') := markInt64SSF x hlx.1 hlx.2 q hqb.1 hqb.2 B D wr (G j) (fun k hk => (hgl.out j k hk).2) hQ
      have hq2 : Hid (q + ((szL List.length) x : Nat) = k + (szL (szL List.length) (xs.take (j + 1)) : Nat)) := by show _ = _; rw [hstep, hq.out]; omega
      have HX0 := Lib.hid hx0; have HY0 := Lib.hid hy0; have HX := Lib.hid hx; have C0 := Lib.hid c0
      have j0 : (0 : Int) ≤ (j : Int) := Int.natCast_nonneg _
      have j1 : (j : Int) < (xs.length : Int) := by omega
      clear hx0 hy0 hx hin hstep hle hmk hQ hlx hq hsz
      go_wp2_with fail
      refine K.out.mono ?_
      rintro e w2 ⟨rfl, hQ2, hb2⟩
      have HM2 : Hid (MRw IIF List.length xs ys b G w2 (j + 1)) := MRw.step iiF_ok hM.out HX0.out HY0.out C0.out hbl hgl.out HD.out hQ2 hb2
      have HB2 : Hid (ButF F w w2) := hbt.out.trans (hb2.mono fun k hk => (HG.out j k hk).1)
      clear hQ2 hb2 hbl
      go_wp2_with fail
      go_roundw
      case rel => exact ⟨j + 1, _, by omega, by go_num, rfl, hq2, HM2, HB2⟩
      case measure => simp [intOf]; omega
    · obtain rfl : j = xs.length := by omega
      have HQ : Hid (q = k + (szL (szL List.length) xs : Nat)) := by show _ = _; rw [hq.out, szL_end]
      clear hq
      go_wp2_with fail
      go_ret
      exact ⟨ret_int HQ.out, Or.inr ⟨b, G, rfl, hFb, hM.out.1, fun i y hy => by
        obtain ⟨hl, _⟩ := List.getElem?_eq_some_iff.1 hy
        rw [HYL.out] at hl
        have hx := List.getElem?_eq_getElem hl
        obtain ⟨B, D, h1, h2⟩ := hM.out.2 i _ y hx hy
        rw [if_pos hl] at h2
        have hmk := mkL_get (mkL (mkE id) List.length) (szL List.length) xs k i _ hx
        rw [← HYS.out, hy] at hmk
        cases hmk
        exact ⟨B, D, by rw [h1]; simp [mkL_len], h2⟩, HG.out, HD.out⟩, hbt.out⟩
end Go.Proofs.Ytcgbepmhfimbjaa
