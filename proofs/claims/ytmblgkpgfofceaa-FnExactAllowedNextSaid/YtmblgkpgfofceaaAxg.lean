/- Lists of facts that are made by append; what premises say of an action. Plain facts, no walk. Contracts of impl.atomsWhere, impl.atomSet.isWithin. Contract of impl.atomSet.isWithin. What Implies answers; contracts of spec.l07Implies, spec.Implies. -/
import Derived.Test.YtmblgkpgfofceaaAxf
import Derived.Test.YtmblgkpgfofceaaPrD
import Derived.Test.YtmblgkpgfofceaaAxc
import Derived.Test.YtmblgkpgfofceaaAxd
import Derived.Shelf.Abstract
import Derived.Laws.EntriesVeiled
import Derived.Deep.DeepCutAuto
import Derived.DeepKeys
import Derived.Test.YtmblgkpgfofceaaAxb
import Derived.Test.YtmblgkpgfofceaaOk
import Derived.Test.YtmblgkpgfofceaaCondI
namespace Go.Proofs.Ytmblgkpgfofceaa
open Go.RowKit
set_option linter.unusedVariables false

namespace Ft
/-- The cells of a list, one behind the other. -/
def flat : Ft → List Value
  | nil => []
  | cons b0 b1 b2 b3 b4 b5 b6 b7 b8 b9 b10 b11 b12 b13 b14 b15 r => [.bool b0, .bool b1, .bool b2, .bool b3, .bool b4, .bool b5, .bool b6, .bool b7, .bool b8, .bool b9, .bool b10, .bool b11, .bool b12, .bool b13, .bool b14, .bool b15] ++ r.flat
/-- One fact more, behind the others. -/
def add (S S' : Nat → Bool) : Ft → Ft
  | nil => cons (S 0) (S 1) (S 2) (S 3) (S 4) (S 5) (S 6) (S 7) (S' 0) (S' 1) (S' 2) (S' 3) (S' 4) (S' 5) (S' 6) (S' 7) nil
  | cons b0 b1 b2 b3 b4 b5 b6 b7 b8 b9 b10 b11 b12 b13 b14 b15 r => cons b0 b1 b2 b3 b4 b5 b6 b7 b8 b9 b10 b11 b12 b13 b14 b15 (r.add S S')
def fact16 (S S' : Nat → Bool) : List Value := [.bool (S 0), .bool (S 1), .bool (S 2), .bool (S 3), .bool (S 4), .bool (S 5), .bool (S 6), .bool (S 7), .bool (S' 0), .bool (S' 1), .bool (S' 2), .bool (S' 3), .bool (S' 4), .bool (S' 5), .bool (S' 6), .bool (S' 7)]
theorem flat_add (S S' : Nat → Bool) (f : Ft) : (f.add S S').flat = f.flat ++ fact16 S S' := by
  induction f with
  | nil => rfl
  | cons b0 b1 b2 b3 b4 b5 b6 b7 b8 b9 b10 b11 b12 b13 b14 b15 r ih => simp only [add, flat, ih, List.append_assoc]
theorem len_add (S S' : Nat → Bool) (f : Ft) : (f.add S S').len = f.len + 1 := by
  induction f with
  | nil => rfl
  | cons b0 b1 b2 b3 b4 b5 b6 b7 b8 b9 b10 b11 b12 b13 b14 b15 r ih => simp only [add, len, ih]
theorem flat_len (f : Ft) : f.flat.length = f.len * 16 := by
  induction f with
  | nil => rfl
  | cons b0 b1 b2 b3 b4 b5 b6 b7 b8 b9 b10 b11 b12 b13 b14 b15 r ih => simp only [flat, len, List.length_append, ih, List.length_cons, List.length_nil]; omega
theorem allG_add (S S' : Nat → Bool) (f : Ft) (G : Bool → Bool → Bool → Bool → Bool → Bool → Bool → Bool → Bool → Bool → Bool → Bool → Bool → Bool → Bool → Bool → Bool) : (f.add S S').allG G = (f.allG G && G (S 0) (S 1) (S 2) (S 3) (S 4) (S 5) (S 6) (S 7) (S' 0) (S' 1) (S' 2) (S' 3) (S' 4) (S' 5) (S' 6) (S' 7)) := by
  induction f with
  | nil => simp only [add, allG, Bool.and_true, Bool.true_and]
  | cons b0 b1 b2 b3 b4 b5 b6 b7 b8 b9 b10 b11 b12 b13 b14 b15 r ih => simp only [add, allG, ih, Bool.and_assoc]
theorem at_of_flat {w : World} {b : Nat} {f : Ft} : ∀ {o : Nat}, (∀ i u, f.flat[i]? = some u → w.cell? ⟨b, o + i, none⟩ = some u) → f.At w b o := by
  induction f with
  | nil => intro o _; trivial
  | cons b0 b1 b2 b3 b4 b5 b6 b7 b8 b9 b10 b11 b12 b13 b14 b15 r ih =>
    intro o h
    refine ⟨h 0 _ rfl, h 1 _ rfl, h 2 _ rfl, h 3 _ rfl, h 4 _ rfl, h 5 _ rfl, h 6 _ rfl, h 7 _ rfl, h 8 _ rfl, h 9 _ rfl, h 10 _ rfl, h 11 _ rfl, h 12 _ rfl, h 13 _ rfl, h 14 _ rfl, h 15 _ rfl, ih fun i u hi => ?_⟩
    have h2 := h (16 + i) u (by
      simp only [flat]
      rw [List.getElem?_append_right (by simp)]
      simpa using hi)
    rw [show o + 16 + i = o + (16 + i) from by omega]
    exact h2
end Ft
/-- A row of facts that a call makes by append, in blocks from lo on. -/
def OwnFt (w : World) (lo : Nat) (v : Value) (f : Ft) : Prop := w.ownsRow lo 146 16 v f.len f.flat
theorem OwnFt.nil (w : World) (lo : Nat) : OwnFt w lo (.slice none 0 0) .nil := ⟨rfl, .inl ⟨rfl, rfl⟩⟩
theorem OwnFt.below {w w' : World} {lo : Nat} {v : Value} {f : Ft} (h : OwnFt w lo v f) (hb : Below w.heap.size w w') : OwnFt w' lo v f := by
  obtain ⟨h1, h2⟩ := h
  refine ⟨h1, ?_⟩
  rcases h2 with h2 | ⟨g, cap, cur, hv, hg, hh, hn⟩
  · exact .inl h2
  · exact .inr ⟨g, cap, cur, hv, hg, (hb.block g (Array.getElem?_eq_some_iff.1 hh).1).trans hh, hn⟩
theorem OwnFt.alloc {w : World} {lo : Nat} {v : Value} {f : Ft} (h : OwnFt w lo v f) (o : Obj) : OwnFt (w.alloc o) lo v f := h.below ((Sees.refl w).alloc o)
theorem OwnFt.lies {w : World} {lo : Nat} {v : Value} {f : Ft} (h : OwnFt w lo v f) : ∃ A C, v = .slice A f.len C ∧ f.Lies w A := by
  have hc : ∀ g, v.ownBlock = some g → ∀ j u, f.flat[j]? = some u → w.cell? ((⟨g, 0, none⟩ : Addr).add j) = some u := fun g hg => h.cells hg
  obtain ⟨h1, h2⟩ := h
  rcases h2 with ⟨hv, hn⟩ | ⟨g, cap, cur, hv, hg, hh, hn⟩
  · rw [hn] at ⊢
    refine ⟨none, 0, hv, fun hne => ?_⟩
    cases f with
    | nil => exact absurd rfl hne
    | cons => simp [Ft.len] at hn
  · refine ⟨some ⟨g, 0, none⟩, cap, hv, fun _ => ⟨g, 0, rfl, Ft.at_of_flat fun i u hi => ?_⟩⟩
    have := hc g (by rw [hv]; rfl) i u hi
    have e : (⟨g, 0, none⟩ : Addr).add i = ⟨g, 0 + i, none⟩ := by unfold Addr.add; split <;> simp_all
    rw [← e]
    exact this
/-- The set of atoms at which a condition holds. -/
def setC (t k n : Int) (f : Fo) : Nat → Bool := setOfG (atomsNat t) fun i => (ndE f k n).emptyB (i : Int)
/-- What premises say of an action. -/
def factsF (t act : Int) (xs : List Pm) : Ft := xs.foldl (fun f x => if x.act = act then f.add (setC t x.pk x.pn x.pf) (setC t x.qk x.qn x.qf) else f) .nil
theorem factsF_yes {t act : Int} {xs : List Pm} {j : Nat} (h : j < xs.length) (ha : xs[j].act = act) : factsF t act (xs.take (j + 1)) = (factsF t act (xs.take j)).add (setC t xs[j].pk xs[j].pn xs[j].pf) (setC t xs[j].qk xs[j].qn xs[j].qf) := by
  unfold factsF
  rw [List.take_succ_eq_append_getElem h, List.foldl_append, List.foldl_cons, List.foldl_nil, if_pos ha]
theorem factsF_no {t act : Int} {xs : List Pm} {j : Nat} (h : j < xs.length) (ha : xs[j].act ≠ act) : factsF t act (xs.take (j + 1)) = factsF t act (xs.take j) := by
  unfold factsF
  rw [List.take_succ_eq_append_getElem h, List.foldl_append, List.foldl_cons, List.foldl_nil, if_neg ha]
theorem factsF_len (t act : Int) (xs : List Pm) : (factsF t act xs).len ≤ xs.length := by
  have key : ∀ (ys : List Pm) (f : Ft), (ys.foldl (fun f x => if x.act = act then f.add (setC t x.pk x.pn x.pf) (setC t x.qk x.qn x.qf) else f) f).len ≤ f.len + ys.length := by
    intro ys
    induction ys with
    | nil => intro f; simp
    | cons y ys ih =>
      intro f
      rw [List.foldl_cons, List.length_cons]
      refine Nat.le_trans (ih _) ?_
      split
      · rw [Ft.len_add]; omega
      · omega
  have := key xs .nil
  simpa [Ft.len, factsF] using this
theorem arr16_lo (S S' : Nat → Bool) {i : Nat} (h : i < 8) : arr16 (S 0) (S 1) (S 2) (S 3) (S 4) (S 5) (S 6) (S 7) (S' 0) (S' 1) (S' 2) (S' 3) (S' 4) (S' 5) (S' 6) (S' 7) i = S i := by
  rcases lt8 h with rfl | rfl | rfl | rfl | rfl | rfl | rfl | rfl <;> rfl
theorem arr16_hi (S S' : Nat → Bool) {i : Nat} (h : i < 8) : arr16 (S 0) (S 1) (S 2) (S 3) (S 4) (S 5) (S 6) (S 7) (S' 0) (S' 1) (S' 2) (S' 3) (S' 4) (S' 5) (S' 6) (S' 7) (8 + i) = S' i := by
  rcases lt8 h with rfl | rfl | rfl | rfl | rfl | rfl | rfl | rfl <;> rfl
theorem setC_at {t k n : Int} {f : Fo} {i : Nat} (h : i < atomsNat t) : setC t k n f i = (ndE f k n).emptyB (i : Int) := by
  unfold setC setOfG
  rw [decide_eq_true h, Bool.true_and]
theorem factsF_all (t act : Int) (xs : List Pm) {i j : Nat} (hi : i < atomsNat t) (hj : j < atomsNat t) : (factsF t act xs).allG (ruleG i j) = xs.all (allowG act (i : Int) (j : Int)) := by
  have h8 := (atomsNat_bd t).2
  have key : ∀ (ys : List Pm) (f : Ft), (ys.foldl (fun f x => if x.act = act then f.add (setC t x.pk x.pn x.pf) (setC t x.qk x.qn x.qf) else f) f).allG (ruleG i j) = (f.allG (ruleG i j) && ys.all (allowG act (i : Int) (j : Int))) := by
    intro ys
    induction ys with
    | nil => intro f; simp
    | cons y ys ih =>
      intro f
      rw [List.foldl_cons, List.all_cons, ih, ← Bool.and_assoc]
      congr 1
      split
      · rename_i ha
        rw [Ft.allG_add]
        congr 1
        unfold ruleG allowG
        rw [arr16_lo _ _ (by omega), arr16_hi _ _ (by omega), setC_at hi, setC_at hj, decide_eq_true ha]
        cases (ndE y.pf y.pk y.pn).emptyB (i : Int) <;> cases (ndE y.qf y.qk y.qn).emptyB (j : Int) <;> rfl
      · rename_i ha
        unfold allowG
        rw [decide_eq_false ha]
        simp
  have := key xs .nil
  simpa [Ft.allG, factsF] using this
/-- What is allowed next, by the facts. -/
theorem pick_facts (t act : Int) (xs : List Pm) {i : Nat} (hi : i < atomsNat t) : pickA (setOfG (atomsNat t) fun j => (factsF t act xs).allG (ruleG i j)) 8 = pickA (fun j : Nat => xs.all (allowG act (i : Int) (j : Int))) (atomsNat t) := by
  rw [pickA_set _ (atomsNat_forms t)]
  unfold pickA
  congr 1
  refine List.filter_congr fun j hj => ?_
  exact factsF_all t act xs hi (List.mem_range.1 hj)
end Go.Proofs.Ytmblgkpgfofceaa

namespace Go.Proofs.Ytmblgkpgfofceaa
open Go.RowKit

set_option maxHeartbeats 4000000 in
set_option maxRecDepth 100000 in
theorem atomsWhere_any (t a : Int) (h0 : 0 ≤ t) (h1 : t ≤ 3) (G : Nat → Bool) (N : Nat) (caps : Array Value) (eg : ∀ args w, (callFunc N args).run Try.prog w = .ok (.enter N args) w) (w : World)
    (KC : Hid (∀ (W : World) (j : Nat), Sees w W → j < atomsNat t → Calls Try.prog N (#[.int .i64 (j : Int)] ++ caps) W fun e w' => e = .returned (.bool (G j)) ∧ Below W.heap.size W w')) :
    Calls Try.prog 108 #[.agg #[.int .i64 t, .int .i64 a], .func (.func N) #[] caps] w fun e w' => e = .returned (.agg (arr8 (setOfG (atomsNat t) G))) ∧ Below w.heap.size w w' := by
  obtain ⟨m, hm⟩ : ∃ m, m = atomsNat t := ⟨_, rfl⟩
  have hm8 : 1 ≤ m ∧ m ≤ 8 := by rw [hm]; exact atomsNat_bd t
  have KA : Hid (∀ W : World, Calls Try.prog 52 #[.agg #[.int .i64 t, .int .i64 a]] W fun e w' => e = .returned (.int .i64 (m : Int)) ∧ Below W.heap.size W w') := fun W => by rw [hm, atomsNat_cast]; exact atomCount_any t a W h0 h1
  rw [← hm] at KC ⊢
  clear hm
  go_enter Try.func108, Try.ntmps108
  go_wp2_with fail
  obtain ⟨W0, hW0⟩ : ∃ W0, W0 = ((w.alloc (.cells #[.int .i64 t, .int .i64 a] 29)).alloc (.cells (arr8 (fun _ => false)) 88)).alloc (.cells (arr8 (fun _ => false)) 88) := ⟨_, rfl⟩
  have S0 : Sees w W0 := by rw [hW0]; exact (((Sees.refl w).alloc _).alloc _).alloc _
  have k1 : W0.heap[w.heap.size + 1]? = some (.cells (arr8 (fun _ => false)) 88 (0, 0)) := by rw [hW0]; exact (Below.heap_alloc _ _ _ (by simp)).trans (heap_new _ _ _ (by simp))
  have k2 : W0.heap[w.heap.size + 1 + 1]? = some (.cells (arr8 (fun _ => false)) 88 (0, 0)) := by rw [hW0]; exact heap_new _ _ _ (by simp)
  show Calls _ _ _ (((w.alloc (.cells #[.int .i64 t, .int .i64 a] 29)).alloc (.cells (arr8 (fun _ => false)) 88)).alloc (.cells (arr8 (fun _ => false)) 88)) _
  rw [← hW0]
  clear hW0
  refine (KA.out _).mono ?_
  rintro e w1 ⟨rfl, hb⟩
  have HS : Hid (Sees w w1) := S0.below hb
  have z0 : w.heap.size + 1 + 1 < W0.heap.size := World.block_lt_of_cell? _ _ (arr8_facts k2).1
  have HK1 : Hid (w1.heap[w.heap.size + 1]? = some (.cells (arr8 (fun _ => false)) 88 (0, 0))) := (hb.block _ (by omega)).trans k1
  have HK2 : Hid (w1.heap[w.heap.size + 1 + 1]? = some (.cells (arr8 (setOfG 0 G)) 88 (0, 0))) := (hb.block _ z0).trans k2
  clear hb S0 k1 k2 z0 KA
  go_wp2_with fail
  go_loopw [9] (fun i wr => ∃ j : Nat, j ≤ m ∧ i = .int .i64 j ∧ Hid (Sees w wr) ∧ Hid (wr.heap[w.heap.size + 1]? = some (.cells (arr8 (fun _ => false)) 88 (0, 0))) ∧ Hid (wr.heap[w.heap.size + 1 + 1]? = some (.cells (arr8 (setOfG j G)) 88 (0, 0)))) (fun i _ => m - (intOf i).toNat)
  case atStart => exact ⟨0, Nat.zero_le _, rfl, HS, HK1, HK2⟩
  case round =>
    obtain ⟨j, hj, rfl, hS, hk1, hk2⟩ := hrel
    clear HS HK1 HK2
    by_cases hjl : j < m
    · have hj8 : j < 8 := by omega
      obtain ⟨q, hq⟩ : ∃ q : Bool, q = G j := ⟨_, rfl⟩
      have K1 := Lib.hid (KC.out wr j hS.out hjl)
      rw [← hq] at K1
      have HQ := Lib.hid hq
      clear hq
      have hq := HQ
      clear HQ
      have hjm : (j : Int) < (m : Int) := by omega
      have hjm8 := hm8
      rcases lt8 hj8 with rfl | rfl | rfl | rfl | rfl | rfl | rfl | rfl
      · have tj : decide ((0 : Int) < (m : Int)) = true := decide_eq_true hjm
        have hz2 : w.heap.size + 1 + 1 < wr.heap.size := World.block_lt_of_cell? _ _ (arr8_facts hk2.out).1
        clear hjm hj8
        go_wp2_with (go_at_fn N; refine K1.out.mono ?_; rintro e w1 ⟨rfl, hb1⟩; have HS1 := Lib.hid (Sees.below hS.out hb1); have HK2 := Lib.hid ((hb1.block _ hz2).trans hk2.out); have cj : w1.cell? ⟨w.heap.size + 1 + 1, 0, none⟩ = some (.bool (setOfG 0 G 0)) := Fo.cell_of_block HK2.out 0; have gj : w1.frozen? ⟨w.heap.size + 1 + 1, 0, none⟩ = false := Fo.unfrozen_of_block HK2.out 0)
        have HK1 := Lib.hid ((hb1.block _ (show w.heap.size + 1 < wr.heap.size by omega)).trans hk1.out)
        have EQ : (arr8 (setOfG 0 G)).setIfInBounds 0 (.bool q) = arr8 (setOfG (0 + 1) G) := by rw [hq.out]; rfl
        go_roundw
        case rel => exact ⟨0 + 1, by omega, by go_num, Below.setCell HS1.out (show w.heap.size ≤ w.heap.size + 1 + 1 by omega) _, (Below.heap_setCell _ _ _ _ (show w.heap.size + 1 ≠ w.heap.size + 1 + 1 by omega)).trans HK1.out, by show _ = _; rw [← EQ]; exact Fo.block_setCell HK2.out (.bool q)⟩
        case measure => simp [intOf]; omega
      · have tj : decide ((1 : Int) < (m : Int)) = true := decide_eq_true hjm
        have hz2 : w.heap.size + 1 + 1 < wr.heap.size := World.block_lt_of_cell? _ _ (arr8_facts hk2.out).1
        clear hjm hj8
        go_wp2_with (go_at_fn N; refine K1.out.mono ?_; rintro e w1 ⟨rfl, hb1⟩; have HS1 := Lib.hid (Sees.below hS.out hb1); have HK2 := Lib.hid ((hb1.block _ hz2).trans hk2.out); have cj : w1.cell? ⟨w.heap.size + 1 + 1, 1, none⟩ = some (.bool (setOfG 1 G 1)) := Fo.cell_of_block HK2.out 1; have gj : w1.frozen? ⟨w.heap.size + 1 + 1, 1, none⟩ = false := Fo.unfrozen_of_block HK2.out 1)
        have HK1 := Lib.hid ((hb1.block _ (show w.heap.size + 1 < wr.heap.size by omega)).trans hk1.out)
        have EQ : (arr8 (setOfG 1 G)).setIfInBounds 1 (.bool q) = arr8 (setOfG (1 + 1) G) := by rw [hq.out]; rfl
        go_roundw
        case rel => exact ⟨1 + 1, by omega, by go_num, Below.setCell HS1.out (show w.heap.size ≤ w.heap.size + 1 + 1 by omega) _, (Below.heap_setCell _ _ _ _ (show w.heap.size + 1 ≠ w.heap.size + 1 + 1 by omega)).trans HK1.out, by show _ = _; rw [← EQ]; exact Fo.block_setCell HK2.out (.bool q)⟩
        case measure => simp [intOf]; omega
      · have tj : decide ((2 : Int) < (m : Int)) = true := decide_eq_true hjm
        have hz2 : w.heap.size + 1 + 1 < wr.heap.size := World.block_lt_of_cell? _ _ (arr8_facts hk2.out).1
        clear hjm hj8
        go_wp2_with (go_at_fn N; refine K1.out.mono ?_; rintro e w1 ⟨rfl, hb1⟩; have HS1 := Lib.hid (Sees.below hS.out hb1); have HK2 := Lib.hid ((hb1.block _ hz2).trans hk2.out); have cj : w1.cell? ⟨w.heap.size + 1 + 1, 2, none⟩ = some (.bool (setOfG 2 G 2)) := Fo.cell_of_block HK2.out 2; have gj : w1.frozen? ⟨w.heap.size + 1 + 1, 2, none⟩ = false := Fo.unfrozen_of_block HK2.out 2)
        have HK1 := Lib.hid ((hb1.block _ (show w.heap.size + 1 < wr.heap.size by omega)).trans hk1.out)
        have EQ : (arr8 (setOfG 2 G)).setIfInBounds 2 (.bool q) = arr8 (setOfG (2 + 1) G) := by rw [hq.out]; rfl
        go_roundw
        case rel => exact ⟨2 + 1, by omega, by go_num, Below.setCell HS1.out (show w.heap.size ≤ w.heap.size + 1 + 1 by omega) _, (Below.heap_setCell _ _ _ _ (show w.heap.size + 1 ≠ w.heap.size + 1 + 1 by omega)).trans HK1.out, by show _ = _; rw [← EQ]; exact Fo.block_setCell HK2.out (.bool q)⟩
        case measure => simp [intOf]; omega
      · have tj : decide ((3 : Int) < (m : Int)) = true := decide_eq_true hjm
        have hz2 : w.heap.size + 1 + 1 < wr.heap.size := World.block_lt_of_cell? _ _ (arr8_facts hk2.out).1
        clear hjm hj8
        go_wp2_with (go_at_fn N; refine K1.out.mono ?_; rintro e w1 ⟨rfl, hb1⟩; have HS1 := Lib.hid (Sees.below hS.out hb1); have HK2 := Lib.hid ((hb1.block _ hz2).trans hk2.out); have cj : w1.cell? ⟨w.heap.size + 1 + 1, 3, none⟩ = some (.bool (setOfG 3 G 3)) := Fo.cell_of_block HK2.out 3; have gj : w1.frozen? ⟨w.heap.size + 1 + 1, 3, none⟩ = false := Fo.unfrozen_of_block HK2.out 3)
        have HK1 := Lib.hid ((hb1.block _ (show w.heap.size + 1 < wr.heap.size by omega)).trans hk1.out)
        have EQ : (arr8 (setOfG 3 G)).setIfInBounds 3 (.bool q) = arr8 (setOfG (3 + 1) G) := by rw [hq.out]; rfl
        go_roundw
        case rel => exact ⟨3 + 1, by omega, by go_num, Below.setCell HS1.out (show w.heap.size ≤ w.heap.size + 1 + 1 by omega) _, (Below.heap_setCell _ _ _ _ (show w.heap.size + 1 ≠ w.heap.size + 1 + 1 by omega)).trans HK1.out, by show _ = _; rw [← EQ]; exact Fo.block_setCell HK2.out (.bool q)⟩
        case measure => simp [intOf]; omega
      · have tj : decide ((4 : Int) < (m : Int)) = true := decide_eq_true hjm
        have hz2 : w.heap.size + 1 + 1 < wr.heap.size := World.block_lt_of_cell? _ _ (arr8_facts hk2.out).1
        clear hjm hj8
        go_wp2_with (go_at_fn N; refine K1.out.mono ?_; rintro e w1 ⟨rfl, hb1⟩; have HS1 := Lib.hid (Sees.below hS.out hb1); have HK2 := Lib.hid ((hb1.block _ hz2).trans hk2.out); have cj : w1.cell? ⟨w.heap.size + 1 + 1, 4, none⟩ = some (.bool (setOfG 4 G 4)) := Fo.cell_of_block HK2.out 4; have gj : w1.frozen? ⟨w.heap.size + 1 + 1, 4, none⟩ = false := Fo.unfrozen_of_block HK2.out 4)
        have HK1 := Lib.hid ((hb1.block _ (show w.heap.size + 1 < wr.heap.size by omega)).trans hk1.out)
        have EQ : (arr8 (setOfG 4 G)).setIfInBounds 4 (.bool q) = arr8 (setOfG (4 + 1) G) := by rw [hq.out]; rfl
        go_roundw
        case rel => exact ⟨4 + 1, by omega, by go_num, Below.setCell HS1.out (show w.heap.size ≤ w.heap.size + 1 + 1 by omega) _, (Below.heap_setCell _ _ _ _ (show w.heap.size + 1 ≠ w.heap.size + 1 + 1 by omega)).trans HK1.out, by show _ = _; rw [← EQ]; exact Fo.block_setCell HK2.out (.bool q)⟩
        case measure => simp [intOf]; omega
      · have tj : decide ((5 : Int) < (m : Int)) = true := decide_eq_true hjm
        have hz2 : w.heap.size + 1 + 1 < wr.heap.size := World.block_lt_of_cell? _ _ (arr8_facts hk2.out).1
        clear hjm hj8
        go_wp2_with (go_at_fn N; refine K1.out.mono ?_; rintro e w1 ⟨rfl, hb1⟩; have HS1 := Lib.hid (Sees.below hS.out hb1); have HK2 := Lib.hid ((hb1.block _ hz2).trans hk2.out); have cj : w1.cell? ⟨w.heap.size + 1 + 1, 5, none⟩ = some (.bool (setOfG 5 G 5)) := Fo.cell_of_block HK2.out 5; have gj : w1.frozen? ⟨w.heap.size + 1 + 1, 5, none⟩ = false := Fo.unfrozen_of_block HK2.out 5)
        have HK1 := Lib.hid ((hb1.block _ (show w.heap.size + 1 < wr.heap.size by omega)).trans hk1.out)
        have EQ : (arr8 (setOfG 5 G)).setIfInBounds 5 (.bool q) = arr8 (setOfG (5 + 1) G) := by rw [hq.out]; rfl
        go_roundw
        case rel => exact ⟨5 + 1, by omega, by go_num, Below.setCell HS1.out (show w.heap.size ≤ w.heap.size + 1 + 1 by omega) _, (Below.heap_setCell _ _ _ _ (show w.heap.size + 1 ≠ w.heap.size + 1 + 1 by omega)).trans HK1.out, by show _ = _; rw [← EQ]; exact Fo.block_setCell HK2.out (.bool q)⟩
        case measure => simp [intOf]; omega
      · have tj : decide ((6 : Int) < (m : Int)) = true := decide_eq_true hjm
        have hz2 : w.heap.size + 1 + 1 < wr.heap.size := World.block_lt_of_cell? _ _ (arr8_facts hk2.out).1
        clear hjm hj8
        go_wp2_with (go_at_fn N; refine K1.out.mono ?_; rintro e w1 ⟨rfl, hb1⟩; have HS1 := Lib.hid (Sees.below hS.out hb1); have HK2 := Lib.hid ((hb1.block _ hz2).trans hk2.out); have cj : w1.cell? ⟨w.heap.size + 1 + 1, 6, none⟩ = some (.bool (setOfG 6 G 6)) := Fo.cell_of_block HK2.out 6; have gj : w1.frozen? ⟨w.heap.size + 1 + 1, 6, none⟩ = false := Fo.unfrozen_of_block HK2.out 6)
        have HK1 := Lib.hid ((hb1.block _ (show w.heap.size + 1 < wr.heap.size by omega)).trans hk1.out)
        have EQ : (arr8 (setOfG 6 G)).setIfInBounds 6 (.bool q) = arr8 (setOfG (6 + 1) G) := by rw [hq.out]; rfl
        go_roundw
        case rel => exact ⟨6 + 1, by omega, by go_num, Below.setCell HS1.out (show w.heap.size ≤ w.heap.size + 1 + 1 by omega) _, (Below.heap_setCell _ _ _ _ (show w.heap.size + 1 ≠ w.heap.size + 1 + 1 by omega)).trans HK1.out, by show _ = _; rw [← EQ]; exact Fo.block_setCell HK2.out (.bool q)⟩
        case measure => simp [intOf]; omega
      · have tj : decide ((7 : Int) < (m : Int)) = true := decide_eq_true hjm
        have hz2 : w.heap.size + 1 + 1 < wr.heap.size := World.block_lt_of_cell? _ _ (arr8_facts hk2.out).1
        clear hjm hj8
        go_wp2_with (go_at_fn N; refine K1.out.mono ?_; rintro e w1 ⟨rfl, hb1⟩; have HS1 := Lib.hid (Sees.below hS.out hb1); have HK2 := Lib.hid ((hb1.block _ hz2).trans hk2.out); have cj : w1.cell? ⟨w.heap.size + 1 + 1, 7, none⟩ = some (.bool (setOfG 7 G 7)) := Fo.cell_of_block HK2.out 7; have gj : w1.frozen? ⟨w.heap.size + 1 + 1, 7, none⟩ = false := Fo.unfrozen_of_block HK2.out 7)
        have HK1 := Lib.hid ((hb1.block _ (show w.heap.size + 1 < wr.heap.size by omega)).trans hk1.out)
        have EQ : (arr8 (setOfG 7 G)).setIfInBounds 7 (.bool q) = arr8 (setOfG (7 + 1) G) := by rw [hq.out]; rfl
        go_roundw
        case rel => exact ⟨7 + 1, by omega, by go_num, Below.setCell HS1.out (show w.heap.size ≤ w.heap.size + 1 + 1 by omega) _, (Below.heap_setCell _ _ _ _ (show w.heap.size + 1 ≠ w.heap.size + 1 + 1 by omega)).trans HK1.out, by show _ = _; rw [← EQ]; exact Fo.block_setCell HK2.out (.bool q)⟩
        case measure => simp [intOf]; omega
    · obtain rfl : j = m := by omega
      obtain ⟨c0, c1, c2, c3, c4, c5, c6, c7, _⟩ := arr8_facts hk2.out
      obtain ⟨d0, d1, d2, d3, d4, d5, d6, d7, g0, g1, g2, g3, g4, g5, g6, g7⟩ := arr8_facts hk1.out
      go_wp2_with fail
      have Bf : Sees w ((((((((wr.setCell ⟨w.heap.size + 1, 0, none⟩ (.bool (setOfG j G 0))).setCell ⟨w.heap.size + 1, 1, none⟩ (.bool (setOfG j G 1))).setCell ⟨w.heap.size + 1, 2, none⟩ (.bool (setOfG j G 2))).setCell ⟨w.heap.size + 1, 3, none⟩ (.bool (setOfG j G 3))).setCell ⟨w.heap.size + 1, 4, none⟩ (.bool (setOfG j G 4))).setCell ⟨w.heap.size + 1, 5, none⟩ (.bool (setOfG j G 5))).setCell ⟨w.heap.size + 1, 6, none⟩ (.bool (setOfG j G 6))).setCell ⟨w.heap.size + 1, 7, none⟩ (.bool (setOfG j G 7))) := (Below.setCell (Below.setCell (Below.setCell (Below.setCell (Below.setCell (Below.setCell (Below.setCell (Below.setCell hS.out (show w.heap.size ≤ w.heap.size + 1 by omega) _) (show w.heap.size ≤ w.heap.size + 1 by omega) _) (show w.heap.size ≤ w.heap.size + 1 by omega) _) (show w.heap.size ≤ w.heap.size + 1 by omega) _) (show w.heap.size ≤ w.heap.size + 1 by omega) _) (show w.heap.size ≤ w.heap.size + 1 by omega) _) (show w.heap.size ≤ w.heap.size + 1 by omega) _) (show w.heap.size ≤ w.heap.size + 1 by omega) _)
      have kf : ((((((((wr.setCell ⟨w.heap.size + 1, 0, none⟩ (.bool (setOfG j G 0))).setCell ⟨w.heap.size + 1, 1, none⟩ (.bool (setOfG j G 1))).setCell ⟨w.heap.size + 1, 2, none⟩ (.bool (setOfG j G 2))).setCell ⟨w.heap.size + 1, 3, none⟩ (.bool (setOfG j G 3))).setCell ⟨w.heap.size + 1, 4, none⟩ (.bool (setOfG j G 4))).setCell ⟨w.heap.size + 1, 5, none⟩ (.bool (setOfG j G 5))).setCell ⟨w.heap.size + 1, 6, none⟩ (.bool (setOfG j G 6))).setCell ⟨w.heap.size + 1, 7, none⟩ (.bool (setOfG j G 7))).heap[w.heap.size + 1]? = some (.cells (arr8 (setOfG j G)) 88 (0, 0)) := (Fo.block_setCell (Fo.block_setCell (Fo.block_setCell (Fo.block_setCell (Fo.block_setCell (Fo.block_setCell (Fo.block_setCell (Fo.block_setCell hk1.out (.bool (setOfG j G 0))) (.bool (setOfG j G 1))) (.bool (setOfG j G 2))) (.bool (setOfG j G 3))) (.bool (setOfG j G 4))) (.bool (setOfG j G 5))) (.bool (setOfG j G 6))) (.bool (setOfG j G 7)))
      generalize ((((((((wr.setCell ⟨w.heap.size + 1, 0, none⟩ (.bool (setOfG j G 0))).setCell ⟨w.heap.size + 1, 1, none⟩ (.bool (setOfG j G 1))).setCell ⟨w.heap.size + 1, 2, none⟩ (.bool (setOfG j G 2))).setCell ⟨w.heap.size + 1, 3, none⟩ (.bool (setOfG j G 3))).setCell ⟨w.heap.size + 1, 4, none⟩ (.bool (setOfG j G 4))).setCell ⟨w.heap.size + 1, 5, none⟩ (.bool (setOfG j G 5))).setCell ⟨w.heap.size + 1, 6, none⟩ (.bool (setOfG j G 6))).setCell ⟨w.heap.size + 1, 7, none⟩ (.bool (setOfG j G 7))) = wj at Bf kf ⊢
      clear c0 c1 c2 c3 c4 c5 c6 c7 d0 d1 d2 d3 d4 d5 d6 d7 g0 g1 g2 g3 g4 g5 g6 g7
      obtain ⟨p0, p1, p2, p3, p4, p5, p6, p7, _⟩ := arr8_facts kf
      exact bodyPost_ret (v := .agg (arr8 (setOfG j G))) (by simp [results, Try.results108, go_sem, p0, p1, p2, p3, p4, p5, p6, p7, arr8]) rfl ⟨rfl, Bf⟩
end Go.Proofs.Ytmblgkpgfofceaa

namespace Go.Proofs.Ytmblgkpgfofceaa
open Go.RowKit

/-- The common part of both sets below j, the first one from j on. -/
def mixF (j : Nat) (f g : Nat → Bool) (i : Nat) : Bool := if i < j then f i && g i else f i

theorem lits8 (a0 a1 a2 a3 a4 a5 a6 a7 : Bool) : Try.prog.keyLits 20 88 (Value.cells (.agg #[.bool a0, .bool a1, .bool a2, .bool a3, .bool a4, .bool a5, .bool a6, .bool a7])).toList = some [.bool a0, .bool a1, .bool a2, .bool a3, .bool a4, .bool a5, .bool a6, .bool a7] := by kernel_rfl
theorem formed8 (a0 a1 a2 a3 a4 a5 a6 a7 : Bool) : Value.formed Try.prog 88 (.agg #[.bool a0, .bool a1, .bool a2, .bool a3, .bool a4, .bool a5, .bool a6, .bool a7]) = true := by kernel_rfl
theorem equal8_run (a0 a1 a2 a3 a4 a5 a6 a7 b0 b1 b2 b3 b4 b5 b6 b7 : Bool) (w : World) : (Op.equalIn 10000 88 (.agg #[.bool a0, .bool a1, .bool a2, .bool a3, .bool a4, .bool a5, .bool a6, .bool a7]) (.agg #[.bool b0, .bool b1, .bool b2, .bool b3, .bool b4, .bool b5, .bool b6, .bool b7])).run Try.prog w = .ok ((a0 == b0) && (a1 == b1) && (a2 == b2) && (a3 == b3) && (a4 == b4) && (a5 == b5) && (a6 == b6) && (a7 == b7)) w := by
  obtain ⟨r, hr, hiff⟩ := run_equalIn_deep (P := Try.prog) 9990 10 88 (by kernel_rfl) w 20 20 _ _ _ _ (formed8 a0 a1 a2 a3 a4 a5 a6 a7) (formed8 b0 b1 b2 b3 b4 b5 b6 b7) (lits8 a0 a1 a2 a3 a4 a5 a6 a7) (lits8 b0 b1 b2 b3 b4 b5 b6 b7)
  have hr2 : r = ((a0 == b0) && (a1 == b1) && (a2 == b2) && (a3 == b3) && (a4 == b4) && (a5 == b5) && (a6 == b6) && (a7 == b7)) := by
    rw [Bool.eq_iff_iff, hiff]
    simp [and_assoc]
  rw [← hr2]
  exact hr
theorem mix_eq (p q : Bool) : ((p && q) == p) = (!p || q) := by cases p <;> cases q <;> rfl
theorem index8_0 (v0 v1 v2 v3 v4 v5 v6 v7 : Value) (w : World) : (Instr.index 88 (.agg #[v0, v1, v2, v3, v4, v5, v6, v7]) (.int .i64 0)).run Try.prog w = .ok v0 w := by kernel_rfl
theorem index8_1 (v0 v1 v2 v3 v4 v5 v6 v7 : Value) (w : World) : (Instr.index 88 (.agg #[v0, v1, v2, v3, v4, v5, v6, v7]) (.int .i64 1)).run Try.prog w = .ok v1 w := by kernel_rfl
theorem index8_2 (v0 v1 v2 v3 v4 v5 v6 v7 : Value) (w : World) : (Instr.index 88 (.agg #[v0, v1, v2, v3, v4, v5, v6, v7]) (.int .i64 2)).run Try.prog w = .ok v2 w := by kernel_rfl
theorem index8_3 (v0 v1 v2 v3 v4 v5 v6 v7 : Value) (w : World) : (Instr.index 88 (.agg #[v0, v1, v2, v3, v4, v5, v6, v7]) (.int .i64 3)).run Try.prog w = .ok v3 w := by kernel_rfl
theorem index8_4 (v0 v1 v2 v3 v4 v5 v6 v7 : Value) (w : World) : (Instr.index 88 (.agg #[v0, v1, v2, v3, v4, v5, v6, v7]) (.int .i64 4)).run Try.prog w = .ok v4 w := by kernel_rfl
theorem index8_5 (v0 v1 v2 v3 v4 v5 v6 v7 : Value) (w : World) : (Instr.index 88 (.agg #[v0, v1, v2, v3, v4, v5, v6, v7]) (.int .i64 5)).run Try.prog w = .ok v5 w := by kernel_rfl
theorem index8_6 (v0 v1 v2 v3 v4 v5 v6 v7 : Value) (w : World) : (Instr.index 88 (.agg #[v0, v1, v2, v3, v4, v5, v6, v7]) (.int .i64 6)).run Try.prog w = .ok v6 w := by kernel_rfl
theorem index8_7 (v0 v1 v2 v3 v4 v5 v6 v7 : Value) (w : World) : (Instr.index 88 (.agg #[v0, v1, v2, v3, v4, v5, v6, v7]) (.int .i64 7)).run Try.prog w = .ok v7 w := by kernel_rfl

end Go.Proofs.Ytmblgkpgfofceaa

namespace Go.Proofs.Ytmblgkpgfofceaa
open Go.RowKit

/-- What Implies answers. -/
def impB (t a k n : Int) (f : Fo) (k' n' : Int) (f' : Fo) : Bool := ((validE t a k n f && validE t a k' n' f') && ((condK k && f.cond) && (condK k' && f'.cond))) && (List.range (atomsNat t)).all (fun i => !((ndE f k n).emptyB (i : Int)) || (ndE f' k' n').emptyB (i : Int))
def impC (t a k n : Int) (f : Fo) (k' n' : Int) (f' : Fo) : Int := if (validE t a k n f && validE t a k' n' f') = false then 1 else if ((condK k && f.cond) && (condK k' && f'.cond)) = false then 4 else 0
section
variable {t a k n : Int} {f : Fo} {k' n' : Int} {f' : Fo}
theorem imp_1 (h : (validE t a k n f && validE t a k' n' f') = false) : impB t a k n f k' n' f' = false ∧ impC t a k n f k' n' f' = 1 := by
  unfold impB impC
  rw [h, if_pos rfl]
  exact ⟨rfl, rfl⟩
theorem imp_4 (h1 : (validE t a k n f && validE t a k' n' f') = true) (h : ((condK k && f.cond) && (condK k' && f'.cond)) = false) : impB t a k n f k' n' f' = false ∧ impC t a k n f k' n' f' = 4 := by
  unfold impB impC
  rw [h1, h, if_neg (by simp), if_pos rfl]
  exact ⟨rfl, rfl⟩
theorem imp_0 (h1 : (validE t a k n f && validE t a k' n' f') = true) (h2 : ((condK k && f.cond) && (condK k' && f'.cond)) = true) :
    impB t a k n f k' n' f' = (List.range (atomsNat t)).all (fun i => !((ndE f k n).emptyB (i : Int)) || (ndE f' k' n').emptyB (i : Int)) ∧ impC t a k n f k' n' f' = 0 := by
  unfold impB impC
  rw [h1, h2, if_neg (by simp), if_neg (by simp)]
  exact ⟨rfl, rfl⟩
end

end Go.Proofs.Ytmblgkpgfofceaa
