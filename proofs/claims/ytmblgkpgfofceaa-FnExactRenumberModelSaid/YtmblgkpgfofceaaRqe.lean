/- Rows of integers that are sorted in place. Plain facts. Conditions: which are valid; all of a list from a place on. Plain facts. Contracts of cmp.isNaN and cmp.Less at int64. Contract of slices.insertionSortOrdered at int64. -/
import Derived.Test.YtmblgkpgfofceaaInts
import Derived.Test.YtmblgkpgfofceaaBut
import Derived.Test.YtmblgkpgfofceaaSig
import Derived.Test.YtmblgkpgfofceaaTreeD
import Derived.Test.YtmblgkpgfofceaaQuietC
import Derived.Deep.RegionLaw
import Derived.Deep.RegionHeld3
import Derived.Deep.DrawnRows
namespace Go.Proofs.Ytmblgkpgfofceaa
open Go.RowKit
set_option linter.unusedVariables false

/-- Block g begins with the integers of zs. -/
def SRow (E : TypeId) (zs : List Int) (g : Nat) (w : World) : Prop :=
  ∃ cs : Array Value, w.heap[g]? = some (.cells cs E (0, 0)) ∧ zs.length ≤ cs.size ∧ ∀ i, i < zs.length → cs[i]? = some (.int .i64 (nth zs i))
theorem SRow.keep {E : TypeId} {zs : List Int} {g : Nat} {w w' : World} (h : SRow E zs g w) (hk : w'.heap[g]? = w.heap[g]?) : SRow E zs g w' := by
  obtain ⟨cs, h1, h2, h3⟩ := h
  exact ⟨cs, hk.trans h1, h2, h3⟩
theorem SRow.cell {E : TypeId} {zs : List Int} {g : Nat} {w : World} (h : SRow E zs g w) {i : Nat} (hi : i < zs.length) : w.cell? ⟨g, i, none⟩ = some (.int .i64 (nth zs i)) := by
  obtain ⟨cs, h1, _, h3⟩ := h
  rw [Fo.cell_of_block h1]
  exact h3 i hi
theorem SRow.free {E : TypeId} {zs : List Int} {g : Nat} {w : World} (h : SRow E zs g w) (i : Nat) : w.frozen? ⟨g, i, none⟩ = false := by
  obtain ⟨cs, h1, _, _⟩ := h
  exact Fo.unfrozen_of_block h1 i
theorem SRow.lt {E : TypeId} {zs : List Int} {g : Nat} {w : World} (h : SRow E zs g w) : g < w.heap.size := by
  obtain ⟨cs, h1, _, _⟩ := h
  exact (Array.getElem?_eq_some_iff.1 h1).1
theorem nth_set {zs : List Int} {i j : Nat} {y : Int} (hi : i < zs.length) : nth (zs.set j y) i = if j = i then y else nth zs i := by
  unfold nth
  rw [List.getD_eq_getElem?_getD, List.getD_eq_getElem?_getD, List.getElem?_set]
  by_cases h : j = i
  · subst h
    simp [hi]
  · simp [h]
theorem SRow.set {E : TypeId} {zs : List Int} {g : Nat} {w : World} (h : SRow E zs g w) (j : Nat) (y : Int) : SRow E (zs.set j y) g (w.setCell ⟨g, j, none⟩ (.int .i64 y)) := by
  obtain ⟨cs, h1, h2, h3⟩ := h
  refine ⟨_, Fo.block_setCell h1 _, by simpa using h2, fun i hi => ?_⟩
  rw [List.length_set] at hi
  rw [nth_set hi]
  simp only [Array.getElem?_setIfInBounds]
  by_cases hij : j = i
  · rw [if_pos hij, if_pos hij, if_pos (by omega)]
  · rw [if_neg hij, if_neg hij]
    exact h3 i hi
theorem nth_mid (L1 : List Int) (v : Int) (M : List Int) : nth (L1 ++ v :: M) L1.length = v := by simp [nth, List.getD]
theorem nth_mid2 (L1 : List Int) (u v : Int) (M : List Int) : nth (L1 ++ u :: v :: M) (L1.length + 1) = v := by simp [nth, List.getD]
theorem set_swap (L1 : List Int) (u v : Int) (M : List Int) : ((L1 ++ u :: v :: M).set (L1.length + 1) u).set L1.length v = L1 ++ v :: u :: M := by
  rw [List.set_append_right _ _ (by omega), List.set_append_right _ _ (by omega)]
  simp
theorem split_at {zs : List Int} {i : Nat} (h : i < zs.length) : zs = zs.take i ++ zs[i] :: ([] ++ zs.drop (i + 1)) := by
  rw [List.nil_append, ← List.drop_eq_getElem_cons h, List.take_append_drop]
/-- Where the insertion of one number stands. -/
structure Ins (xs : List Int) (i : Nat) (L1 L2 R : List Int) (v : Int) : Prop where
  perm : (L1 ++ v :: (L2 ++ R)).Perm xs
  sort : (L1 ++ L2).Pairwise (· ≤ ·)
  less : ∀ y ∈ L2, v ≤ y
  len : L1.length + L2.length = i
theorem Ins.start {xs zs : List Int} {i : Nat} (hp : zs.Perm xs) (hs : (zs.take i).Pairwise (· ≤ ·)) (h : i < zs.length) : Ins xs i (zs.take i) [] (zs.drop (i + 1)) zs[i] :=
  ⟨by rw [← split_at h]; exact hp, by rw [List.append_nil]; exact hs, fun y hy => (by cases hy), by simp; omega⟩
theorem Ins.step {xs : List Int} {i : Nat} {L1 L2 R : List Int} {u v : Int} (h : Ins xs i (L1 ++ [u]) L2 R v) (hlt : v < u) : Ins xs i L1 (u :: L2) R v := by
  obtain ⟨h1, h2, h3, h4⟩ := h
  refine ⟨?_, ?_, fun y hy => ?_, by simp at h4 ⊢; omega⟩
  · refine List.Perm.trans ?_ h1
    rw [List.append_assoc]
    exact List.Perm.append_left L1 (List.Perm.swap u v (L2 ++ R))
  · rw [List.append_assoc] at h2
    exact h2
  · rcases List.mem_cons.1 hy with rfl | hm
    · omega
    · exact h3 y hm
theorem Ins.done {xs : List Int} {i : Nat} {L1 L2 R : List Int} {v : Int} (h : Ins xs i L1 L2 R v) (hle : ∀ x ∈ L1, x ≤ v) : ((L1 ++ v :: (L2 ++ R)).take (i + 1)).Pairwise (· ≤ ·) := by
  obtain ⟨_, h2, h3, h4⟩ := h
  have e : (L1 ++ v :: (L2 ++ R)).take (i + 1) = L1 ++ v :: L2 := by
    have e1 : L1 ++ v :: (L2 ++ R) = (L1 ++ v :: L2) ++ R := by simp
    rw [e1, List.take_append_of_le_length (by simp; omega), List.take_of_length_le (by simp; omega)]
  rw [e]
  rw [List.pairwise_append] at h2 ⊢
  refine ⟨h2.1, List.pairwise_cons.2 ⟨h3, h2.2.1⟩, fun x hx y hy => ?_⟩
  rcases List.mem_cons.1 hy with rfl | hm
  · exact hle x hx
  · exact Int.le_trans (hle x hx) (h3 y hm)
theorem Ins.stop {xs : List Int} {i : Nat} {L1 L2 R : List Int} {u v : Int} (h : Ins xs i (L1 ++ [u]) L2 R v) (hle : u ≤ v) : ∀ x ∈ L1 ++ [u], x ≤ v := by
  intro x hx
  have h2 := h.sort
  rw [List.append_assoc, List.pairwise_append] at h2
  rcases List.mem_append.1 hx with hm | hm
  · exact Int.le_trans (h2.2.2 x hm u (by simp)) hle
  · rw [List.mem_singleton.1 hm]; exact hle
theorem But.keep {s B : Nat} {a w w' : World} (h : But s B a w) (hb : Below w.heap.size w w') (hB : B ≤ w.heap.size) : But s B a w' := h.trans (But.of_below hb hB)
end Go.Proofs.Ytmblgkpgfofceaa

namespace Go.Proofs.Ytmblgkpgfofceaa
open Go.RowKit

/-- A valid condition. -/
def condV (t a ck cn : Int) (cf : Fo) : Bool := validE t a ck cn cf && (condK ck && cf.cond)
theorem in_below (v n : Int) : inB v 0 (n - 1) = belowB v n := by unfold inB belowB; rw [Bool.eq_iff_iff]; simp; omega
/-- All from a place on. -/
def allS {α : Type} (f : α → Bool) (xs : List α) (j : Nat) : Bool := (xs.drop j).all f
theorem allS_zero {α : Type} (f : α → Bool) (xs : List α) : xs.all f = allS f xs 0 := by simp [allS]
theorem allS_step {α : Type} (f : α → Bool) (xs : List α) {j : Nat} (h : j < xs.length) : allS f xs j = (f xs[j] && allS f xs (j + 1)) := by
  unfold allS
  rw [List.drop_eq_getElem_cons h, List.all_cons]
theorem allS_end {α : Type} (f : α → Bool) (xs : List α) : allS f xs xs.length = true := by simp [allS]
end Go.Proofs.Ytmblgkpgfofceaa

namespace Go.Proofs.Ytmblgkpgfofceaa
open Go.RowKit
set_option linter.unusedVariables false

theorem isNaN_any (x : Int) (w : World) : Calls Try.prog 194 #[.int .i64 x] w fun e w' => e = .returned (.bool false) ∧ Below w.heap.size w w' := by
  have t1 : (x != x) = false := by simp
  go_enter Try.func194, Try.ntmps194
  go_wp2_with fail
  go_ret
  exact ⟨rfl, by go_grown⟩
set_option maxHeartbeats 4000000 in
set_option maxRecDepth 100000 in
theorem less_any (x y : Int) (w : World) : Calls Try.prog 181 #[.int .i64 x, .int .i64 y] w fun e w' => e = .returned (.bool (decide (x < y))) ∧ Below w.heap.size w w' := by
  have K : Hid (∀ W : World, Calls Try.prog 194 #[.int .i64 x] W fun e w' => e = .returned (.bool false) ∧ Below W.heap.size W w') := fun W => isNaN_any x W
  obtain ⟨q, hq⟩ : ∃ q : Bool, q = decide (x < y) := ⟨_, rfl⟩
  have hq2 := hq.symm
  rw [← hq]
  have HQ := Lib.hid hq
  clear hq
  go_enter Try.func181, Try.ntmps181
  go_wp2_with fail
  refine (K.out _).mono ?_
  rintro e w1 ⟨rfl, hb⟩
  have HB := Lib.hid hb
  clear hb
  go_wp2_with fail
  go_ret
  exact ⟨by first | rfl | simp [HQ.out], HB.out⟩
end Go.Proofs.Ytmblgkpgfofceaa

namespace Go.Proofs.Ytmblgkpgfofceaa
open Go.RowKit
attribute [local go_sem ↓] Go.wp_at_zero Go.wp_at_succ
set_option linter.unusedVariables false

set_option maxHeartbeats 4000000 in
set_option maxRecDepth 100000 in
theorem insSort_any (xs : List Int) (hn : xs.length ≤ 12) (g C : Nat) (w : World) (h : SRow 2 xs g w) :
    Calls Try.prog 175 #[.slice (some ⟨g, 0, none⟩) xs.length C, .int .i64 0, .int .i64 (xs.length : Int)] w fun e w' => e = .returned (.tuple #[]) ∧ ∃ ys : List Int, ys.Perm xs ∧ ys.Pairwise (· ≤ ·) ∧ SRow 2 ys g w' ∧ But g w.heap.size w w' := by
  have KL : Hid (∀ (x y : Int) (W : World), Calls Try.prog 181 #[.int .i64 x, .int .i64 y] W fun e w' => e = .returned (.bool (decide (x < y))) ∧ Below W.heap.size W w') := fun x y W => less_any x y W
  obtain ⟨n, hnn⟩ : ∃ n, n = xs.length := ⟨_, rfl⟩
  have HN := Lib.hid hnn; have H := Lib.hid h; have HL12 := Lib.hid hn
  rw [← hnn]
  clear h hnn hn
  have A0 : Hid (∃ zs : List Int, zs.Perm xs ∧ (zs.take 1).Pairwise (· ≤ ·) ∧ SRow 2 zs g w ∧ But g w.heap.size w w) := ⟨xs, List.Perm.refl _, (by cases xs with | nil => exact List.Pairwise.nil | cons a l => simp), H.out, But.refl _ _ _⟩
  have hn12 : n ≤ 12 := by have := HN.out; have := HL12.out; omega
  have n12 := Lib.hid hn12
  go_enter Try.func175, Try.ntmps175
  go_wp2_with fail
  go_loopw [6] (fun i wr => ∃ m : Nat, 1 ≤ m ∧ (m ≤ n ∨ m = 1) ∧ i = .int .i64 m ∧ Hid (∃ zs : List Int, zs.Perm xs ∧ (zs.take m).Pairwise (· ≤ ·) ∧ SRow 2 zs g wr ∧ But g w.heap.size w wr)) (fun i _ => n - (intOf i).toNat)
  case atStart => exact ⟨1, Nat.le_refl _, Or.inr rfl, rfl, A0⟩
  case round =>
    obtain ⟨m, hm1, hmn, rfl, hA⟩ := hrel
    clear A0 hn12
    by_cases hml : m < n
    · have hmm := Lib.hid hml; have hm1' := Lib.hid hm1
      have m1 : decide ((m : Int) < (n : Int)) = true := decide_eq_true (by omega)
      have hn12 := n12.out
      have I0 : Hid (∃ (L1 L2 R : List Int) (v : Int), L1.length = m ∧ Ins xs m L1 L2 R v ∧ SRow 2 (L1 ++ v :: (L2 ++ R)) g wr ∧ But g w.heap.size w wr) := by
        obtain ⟨zs, h1, h2, h3, h4⟩ := hA.out
        have hl : m < zs.length := by have := h1.length_eq; have := HN.out; omega
        exact ⟨zs.take m, [], zs.drop (m + 1), zs[m], by simp; omega, Ins.start h1 h2 hl, by rw [← split_at hl]; exact h3, h4⟩
      clear hA hmn hm1
      have m2 : decide (m < n) = true := decide_eq_true hml
      go_wp2_with fail
      go_loopw [7] (fun i wr => ∃ j : Nat, j ≤ m ∧ i = .int .i64 j ∧ Hid (∃ (L1 L2 R : List Int) (v : Int), L1.length = j ∧ Ins xs m L1 L2 R v ∧ SRow 2 (L1 ++ v :: (L2 ++ R)) g wr ∧ But g w.heap.size w wr)) (fun i _ => (intOf i).toNat)
      case atStart => exact ⟨m, Nat.le_refl _, rfl, I0⟩
      case round =>
        obtain ⟨j, hj, rfl, hI⟩ := hrel
        clear I0
        obtain ⟨L1, L2, R, v, hL, hI1, hR, hB⟩ := hI.out
        have HI := Lib.hid hI1; have HR := Lib.hid hR; have HB := Lib.hid hB; have HJ := Lib.hid hj
        have HLen : Hid (L1.length + (L2.length + R.length) + 1 = n) := by
          have := hI1.perm.length_eq
          have := HN.out
          show _ = _
          simp at *
          omega
        clear hI hI1 hB hj
        rcases j with _ | j
        · obtain rfl := List.eq_nil_of_length_eq_zero hL
          have c0 : wr.cell? ⟨g, 0, none⟩ = some (.int .i64 v) := HR.out.cell (i := 0) (by simp)
          have DONE : Hid (∀ W : World, Sees wr W → ∃ zs : List Int, zs.Perm xs ∧ (zs.take (m + 1)).Pairwise (· ≤ ·) ∧ SRow 2 zs g W ∧ But g w.heap.size w W) := fun W h => ⟨_, HI.out.perm, HI.out.done (fun x hx => (by cases hx)), HR.out.keep (h.block _ HR.out.lt), HB.out.keep h (by have := HB.out.size; omega)⟩
          clear hR hL
          go_wp2_with fail
          refine wp_region_quietC wr [(g, 0, .int .i64 v)] (by kernel_rfl) (by kernel_rfl) ⟨Below.refl _ _, c0, trivial⟩ ?_
          repeat (first | go_big_quiet_skip | (go_big_quiet_want; apply Exists.intro; refine ⟨fun W hW => ?_, ?_⟩; focus (have hK := Lib.hid hW; obtain ⟨hs, hc⟩ := hW; simp only [Has, and_true] at hc; go_simp; (first | rfl | exact ⟨rfl, rfl⟩ | (with_reducible exact quietC_call hK.out (K3.out _))))) | (go_simp; go_big_quiet_on))
          refine wpQuiet_nil ?_
          intro w2 H1
          have S2 := Lib.hid H1.1
          clear H1
          have hm0 := hmm.out
          go_wp2_with fail
          go_roundw
          case rel => exact ⟨m + 1, by omega, Or.inl (by have := hmm.out; omega), by go_num, DONE.out _ S2.out⟩
          case measure => (have := hmm.out; simp [intOf]; try omega)
        · obtain ⟨L, u, rfl⟩ : ∃ (L : List Int) (u : Int), L1 = L ++ [u] := ⟨L1.dropLast, L1.getLast (by rintro rfl; simp at hL), (List.dropLast_concat_getLast _).symm⟩
          have hk : L.length = j := by simpa using hL
          have eR : L ++ [u] ++ v :: (L2 ++ R) = L ++ u :: v :: (L2 ++ R) := by simp
          rw [eR] at hR
          have c0 : wr.cell? ⟨g, j + 1, none⟩ = some (.int .i64 v) := by have := hR.cell (i := j + 1) (by simp; omega); rw [← hk, nth_mid2] at this; rw [← hk]; exact this
          have c1 : wr.cell? ⟨g, j, none⟩ = some (.int .i64 u) := by have := hR.cell (i := j) (by simp; omega); rw [← hk, nth_mid] at this; rw [← hk]; exact this
          have HR2 := Lib.hid hR; have HK := Lib.hid hk
          have hjn : j + 1 < n := by have := HJ.out; have := hmm.out; omega
          have HJN := Lib.hid hjn
          have gp : decide ((0 : Int) < (j : Int) + 1) = true := decide_eq_true (by omega)
          have sb : IntKind.i64.wrap ((j : Int) + 1 - 1) = (j : Int) := by rw [Int.add_sub_cancel]; exact IntWalk.i64_in _ (by omega)
          have sb2 : IntKind.i64.wrap (j : Int) = (j : Int) := IntWalk.i64_in _ (by omega)
          have j2 : (0 : Int) ≤ (j : Int) + 1 := by omega
          have j3 : (j : Int) + 1 < (n : Int) := by omega
          have j4 : (0 : Int) ≤ (j : Int) := by omega
          have j5 : (j : Int) < (n : Int) := by omega
          obtain ⟨q, hq⟩ : ∃ q : Bool, q = decide (v < u) := ⟨_, rfl⟩
          have K3 : Hid (∀ W : World, Calls Try.prog 181 #[.int .i64 v, .int .i64 u] W fun e w' => e = .returned (.bool q) ∧ Below W.heap.size W w') := by rw [hq]; exact fun W => KL.out v u W
          have HQ := Lib.hid hq
          clear hq hR hL eR hk hjn
          cases q
          · have DONE : Hid (∀ W : World, Sees wr W → ∃ zs : List Int, zs.Perm xs ∧ (zs.take (m + 1)).Pairwise (· ≤ ·) ∧ SRow 2 zs g W ∧ But g w.heap.size w W) := fun W h => ⟨_, HI.out.perm, HI.out.done (HI.out.stop (by have := of_decide_eq_false HQ.out.symm; omega)), HR.out.keep (h.block _ HR.out.lt), HB.out.keep h (by have := HB.out.size; omega)⟩
            go_wp2_with fail
            refine wp_region_quietC wr [(g, j + 1, .int .i64 v), (g, j, .int .i64 u)] (by kernel_rfl) (by kernel_rfl) ⟨Below.refl _ _, c0, c1, trivial⟩ ?_
            repeat (first | go_big_quiet_skip | (go_big_quiet_want; apply Exists.intro; refine ⟨fun W hW => ?_, ?_⟩; focus (have hK := Lib.hid hW; obtain ⟨hs, hc⟩ := hW; simp only [Has, and_true] at hc; go_simp; (first | rfl | exact ⟨rfl, rfl⟩ | (with_reducible exact quietC_call hK.out (K3.out _))))) | (go_simp; go_big_quiet_on))
            refine wpQuiet_nil ?_
            intro w2 H1
            have S2 := Lib.hid H1.1
            clear H1
            have hm0 := hmm.out
            go_wp2_with fail
            go_roundw
            case rel => exact ⟨m + 1, by omega, Or.inl (by have := hmm.out; omega), by go_num, DONE.out _ S2.out⟩
            case measure => (have := hmm.out; simp [intOf]; try omega)
          · have HI2 := Lib.hid (HI.out.step (of_decide_eq_true HQ.out.symm))
            go_wp2_with fail
            refine wp_region_quietC wr [(g, j + 1, .int .i64 v), (g, j, .int .i64 u)] (by kernel_rfl) (by kernel_rfl) ⟨Below.refl _ _, c0, c1, trivial⟩ ?_
            repeat (first | go_big_quiet_skip | (go_big_quiet_want; apply Exists.intro; refine ⟨fun W hW => ?_, ?_⟩; focus (have hK := Lib.hid hW; obtain ⟨hs, hc⟩ := hW; simp only [Has, and_true] at hc; go_simp; (first | rfl | exact ⟨rfl, rfl⟩ | (with_reducible exact quietC_call hK.out (K3.out _))))) | (go_simp; go_big_quiet_on))
            refine wpQuiet_nil ?_
            intro w2 H1
            have S2 := Lib.hid H1.1
            clear H1
            have d0 := kc S2.out c0
            have d1 := kc S2.out c1
            have HRW := Lib.hid (HR2.out.keep (S2.out.block _ HR2.out.lt))
            have f0 := HRW.out.free (j + 1)
            have f1 := HRW.out.free j
            have HBW := Lib.hid (HB.out.keep S2.out (by have := HB.out.size; omega))
            clear c0 c1
            have NEXT : Hid (∃ (L1 L2' R' : List Int) (v' : Int), L1.length = j ∧ Ins xs m L1 L2' R' v' ∧ SRow 2 (L1 ++ v' :: (L2' ++ R')) g ((w2.setCell ⟨g, j + 1, none⟩ (.int .i64 u)).setCell ⟨g, j, none⟩ (.int .i64 v)).drew ∧ But g w.heap.size w ((w2.setCell ⟨g, j + 1, none⟩ (.int .i64 u)).setCell ⟨g, j, none⟩ (.int .i64 v)).drew) := by
              refine ⟨L, u :: L2, R, v, HK.out, HI2.out, ?_, ((HBW.out.setCell (Or.inl rfl) _).setCell (Or.inl rfl) _).drew⟩
              have h1 := (HRW.out.set (j + 1) u).set j v
              rw [← HK.out, set_swap] at h1
              rw [← HK.out]
              exact h1.keep rfl
            have hn12' := n12.out
            have hjj := HJN.out
            go_wp2_with fail
            go_region_law (fail)
            all_goals
              go_wp2_with fail
              go_roundw
              case rel => exact ⟨j, by have := HJ.out; omega, by go_num, NEXT.out⟩
              case measure => (simp [intOf]; try omega)
    · have D : Hid (∃ ys : List Int, ys.Perm xs ∧ ys.Pairwise (· ≤ ·) ∧ SRow 2 ys g wr ∧ But g w.heap.size w wr) := by
        obtain ⟨zs, h1, h2, h3, h4⟩ := hA.out
        refine ⟨zs, h1, ?_, h3, h4⟩
        rwa [List.take_of_length_le (by have := h1.length_eq; have := HN.out; omega)] at h2
      have m1 : decide ((m : Int) < (n : Int)) = false := decide_eq_false (by omega)
      have hn12 := n12.out
      clear hA
      go_wp2_with fail
      go_end0
      exact ⟨rfl, D.out⟩
end Go.Proofs.Ytmblgkpgfofceaa
