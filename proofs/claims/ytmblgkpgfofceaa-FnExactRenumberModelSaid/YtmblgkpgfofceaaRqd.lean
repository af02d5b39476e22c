/- RenumberModel: the program's, at another length or an invalid model. Contracts of impl.setOf, impl.pointsIn. slices.Values at int64: the iterator. slices.AppendSeq at int64: what an iterator over a list gives, in a row of its own. -/
import Derived.Test.YtmblgkpgfofceaaRnD
import Derived.Test.YtmblgkpgfofceaaRqc
import Derived.Test.YtmblgkpgfofceaaAscD
import Derived.Lib.Hide
import Derived.Test.YtmblgkpgfofceaaProg
import Derived.Test.YtmblgkpgfofceaaInts
import Derived.RangeFuncBox
import Derived.RangeFuncLeaves
import Derived.Shelf.Abstract
import Derived.WalkKit
import Derived.OwnWalkIn
import Derived.TacticsInMore
import Derived.LoopNIn
import Derived.LoopIn
import Derived.Maps.AppendAt
namespace Go.Proofs.Ytmblgkpgfofceaa
open Go.RowKit
set_option linter.unusedVariables false

set_option maxHeartbeats 4000000 in
set_option maxRecDepth 100000 in
theorem implRenumberModel_no (t a p : Int) (ac : List (List Bool)) (nx : List (List (List Bool))) (xs : List Int) (hs : SmallM ac nx) (hx : xs.length ≤ 1048576) (hv : validM t a p ac nx = false) (A B P : Option Addr) (C D PC : Nat) (w : World) (hA0 : BB 0 w ac A) (hB0 : BBB 0 w nx B) (hP0 : Ints w xs P) :
    Calls Try.prog 45 #[.agg #[.int .i64 t, .int .i64 a, .int .i64 p, .slice A ac.length C, .slice B nx.length D], .slice P xs.length PC] w (MEnd 0 0 0 [] [] 1 w) := by
  obtain ⟨w0, hw0⟩ : ∃ w0, w0 = (w.alloc (.cells #[.int .i64 t, .int .i64 a, .int .i64 p, .slice A ac.length C, .slice B nx.length D] 63)).alloc (.cells #[.int .i64 0, .int .i64 0, .int .i64 0, .slice none 0 0, .slice none 0 0] 63) := ⟨_, rfl⟩
  have B0 : Sees w w0 := by rw [hw0]; exact ((Sees.refl w).alloc _).alloc _
  have hA := hA0.sees B0; have hB := hB0.sees B0; have hP : Ints w0 xs P := hP0.sees B0
  have hc0 : w0.heap[w.heap.size]? = some (.cells #[.int .i64 t, .int .i64 a, .int .i64 p, .slice A ac.length C, .slice B nx.length D] 63 (0, 0)) := by
    rw [hw0]; exact (Below.heap_alloc _ _ _ (by simp)).trans (heap_new _ _ _ rfl)
  have hr0 : w0.heap[w.heap.size + 1]? = some (.cells #[.int .i64 0, .int .i64 0, .int .i64 0, .slice none 0 0, .slice none 0 0] 63 (0, 0)) := by
    rw [hw0]; exact heap_new _ _ _ (by simp)
  have z0 : w.heap.size + 2 ≤ w0.heap.size := by rw [hw0]; simp
  have K1 : Hid (∀ W : World, Sees w0 W → Calls Try.prog 78 #[.agg #[.int .i64 t, .int .i64 a, .int .i64 p, .slice A ac.length C, .slice B nx.length D]] W fun e w' => e = .returned (.bool false) ∧ Below W.heap.size W w') := fun W h => by
    rw [← hv]; exact implValidModel_any t a p ac nx hs A B C D W (hA.sees h) (hB.sees h)
  have HC0 := Lib.hid hc0; have HR0 := Lib.hid hr0
  have FIN : Hid (∀ W : World, Below w0.heap.size w0 W → Sees w W) := fun W h => B0.below h
  clear hA hB hP hA0 hB0 hP0 hv hs B0 hc0 hr0
  go_enter Try.func45, Try.ntmps45
  obtain ⟨c0, c1, c2, c3, c4, _, _, _, _, _⟩ := five_facts HC0.out
  have HW0 := Lib.hid hw0
  go_wp2_with fail
  rw [← hw0]
  clear hw0
  refine (K1.out _ (Sees.refl _)).mono ?_
  rintro e w1 ⟨rfl, hb⟩
  have HB1 := Lib.hid hb
  have HR1 := Lib.hid ((hb.block _ (by omega)).trans HR0.out)
  have HC1 := Lib.hid ((hb.block _ (by omega)).trans HC0.out)
  have z1 : w.heap.size + 1 < w1.heap.size := Nat.lt_of_lt_of_le (by omega) hb.size
  clear hb K1 c0 c1 c2 c3 c4
  obtain ⟨u0, u1, u2, u3, u4, x0, x1, x2, x3, x4⟩ := five_facts HR1.out
  go_wp2_with fail
  obtain ⟨y0, y1, y2, y3, y4, _, _, _, _, _⟩ := five_facts (five_block HR1.out (.int .i64 0) (.int .i64 0) (.int .i64 0) (.slice none 0 0) (.slice none 0 0))
  refine bodyPost_ret (v := .tuple #[.agg #[.int .i64 0, .int .i64 0, .int .i64 0, .slice none 0 0, .slice none 0 0], .int .i64 1]) (by simp [results, Try.results45, go_sem, y0, y1, y2, y3, y4]) rfl ?_
  exact MEnd.no (five_below (FIN.out _ HB1.out) (by omega) _ _ _ _ _)
set_option maxHeartbeats 4000000 in
set_option maxRecDepth 100000 in
theorem implRenumberModel_len (t a p : Int) (ac : List (List Bool)) (nx : List (List (List Bool))) (xs : List Int) (hs : SmallM ac nx) (hx : xs.length ≤ 1048576) (hv : validM t a p ac nx = true) (hlen : (xs.length : Int) ≠ p) (A B P : Option Addr) (C D PC : Nat) (w : World) (hA0 : BB 0 w ac A) (hB0 : BBB 0 w nx B) (hP0 : Ints w xs P) :
    Calls Try.prog 45 #[.agg #[.int .i64 t, .int .i64 a, .int .i64 p, .slice A ac.length C, .slice B nx.length D], .slice P xs.length PC] w (MEnd 0 0 0 [] [] 2 w) := by
  obtain ⟨w0, hw0⟩ : ∃ w0, w0 = (w.alloc (.cells #[.int .i64 t, .int .i64 a, .int .i64 p, .slice A ac.length C, .slice B nx.length D] 63)).alloc (.cells #[.int .i64 0, .int .i64 0, .int .i64 0, .slice none 0 0, .slice none 0 0] 63) := ⟨_, rfl⟩
  have B0 : Sees w w0 := by rw [hw0]; exact ((Sees.refl w).alloc _).alloc _
  have hA := hA0.sees B0; have hB := hB0.sees B0; have hP : Ints w0 xs P := hP0.sees B0
  have hc0 : w0.heap[w.heap.size]? = some (.cells #[.int .i64 t, .int .i64 a, .int .i64 p, .slice A ac.length C, .slice B nx.length D] 63 (0, 0)) := by
    rw [hw0]; exact (Below.heap_alloc _ _ _ (by simp)).trans (heap_new _ _ _ rfl)
  have hr0 : w0.heap[w.heap.size + 1]? = some (.cells #[.int .i64 0, .int .i64 0, .int .i64 0, .slice none 0 0, .slice none 0 0] 63 (0, 0)) := by
    rw [hw0]; exact heap_new _ _ _ (by simp)
  have z0 : w.heap.size + 2 ≤ w0.heap.size := by rw [hw0]; simp
  have K1 : Hid (∀ W : World, Sees w0 W → Calls Try.prog 78 #[.agg #[.int .i64 t, .int .i64 a, .int .i64 p, .slice A ac.length C, .slice B nx.length D]] W fun e w' => e = .returned (.bool true) ∧ Below W.heap.size W w') := fun W h => by
    rw [← hv]; exact implValidModel_any t a p ac nx hs A B C D W (hA.sees h) (hB.sees h)
  have tl : (((xs.length : Nat) : Int) != p) = true := by simpa using hlen
  have te : decide (((xs.length : Nat) : Int) = p) = false := decide_eq_false hlen
  clear hlen
  have HC0 := Lib.hid hc0; have HR0 := Lib.hid hr0
  have FIN : Hid (∀ W : World, Below w0.heap.size w0 W → Sees w W) := fun W h => B0.below h
  clear hA hB hP hA0 hB0 hP0 hv hs B0 hc0 hr0
  go_enter Try.func45, Try.ntmps45
  obtain ⟨c0, c1, c2, c3, c4, _, _, _, _, _⟩ := five_facts HC0.out
  have HW0 := Lib.hid hw0
  go_wp2_with fail
  rw [← hw0]
  clear hw0
  refine (K1.out _ (Sees.refl _)).mono ?_
  rintro e w1 ⟨rfl, hb⟩
  have HB1 := Lib.hid hb
  have HR1 := Lib.hid ((hb.block _ (by omega)).trans HR0.out)
  have HC1 := Lib.hid ((hb.block _ (by omega)).trans HC0.out)
  have z1 : w.heap.size + 1 < w1.heap.size := Nat.lt_of_lt_of_le (by omega) hb.size
  clear hb K1 c0 c1 c2 c3 c4
  obtain ⟨c0, c1, c2, c3, c4, _, _, _, _, _⟩ := five_facts HC1.out
  obtain ⟨u0, u1, u2, u3, u4, x0, x1, x2, x3, x4⟩ := five_facts HR1.out
  go_wp2_with fail
  obtain ⟨y0, y1, y2, y3, y4, _, _, _, _, _⟩ := five_facts (five_block HR1.out (.int .i64 0) (.int .i64 0) (.int .i64 0) (.slice none 0 0) (.slice none 0 0))
  refine bodyPost_ret (v := .tuple #[.agg #[.int .i64 0, .int .i64 0, .int .i64 0, .slice none 0 0, .slice none 0 0], .int .i64 2]) (by simp [results, Try.results45, go_sem, y0, y1, y2, y3, y4]) rfl ?_
  exact MEnd.no (five_below (FIN.out _ HB1.out) (by omega) _ _ _ _ _)
end Go.Proofs.Ytmblgkpgfofceaa

namespace Go.Proofs.Ytmblgkpgfofceaa
open Go.RowKit
set_option linter.unusedVariables false

set_option maxHeartbeats 1000000 in
theorem setOf_any (x : Nat) (hx : x < 8) (w : World) :
    Calls Try.prog 129 #[.int .i64 (x : Int)] w fun e w' => e = .returned (.int .u8 ((2 ^ x : Nat) : Int)) ∧ Below w.heap.size w w' := by
  rcases (show x = 0 ∨ x = 1 ∨ x = 2 ∨ x = 3 ∨ x = 4 ∨ x = 5 ∨ x = 6 ∨ x = 7 by omega) with rfl | rfl | rfl | rfl | rfl | rfl | rfl | rfl
  all_goals
    go_enter Try.func129, Try.ntmps129
    go_wp2_with fail
    go_ret
    exact ⟨rfl, Below.refl _ _⟩

set_option maxRecDepth 100000 in
theorem or_pow : ∀ x : Nat, x < 8 → ∀ s : Nat, s < 2 ^ x → bits BinOp.or IntKind.u8 (s : Int) (2 ^ x) = ((s + 2 ^ x : Nat) : Int) := by decide +kernel
/-- How large it is, if they rise: it is zero, or the last point is the highest bit. -/
def BitsUp (xs : List Int) (j : Nat) (s : Nat) : Prop := (j = 0 ∧ s = 0) ∨ ∃ i, j = i + 1 ∧ 2 ^ (nth xs i).toNat ≤ s ∧ s < 2 ^ ((nth xs i).toNat + 1)
set_option maxHeartbeats 2000000 in
set_option maxRecDepth 100000 in
theorem pointsIn_any (p : Int) (hp0 : 1 ≤ p) (hp8 : p ≤ 8) (xs : List Int) (hm : xs.length ≤ 1048576) (A : Option Addr) (C : Nat) (w : World) (hl : Ints w xs A) :
    Calls Try.prog 79 #[.slice A xs.length C, .int .i64 p] w fun e w' => (∃ s : Int, e = .returned (.tuple #[.int .u8 s, .bool (ascB p xs)])) ∧ Below w.heap.size w w' := by
  have HL := Lib.hid hl; have HM := Lib.hid hm
  have KBB : Hid (∀ (x : Int) (W : World), Calls Try.prog 51 #[.int .i64 x, .int .i64 p] W fun e w' => e = .returned (.bool (belowB x p)) ∧ Below W.heap.size W w') := fun x W => (below_any x p W).mono fun e w' h => ⟨h.1, by rw [← h.2]; exact Below.refl _ _⟩
  have hA0 : Hid ((List.range 0).all (ascAt p xs) = true) := rfl
  clear hl
  go_enter Try.func79, Try.ntmps79
  go_wp2_with fail
  go_loopw [6, 11] (fun v i wr => ∃ (j s : Nat), j ≤ xs.length ∧ i = .int .i64 j ∧ v = .int .u8 (s : Int) ∧ Hid (BitsUp xs j s) ∧ Hid ((List.range j).all (ascAt p xs) = true) ∧ Hid (Sees w wr)) (fun _ i _ => xs.length - (intOf i).toNat)
  case atStart => exact ⟨0, 0, Nat.zero_le _, rfl, rfl, Or.inl ⟨rfl, rfl⟩, hA0.out, Sees.refl _⟩
  case round =>
    obtain ⟨j, s, hj, rfl, rfl, hU, hA, hS⟩ := hrel
    clear hA0
    by_cases hjl : j < xs.length
    · obtain ⟨b, o, rfl, hat⟩ := HL.out (by rintro rfl; simp at hjl)
      have cj := kc hS.out (hat j hjl)
      obtain ⟨q, hq⟩ : ∃ q : Bool, q = belowB (nth xs j) p := ⟨_, rfl⟩
      have KB := Lib.hid (KBB.out (nth xs j))
      rw [← hq] at KB
      have hjm := Lib.hid hjl
      have j0 : (0 : Int) ≤ (j : Int) := Int.natCast_nonneg _
      have j1 : (j : Int) < (xs.length : Int) := by omega
      clear hjl hat
      cases q
      · have HF := Lib.hid (asc_no hjm.out (ascAt_far hq.symm))
        clear hq
        go_wp2_with fail
        refine (KB.out _).mono ?_
        rintro e w2 ⟨rfl, hb⟩
        have S2 := Lib.hid (hS.out.below hb)
        clear hb
        go_wp2_with fail
        go_ret2
        refine ⟨⟨0, ?_⟩, S2.out⟩
        rw [HF.out]; rfl
      · have hb8 : 0 ≤ nth xs j ∧ nth xs j < 8 := by have h := hq.symm; unfold belowB at h; have := of_decide_eq_true h; omega
        obtain ⟨x, hx⟩ : ∃ x : Nat, nth xs j = (x : Int) := ⟨(nth xs j).toNat, by omega⟩
        have hx8 : x < 8 := by omega
        rw [hx] at cj KB
        have hd : (ascAt p xs j = true ∧ ((s : Int) / 2 ^ x != 0) = false ∧ s < 2 ^ x) ∨ (ascAt p xs j = false ∧ ((s : Int) / 2 ^ x != 0) = true) := by
          rcases hU.out with ⟨rfl, rfl⟩ | ⟨i, rfl, h1, h2⟩
          · exact Or.inl ⟨ascAt_zero hq.symm, by simp, Nat.two_pow_pos _⟩
          · have hi : belowB (nth xs i) p = true := by
              have h := List.all_eq_true.1 hA.out i (List.mem_range.2 (Nat.lt_succ_self _))
              unfold ascAt at h
              rw [Bool.and_eq_true] at h
              exact h.1
            have hi0 : 0 ≤ nth xs i := by unfold belowB at hi; have := of_decide_eq_true hi; omega
            by_cases hlt : nth xs i < nth xs (i + 1)
            · have h3 : 2 ^ ((nth xs i).toNat + 1) ≤ 2 ^ x := Nat.pow_le_pow_right (by decide) (by omega)
              have h4 : s < 2 ^ x := by omega
              refine Or.inl ⟨ascAt_lt hq.symm hlt, ?_, h4⟩
              have h5 : s / 2 ^ x = 0 := Nat.div_eq_of_lt h4
              have h6 : ((s : Int) / 2 ^ x) = ((s / 2 ^ x : Nat) : Int) := by simp
              rw [h6, h5]; rfl
            · have h3 : 2 ^ x ≤ 2 ^ (nth xs i).toNat := Nat.pow_le_pow_right (by decide) (by omega)
              have h4 : 2 ^ x ≤ s := by omega
              refine Or.inr ⟨ascAt_le hq.symm (by omega), ?_⟩
              have h5 : 1 ≤ s / 2 ^ x := (Nat.one_le_div_iff (Nat.two_pow_pos _)).2 h4
              have h6 : ((s : Int) / 2 ^ x) = ((s / 2 ^ x : Nat) : Int) := by simp
              rw [h6]
              rw [bne_iff_ne]
              omega
        have HX := Lib.hid hx; have HQ := Lib.hid hq
        clear hx hq hb8
        rcases hd with ⟨ha, hz, hs8⟩ | ⟨ha, hz⟩
        rotate_left
        · have HF := Lib.hid (asc_no hjm.out ha)
          clear ha
          go_wp2_with fail
          refine (KB.out _).mono ?_
          rintro e w2 ⟨rfl, hb⟩
          have S2 := Lib.hid (hS.out.below hb)
          clear hb
          go_wp2_with fail
          go_ret2
          refine ⟨⟨0, ?_⟩, S2.out⟩
          rw [HF.out]; rfl
        have HA2 := Lib.hid (asc_step hA.out ha)
        have HSO := Lib.hid (setOf_any x hx8)
        clear ha
        go_wp2_with fail
        refine (KB.out _).mono ?_
        rintro e w2 ⟨rfl, hb⟩
        have S2 := Lib.hid (hS.out.below hb)
        clear hb
        go_wp2_with fail
        refine (HSO.out _).mono ?_
        rintro e w3 ⟨rfl, hb⟩
        have S3 := Lib.hid (S2.out.below hb)
        clear hb
        go_wp2_with fail
        go_roundw
        case rel =>
          refine ⟨j + 1, s + 2 ^ x, by have := hjm.out; omega, by go_num, congrArg (Value.int IntKind.u8) (or_pow x hx8 s hs8), ?_, HA2, S3⟩
          refine Or.inr ⟨j, rfl, ?_, ?_⟩
          · rw [HX.out, Int.toNat_natCast]; omega
          · rw [HX.out, Int.toNat_natCast, Nat.pow_succ]; omega
        case measure => (have := hjm.out; simp [intOf]; try omega)
    · obtain rfl : j = xs.length := by omega
      have HE : Hid (ascB p xs = true) := hA.out
      clear hjl
      go_wp2_with fail
      go_ret2
      refine ⟨⟨(s : Int), ?_⟩, hS.out⟩
      rw [HE.out]; rfl
end Go.Proofs.Ytmblgkpgfofceaa

namespace Go.Proofs.Ytmblgkpgfofceaa
open Go.RowKit Go.Shelf
attribute [local go_sem] Oper.semAt_some
set_option linter.unusedVariables false

theorem take_nth {zs : List Int} {k : Nat} (h : k < zs.length) : zs.take (k + 1) = zs.take k ++ [nth zs k] := by
  rw [List.take_succ_eq_append_getElem h]
  simp [nth, List.getD, h]

set_option maxRecDepth 100000 in
set_option maxHeartbeats 4000000 in
theorem vals1_in (F : Fence) (n : Nat) (h7 : F.fn 138) (hro : F.round = none) (hn : 1 ≤ n) (l Bs : Nat) (w0 : World) (zs : List Int) (A : Option Addr) (C : Nat) (hm : zs.length ≤ 1048576) (hI : Ints w0 zs A) (J Jx : List Int → World → Prop)
    (hY : ∀ pre x W, J pre W → pre.length < zs.length → YieldAt F (n - 1) Try.prog l #[.int .i64 x] W fun e W' =>
      (e = .returned (.bool true) ∧ J (pre ++ [x]) W' ∧ Below w0.heap.size W W') ∨ (e = .returned (.bool false) ∧ Jx (pre ++ [x]) W'))
    (W : World) (hW : Below w0.heap.size w0 W) (hBs : W.cell? ⟨Bs, 0, none⟩ = some (.slice A zs.length C)) (h0 : J [] W) :
    CallsIn F n Try.prog 138 #[.func (.yield l) #[] #[], .pointer (some ⟨Bs, 0, none⟩)] W fun e W' => (∃ v, e = .returned v) ∧
      ((∃ ys, ys = zs ∧ J ys W') ∨ (∃ pre, pre <+: zs ∧ Jx pre W')) := by
  refine callsIn_of_wp Try.func138 rfl h7 ?_ hro
  simp only [Try.ntmps138, List.size_toArray, List.length_cons, List.length_nil, Nat.reduceAdd, Nat.reduceSub, Array.replicate_succ, Array.replicate_zero, List.push_toArray, List.append_toArray, List.nil_append, List.cons_append]
  gi_wp2
  gi_loopw [7] (fun i wr => ∃ k : Nat, k ≤ zs.length ∧ i = .int .i64 k ∧ J (zs.take k) wr ∧ Below w0.heap.size w0 wr)
    (fun i _ => zs.length - (intOf i).toNat)
  case atStart => exact ⟨0, Nat.zero_le _, rfl, h0, hW⟩
  case round =>
    obtain ⟨k, hk, rfl, hJs, hnx⟩ := hrel
    by_cases hlt : k < zs.length
    · obtain ⟨b, off, rfl, hat⟩ := hI.below hnx (by rintro rfl; simp at hlt)
      have hcx := hat k hlt
      obtain ⟨fn, tmps, assign, body, hy, hR⟩ := hY _ (nth zs k) wr hJs (by rw [List.length_take]; omega)
      gi_wp2
      refine hR.mono ?_
      rintro e W3 (⟨rfl, hJ3, hk3⟩ | ⟨rfl, hJx3⟩)
      · gi_wp2
        go_roundw
        case rel => exact ⟨k + 1, by omega, by simp, by rw [take_nth hlt]; exact hJ3, hnx.trans hk3⟩
        case measure => simp [intOf]; omega
      · gi_wp2
        refine bodyPost_ret (results_none rfl _ _ _) rfl ?_
        exact ⟨⟨_, rfl⟩, .inr ⟨_, List.take_prefix (k + 1) zs, by rw [take_nth hlt]; exact hJx3⟩⟩
    · obtain rfl : k = zs.length := by omega
      gi_wp2
      go_end0
      exact ⟨⟨_, rfl⟩, .inl ⟨_, List.take_length, hJs⟩⟩

set_option maxRecDepth 100000 in
set_option maxHeartbeats 4000000 in
theorem vals_any (A : Option Addr) (len C : Nat) (w : World) :
    Calls Try.prog 100 #[.slice A len C] w fun e w' => e = .returned (.func (.func 138) #[] #[.pointer (some ⟨w.heap.size, 0, none⟩)]) ∧ w' = w.alloc (.cells #[.slice A len C] 26) := by
  refine (callsIn_wide (n := 4)).1 ?_
  refine callsIn_of_wp Try.func100 rfl trivial ?_ rfl
  simp only [Try.ntmps100, List.size_toArray, List.length_cons, List.length_nil, Nat.reduceAdd, Nat.reduceSub, Array.replicate_succ, Array.replicate_zero, List.push_toArray, List.append_toArray, List.nil_append, List.cons_append]
  gi_wp2
  go_ret
  exact ⟨rfl, rfl⟩

theorem vals_stops (F : Fence) (n : Nat) (h7 : F.fn 138) (hro : F.round = none) (hn : 1 ≤ n) (Bs : Nat) (w0 : World) (zs : List Int) (A : Option Addr) (C : Nat) (hm : zs.length ≤ 1048576) (hI : Ints w0 zs A) (w : World) (hw : Below w0.heap.size w0 w) (hBs : Bs < w.heap.size)
    (hc : w.cell? ⟨Bs, 0, none⟩ = some (.slice A zs.length C)) :
    SeqStopsK F n Try.prog 138 #[.pointer (some ⟨Bs, 0, none⟩)] (fun x : Int => #[Value.int .i64 x]) (Below w0.heap.size) (fun ys => ys = zs) (fun pre => pre <+: zs) zs.length w := fun l J Jx W hW _ _ hY h0 =>
  vals1_in F n h7 hro hn l Bs w0 zs A C hm hI J Jx hY W (hw.trans (hW.mono hw.size)) ((hW.cell (p := ⟨Bs, 0, none⟩) hBs).trans hc) h0
end Go.Proofs.Ytmblgkpgfofceaa

namespace Go.Proofs.Ytmblgkpgfofceaa
open Go.RowKit Go.Shelf
attribute [local go_sem] Oper.semAt_some
set_option linter.unusedVariables false

theorem infoI : (Try.prog.info? 2).map (fun i => (i.zero, i.size, i.bytes)) = some (some (.int .i64 0), 1, 8) := by kernel_rfl

set_option maxRecDepth 100000 in
set_option maxHeartbeats 4000000 in
theorem appendSeq_in (F : Fence) (n : Nat) (h3 : F.fn 162) (h5 : F.fn 138) (hro : F.round = none) (hn : 3 ≤ n) (Bs : Nat) (zs : List Int) (A : Option Addr) (C : Nat) (hm : zs.length ≤ 1048576) (w : World) (hBlt : Bs < w.heap.size) (hBs : w.cell? ⟨Bs, 0, none⟩ = some (.slice A zs.length C)) (hI : Ints w zs A) :
    CallsIn F n Try.prog 162 #[.slice none 0 0, .func (.func 138) #[] #[.pointer (some ⟨Bs, 0, none⟩)]] w fun e W' => ∃ v, e = .returned v ∧ W'.ownsRow w.heap.size 2 1 v zs.length (zs.map (Value.int .i64)) ∧ (v = .slice none 0 0 ↔ zs = []) ∧ Below w.heap.size w W' := by
  have h1 : 1 ≤ n := by omega
  have hml : zs.length ≤ maxLen := Nat.le_trans hm (by decide)
  have hbt : zs.length * 8 ≤ 140737488355328 := by omega
  obtain ⟨i0, hi, hz0, hz1, hz2⟩ := info_parts infoI
  refine callsIn_of_wp_marks Try.func162 rfl h3 ?_ hro
  simp only [Try.ntmps162, List.size_toArray, List.length_cons, List.length_nil, Nat.reduceAdd, Nat.reduceSub, Array.replicate_succ, Array.replicate_zero, List.push_toArray, List.append_toArray, List.nil_append, List.cons_append]
  gi_wp2
  have bO := Boxed.new w 26 (.slice none 0 0)
  have hB0 : Below w.heap.size w (w.alloc (.cells #[.slice none 0 0] 26)) := (Below.refl _ w).alloc (Nat.le_refl _) _
  refine wpIn_rangeFunc_ownG hro h1 (gf := 138) (lb := #[.pointer (some ⟨Bs, 0, none⟩)]) rfl h5 (enters_of Try.func138 (by kernel_rfl) rfl)
    (vals_stops F (n - 1) h5 hro (by omega) Bs w zs A C hm hI _ hB0 (by simp; omega) ((World.cell?_alloc_lt _ _ _ hBlt).trans hBs)) belowK_t (belowK_b (by simp)) (Below.refl _ _) (fun _ => rfl)
    (fun pre W => (∃ v, Boxed W w.heap.size 26 v ∧ W.ownsRow w.heap.size 2 1 v pre.length (pre.map (Value.int .i64)) ∧ (v = .slice none 0 0 ↔ pre = [])) ∧ Below w.heap.size w W)
    (fun _ _ _ => False)
    (OwnFrom.and (Own.from (holdsRow_own w.heap.size w.heap.size 26 2 1 (fun pre => pre.length) (fun pre => pre.map (Value.int .i64)) (fun pre v => v = .slice none 0 0 ↔ pre = [])) _) (ownFrom_below (Nat.le_refl _) (by simp)))
    (fun _ _ _ _ _ hs _ _ => hs)
    ⟨⟨_, bO, World.ownsRow_nil _ _ _ _, by simp⟩, hB0⟩
    (fun x => { tmps := #[.slice none 0 0, .func (.func 138) #[] #[.pointer (some ⟨Bs, 0, none⟩)], .pointer (some ⟨w.heap.size, 0, none⟩), undef, .slice none 0 0, .int .i64 x, .func (.func 138) #[] #[.pointer (some ⟨Bs, 0, none⟩)], .int .i64 x, undef, undef, undef, undef, undef], defers := [] }) ?assign ?body ?done ?stop
  case assign =>
    intro l x W K hK
    gi_wp2
    exact hK
  case body =>
    rintro l pre x W ⟨⟨v, hv, hrow, hnil⟩, hB⟩ hlt
    have hc := hv.cell
    gi_wp2_with (gi_at_builtin; refine wpListIn_append_own _ rfl _ _ 26 rfl w.heap.size 2 i0 (.int .i64 0) 1 8 Try.underlying26 hi hz0 hz1 hz2 rfl (by decide) _ _ _ rfl (hrow.alloc _) ⟨W.heap.size, 0, none⟩ 1 1 [.int .i64 x] rfl rfl (cell_one_new _ _ _) (by simp [Value.oneCell']) (by omega) (by omega) (by have := hB.size; simp; omega) ?_; intro v' w1 hown' hgrow _; obtain ⟨g', cap', rfl⟩ := ownsRow_succ hown'; obtain ⟨hv1, hv2, hr2, hk2, hb2⟩ := hv.appended (by decide) hrow hB.size (Nat.le_refl _) hown' hgrow; have hc1 := hv1.cell; have hf1 := hv1.frozen)
    exact ⟨hk2.from _, hb2, ⟨_, hv2, by simpa using hr2, by simp⟩, hB.trans hb2⟩
  case done =>
    rintro D ys W hD rfl ⟨⟨v, hv, hrow, hnil⟩, hB⟩ hK
    have hc := hv.cell
    gi_wp2
    refine ⟨by simp, .inl ⟨_, _, rfl, run_takeDeferred hK, ?_⟩⟩
    exact ⟨_, results_tmp rfl _ _ _, v, rfl, ownsRow_putObj hrow _ hK rfl, hnil, hB.trans (belowK_b (w := w) (Nat.le_refl _) W D _ _ (by simp at hD; omega) hK rfl rfl)⟩
  case stop =>
    rintro D c pre W _ _ h _
    exact h.elim
end Go.Proofs.Ytmblgkpgfofceaa
