/- Contract of impl.BisimText. -/
import Derived.Test.YtojheipllpkgdaaDoorBtD
import Derived.Test.YtojheipllpkgdaaDoorPpI
import Derived.Test.YtojheipllpkgdaaDoorTxI
import Derived.Test.YtojheipllpkgdaaDoorNodeOf
namespace Go.Proofs.YtojheipllpkgdaaDoor
open Go.RowKit
set_option linter.unusedVariables false

theorem builder_belowB {T e : TypeId} {B b : Nat} {p : Value} {bs : List Value} {W W' : World} (h : Lib.BuilderAtF T e B b p bs W) (hb : Below W.heap.size W W') : Lib.BuilderAtF T e B b p bs W' := by
  obtain ⟨hB, v, hc, hown, hne⟩ := h
  have kk : ∀ (k : Nat) (o : Obj), W.heap[k]? = some o → W'.heap[k]? = some o := fun k o h => (hb.block k (Array.getElem?_eq_some_iff.1 h).1).trans h
  refine ⟨hB, v, kk _ _ hc, ⟨hown.1, ?_⟩, hne⟩
  rcases hown.2 with hn | ⟨g, cap, cur, fz, hv, hbg, hg, rest⟩
  · exact .inl hn
  · exact .inr ⟨g, cap, cur, fz, hv, hbg, kk _ _ hg, rest⟩
theorem Bld.belowB {B : Nat} {l : List UInt8} {W W' : World} (h : Bld B l W) (hb : Below W.heap.size W W') : Bld B l W' := by
  rcases h with h | h
  · exact Or.inl (builder_belowB h hb)
  · exact Or.inr (builder_belowB h hb)
theorem Wrote.thenB {B : Nat} {l : List UInt8} {a b c : World} (h : Wrote B l a b) (hb : Below b.heap.size b c) : Wrote B l a c :=
  ⟨h.bld.belowB hb, h.below.trans (hb.mono (Nat.le_of_lt h.bld.lt)), fun k o hk h1 h2 => (hb.block k (Array.getElem?_eq_some_iff.1 (h.kept k o hk h1 h2)).1).trans (h.kept k o hk h1 h2)⟩
theorem six_of {W : World} {b : Nat} {T : TypeId} {u0 u1 u2 u3 u4 u5 : Value} (h : W.heap[b]? = some (.cells #[u0, u1, u2, u3, u4, u5] T (0, 0))) :
    W.cell? ⟨b, 0, none⟩ = some u0 ∧ W.cell? ⟨b, 1, none⟩ = some u1 ∧ W.cell? ⟨b, 2, none⟩ = some u2 ∧ W.cell? ⟨b, 3, none⟩ = some u3 ∧ W.cell? ⟨b, 4, none⟩ = some u4 ∧ W.cell? ⟨b, 5, none⟩ = some u5 :=
  ⟨Fo.cell_of_block h 0, Fo.cell_of_block h 1, Fo.cell_of_block h 2, Fo.cell_of_block h 3, Fo.cell_of_block h 4, Fo.cell_of_block h 5⟩
theorem sees_behindB {w W W' : World} {B : Nat} (h : Sees w W) (hb : Below B W W') (hB : w.heap.size ≤ B) : Sees w W' := Below.trans h (hb.mono hB)

set_option maxHeartbeats 4000000 in
set_option maxRecDepth 100000 in
theorem implBisimText_any (t a : Int) (xs : Pp) (hm : xs.nodes ≤ 1048576) (A : Option Addr) (C : Nat) (w : World) (hA : xs.Lies w A) :
    Calls Tryd.prog 28 #[.agg #[.int .i64 t, .int .i64 a], .slice A xs.len C] w fun e w' => e = .returned (.string ⟨(bisT t a xs).toArray⟩) ∧ Below w.heap.size w w' := by
  have hlen := xs.len_le_nodes
  obtain ⟨q0, hq0⟩ : ∃ q : Bool, q = listedB t a xs := ⟨_, rfl⟩
  have K0 : Hid (∀ W : World, Sees w W → Calls Tryd.prog 57 #[.agg #[.int .i64 t, .int .i64 a], .slice A xs.len C] W fun e w' => e = .returned (.bool q0) ∧ Below W.heap.size W w') := fun W h => by rw [hq0]; exact haveForm_any t a xs hm A C W (hA.sees h)
  cases q0
  · have HD : bisT t a xs = [] := if_neg (by rw [← hq0]; decide)
    rw [HD]
    clear hq0 HD hA
    go_enter Tryd.func28, Tryd.ntmps28
    go_wp2_with fail
    refine (K0.out _ (by unfold Sees; go_grown)).mono ?_
    rintro e w1 ⟨rfl, hb⟩
    have B1 : Sees w w1 := Sees.below (by unfold Sees; go_grown) hb
    clear hb
    go_wp2_with fail
    go_ret
    exact ⟨rfl, B1⟩
  obtain ⟨⟨ht, ha⟩, hform⟩ := listed_parts hq0.symm
  have HT := Lib.hid (And.intro ht ha)
  have HV : bisT t a xs = xs.txt := if_pos hq0.symm
  rw [HV]
  have htl := Pp.txt_len ht ha xs (by have h := hform; cases xs <;> exact h)
  obtain ⟨n, hn⟩ : ∃ n : Nat, n = xs.txt.length := ⟨_, rfl⟩
  have HN : Hid (xs.txt.length = n ∧ n ≤ 14680064) := ⟨hn.symm, by omega⟩
  have HF0 := Lib.hid hform
  have HX0 : Hid (xs.txt = [] ++ (xs.drop 0).txt) := by show _ = _; rw [Pp.txt_drop0]; rfl
  have HA := Lib.hid hA; have HM := Lib.hid hm
  clear hq0 HV hA ht ha hform htl hn
  go_enter Tryd.func28, Tryd.ntmps28
  go_wp2_with fail
  refine (K0.out _ (by unfold Sees; go_grown)).mono ?_
  rintro e w1 ⟨rfl, hb⟩
  have B1 : Hid (Sees w w1) := Sees.below (by unfold Sees; go_grown) hb
  clear hb K0
  obtain ⟨B, hBe⟩ : ∃ B : Nat, B = w1.heap.size := ⟨_, rfl⟩
  have HBge : Hid (w.heap.size ≤ B) := by show _ ≤ _; rw [hBe]; exact B1.out.size
  have HB0 : Hid (Bld B [] (w1.alloc (.cells #[.pointer none, .slice none 0 0] 106))) := by rw [hBe]; exact Bld.fresh w1
  have HS0 : Hid (Sees w (w1.alloc (.cells #[.pointer none, .slice none 0 0] 106))) := B1.out.alloc _
  go_wp2_with fail
  rw [← hBe]
  clear hBe
  go_loopw [14] (fun i wr => ∃ (j : Nat) (pre : List UInt8), j ≤ xs.len ∧ i = .int .i64 j ∧ Hid (xs.txt = pre ++ (xs.drop j).txt) ∧ Hid ((xs.drop j).form t a = true) ∧ Hid (Bld B pre wr) ∧ Hid (Sees w wr)) (fun i _ => xs.len - (intOf i).toNat)
  case atStart => exact ⟨0, [], Nat.zero_le _, rfl, HX0, HF0, HB0, HS0⟩
  case round =>
    obtain ⟨j, pre, hj, rfl, hx, hfo, hBl, hS⟩ := hrel
    clear HX0 HF0 B1 HB0 HS0
    by_cases hjl : j < xs.len
    · obtain ⟨c, p, rfl, hat⟩ := HA.out (by rintro rfl; simp [Pp.len] at hjl)
      obtain ⟨lk, ln, lf, rk, rn, rf, r, Alf, Clf, Arf, Crf, e1, e2, d0, d1, d2, hl_lf, d3, d4, d5, hl_rf⟩ := Pp.Lies.row hat hjl
      have c0 := kc hS.out d0; have c1 := kc hS.out d1; have c2 := kc hS.out d2; have c3 := kc hS.out d3; have c4 := kc hS.out d4; have c5 := kc hS.out d5
      have hnd := xs.nodes_drop j
      have hmm := HM.out
      have hfo0 := hfo.out
      have hx0 := hx.out
      rw [e1.out] at hnd hfo0 hx0
      have hn2 : lf.nodes ≤ 1048576 ∧ rf.nodes ≤ 1048576 := by simp only [Pp.nodes] at hnd; omega
      have hfo1 : (pairF t a lk ln lf rk rn rf && r.form t a) = true := hfo0
      rw [Bool.and_eq_true] at hfo1
      have HFO : Hid ((xs.drop (j + 1)).form t a = true) := by show _ = _; rw [e2.out]; exact hfo1.2
      have HX : Hid (xs.txt = (pre ++ pairT lk ln lf rk rn rf) ++ (xs.drop (j + 1)).txt) := by show _ = _; rw [e2.out, List.append_assoc]; exact hx0
      have hle : (pre ++ pairT lk ln lf rk rn rf).length ≤ 14680064 := by
        have h1 := HX.out
        have h2 := HN.out
        have h3 := congrArg List.length h1
        rw [List.length_append] at h3
        omega
      have pf := pairF_both hfo1.1
      have hok := ndE_okD t a HT.out.1 HT.out.2 (lf.nodes + 1) lf (Nat.lt_succ_self _) false lk ln pf.1
      have hok2 := ndE_okD t a HT.out.1 HT.out.2 (rf.nodes + 1) rf (Nat.lt_succ_self _) false rk rn pf.2
      have hsz := ndE_size lf lk ln
      have hsz2 := ndE_size rf rk rn
      obtain ⟨l1, hl1⟩ : ∃ l, l = pre ++ (ndE lf lk ln).tx := ⟨_, rfl⟩
      obtain ⟨l2, hl2⟩ : ∃ l, l = l1 ++ [32, 61, 32] := ⟨_, rfl⟩
      obtain ⟨l3, hl3⟩ : ∃ l, l = l2 ++ (ndE rf rk rn).tx := ⟨_, rfl⟩
      obtain ⟨l4, hl4⟩ : ∃ l, l = l3 ++ [10] := ⟨_, rfl⟩
      have e3 : pre ++ pairT lk ln lf rk rn rf = l4 := by rw [hl4, hl3, hl2, hl1]; unfold pairT; simp only [List.append_assoc]
      rw [e3] at HX hle
      have g3 : l3.length ≤ 14680064 := by rw [hl4, List.length_append] at hle; omega
      have g2 : l2.length ≤ 14680064 := by rw [hl3, List.length_append] at g3; omega
      have g1 : l1.length ≤ 14680064 := by rw [hl2, List.length_append] at g2; omega
      have g0 : pre.length ≤ 14680064 := by rw [hl1, List.length_append] at g1; omega
      obtain ⟨v1, hv1⟩ : ∃ v : Value, v = (ndE lf lk ln).val := ⟨_, rfl⟩
      obtain ⟨v2, hv2⟩ : ∃ v : Value, v = (ndE rf rk rn).val := ⟨_, rfl⟩
      have N1 : Hid (∀ W : World, Sees w W → Calls Tryd.prog 59 #[.agg #[.int .i64 lk, .int .i64 ln, .slice Alf lf.len Clf]] W fun e w' => e = .returned v1 ∧ Below W.heap.size W w') := fun W h => by
        rw [hv1]; exact nodeOf_any (lf.nodes + 1) lf (Nat.lt_succ_self _) hn2.1 t a false lk ln Alf Clf W (hl_lf.sees h) pf.1
      have N2 : Hid (∀ W : World, Sees w W → Calls Tryd.prog 59 #[.agg #[.int .i64 rk, .int .i64 rn, .slice Arf rf.len Crf]] W fun e w' => e = .returned v2 ∧ Below W.heap.size W w') := fun W h => by
        rw [hv2]; exact nodeOf_any (rf.nodes + 1) rf (Nat.lt_succ_self _) hn2.2 t a false rk rn Arf Crf W (hl_rf.sees h) pf.2
      have W1 : Hid (∀ W : World, Bld B pre W → Calls Tryd.prog 58 #[.pointer (some ⟨B, 0, none⟩), v1] W fun e w' => e = .returned (.tuple #[]) ∧ Wrote B l1 W w') := fun W hW => by
        rw [hl1, hv1]; exact writeNode_any _ hok B pre W (by omega) hW
      have W2 : Hid (∀ W : World, Bld B l2 W → Calls Tryd.prog 58 #[.pointer (some ⟨B, 0, none⟩), v2] W fun e w' => e = .returned (.tuple #[]) ∧ Wrote B l3 W w') := fun W hW => by
        rw [hl3, hv2]; exact writeNode_any _ hok2 B l2 W (by omega) hW
      have K1 : Hid (∀ W : World, Bld B l1 W → Calls Tryd.prog 60 #[.pointer (some ⟨B, 0, none⟩), .string ⟨#[32, 61, 32]⟩] W fun e w' => (∃ z, e = .returned (.tuple #[.int .i64 z, .nilIface])) ∧ Wrote B l2 W w') := fun W hW => by rw [hl2]; exact write_any [32, 61, 32] hW (by simp only [List.length_cons, List.length_nil]; omega)
      have K2 : Hid (∀ W : World, Bld B l3 W → Calls Tryd.prog 60 #[.pointer (some ⟨B, 0, none⟩), .string ⟨#[10]⟩] W fun e w' => (∃ z, e = .returned (.tuple #[.int .i64 z, .nilIface])) ∧ Wrote B l4 W w') := fun W hW => by rw [hl4]; exact write_any [10] hW (by simp only [List.length_cons, List.length_nil]; omega)
      have JL := Lib.hid hjl
      have j0 : (0 : Int) ≤ (j : Int) := Int.natCast_nonneg _
      have j1 : (j : Int) < (xs.len : Int) := by omega
      have HBK : Hid (Bld B pre (wr.alloc (.cells #[.int .i64 lk, .int .i64 ln, .slice Alf lf.len Clf, .int .i64 rk, .int .i64 rn, .slice Arf rf.len Crf] 101))) := hBl.out.alloc _
      have HSK : Hid (Sees w (wr.alloc (.cells #[.int .i64 lk, .int .i64 ln, .slice Alf lf.len Clf, .int .i64 rk, .int .i64 rn, .slice Arf rf.len Crf] 101))) := hS.out.alloc _
      have HBX : Hid ((wr.alloc (.cells #[.int .i64 lk, .int .i64 ln, .slice Alf lf.len Clf, .int .i64 rk, .int .i64 rn, .slice Arf rf.len Crf] 101)).heap[wr.heap.size]? = some (.cells #[.int .i64 lk, .int .i64 ln, .slice Alf lf.len Clf, .int .i64 rk, .int .i64 rn, .slice Arf rf.len Crf] 101 (0, 0))) := heap_new _ _ _ rfl
      have hne : wr.heap.size ≠ B := by have := hBl.out.lt; omega
      clear hat d0 d1 d2 d3 d4 d5 hl_lf hl_rf hnd hmm hfo0 hx0 hn2 hfo1 hle pf hok hok2 hsz hsz2 hl1 hl2 hl3 hl4 e3 g0 g1 g2 g3 hv1 hv2 hx hfo hS hBl e1 e2 hjl
      go_wp2_with fail
      clear c0 c1 c2 c3 c4 c5
      refine (N1.out _ HSK.out).mono ?_
      rintro e w2 ⟨rfl, hb⟩
      have HQ2 := Lib.hid (And.intro (HBK.out.belowB hb) (And.intro (HSK.out.below hb) ((hb.block _ (by simp)).trans HBX.out)))
      clear hb HBK HSK HBX N1
      go_wp2_with fail
      refine (W1.out _ HQ2.out.1).mono ?_
      rintro e w3 ⟨rfl, hw⟩
      have HQ3 := Lib.hid (And.intro hw.bld (And.intro (sees_behindB HQ2.out.2.1 hw.below HBge.out) (hw.one HQ2.out.2.2 (by decide) hne)))
      clear hw HQ2 W1
      go_wp2_with fail
      refine (K1.out _ HQ3.out.1).mono ?_
      rintro e w4 ⟨⟨z1, rfl⟩, hw⟩
      have HQ4 := Lib.hid (And.intro hw.bld (And.intro (sees_behindB HQ3.out.2.1 hw.below HBge.out) (hw.one HQ3.out.2.2 (by decide) hne)))
      clear hw HQ3 K1
      obtain ⟨c0, c1, c2, c3, c4, c5⟩ := six_of HQ4.out.2.2
      go_wp2_with fail
      clear c0 c1 c2 c3 c4 c5
      refine (N2.out _ HQ4.out.2.1).mono ?_
      rintro e w5 ⟨rfl, hb⟩
      have HQ5 := Lib.hid (And.intro (HQ4.out.1.belowB hb) (HQ4.out.2.1.below hb))
      clear hb HQ4 N2
      go_wp2_with fail
      refine (W2.out _ HQ5.out.1).mono ?_
      rintro e w6 ⟨rfl, hw⟩
      have HQ6 := Lib.hid (And.intro hw.bld (sees_behindB HQ5.out.2 hw.below HBge.out))
      clear hw HQ5 W2
      go_wp2_with fail
      refine (K2.out _ HQ6.out.1).mono ?_
      rintro e w7 ⟨⟨z2, rfl⟩, hw⟩
      have HQ7 := Lib.hid hw.bld
      have HQ8 := Lib.hid (sees_behindB HQ6.out.2 hw.below HBge.out)
      clear hw HQ6 K2
      go_wp2_with fail
      go_roundw
      case rel => exact ⟨j + 1, l4, JL.out, by go_num, HX, HFO, HQ7, HQ8⟩
      case measure => have := JL.out; simp [intOf]; omega
    · obtain rfl : j = xs.len := by omega
      have HE : Hid (pre = xs.txt) := by show _ = _; rw [hx.out, Pp.drop_len]; show pre = pre ++ []; rw [List.append_nil]
      have KS : Hid (Calls Tryd.prog 61 #[.pointer (some ⟨B, 0, none⟩)] wr fun e w' => e = .returned (.string ⟨pre.toArray⟩) ∧ Below B wr w') := string_any hBl.out
      clear hx hfo
      go_wp2_with fail
      refine KS.out.mono ?_
      rintro e w2 ⟨rfl, hb⟩
      have HQ := Lib.hid (sees_behindB hS.out hb HBge.out)
      clear hb
      go_wp2_with fail
      go_ret
      exact ⟨congrArg (fun l : List UInt8 => Ending.returned (.string ⟨l.toArray⟩)) HE.out, HQ.out⟩

end Go.Proofs.YtojheipllpkgdaaDoor
