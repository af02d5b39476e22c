/- Contract of impl.ReplaceActions. -/
import Derived.Test.YtdcaelgojjnglaaRepA
namespace Go.Proofs.Ytdcaelgojjnglaa
open Go.RowKit

set_option maxRecDepth 100000 in
set_option maxHeartbeats 4000000 in
theorem implReplaceActions_any (t a k n : Int) (f B : Fo) (_hf : f.Fits) (hBf : B.Fits) (h0 : f.nodes ≤ 1048576) (hB : B.nodes ≤ 1048576) (A : Option Addr) (C : Nat) (P : Option Addr) (D : Nat) (w : World) (hl : f.Lies w A) (hp : B.Lies w P) :
    Calls Try.prog 34 #[.agg #[.int .i64 t, .int .i64 a], .agg #[.int .i64 k, .int .i64 n, .slice A f.len C], .slice P B.len D] w (XEnd (rpK t a k n f B) (rpN t a k n f B) (rpF t a k n f B) (rpC t a k n f B) w) := by
  unfold rpK rpN rpF rpC
  obtain ⟨O, hO⟩ : ∃ O, O = rpO t a k n f B := ⟨_, rfl⟩
  rw [← hO]
  have HO := Lib.hid hO
  clear hO
  obtain ⟨q1, hq1⟩ : ∃ q1 : Bool, q1 = validE t a k n f := ⟨_, rfl⟩
  have hlB := B.len_le_nodes
  have K1 : Hid (∀ W : World, St w [(w.heap.size, 0, .int .i64 t), (w.heap.size, 1, .int .i64 a), (w.heap.size + 1, 0, .int .i64 k), (w.heap.size + 1, 1, .int .i64 n), (w.heap.size + 1, 2, .slice A f.len C)] W → Calls Try.prog 52 #[.agg #[.int .i64 t, .int .i64 a], .agg #[.int .i64 k, .int .i64 n, .slice A f.len C]] W fun e w' => e = .returned (.bool q1) ∧ Below W.heap.size W w') :=
    fun W h => by rw [hq1]; exact implValidExpr_any t a k n f h0 A C W (hl.sees h.1)
  cases q1
  · rw [show O = (0, 0, .nil, 1) from HO.out.trans (rp_bad (by rw [← hq1]; simp))]
    clear hq1
    have HP := Lib.hid hp
    clear hp
    go_enter Try.func34, Try.ntmps34
    go_wp2_with fail
    refine (K1.out _ ⟨(by unfold Sees; go_grown), (by simp [go_sem]), (by simp [go_sem]), (by simp [go_sem]), (by simp [go_sem]), (by simp [go_sem]), trivial⟩).mono ?_
    rintro e w1 ⟨rfl, hb⟩
    have H1 : Hid (St w [(w.heap.size, 0, .int .i64 t), (w.heap.size, 1, .int .i64 a), (w.heap.size + 1, 0, .int .i64 k), (w.heap.size + 1, 1, .int .i64 n), (w.heap.size + 1, 2, .slice A f.len C)] w1) := St.below (l := [(w.heap.size, 0, .int .i64 t), (w.heap.size, 1, .int .i64 a), (w.heap.size + 1, 0, .int .i64 k), (w.heap.size + 1, 1, .int .i64 n), (w.heap.size + 1, 2, .slice A f.len C)]) ⟨(by unfold Sees; go_grown), (by simp [go_sem]), (by simp [go_sem]), (by simp [go_sem]), (by simp [go_sem]), (by simp [go_sem]), trivial⟩ hb
    have HBr : w1.heap[w.heap.size + 2]? = some (.cells #[.int .i64 0, .int .i64 0, .slice none 0 0] 35 (0, 0)) := (hb.block _ (by simp)).trans (heap_new _ _ _ (by simp))
    clear hb
    obtain ⟨r0, r1, r2, g0, g1, g2⟩ := cells3 HBr
    have zr : w.heap.size + 2 < w1.heap.size := (Array.getElem?_eq_some_iff.1 HBr).1
    obtain ⟨sS, s0, s1, s2, s3, s4, _⟩ := H1.out
    go_wp2_with fail
    have HBF : (((w1.setCell ⟨w.heap.size + 2, 0, none⟩ (.int .i64 0)).setCell ⟨w.heap.size + 2, 1, none⟩ (.int .i64 0)).setCell ⟨w.heap.size + 2, 2, none⟩ (.slice none 0 0)).heap[w.heap.size + 2]? = some (.cells #[(.int .i64 0), (.int .i64 0), .slice none 0 0] 35 (0, 0)) := by
      rw [Fo.block_setCell (Fo.block_setCell (Fo.block_setCell HBr _) _) _]; rfl
    obtain ⟨d0, d1, d2, _⟩ := cells3 HBF
    refine bodyPost_ret (v := .tuple #[.agg #[(.int .i64 0), (.int .i64 0), .slice none 0 0], .int .i64 1]) (by simp [results, Try.results34, go_sem, d0, d1, d2]) rfl ?_
    exact ⟨none, 0, rfl, Fo.XIn.nil (by simp; omega) _, Below.setCell (Below.setCell (Below.setCell sS (by show w.heap.size ≤ w.heap.size + 1 + 1; omega) _) (by show w.heap.size ≤ w.heap.size + 1 + 1; omega) _) (by show w.heap.size ≤ w.heap.size + 1 + 1; omega) _⟩
  · have hv := Lib.hid hq1.symm
    have K5 : Hid (∀ W : World, Sees w W → Calls Try.prog 62 #[.agg #[.int .i64 k, .int .i64 n, .slice A f.len C]] W fun e w' => e = .returned (ndE f k n).val ∧ Below W.heap.size W w') :=
      fun W h => nodeOf_any (f.nodes + 1) f (Nat.lt_succ_self _) h0 t a false k n A C W (hl.sees h) (validE_parts0 hv.out)
    clear hq1
    have HP := Lib.hid hp
    clear hp
    obtain ⟨i0, hi0, hz0, hs0, hb0⟩ := info_parts Try.infoNd
    have HI := Lib.hid hi0; have HZ := Lib.hid hz0; have HS := Lib.hid hs0; have HB := Lib.hid hb0
    clear hi0 hz0 hs0 hb0
    go_enter Try.func34, Try.ntmps34
    go_wp2_with fail
    refine (K1.out _ ⟨(by unfold Sees; go_grown), (by simp [go_sem]), (by simp [go_sem]), (by simp [go_sem]), (by simp [go_sem]), (by simp [go_sem]), trivial⟩).mono ?_
    rintro e w1 ⟨rfl, hb⟩
    have H1 : Hid (St w [(w.heap.size, 0, .int .i64 t), (w.heap.size, 1, .int .i64 a), (w.heap.size + 1, 0, .int .i64 k), (w.heap.size + 1, 1, .int .i64 n), (w.heap.size + 1, 2, .slice A f.len C)] w1) := St.below (l := [(w.heap.size, 0, .int .i64 t), (w.heap.size, 1, .int .i64 a), (w.heap.size + 1, 0, .int .i64 k), (w.heap.size + 1, 1, .int .i64 n), (w.heap.size + 1, 2, .slice A f.len C)]) ⟨(by unfold Sees; go_grown), (by simp [go_sem]), (by simp [go_sem]), (by simp [go_sem]), (by simp [go_sem]), (by simp [go_sem]), trivial⟩ hb
    have HBr : w1.heap[w.heap.size + 2]? = some (.cells #[.int .i64 0, .int .i64 0, .slice none 0 0] 35 (0, 0)) := (hb.block _ (by simp)).trans (heap_new _ _ _ (by simp))
    have HE1 : w1.heap[w.heap.size + 1]? = some (.cells #[.int .i64 k, .int .i64 n, .slice A f.len C] 35 (0, 0)) := (hb.block _ (by simp <;> omega)).trans ((Below.heap_alloc _ _ _ (by simp <;> omega)).trans (heap_new _ _ _ (by simp)))
    have HS1 : w1.heap[w.heap.size]? = some (.cells #[.int .i64 t, .int .i64 a] 31 (0, 0)) := (hb.block _ (by simp <;> omega)).trans ((Below.heap_alloc _ _ _ (by simp <;> omega)).trans ((Below.heap_alloc _ _ _ (by simp <;> omega)).trans (heap_new _ _ _ rfl)))
    clear hb
    obtain ⟨r0, r1, r2, g0, g1, g2⟩ := cells3 HBr
    have zr : w.heap.size + 2 < w1.heap.size := (Array.getElem?_eq_some_iff.1 HBr).1
    obtain ⟨sS, s0, s1, s2, s3, s4, _⟩ := H1.out
    go_wp2_with fail
    have HSg := Lib.hid HS1; have HEx := Lib.hid HE1; have HRs := Lib.hid HBr; have HSs := Lib.hid sS
    clear HS1 HE1
    go_loopw [21] (fun i wr => ∃ j : Nat, j ≤ B.len ∧ i = .int .i64 j ∧ Hid (validL t a B = validL t a (B.drop j)) ∧ Hid (Sees w1 wr)) (fun i _ => B.len - (intOf i).toNat)
    case atStart => exact ⟨0, Nat.zero_le _, rfl, by show _ = _; rw [Fo.drop_zero], Sees.refl _⟩
    case round =>
      obtain ⟨j, hj, rfl, hV, hT⟩ := hrel
      clear H1 HBr r0 r1 r2 g0 g1 g2 sS s0 s1 s2 s3 s4 K1
      have hSS : Sees w wr := HSs.out.below hT.out
      have zt : w1.heap.size ≤ wr.heap.size := hT.out.size
      have hBr := (hT.out.block _ zr).trans HRs.out
      have hSg := (hT.out.block _ (by omega)).trans HSg.out
      obtain ⟨r0, r1, r2, g0, g1, g2⟩ := cells3 hBr
      have s0 : wr.cell? ⟨w.heap.size, 0, none⟩ = some (.int .i64 t) := Fo.cell_of_block hSg 0
      have s1 : wr.cell? ⟨w.heap.size, 1, none⟩ = some (.int .i64 a) := Fo.cell_of_block hSg 1
      have y0 : w.heap.size + 1 + 1 < wr.heap.size := by omega
      have y2 : w.heap.size < wr.heap.size := by omega
      by_cases hjl : j < B.len
      · obtain ⟨k1, n1, f1, r, hd, _⟩ := B.drop_lt j hjl
        obtain ⟨b', o', rfl, hat⟩ := HP.out (by rintro rfl; simp [Fo.len] at hjl)
        have hat2 := Fo.at_drop hat j
        rw [hd] at hat2
        obtain ⟨c0, c1, ⟨A', C', c2, hl2'⟩, _⟩ := hat2
        have hl2 : f1.Lies w A' := hl2'
        have hnd := B.nodes_drop j
        rw [hd] at hnd
        simp only [Fo.nodes] at hnd
        obtain ⟨q2, hq2⟩ : ∃ q2 : Bool, q2 = validE t a k1 n1 f1 := ⟨_, rfl⟩
        have K2 : Hid (∀ W : World, Sees w1 W → Calls Try.prog 52 #[.agg #[.int .i64 t, .int .i64 a], .agg #[.int .i64 k1, .int .i64 n1, .slice A' f1.len C']] W fun e w' => e = .returned (.bool q2) ∧ Below W.heap.size W w') :=
          fun W h1 => by rw [hq2]; exact implValidExpr_any t a k1 n1 f1 (by omega) A' C' W (hl2.sees (HSs.out.below h1))
        have hV2 : Hid (validL t a B = (q2 && validL t a (B.drop (j + 1)))) := by show _ = _; rw [hV.out, validL_row hd, hq2]
        have m0 : (0 : Int) ≤ (j : Int) := Int.natCast_nonneg _
        have m1 : (j : Int) < (B.len : Int) := by omega
        have JL := Lib.hid hjl
        have d0 := kc hSS c0
        have d1 := kc hSS c1
        have d2 := kc hSS c2
        clear hq2 hd hat c0 c1 c2 hl2 hl2' hnd hV hjl
        go_wp2_with fail
        refine (K2.out _ (hT.out.alloc _)).mono ?_
        rintro e w2 ⟨rfl, hb⟩
        have HT2 := Lib.hid ((hT.out.alloc (.cells #[.int .i64 k1, .int .i64 n1, .slice A' f1.len C'] 35)).below hb)
        have S2 : Sees w w2 := HSs.out.below HT2.out
        have HB2 := (HT2.out.block _ zr).trans HRs.out
        clear r0 r1 r2 g0 g1 g2 hBr hSg s0 s1 hT hb K2 d0 d1 d2
        obtain ⟨r0, r1, r2, g0, g1, g2⟩ := cells3 HB2
        cases q2
        · have HOX : Hid (O = (0, 0, .nil, 1)) := HO.out.trans (rp_bad (by rw [hV2.out]; simp))
          clear hV2
          go_wp2_with fail
          have HBF : (((w2.setCell ⟨w.heap.size + 2, 0, none⟩ (.int .i64 0)).setCell ⟨w.heap.size + 2, 1, none⟩ (.int .i64 0)).setCell ⟨w.heap.size + 2, 2, none⟩ (.slice none 0 0)).heap[w.heap.size + 2]? = some (.cells #[(.int .i64 0), (.int .i64 0), .slice none 0 0] 35 (0, 0)) := by
            rw [Fo.block_setCell (Fo.block_setCell (Fo.block_setCell HB2 _) _) _]; rfl
          obtain ⟨d0, d1, d2, _⟩ := cells3 HBF
          refine bodyPost_ret (v := .tuple #[.agg #[(.int .i64 0), (.int .i64 0), .slice none 0 0], .int .i64 1]) (by simp [results, Try.results34, go_sem, d0, d1, d2]) rfl ?_
          rw [HOX.out]
          exact ⟨none, 0, rfl, Fo.XIn.nil (by have := HT2.out.size; simp; omega) _, Below.setCell (Below.setCell (Below.setCell S2 (by show w.heap.size ≤ w.heap.size + 1 + 1; omega) _) (by show w.heap.size ≤ w.heap.size + 1 + 1; omega) _) (by show w.heap.size ≤ w.heap.size + 1 + 1; omega) _⟩
        · have hV3 : Hid (validL t a B = validL t a (B.drop (j + 1))) := by show _ = _; rw [hV2.out]; rfl
          clear hV2
          go_wp2_with fail
          go_roundw
          case rel => exact ⟨j + 1, JL.out, by go_num, hV3, HT2.out⟩
          case measure => have := JL.out; simp [intOf]; omega
      · obtain rfl : j = B.len := by omega
        have hV2 : Hid (validL t a B = true) := by show _ = _; rw [hV.out, Fo.drop_len]; rfl
        clear hV
        by_cases hlen : (B.len : Int) = a
        · have tl : ((B.len : Int) != a) = false := by simp [hlen]
          have HLn := Lib.hid hlen
          clear hlen
          obtain ⟨wp, rfl⟩ : ∃ wp, wp = wr := ⟨_, rfl⟩
          have hEx := (hT.out.block _ (by omega)).trans HEx.out
          have HBr2 := Lib.hid hBr; have HSg2 := Lib.hid hSg; have HEx2 := Lib.hid hEx; have HSS2 := Lib.hid hSS
          go_wp2_with fail
          go_loopw [10, 39] (fun x i wr => ∃ (j : Nat) (v : Value), j ≤ B.len ∧ x = v ∧ i = .int .i64 j ∧ Hid (wr.ownsRow wp.heap.size 95 1 v j (nvals B j)) ∧ Hid (Sees wp wr)) (fun _ i _ => B.len - (intOf i).toNat)
          case atStart => exact ⟨0, .slice none 0 0, Nat.zero_le _, rfl, rfl, by show World.ownsRow _ _ _ _ _ _ _; exact World.ownsRow_nil _ _ _ _, Sees.refl _⟩
          case round =>
            obtain ⟨j, v, hj2, rfl, rfl, hOw, hT2⟩ := hrel
            clear r0 r1 r2 g0 g1 g2 s0 s1 hBr hSg hEx hSS
            have hSS : Sees w wr := HSS2.out.below hT2.out
            have zt2 : wp.heap.size ≤ wr.heap.size := hT2.out.size
            by_cases hjl : j < B.len
            · obtain ⟨k1, n1, f1, r, hd, _⟩ := B.drop_lt j hjl
              obtain ⟨b', o', rfl, hat⟩ := HP.out (by rintro rfl; simp [Fo.len] at hjl)
              have hat2 := Fo.at_drop hat j
              rw [hd] at hat2
              obtain ⟨c0, c1, ⟨A', C', c2, hl2'⟩, _⟩ := hat2
              have hl2 : f1.Lies w A' := hl2'
              have hnd := B.nodes_drop j
              rw [hd] at hnd
              simp only [Fo.nodes] at hnd
              have htr := tree_drop B j (validL_tree B hV2.out)
              rw [hd, Fo.tree_cons, Bool.and_eq_true] at htr
              obtain ⟨T1, x1, hvv⟩ := Nd.val_if (ndE f1 k1 n1)
              have K2 : Hid (∀ W : World, Sees w W → Calls Try.prog 62 #[.agg #[.int .i64 k1, .int .i64 n1, .slice A' f1.len C']] W fun e w' => e = .returned (.iface T1 x1) ∧ Below W.heap.size W w') :=
                fun W h => by rw [← hvv]; exact nodeOf_any (f1.nodes + 1) f1 (Nat.lt_succ_self _) (by omega) t a false k1 n1 A' C' W (hl2.sees h) htr.1
              have HNV : Hid (nvals B (j + 1) = nvals B j ++ [.iface T1 x1]) := by show _ = _; rw [nvals_succ hd, hvv]
              have m0 : (0 : Int) ≤ (j : Int) := Int.natCast_nonneg _
              have m1 : (j : Int) < (B.len : Int) := by omega
              have JL := Lib.hid hjl
              have d0 := kc hSS c0
              have d1 := kc hSS c1
              have d2 := kc hSS c2
              clear hvv hd hat c0 c1 c2 hl2 hl2' hnd hjl htr
              go_wp2_with fail
              refine (K2.out _ (hSS.alloc _)).mono ?_
              rintro e w2 ⟨rfl, hb⟩
              have hba : Below wr.heap.size wr w2 := Below.trans ((Below.refl _ _).alloc (Nat.le_refl _) _) (hb.mono (by simp))
              have HT3 := Lib.hid (hT2.out.below hba)
              have HOW := Lib.hid (hOw.out.kept ⟨hba.os, hba.tape, hba.output, hba.size, fun k hk _ => hba.block k hk⟩ (row := none) (ob_or _))
              have HOW2 := Lib.hid (HOW.out.kept (w' := w2.alloc (.cells #[.iface T1 x1] 95)) ⟨rfl, rfl, rfl, by simp, fun k hk _ => Below.heap_alloc _ _ _ hk⟩ (row := none) (ob_or _))
              have z2 : wr.heap.size ≤ w2.heap.size := hba.size
              clear hb hba hOw hT2 d0 d1 d2 K2
              go_wp2_with (at_builtin; refine wpList_append_own_at _ rfl _ _ 93 rfl wp.heap.size 95 i0 .nilIface 1 16 Try.underlying93 HI.out HZ.out HS.out HB.out rfl (by decide) _ _ _ rfl HOW2.out ⟨w2.heap.size, 0, none⟩ 1 1 [.iface T1 x1] rfl rfl ?c1 ?c2 ?c3 ?c4 ?c5 ?_)
              case c1 =>
                intro i u hi
                match i, hi with
                | 0, hi => simp at hi; subst hi; simp [Addr.add]
              case c2 => intro u hu; simp at hu; subst hu; rfl
              case c3 => unfold maxLen; omega
              case c4 => omega
              case c5 => simp; omega
              intro v' w3 hown' hgrow _ hor
              have HT4 := Lib.hid (show Sees wp w3 from Below.grown (Sees.alloc HT3.out _) hgrow (by simp; omega) (fun x hx => (HOW2.out.lt x hx).1))
              have HOW4 : Hid (w3.ownsRow wp.heap.size 95 1 v' (j + 1) (nvals B (j + 1))) := by rw [HNV.out]; exact hown'
              clear hown' hgrow hor HOW HOW2 HT3
              go_wp2_with fail
              go_roundw
              case rel => exact ⟨j + 1, v', JL.out, rfl, by go_num, HOW4, HT4⟩
              case measure => have := JL.out; simp [intOf]; omega
            · obtain rfl : j = B.len := by omega
              obtain ⟨P2, D2, rfl, hN⟩ := own_nds hOw.out
              obtain ⟨K, N, F, hz⟩ : ∃ K N F, Fo.replE B k n f = (K, N, F) := ⟨_, _, _, rfl⟩
              have htz : treeE t a false K N F = true := by
                have h := Fo.replE_tree (validL_tree B hV2.out) HLn.out (validE_parts0 hv.out)
                rw [hz] at h; exact h
              have hrp := ndE_repl HLn.out (f.nodes + 1) f (Nat.lt_succ_self _) false k n (validE_parts0 hv.out)
              rw [hz] at hrp
              have hnz := Fo.replE_nodes B (validL_most B hV2.out) (by decide) k n f
              rw [hz] at hnz
              have hfn : 1 + f.nodes ≤ 200 := by have h := hv.out; unfold validE at h; simp only [Bool.and_eq_true, decide_eq_true_eq] at h; exact h.1.1.2
              have hF : F.nodes ≤ 1048576 := by
                have h2 : (1 + f.nodes) * 200 ≤ 200 * 200 := Nat.mul_le_mul_right _ hfn
                have h3 : 1 + F.nodes ≤ (1 + f.nodes) * 200 := hnz
                omega
              have hzs := ndE_size F K N
              obtain ⟨e1, e2, e3⟩ := ndE_all htz
              obtain ⟨v1, hv1⟩ : ∃ v : Value, v = (ndE f k n).val := ⟨_, rfl⟩
              obtain ⟨v2, hv2⟩ : ∃ v : Value, v = (ndE F K N).val := ⟨_, rfl⟩
              have K5' : Hid (∀ W : World, Sees w W → Calls Try.prog 62 #[.agg #[.int .i64 k, .int .i64 n, .slice A f.len C]] W fun e w' => e = .returned v1 ∧ Below W.heap.size W w') := by rw [hv1]; exact K5
              have K6 : Hid (∀ W : World, Sees wr W → Calls Try.prog 64 #[v1, .slice P2 (nds B).length D2] W fun e w' => e = .returned v2 ∧ Below W.heap.size W w') := fun W h => by
                have h6 := replaced_any (nds B) P2 D2 (by rw [nds_len]; omega) (ndE f k n) W (by rw [nds_len]; exact hrp.2) (by rw [hrp.1]; show (ndE F K N).size ≤ _; omega) (hN.sees h)
                rw [hrp.1, ← hv1] at h6
                rw [hv2]; exact h6
              have K7 : Hid (∀ W : World, Calls Try.prog 63 #[v2] W (ExEnd K N F W)) := fun W => by
                have h := exprOf_any (ndE F K N) W (by omega)
                rw [e1, e2, e3, ← hv2] at h
                exact h
              obtain ⟨q3, hq3⟩ : ∃ q3 : Bool, q3 = validE t a K N F := ⟨_, rfl⟩
              have K8 : Hid (∀ (W : World) (A1 : Option Addr), F.Lies W A1 → Calls Try.prog 52 #[.agg #[.int .i64 t, .int .i64 a], .agg #[.int .i64 K, .int .i64 N, .slice A1 F.len F.len]] W fun e w' => e = .returned (.bool q3) ∧ Below W.heap.size W w') :=
                fun W A1 h => by rw [hq3]; exact implValidExpr_any t a K N F hF A1 F.len W h
              have HQ : Hid (validE t a (Fo.replE B k n f).1 (Fo.replE B k n f).2.1 (Fo.replE B k n f).2.2 = q3) := by show _ = _; rw [hq3, hz]
              have HZ := Lib.hid hz
              have hEx := (hT2.out.block _ (by omega)).trans HEx2.out
              have hBr := (hT2.out.block _ y0).trans HBr2.out
              have hSg := (hT2.out.block _ y2).trans HSg2.out
              obtain ⟨c0, c1, c2, _⟩ := cells3 hEx
              clear hz htz hrp hnz hfn hF hzs e1 e2 e3 hv1 hv2 hq3 K5 hN hOw
              go_wp2_with fail
              refine (K5'.out _ hSS).mono ?_
              rintro e w2 ⟨rfl, hb2⟩
              have z2 := hb2.size
              go_wp2_with fail
              refine (K6.out _ hb2).mono ?_
              rintro e w3 ⟨rfl, hb3⟩
              have hb3' := Below.trans hb2 (hb3.mono z2)
              have z3 := hb3.size
              clear hb2 hb3 c0 c1 c2
              go_wp2_with fail
              refine (K7.out _).mono ?_
              rintro e w4 ⟨A1, rfl, hX, hb4⟩
              have hb4' := Below.trans hb3' (hb4.mono (by omega))
              have z4 := hb4.size
              have S4 : Sees w w4 := hSS.below hb4'
              have HR4 := (hb4'.block _ (by omega)).trans hBr
              have HG4 := (hb4'.block _ (by omega)).trans hSg
              have HX := Lib.hid hX
              clear hX hb4 hb4' hb3' hBr hSg hEx
              have s0 : w4.cell? ⟨w.heap.size, 0, none⟩ = some (.int .i64 t) := Fo.cell_of_block HG4 0
              have s1 : w4.cell? ⟨w.heap.size, 1, none⟩ = some (.int .i64 a) := Fo.cell_of_block HG4 1
              have y3 : w.heap.size < w4.heap.size := by omega
              go_wp2_with fail
              refine (K8.out _ _ (HX.out.lies.alloc _)).mono ?_
              rintro e w5 ⟨rfl, hb⟩
              have S5 : Sees w w5 := Sees.below (S4.alloc _) hb
              have HR5 := (hb.block (w.heap.size + 2) (by simp; omega)).trans ((Below.heap_alloc _ _ _ (by omega)).trans HR4)
              have HO5 := (hb.block w4.heap.size (by simp)).trans (heap_new _ _ _ rfl)
              have HX5 : Hid (F.XIn w5 w3.heap.size w4.heap.size A1) := (HX.out.agree (Fo.Agree.of_below ((Below.refl _ _).alloc (Nat.le_refl _) _))).agree ((Fo.Agree.of_below hb).mono (Nat.zero_le _) (by simp))
              have z5 := hb.size
              simp only [World.size_alloc] at z5
              clear hb s0 s1 HX K8
              obtain ⟨r0, r1, r2, g0, g1, g2⟩ := cells3 HR5
              obtain ⟨c0, c1, c2, _⟩ := cells3 HO5
              cases q3
              · have HOX : Hid (O = (0, 0, .nil, 3)) := HO.out.trans (rp_lim hv.out hV2.out HLn.out HQ.out)
                go_wp2_with fail
                have HBF : (((w5.setCell ⟨w.heap.size + 2, 0, none⟩ (.int .i64 0)).setCell ⟨w.heap.size + 2, 1, none⟩ (.int .i64 0)).setCell ⟨w.heap.size + 2, 2, none⟩ (.slice none 0 0)).heap[w.heap.size + 2]? = some (.cells #[(.int .i64 0), (.int .i64 0), .slice none 0 0] 35 (0, 0)) := by
                  rw [Fo.block_setCell (Fo.block_setCell (Fo.block_setCell HR5 _) _) _]; rfl
                obtain ⟨d0, d1, d2, _⟩ := cells3 HBF
                refine bodyPost_ret (v := .tuple #[.agg #[(.int .i64 0), (.int .i64 0), .slice none 0 0], .int .i64 3]) (by simp [results, Try.results34, go_sem, d0, d1, d2]) rfl ?_
                rw [HOX.out]
                exact ⟨none, 0, rfl, Fo.XIn.nil (by simp; omega) _, Below.setCell (Below.setCell (Below.setCell S5 (by show w.heap.size ≤ w.heap.size + 1 + 1; omega) _) (by show w.heap.size ≤ w.heap.size + 1 + 1; omega) _) (by show w.heap.size ≤ w.heap.size + 1 + 1; omega) _⟩
              · have HOX : Hid (O = (K, N, F, 0)) := HO.out.trans ((rp_yes hv.out hV2.out HLn.out HQ.out).trans (by rw [HZ.out]))
                go_wp2_with fail
                have HBF : (((w5.setCell ⟨w.heap.size + 2, 0, none⟩ (.int .i64 K)).setCell ⟨w.heap.size + 2, 1, none⟩ (.int .i64 N)).setCell ⟨w.heap.size + 2, 2, none⟩ (.slice A1 F.len F.len)).heap[w.heap.size + 2]? = some (.cells #[(.int .i64 K), (.int .i64 N), .slice A1 F.len F.len] 35 (0, 0)) := by
                  rw [Fo.block_setCell (Fo.block_setCell (Fo.block_setCell HR5 _) _) _]; rfl
                obtain ⟨d0, d1, d2, _⟩ := cells3 HBF
                refine bodyPost_ret (v := .tuple #[.agg #[(.int .i64 K), (.int .i64 N), .slice A1 F.len F.len], .int .i64 0]) (by simp [results, Try.results34, go_sem, d0, d1, d2]) rfl ?_
                rw [HOX.out]
                refine ⟨A1, F.len, rfl, ?_, Below.setCell (Below.setCell (Below.setCell S5 (by show w.heap.size ≤ w.heap.size + 1 + 1; omega) _) (by show w.heap.size ≤ w.heap.size + 1 + 1; omega) _) (by show w.heap.size ≤ w.heap.size + 1 + 1; omega) _⟩
                exact (HX5.out.agree (Fo.Agree.setCell (Fo.Agree.setCell (Fo.Agree.setCell (Fo.Agree.refl _ _ _) _ (Or.inl (by show w.heap.size + 2 < w3.heap.size; omega)) _) _ (Or.inl (by show w.heap.size + 2 < w3.heap.size; omega)) _) _ (Or.inl (by show w.heap.size + 2 < w3.heap.size; omega)) _)).mono (by omega) (by simp; omega)
        · have tl : ((B.len : Int) != a) = true := by rw [bne_iff_ne]; exact hlen
          have HOX : Hid (O = (0, 0, .nil, 2)) := HO.out.trans (rp_len hv.out hV2.out hlen)
          clear hlen
          go_wp2_with fail
          have HBF : (((wr.setCell ⟨w.heap.size + 2, 0, none⟩ (.int .i64 0)).setCell ⟨w.heap.size + 2, 1, none⟩ (.int .i64 0)).setCell ⟨w.heap.size + 2, 2, none⟩ (.slice none 0 0)).heap[w.heap.size + 2]? = some (.cells #[(.int .i64 0), (.int .i64 0), .slice none 0 0] 35 (0, 0)) := by
            rw [Fo.block_setCell (Fo.block_setCell (Fo.block_setCell hBr _) _) _]; rfl
          obtain ⟨d0, d1, d2, _⟩ := cells3 HBF
          refine bodyPost_ret (v := .tuple #[.agg #[(.int .i64 0), (.int .i64 0), .slice none 0 0], .int .i64 2]) (by simp [results, Try.results34, go_sem, d0, d1, d2]) rfl ?_
          rw [HOX.out]
          exact ⟨none, 0, rfl, Fo.XIn.nil (by simp; omega) _, Below.setCell (Below.setCell (Below.setCell hSS (by show w.heap.size ≤ w.heap.size + 1 + 1; omega) _) (by show w.heap.size ≤ w.heap.size + 1 + 1; omega) _) (by show w.heap.size ≤ w.heap.size + 1 + 1; omega) _⟩
end Go.Proofs.Ytdcaelgojjnglaa
