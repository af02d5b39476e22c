/- Contracts of spec.ReplaceActions, impl.ReplaceActions. -/
import Derived.Test.YtdcaelgojjnglaaPutS
import Derived.Test.YtdcaelgojjnglaaReplN
import Derived.Test.YtdcaelgojjnglaaOk
import Derived.Test.YtdcaelgojjnglaaValidI
import Derived.Test.YtdcaelgojjnglaaNodeOf
import Derived.Test.YtdcaelgojjnglaaEndE
import Derived.Test.YtdcaelgojjnglaaGenX
import Derived.Test.YtdcaelgojjnglaaQuietC
import Derived.Deep.DeepCutAuto
import Derived.Maps.AppendAt
namespace Go.Proofs.Ytdcaelgojjnglaa
open Go.RowKit

/-- What ReplaceActions answers. -/
def rpO (t a k n : Int) (f B : Fo) : Int × Int × Fo × Int :=
  if validE t a k n f = true ∧ validL t a B = true then (if (B.len : Int) = a then (if validE t a (Fo.replE B k n f).1 (Fo.replE B k n f).2.1 (Fo.replE B k n f).2.2 = true then ((Fo.replE B k n f).1, (Fo.replE B k n f).2.1, (Fo.replE B k n f).2.2, 0) else (0, 0, .nil, 3)) else (0, 0, .nil, 2)) else (0, 0, .nil, 1)
def rpK (t a k n : Int) (f B : Fo) : Int := (rpO t a k n f B).1
def rpN (t a k n : Int) (f B : Fo) : Int := (rpO t a k n f B).2.1
def rpF (t a k n : Int) (f B : Fo) : Fo := (rpO t a k n f B).2.2.1
def rpC (t a k n : Int) (f B : Fo) : Int := (rpO t a k n f B).2.2.2
theorem rp_bad {t a k n : Int} {f B : Fo} (h : ¬ (validE t a k n f = true ∧ validL t a B = true)) : rpO t a k n f B = (0, 0, .nil, 1) := if_neg h
theorem rp_len {t a k n : Int} {f B : Fo} (h1 : validE t a k n f = true) (h2 : validL t a B = true) (h : ¬ (B.len : Int) = a) : rpO t a k n f B = (0, 0, .nil, 2) := by unfold rpO; rw [if_pos ⟨h1, h2⟩, if_neg h]
theorem rp_lim {t a k n : Int} {f B : Fo} (h1 : validE t a k n f = true) (h2 : validL t a B = true) (h : (B.len : Int) = a) (h3 : validE t a (Fo.replE B k n f).1 (Fo.replE B k n f).2.1 (Fo.replE B k n f).2.2 = false) : rpO t a k n f B = (0, 0, .nil, 3) := by
  unfold rpO; rw [if_pos ⟨h1, h2⟩, if_pos h, if_neg (by rw [h3]; decide)]
theorem rp_yes {t a k n : Int} {f B : Fo} (h1 : validE t a k n f = true) (h2 : validL t a B = true) (h : (B.len : Int) = a) (h3 : validE t a (Fo.replE B k n f).1 (Fo.replE B k n f).2.1 (Fo.replE B k n f).2.2 = true) : rpO t a k n f B = ((Fo.replE B k n f).1, (Fo.replE B k n f).2.1, (Fo.replE B k n f).2.2, 0) := by
  unfold rpO; rw [if_pos ⟨h1, h2⟩, if_pos h, if_pos h3]
theorem validE_few {t a k n : Int} {f : Fo} (h : (200 : Int) < 1 + f.nodes) : validE t a k n f = false := by
  unfold validE; rw [decide_eq_false (p := 1 + f.nodes ≤ 200) (by omega)]; simp
theorem rpF_nodes (t a k n : Int) (f B : Fo) : (rpF t a k n f B).nodes ≤ 1048576 := by
  unfold rpF rpO
  split
  · split
    · split
      · rename_i h
        unfold validE at h
        simp only [Bool.and_eq_true, decide_eq_true_eq] at h
        show (Fo.replE B k n f).2.2.nodes ≤ _
        omega
      · exact Nat.zero_le _
    · exact Nat.zero_le _
  · exact Nat.zero_le _

theorem Try.infoNd : (Try.prog.info? 95).map (fun i => (i.zero, i.size, i.bytes)) = some (some .nilIface, 1, 16) := by kernel_rfl
theorem ob_or (v : Value) : v.ownBlock = none ∨ v.ownBlock ≠ none := by cases v.ownBlock <;> simp
/-- The first nodes of a list, as values. -/
def nvals (B : Fo) (j : Nat) : List Value := ((nds B).take j).map Nd.val
theorem nvals_len {B : Fo} {j : Nat} (h : j ≤ B.len) : (nvals B j).length = j := by
  have := nds_len B
  simp [nvals]; omega
theorem nds_row (B : Fo) : ∀ (j : Nat) {k n : Int} {ks r : Fo}, B.drop j = .cons k n ks r → (nds B)[j]? = some (ndE ks k n) := by
  induction B with
  | nil => intro j k n ks r h; cases j <;> cases h
  | cons k0 n0 ks0 r0 _ ih =>
    intro j k n ks r h
    cases j with
    | zero => cases h; rfl
    | succ j => exact ih j h
theorem nvals_succ {B : Fo} {j : Nat} {k n : Int} {ks r : Fo} (h : B.drop j = .cons k n ks r) : nvals B (j + 1) = nvals B j ++ [(ndE ks k n).val] := by
  unfold nvals
  rw [List.take_add_one, nds_row B j h]
  simp
theorem nvals_end (B : Fo) : nvals B B.len = (nds B).map Nd.val := by unfold nvals; rw [← nds_len B, List.take_length]
theorem own_nds {w : World} {base : Nat} {v : Value} {B : Fo} (h : w.ownsRow base 95 1 v B.len (nvals B B.len)) :
    ∃ A C, v = .slice A (nds B).length C ∧ NdsAt w (nds B) A := by
  obtain ⟨h1, h2⟩ := h
  rcases h2 with ⟨rfl, h0⟩ | ⟨g, cap, cur, rfl, hg, hh, hn, _, hs, ht⟩
  · have hx : (nds B) = [] := List.eq_nil_of_length_eq_zero (by rw [nds_len]; exact h0)
    exact ⟨none, 0, by rw [hx]; rfl, fun hne => absurd hx hne⟩
  · refine ⟨some ⟨g, 0, none⟩, cap, by rw [nds_len], fun _ => ⟨g, 0, rfl, fun i hi => ?_⟩⟩
    rw [nds_len] at hi
    rw [Nat.zero_add, Fo.cell_of_block hh, ← Array.getElem?_toList]
    have h3 : (cur.toList.take (B.len * 1))[i]? = (nvals B B.len)[i]? := by rw [ht]
    rw [List.getElem?_take, if_pos (by omega)] at h3
    rw [h3, nvals_end]
    have hi' : i < (nds B).length := by rw [nds_len]; exact hi
    simp [List.getD, hi']

set_option maxRecDepth 100000 in
set_option maxHeartbeats 4000000 in
theorem specReplaceActions_any (t a k n : Int) (f B : Fo) (hf : f.Fits) (hBf : B.Fits) (h0 : f.nodes ≤ 1048576) (hB : B.nodes ≤ 1048576) (A : Option Addr) (C : Nat) (P : Option Addr) (D : Nat) (w : World) (hl : f.Lies w A) (hp : B.Lies w P) :
    Calls Try.prog 32 #[.agg #[.int .i64 t, .int .i64 a], .agg #[.int .i64 k, .int .i64 n, .slice A f.len C], .slice P B.len D] w (LEnd (rpK t a k n f B) (rpN t a k n f B) (rpF t a k n f B) (rpC t a k n f B) w) := by
  unfold rpK rpN rpF rpC
  obtain ⟨O, hO⟩ : ∃ O, O = rpO t a k n f B := ⟨_, rfl⟩
  rw [← hO]
  have HO := Lib.hid hO
  clear hO
  obtain ⟨q1, hq1⟩ : ∃ q1 : Bool, q1 = validE t a k n f := ⟨_, rfl⟩
  have hlB := B.len_le_nodes
  have K1 : Hid (∀ W : World, St w [(w.heap.size, 0, .int .i64 t), (w.heap.size, 1, .int .i64 a), (w.heap.size + 1, 0, .int .i64 k), (w.heap.size + 1, 1, .int .i64 n), (w.heap.size + 1, 2, .slice A f.len C)] W → Calls Try.prog 54 #[.agg #[.int .i64 t, .int .i64 a], .pointer (some ⟨w.heap.size + 1, 0, none⟩)] W fun e w' => e = .returned (.bool q1) ∧ Below W.heap.size W w') :=
    fun W h => by rw [hq1]; exact l01Ok_any f h0 hf t a k n A C (w.heap.size + 1) 0 W (hl.sees h.1) h.2.2.2.1 h.2.2.2.2.1 h.2.2.2.2.2.1
  cases q1
  · rw [show O = (0, 0, .nil, 1) from HO.out.trans (rp_bad (by rw [← hq1]; simp))]
    clear hq1
    have HP := Lib.hid hp
    clear hp
    go_enter Try.func32, Try.ntmps32
    go_wp2_with fail
    refine (K1.out _ ⟨(by unfold Sees; go_grown), (by simp [go_sem]), (by simp [go_sem]), (by simp [go_sem]), (by simp [go_sem]), (by simp [go_sem]), trivial⟩).mono ?_
    rintro e w1 ⟨rfl, hb⟩
    have H1 : Hid (St w [(w.heap.size, 0, .int .i64 t), (w.heap.size, 1, .int .i64 a), (w.heap.size + 1, 0, .int .i64 k), (w.heap.size + 1, 1, .int .i64 n), (w.heap.size + 1, 2, .slice A f.len C)] w1) := St.below (l := [(w.heap.size, 0, .int .i64 t), (w.heap.size, 1, .int .i64 a), (w.heap.size + 1, 0, .int .i64 k), (w.heap.size + 1, 1, .int .i64 n), (w.heap.size + 1, 2, .slice A f.len C)]) ⟨(by unfold Sees; go_grown), (by simp [go_sem]), (by simp [go_sem]), (by simp [go_sem]), (by simp [go_sem]), (by simp [go_sem]), trivial⟩ hb
    have HBr : w1.heap[w.heap.size + 2]? = some (.cells #[.int .i64 0, .int .i64 0, .slice none 0 0] 35 (0, 0)) := (hb.block _ (by simp)).trans (heap_new _ _ _ (by simp))
    clear hb
    obtain ⟨r0, r1, r2, g0, g1, g2⟩ := cells3 HBr
    have zr : w.heap.size + 2 < w1.heap.size := (Array.getElem?_eq_some_iff.1 HBr).1
    obtain ⟨sS, s0, s1, s2, s3, s4, _⟩ := H1.out
    go_wp2_with fail
    have HBF : (((w1.setCell ⟨w.heap.size + 2, 0, none⟩ (.int .i64 0)).setCell ⟨w.heap.size + 2, 1, none⟩ (.int .i64 0)).setCell ⟨w.heap.size + 2, 2, none⟩ (.slice none 0 0)).heap[w.heap.size + 2]? = some (.cells #[(.int .i64 0), (.int .i64 0), .slice none 0 0] 35 (0, 0)) := by
      rw [Fo.block_setCell (Fo.block_setCell (Fo.block_setCell HBr _) _) _]; rfl
    obtain ⟨d0, d1, d2, _⟩ := cells3 HBF
    refine bodyPost_ret (v := .tuple #[.agg #[(.int .i64 0), (.int .i64 0), .slice none 0 0], .int .i64 1]) (by simp [results, Try.results32, go_sem, d0, d1, d2]) rfl ?_
    exact ⟨none, 0, rfl, Fo.LiesIn.nil _ _ _, Below.setCell (Below.setCell (Below.setCell sS (by show w.heap.size ≤ w.heap.size + 1 + 1; omega) _) (by show w.heap.size ≤ w.heap.size + 1 + 1; omega) _) (by show w.heap.size ≤ w.heap.size + 1 + 1; omega) _⟩
  · have hv := Lib.hid hq1.symm
    have K3 : Hid (∀ (W : World) (lb : Nat), (B.len : Int) = a → Sees w W → W.heap[w.heap.size + 1]? = some (.cells #[.int .i64 k, .int .i64 n, .slice A f.len C] 35 (0, 0)) → Box1 W lb 200 → Calls Try.prog 61 #[.pointer (some ⟨w.heap.size + 1, 0, none⟩), .slice P B.len D, .pointer (some ⟨lb, 0, none⟩)] W (PutEnd lb 200 (Fo.replE B k n f) W)) := fun W lb ha h hc hx => by
      obtain ⟨c0, c1, c2, _⟩ := cells3 hc
      exact l01Put_any B hB P D lb (f.nodes + 1) f (Nat.lt_succ_self _) h0 t a false k n A C (w.heap.size + 1) 0 200 W ha (validE_parts0 hv.out) (hl.sees h) (hp.sees h) hx (by omega) (by omega) c0 c1 c2
    clear hq1
    have HP := Lib.hid hp
    clear hp
    go_enter Try.func32, Try.ntmps32
    go_wp2_with fail
    refine (K1.out _ ⟨(by unfold Sees; go_grown), (by simp [go_sem]), (by simp [go_sem]), (by simp [go_sem]), (by simp [go_sem]), (by simp [go_sem]), trivial⟩).mono ?_
    rintro e w1 ⟨rfl, hb⟩
    have H1 : Hid (St w [(w.heap.size, 0, .int .i64 t), (w.heap.size, 1, .int .i64 a), (w.heap.size + 1, 0, .int .i64 k), (w.heap.size + 1, 1, .int .i64 n), (w.heap.size + 1, 2, .slice A f.len C)] w1) := St.below (l := [(w.heap.size, 0, .int .i64 t), (w.heap.size, 1, .int .i64 a), (w.heap.size + 1, 0, .int .i64 k), (w.heap.size + 1, 1, .int .i64 n), (w.heap.size + 1, 2, .slice A f.len C)]) ⟨(by unfold Sees; go_grown), (by simp [go_sem]), (by simp [go_sem]), (by simp [go_sem]), (by simp [go_sem]), (by simp [go_sem]), trivial⟩ hb
    have HBr : w1.heap[w.heap.size + 2]? = some (.cells #[.int .i64 0, .int .i64 0, .slice none 0 0] 35 (0, 0)) := (hb.block _ (by simp)).trans (heap_new _ _ _ (by simp))
    have HE1 : w1.heap[w.heap.size + 1]? = some (.cells #[.int .i64 k, .int .i64 n, .slice A f.len C] 35 (0, 0)) := (hb.block _ (by simp <;> omega)).trans ((Below.heap_alloc _ _ _ (by simp <;> omega)).trans (heap_new _ _ _ (by simp)))
    have HS1 : w1.heap[w.heap.size]? = some (.cells #[.int .i64 t, .int .i64 a] 31 (0, 0)) := (hb.block _ (by simp <;> omega)).trans ((Below.heap_alloc _ _ _ (by simp <;> omega)).trans ((Below.heap_alloc _ _ _ (by simp <;> omega)).trans (heap_new _ _ _ rfl)))
    clear hb
    obtain ⟨r0, r1, r2, g0, g1, g2⟩ := cells3 HBr
    have zr : w.heap.size + 2 < w1.heap.size := (Array.getElem?_eq_some_iff.1 HBr).1
    obtain ⟨sS, s0, s1, s2, s3, s4, _⟩ := H1.out
    go_wp2_with fail
    have HSg := Lib.hid HS1; have HEx := Lib.hid HE1; have HRs := Lib.hid HBr; have HSs := Lib.hid sS
    clear HS1 HE1
    go_loopw [8] (fun i wr => ∃ j : Nat, j ≤ B.len ∧ i = .int .i64 j ∧ Hid (validL t a B = validL t a (B.drop j)) ∧ Hid (Sees w1 wr)) (fun i _ => B.len - (intOf i).toNat)
    case atStart => exact ⟨0, Nat.zero_le _, rfl, by show _ = _; rw [Fo.drop_zero], Sees.refl _⟩
    case round =>
      obtain ⟨j, hj, rfl, hV, hT⟩ := hrel
      clear H1 HBr r0 r1 r2 g0 g1 g2 sS s0 s1 s2 s3 s4 K1
      have hSS : Sees w wr := HSs.out.below hT.out
      have zt : w1.heap.size ≤ wr.heap.size := hT.out.size
      have hBr := (hT.out.block _ zr).trans HRs.out
      have hSg := (hT.out.block _ (by omega)).trans HSg.out
      obtain ⟨r0, r1, r2, g0, g1, g2⟩ := cells3 hBr
      have s0 : wr.cell? ⟨w.heap.size, 0, none⟩ = some (.int .i64 t) := Fo.cell_of_block hSg 0
      have s1 : wr.cell? ⟨w.heap.size, 1, none⟩ = some (.int .i64 a) := Fo.cell_of_block hSg 1
      by_cases hjl : j < B.len
      · obtain ⟨k1, n1, f1, r, hd, _⟩ := B.drop_lt j hjl
        obtain ⟨b', o', rfl, hat⟩ := HP.out (by rintro rfl; simp [Fo.len] at hjl)
        have hat2 := Fo.at_drop hat j
        rw [hd] at hat2
        obtain ⟨c0, c1, ⟨A', C', c2, hl2'⟩, _⟩ := hat2
        have hl2 : f1.Lies w A' := hl2'
        have hnd := B.nodes_drop j
        rw [hd] at hnd
        simp only [Fo.nodes] at hnd
        have hfd := Fo.fits_drop hBf j
        rw [hd] at hfd
        obtain ⟨q2, hq2⟩ : ∃ q2 : Bool, q2 = validE t a k1 n1 f1 := ⟨_, rfl⟩
        have K2 : Hid (∀ W : World, Sees w1 W → Calls Try.prog 54 #[.agg #[.int .i64 t, .int .i64 a], .pointer (some ⟨b', o' + j * 3, none⟩)] W fun e w' => e = .returned (.bool q2) ∧ Below W.heap.size W w') :=
          fun W h1 => by
            have h := HSs.out.below h1
            rw [hq2]; exact l01Ok_any f1 (by omega) hfd.2.1 t a k1 n1 A' C' b' (o' + j * 3) W (hl2.sees h) (kc h c0) (kc h c1) (kc h c2)
        have hV2 : Hid (validL t a B = (q2 && validL t a (B.drop (j + 1)))) := by show _ = _; rw [hV.out, validL_row hd, hq2]
        have m0 : (0 : Int) ≤ (j : Int) := Int.natCast_nonneg _
        have m1 : (j : Int) < (B.len : Int) := by omega
        have JL := Lib.hid hjl
        have hSt : Hid (St w1 [(w.heap.size, 0, .int .i64 t), (w.heap.size, 1, .int .i64 a)] wr) := ⟨hT.out, s0, s1, trivial⟩
        clear hq2 hd hat c0 c1 c2 hl2 hl2' hnd hfd hV hjl
        go_wp2_with fail
        refine wp_region_quietC w1 [(w.heap.size, 0, .int .i64 t), (w.heap.size, 1, .int .i64 a)] (by kernel_rfl) (by kernel_rfl) hSt.out ?_
        repeat (first | go_big_quiet_skip | (go_big_quiet_want; apply Exists.intro; refine ⟨fun W hW => ?_, ?_⟩; focus (have hK := Lib.hid hW; obtain ⟨hs, hc⟩ := hW; simp only [Has, and_true] at hc; go_simp; (first | (go_at_call 54; exact quietC_call hK.out (K2.out _ hK.out.1)) | rfl))) | (go_simp; go_big_quiet_on))
        refine wpQuiet_nil ?_
        intro w2 H2
        have HT2 := Lib.hid H2.1
        have S2 : Sees w w2 := HSs.out.below H2.1
        have HB2 := (H2.1.block _ zr).trans HRs.out
        clear r0 r1 r2 g0 g1 g2 hBr hSg s0 s1 hSt hT H2 K2
        obtain ⟨r0, r1, r2, g0, g1, g2⟩ := cells3 HB2
        cases q2
        · have HOX : Hid (O = (0, 0, .nil, 1)) := HO.out.trans (rp_bad (by rw [hV2.out]; simp))
          clear hV2
          go_wp2_with fail
          have HBF : (((w2.setCell ⟨w.heap.size + 2, 0, none⟩ (.int .i64 0)).setCell ⟨w.heap.size + 2, 1, none⟩ (.int .i64 0)).setCell ⟨w.heap.size + 2, 2, none⟩ (.slice none 0 0)).heap[w.heap.size + 2]? = some (.cells #[(.int .i64 0), (.int .i64 0), .slice none 0 0] 35 (0, 0)) := by
            rw [Fo.block_setCell (Fo.block_setCell (Fo.block_setCell HB2 _) _) _]; rfl
          obtain ⟨d0, d1, d2, _⟩ := cells3 HBF
          refine bodyPost_ret (v := .tuple #[.agg #[(.int .i64 0), (.int .i64 0), .slice none 0 0], .int .i64 1]) (by simp [results, Try.results32, go_sem, d0, d1, d2]) rfl ?_
          rw [HOX.out]
          exact ⟨none, 0, rfl, Fo.LiesIn.nil _ _ _, Below.setCell (Below.setCell (Below.setCell S2 (by show w.heap.size ≤ w.heap.size + 1 + 1; omega) _) (by show w.heap.size ≤ w.heap.size + 1 + 1; omega) _) (by show w.heap.size ≤ w.heap.size + 1 + 1; omega) _⟩
        · have hV3 : Hid (validL t a B = validL t a (B.drop (j + 1))) := by show _ = _; rw [hV2.out]; rfl
          clear hV2
          go_wp2_with fail
          go_roundw
          case rel => exact ⟨j + 1, JL.out, by go_num, hV3, HT2.out⟩
          case measure => have := JL.out; simp [intOf]; omega
      · obtain rfl : j = B.len := by omega
        have hV2 : Hid (validL t a B = true) := by show _ = _; rw [hV.out, Fo.drop_len]; rfl
        clear hV
        by_cases hlen : (B.len : Int) = a
        · have tl : ((B.len : Int) != a) = false := by simp [hlen]
          have HLn := Lib.hid hlen
          have hEx := (hT.out.block _ (by omega)).trans HEx.out
          have x1 : Hid (Box1 (wr.alloc (.cells #[.int .i64 200] 2)) wr.heap.size 200) := heap_new _ _ _ rfl
          clear hlen
          go_wp2_with fail
          refine (K3.out _ wr.heap.size HLn.out (hSS.alloc _) ((Below.heap_alloc _ _ _ (by omega)).trans hEx) x1.out).mono ?_
          rintro e w2 ⟨K, N, F, A1, C1, l', rfl, hL, hb, hx, l1, l2, l3, l4⟩
          have S2 : Sees w w2 := Below.trans (hSS.alloc _) (hb.below (by simp; omega) (by omega))
          have HR2 := (hb.block (w.heap.size + 2) (by simp; omega) (by omega)).trans ((Below.heap_alloc _ _ _ (by omega)).trans hBr)
          have HG2 := (hb.block w.heap.size (by simp; omega) (by omega)).trans ((Below.heap_alloc _ _ _ (by omega)).trans hSg)
          have z2 := hb.size
          simp only [World.size_alloc] at z2
          have l0 := hx.cell
          have HLI := Lib.hid hL
          clear hb hL r0 r1 r2 g0 g1 g2 s0 s1 x1 hBr hSg hEx
          obtain ⟨r0, r1, r2, g0, g1, g2⟩ := cells3 HR2
          have s0 : w2.cell? ⟨w.heap.size, 0, none⟩ = some (.int .i64 t) := Fo.cell_of_block HG2 0
          have s1 : w2.cell? ⟨w.heap.size, 1, none⟩ = some (.int .i64 a) := Fo.cell_of_block HG2 1
          have y0 : w.heap.size + 1 + 1 < w2.heap.size := by omega
          have y1 : wr.heap.size < w2.heap.size := by omega
          have y2 : w.heap.size < w2.heap.size := by omega
          by_cases hneg : l' < 0
          · have h4 := l4 hneg
            have HOX : Hid (O = (0, 0, .nil, 3)) := HO.out.trans (rp_lim hv.out hV2.out HLn.out (validE_few (by omega)))
            clear l3 l4 h4
            go_wp2_with fail
            have HBF0 : (((w2.setCell ⟨w.heap.size + 2, 0, none⟩ (.int .i64 0)).setCell ⟨w.heap.size + 2, 1, none⟩ (.int .i64 0)).setCell ⟨w.heap.size + 2, 2, none⟩ (.slice none 0 0)).heap[w.heap.size + 2]? = some (.cells #[(.int .i64 0), (.int .i64 0), .slice none 0 0] 35 (0, 0)) := by
              rw [Fo.block_setCell (Fo.block_setCell (Fo.block_setCell HR2 _) _) _]; rfl
            have HBF : ((((w2.setCell ⟨w.heap.size + 2, 0, none⟩ (.int .i64 0)).setCell ⟨w.heap.size + 2, 1, none⟩ (.int .i64 0)).setCell ⟨w.heap.size + 2, 2, none⟩ (.slice none 0 0)).alloc (.cells #[.int .i64 K, .int .i64 N, .slice A1 F.len C1] 35)).heap[w.heap.size + 2]? = some (.cells #[(.int .i64 0), (.int .i64 0), .slice none 0 0] 35 (0, 0)) :=
              (Below.heap_alloc _ _ _ (by simp; omega)).trans HBF0
            obtain ⟨d0, d1, d2, _⟩ := cells3 HBF
            refine bodyPost_ret (v := .tuple #[.agg #[(.int .i64 0), (.int .i64 0), .slice none 0 0], .int .i64 3]) (by simp [results, Try.results32, go_sem, d0, d1, d2]) rfl ?_
            rw [HOX.out]
            exact ⟨none, 0, rfl, Fo.LiesIn.nil _ _ _, Sees.alloc (Below.setCell (Below.setCell (Below.setCell S2 (by show w.heap.size ≤ w.heap.size + 1 + 1; omega) _) (by show w.heap.size ≤ w.heap.size + 1 + 1; omega) _) (by show w.heap.size ≤ w.heap.size + 1 + 1; omega) _) _⟩
          · obtain ⟨e1, e2⟩ := l3 (by omega)
            clear l3 l4
            have hF : F.nodes ≤ 1048576 := by rw [show F = (Fo.replE B k n f).2.2 from congrArg (fun z => z.2.2) e1]; omega
            have HE := Lib.hid e1
            obtain ⟨q3, hq3⟩ : ∃ q3 : Bool, q3 = validE t a K N F := ⟨_, rfl⟩
            have K4 : Hid (Calls Try.prog 54 #[.agg #[.int .i64 t, .int .i64 a], .pointer (some ⟨w2.heap.size, 0, none⟩)] (w2.alloc (.cells #[.int .i64 K, .int .i64 N, .slice A1 F.len C1] 35)) fun e w' => e = .returned (.bool q3) ∧ Below (w2.alloc (.cells #[.int .i64 K, .int .i64 N, .slice A1 F.len C1] 35)).heap.size (w2.alloc (.cells #[.int .i64 K, .int .i64 N, .slice A1 F.len C1] 35)) w') := by
              rw [hq3]; exact l01Ok_any F hF (Fo.fits_small hF).2 t a K N A1 C1 w2.heap.size 0 _ (HLI.out.lies.alloc _) (by simp [go_sem]) (by simp [go_sem]) (by simp [go_sem])
            have HQ : Hid (validE t a (Fo.replE B k n f).1 (Fo.replE B k n f).2.1 (Fo.replE B k n f).2.2 = q3) := by show _ = _; rw [hq3, ← e1]
            clear e1 e2 hq3
            go_wp2_with fail
            refine K4.out.mono ?_
            rintro e w3 ⟨rfl, hb⟩
            have S3 : Sees w w3 := Sees.below (S2.alloc _) hb
            have HR3 := (hb.block (w.heap.size + 2) (by simp; omega)).trans ((Below.heap_alloc _ _ _ (by omega)).trans HR2)
            have HO3 := (hb.block w2.heap.size (by simp)).trans (heap_new _ _ _ rfl)
            have HL3 : Hid (F.LiesIn w3 (wr.heap.size + 1) w2.heap.size A1) := by
              have h1 := HLI.out
              simp only [World.size_alloc] at h1
              exact (h1.agree (Fo.Agree.of_below ((Below.refl _ _).alloc (Nat.le_refl _) _))).agree ((Fo.Agree.of_below hb).mono (Nat.zero_le _) (by simp))
            have z3 := hb.size
            simp only [World.size_alloc] at z3
            clear hb r0 r1 r2 g0 g1 g2 s0 s1 l0 K4
            obtain ⟨r0, r1, r2, g0, g1, g2⟩ := cells3 HR3
            obtain ⟨c0, c1, c2, _⟩ := cells3 HO3
            cases q3
            · have HOX : Hid (O = (0, 0, .nil, 3)) := HO.out.trans (rp_lim hv.out hV2.out HLn.out HQ.out)
              go_wp2_with fail
              have HBF : (((w3.setCell ⟨w.heap.size + 2, 0, none⟩ (.int .i64 0)).setCell ⟨w.heap.size + 2, 1, none⟩ (.int .i64 0)).setCell ⟨w.heap.size + 2, 2, none⟩ (.slice none 0 0)).heap[w.heap.size + 2]? = some (.cells #[(.int .i64 0), (.int .i64 0), .slice none 0 0] 35 (0, 0)) := by
                rw [Fo.block_setCell (Fo.block_setCell (Fo.block_setCell HR3 _) _) _]; rfl
              obtain ⟨d0, d1, d2, _⟩ := cells3 HBF
              refine bodyPost_ret (v := .tuple #[.agg #[(.int .i64 0), (.int .i64 0), .slice none 0 0], .int .i64 3]) (by simp [results, Try.results32, go_sem, d0, d1, d2]) rfl ?_
              rw [HOX.out]
              exact ⟨none, 0, rfl, Fo.LiesIn.nil _ _ _, Below.setCell (Below.setCell (Below.setCell S3 (by show w.heap.size ≤ w.heap.size + 1 + 1; omega) _) (by show w.heap.size ≤ w.heap.size + 1 + 1; omega) _) (by show w.heap.size ≤ w.heap.size + 1 + 1; omega) _⟩
            · have HOX : Hid (O = (K, N, F, 0)) := HO.out.trans ((rp_yes hv.out hV2.out HLn.out HQ.out).trans (by rw [← HE.out]))
              go_wp2_with fail
              have HBF : (((w3.setCell ⟨w.heap.size + 2, 0, none⟩ (.int .i64 K)).setCell ⟨w.heap.size + 2, 1, none⟩ (.int .i64 N)).setCell ⟨w.heap.size + 2, 2, none⟩ (.slice A1 F.len C1)).heap[w.heap.size + 2]? = some (.cells #[(.int .i64 K), (.int .i64 N), .slice A1 F.len C1] 35 (0, 0)) := by
                rw [Fo.block_setCell (Fo.block_setCell (Fo.block_setCell HR3 _) _) _]; rfl
              obtain ⟨d0, d1, d2, _⟩ := cells3 HBF
              refine bodyPost_ret (v := .tuple #[.agg #[(.int .i64 K), (.int .i64 N), .slice A1 F.len C1], .int .i64 0]) (by simp [results, Try.results32, go_sem, d0, d1, d2]) rfl ?_
              rw [HOX.out]
              refine ⟨A1, C1, rfl, ?_, Below.setCell (Below.setCell (Below.setCell S3 (by show w.heap.size ≤ w.heap.size + 1 + 1; omega) _) (by show w.heap.size ≤ w.heap.size + 1 + 1; omega) _) (by show w.heap.size ≤ w.heap.size + 1 + 1; omega) _⟩
              exact (HL3.out.agree (Fo.Agree.setCell (Fo.Agree.setCell (Fo.Agree.setCell (Fo.Agree.refl _ _ _) _ (Or.inl (by show w.heap.size + 2 < wr.heap.size + 1; omega)) _) _ (Or.inl (by show w.heap.size + 2 < wr.heap.size + 1; omega)) _) _ (Or.inl (by show w.heap.size + 2 < wr.heap.size + 1; omega)) _)).mono (by omega) (by simp; omega)
        · have tl : ((B.len : Int) != a) = true := by rw [bne_iff_ne]; exact hlen
          have HOX : Hid (O = (0, 0, .nil, 2)) := HO.out.trans (rp_len hv.out hV2.out hlen)
          clear hlen
          go_wp2_with fail
          have HBF : (((wr.setCell ⟨w.heap.size + 2, 0, none⟩ (.int .i64 0)).setCell ⟨w.heap.size + 2, 1, none⟩ (.int .i64 0)).setCell ⟨w.heap.size + 2, 2, none⟩ (.slice none 0 0)).heap[w.heap.size + 2]? = some (.cells #[(.int .i64 0), (.int .i64 0), .slice none 0 0] 35 (0, 0)) := by
            rw [Fo.block_setCell (Fo.block_setCell (Fo.block_setCell hBr _) _) _]; rfl
          obtain ⟨d0, d1, d2, _⟩ := cells3 HBF
          refine bodyPost_ret (v := .tuple #[.agg #[(.int .i64 0), (.int .i64 0), .slice none 0 0], .int .i64 2]) (by simp [results, Try.results32, go_sem, d0, d1, d2]) rfl ?_
          rw [HOX.out]
          exact ⟨none, 0, rfl, Fo.LiesIn.nil _ _ _, Below.setCell (Below.setCell (Below.setCell hSS (by show w.heap.size ≤ w.heap.size + 1 + 1; omega) _) (by show w.heap.size ≤ w.heap.size + 1 + 1; omega) _) (by show w.heap.size ≤ w.heap.size + 1 + 1; omega) _⟩
end Go.Proofs.Ytdcaelgojjnglaa
