/- Contract of impl.chosen. impl.every at bool: every$1, slices.IndexFunc, slices.ContainsFunc. impl.every at [][]bool: every$1, slices.IndexFunc, slices.ContainsFunc. impl.haveShape at bool; impl.ValidModel. -/
import Derived.Test.YtmblgkpgfofceaaRsC
import Derived.Test.YtmblgkpgfofceaaRqb
import Derived.Test.YtmblgkpgfofceaaRqa
import Derived.Laws.EntriesVeiled
namespace Go.Proofs.Ytmblgkpgfofceaa
open Go.RowKit
set_option linter.unusedVariables false

theorem Sup.mret {w1 W : World} {s2 t a p n b : Nat} {ts : List (List Bool)} {A1 A2 : Option Addr} {acts : List (List (List Bool))} {v : Value} {w : World} (h : Sup w1 s2 t a p ts A1 acts v W) (hR : RowsF BBF List.length W acts A2 (rng s2 W.heap.size)) (hn : w.heap.size ≤ b) (hb : b < w1.heap.size) (hw : Below w.heap.size w W) (v0 v1 v2 v3 v4 : Value) {C1 C2 : Nat} (ht : ts.length = t) (ha : acts.length = n) :
    MRet t a p ts acts w (.returned (.agg #[.int .i64 (t : Int), .int .i64 (a : Int), .int .i64 (p : Int), .slice A1 t C1, .slice A2 n C2])) (((((W.setCell ⟨b, 0, none⟩ v0).setCell ⟨b, 1, none⟩ v1).setCell ⟨b, 2, none⟩ v2).setCell ⟨b, 3, none⟩ v3).setCell ⟨b, 4, none⟩ v4) := by
  subst ha
  have z1 := h.low; have z2 := h.size
  have zs : (((((W.setCell ⟨b, 0, none⟩ v0).setCell ⟨b, 1, none⟩ v1).setCell ⟨b, 2, none⟩ v2).setCell ⟨b, 3, none⟩ v3).setCell ⟨b, 4, none⟩ v4).heap.size = W.heap.size := by simp
  refine ⟨A1, A2, C1, C2, s2, by rw [ht], by omega, by rw [zs]; omega, bbF_ok.mono (bbF_ok.keep h.tests fun k hk => five_keep W b k _ _ _ _ _ (by have := hk.1; omega)) (fun k hk => ⟨by have := hk.1; omega, hk.2⟩), ?_, five_below hw hn _ _ _ _ _⟩
  rw [zs]
  exact (rowsF_ok bbF_ok List.length).keep hR fun k hk => five_keep W b k _ _ _ _ _ (by have := hk.1; omega)

set_option maxHeartbeats 8000000 in
set_option maxRecDepth 100000 in
theorem chosen_any (t a p : Nat) (ord : List Int) (ac : List (List Bool)) (nx : List (List (List Bool))) (h : RsOk t a p ord ac nx) (A B O : Option Addr) (C D OC : Nat) (w : World) (hA0 : BB 0 w ac A) (hB0 : BBB 0 w nx B) (hO0 : Ints w ord O) :
    Calls Try.prog 80 #[.agg #[.int .i64 (t : Int), .int .i64 (a : Int), .int .i64 (p : Int), .slice A ac.length C, .slice B nx.length D], .slice O ord.length OC] w (MRet t a ord.length (rsT t ord ac) (rsA ord nx) w) := by
  obtain ⟨ht3, ha4, hp8, hn8, hal, hnl, har, hnr, hob⟩ := h
  obtain ⟨n, hn⟩ : ∃ n, n = ord.length := ⟨_, rfl⟩
  obtain ⟨w0, hw0⟩ : ∃ w0, w0 = ((w.alloc (.cells #[.int .i64 (t : Int), .int .i64 (a : Int), .int .i64 (p : Int), .slice A ac.length C, .slice B nx.length D] 63)).alloc (.cells #[.slice O ord.length OC] 26)).alloc (.cells #[.int .i64 0, .int .i64 0, .int .i64 0, .slice none 0 0, .slice none 0 0] 63) := ⟨_, rfl⟩
  have B0 : Sees w w0 := by rw [hw0]; exact (((Sees.refl w).alloc _).alloc _).alloc _
  have hA := hA0.sees B0; have hB := hB0.sees B0; have hO : Ints w0 ord O := hO0.sees B0
  have hc0 : w0.heap[w.heap.size]? = some (.cells #[.int .i64 (t : Int), .int .i64 (a : Int), .int .i64 (p : Int), .slice A ac.length C, .slice B nx.length D] 63 (0, 0)) := by
    rw [hw0]; exact (Below.heap_alloc _ _ _ (by simp; omega)).trans ((Below.heap_alloc _ _ _ (by simp)).trans (heap_new _ _ _ rfl))
  have hl0 : w0.heap[w.heap.size + 1]? = some (.cells #[.slice O ord.length OC] 26 (0, 0)) := by
    rw [hw0]; exact (Below.heap_alloc _ _ _ (by simp)).trans (heap_new _ _ _ (by simp))
  have hr0 : w0.heap[w.heap.size + 1 + 1]? = some (.cells #[.int .i64 0, .int .i64 0, .int .i64 0, .slice none 0 0, .slice none 0 0] 63 (0, 0)) := by
    rw [hw0]; exact heap_new _ _ _ (by simp)
  have z0 : w.heap.size + 3 ≤ w0.heap.size := by rw [hw0]; simp
  have hkx : ∀ x, x < ord.length → nth ord x = (((nth ord x).toNat : Nat) : Int) ∧ (nth ord x).toNat < p := fun x hx => by have := hob x hx; omega
  have KT1 : Hid (∀ W : World, Sees w0 W → Calls Try.prog 95 #[.int .i64 (t : Int), .int .i64 (n : Int), .func (.func 130) #[] #[.pointer (some ⟨w.heap.size, 0, none⟩), .pointer (some ⟨w.heap.size + 1, 0, none⟩)]] W fun e w' => ∃ A1, e = .returned (.slice A1 t t) ∧ BBF w' (rsT t ord ac) A1 (rng W.heap.size w'.heap.size) ∧ Below W.heap.size W w') := fun W h => by
    rw [hn]
    refine tableOf_any 130 #[.pointer (some ⟨w.heap.size, 0, none⟩), .pointer (some ⟨w.heap.size + 1, 0, none⟩)] (enters_of Try.func130 (by kernel_rfl) rfl) t ord.length (by omega) (by omega) _ W (fun W2 x y h2 hx hy => ?_)
    have hxa : x < ac.length := by omega
    have hl := har ac[x] (List.getElem_mem hxa)
    exact rsClo1_any ac ord x y _ hxa hy (hkx y hy).1 (by rw [hl]; exact (hkx y hy).2) ⟨by omega, by omega, hn8⟩ w.heap.size (w.heap.size + 1) A O C OC W2 (hA.sees (h.below h2)) (hO.sees (h.below h2)) (kc (h.below h2) (Fo.cell_of_block hc0 3)) (kc (h.below h2) (Fo.cell_of_block hl0 0))
  have KT2 : Hid (∀ (j : Nat) (hj : j < nx.length) (W : World) (br : Nat) (R : Option Addr) (DD : Nat), Sees w0 W → BB 0 W nx[j] R → W.cell? ⟨br, 0, none⟩ = some (.slice R nx[j].length DD) → Calls Try.prog 95 #[.int .i64 (n : Int), .int .i64 (n : Int), .func (.func 131) #[] #[.pointer (some ⟨br, 0, none⟩), .pointer (some ⟨w.heap.size + 1, 0, none⟩)]] W fun e w' => ∃ A1, e = .returned (.slice A1 n n) ∧ BBF w' (rsR ord nx[j]) A1 (rng W.heap.size w'.heap.size) ∧ Below W.heap.size W w') := fun j hj W br R DD h hR hc => by
    obtain ⟨h1, h2⟩ := hnr nx[j] (List.getElem_mem hj)
    rw [hn]
    refine tableOf_any 131 #[.pointer (some ⟨br, 0, none⟩), .pointer (some ⟨w.heap.size + 1, 0, none⟩)] (enters_of Try.func131 (by kernel_rfl) rfl) ord.length ord.length (by omega) (by omega) _ W (fun W2 x y h3 hx hy => ?_)
    have hxa : (nth ord x).toNat < nx[j].length := by rw [h1]; exact (hkx x hx).2
    have hl := h2 nx[j][(nth ord x).toNat] (List.getElem_mem hxa)
    exact rsClo2_any nx[j] ord x y _ _ hx hy (hkx x hx).1 (hkx y hy).1 hxa (by rw [hl]; exact (hkx y hy).2) ⟨by omega, by omega, hn8⟩ br (w.heap.size + 1) R O DD OC W2 (bb_ok.below hR h3) (hO.sees (h.below h3)) (kc h3 hc) (kc (h.below h3) (Fo.cell_of_block hl0 0))
  have HB := Lib.hid hB
  have HC0 := Lib.hid hc0; have HR0 := Lib.hid hr0; have HL0 := Lib.hid hl0
  have hn4 : nx.length ≤ 4 := by omega
  have HRL : Hid (∀ rows, (rsR ord rows).length = n) := fun rows => by rw [hn]; exact rsR_len ord rows
  have FIN : Hid (∀ W : World, Below w0.heap.size w0 W → Sees w W) := fun W h => B0.below h
  rw [← hn]
  clear hA hB hO hA0 hB0 hO0 har hnr hal hnl ha4 ht3 hp8 B0 hc0 hr0 hl0 hkx hob
  go_enter Try.func80, Try.ntmps80
  obtain ⟨c0, c1, c2, c3, c4, _, _, _, _, _⟩ := five_facts HC0.out
  have l0 := Fo.cell_of_block HL0.out 0
  have HW0 := Lib.hid hw0; have HN := Lib.hid hn
  go_wp2_with fail
  rw [← hw0, ← hn]
  have e0 : w.heap.size + 1 + 1 + 1 = w0.heap.size := by rw [HW0.out]; simp
  rw [e0]
  clear e0
  have S1 := Lib.hid (Sees.refl w0); have HC1 := HC0; have HR1 := HR0
  have z1 : w.heap.size + 2 ≤ w0.heap.size := by omega
  have zc : w.heap.size < w0.heap.size := by omega
  clear hw0 hn l0
  have HM1 : Hid ((w0.alloc (.cells #[.int .i64 (t : Int), .int .i64 (a : Int), .int .i64 (n : Int), .slice none 0 0, .slice none 0 0] 63)).heap[w0.heap.size]? = some (.cells #[.int .i64 (t : Int), .int .i64 (a : Int), .int .i64 (n : Int), .slice none 0 0, .slice none 0 0] 63 (0, 0))) := heap_new _ _ _ rfl
  refine (KT1.out _ (S1.out.alloc _)).mono ?_
  rintro e w2 ⟨A1, rfl, hQ, hb⟩
  have HQ := Lib.hid hQ
  have S2 : Hid (Below w0.heap.size w0 w2) := ((Below.refl _ _).alloc (Nat.le_refl _) _).trans (hb.mono (by simp))
  have HM2 := Lib.hid ((hb.block _ (by simp)).trans HM1.out)
  have HC2 := Lib.hid ((S2.out.block _ (by omega)).trans HC1.out)
  have z2 : w0.heap.size + 1 ≤ w2.heap.size := by have := hb.size; simpa using this
  clear hQ hb KT1 c0 c1 c2 c3 c4
  obtain ⟨c0, c1, c2, c3, c4, _, _, _, _, _⟩ := five_facts HC2.out
  obtain ⟨m0, m1, m2, m3, m4, n0, n1, n2, n3, n4⟩ := five_facts HM2.out
  obtain ⟨W3, hW3⟩ : ∃ W3, W3 = w2.setCell ⟨w0.heap.size, 3, none⟩ (.slice A1 t t) := ⟨_, rfl⟩
  have hzW3 : W3.heap.size = w2.heap.size := by rw [hW3]; simp
  have hkW3 : ∀ k, k ≠ w0.heap.size → W3.heap[k]? = w2.heap[k]? := fun k hk => by rw [hW3]; exact Below.heap_setCell _ _ _ _ hk
  have H3 : Hid (Sup w0 w2.heap.size t a n (rsT t ord ac) A1 ((rsA ord nx).take 0) (.slice none 0 0) W3) := by
    refine ⟨by rw [hW3, Fo.block_setCell HM2.out _]; rfl, Acc.start, ?_, S2.out.trans ⟨by rw [hW3]; rfl, by rw [hW3]; rfl, by rw [hW3]; rfl, by rw [hzW3]; omega, fun k hk => hkW3 k (by omega)⟩, by rw [hzW3]; exact Nat.le_refl _, z2⟩
    have h5 : BBF w2 (rsT t ord ac) A1 (rng (w0.heap.size + 1) w2.heap.size) := by have := HQ.out; rw [World.size_alloc] at this; exact this
    exact bbF_ok.keep h5 fun k hk => hkW3 k (by have := hk.1; omega)
  have HC3 := Lib.hid ((hkW3 w.heap.size (by omega)).trans HC2.out)
  have e4 : W3.cell? ⟨w.heap.size, 4, none⟩ = some (.slice B nx.length D) := Fo.cell_of_block HC3.out 4
  clear hkW3 hzW3
  go_wp2_with fail
  rw [← hW3]
  have HWW3 := Lib.hid hW3
  clear hW3 c0 c1 c2 c3 c4 m0 m1 m2 m3 m4 n0 n1 n2 n3 n4
  go_wp2_with fail
  clear e4
  go_loopw [25] (fun i wr => ∃ (j : Nat) (v : Value), j ≤ nx.length ∧ i = .int .i64 j ∧ Hid (Sup w0 w2.heap.size t a n (rsT t ord ac) A1 ((rsA ord nx).take j) v wr)) (fun i _ => nx.length - (intOf i).toNat)
  case atStart => exact ⟨0, _, Nat.zero_le _, rfl, H3.out⟩
  case round =>
    obtain ⟨j, v, hj, rfl, hS⟩ := hrel
    clear H3
    have HCr := (hS.out.below.block w.heap.size zc).trans HC1.out
    obtain ⟨c0, c1, c2, c3, c4, _, _, _, _, _⟩ := five_facts HCr
    obtain ⟨m0, m1, m2, m3, m4, n0, n1, n2, n3, n4⟩ := five_facts hS.out.box
    have zw1 : w0.heap.size < wr.heap.size := by have := hS.out.size; have := hS.out.low; omega
    have zcr : w.heap.size < wr.heap.size := by omega
    by_cases hjn : j < nx.length
    · have hS0 : Sees w0 wr := S1.out.below hS.out.below
      obtain ⟨y, z, _, hBe, hat⟩ := HB.out (by rintro rfl; simp at hjn)
      obtain ⟨RB, DB, cB, qB⟩ := hat j nx[j] (List.getElem?_eq_getElem hjn)
      have KJ := KT2.out j hjn
      have hstep := rsA_step (ord := ord) hjn
      obtain ⟨rows, hrows⟩ : ∃ x, x = nx[j] := ⟨_, rfl⟩
      rw [← hrows] at cB qB KJ hstep
      have cB1 := kc hS0 cB
      have KJ2 : Hid (∀ W : World, Sees (wr.alloc (.cells #[.slice RB rows.length DB] 57)) W → Calls Try.prog 95 #[.int .i64 (n : Int), .int .i64 (n : Int), .func (.func 131) #[] #[.pointer (some ⟨wr.heap.size, 0, none⟩), .pointer (some ⟨w.heap.size + 1, 0, none⟩)]] W fun e w' => ∃ A2, e = .returned (.slice A2 n n) ∧ BBF w' (rsR ord rows) A2 (rng wr.heap.size w'.heap.size) ∧ Sees wr w') := fun W h => by
        have hw : Sees wr W := Below.trans ((Below.refl _ _).alloc (Nat.le_refl _) _) (h.mono (by simp))
        refine (KJ W wr.heap.size RB DB (hS0.below hw) (bb_ok.below qB (hS0.below hw)) (kc h (by simp [go_sem]))).mono ?_
        rintro e w' ⟨A2, he, hQ, hb⟩
        exact ⟨A2, he, bbF_ok.mono hQ fun k hk => ⟨Nat.le_trans hw.size hk.1, hk.2⟩, hw.below hb⟩
      have hlen : ((rsA ord nx).take j).length = j := by rw [List.length_take, rsA_len]; omega
      have JL := Lib.hid hjn; have HST := Lib.hid hstep; have HLEN := Lib.hid hlen
      have j0 : (0 : Int) ≤ (j : Int) := Int.natCast_nonneg _
      have j1 : (j : Int) < (nx.length : Int) := by omega
      have j4 : j ≤ 1048576 := by omega
      have HAT := Lib.hid hat
      subst hBe
      clear hrows cB qB KJ hstep hlen hjn hat hS0
      go_wp2_with fail
      go_region_law (first
        | (go_simp; go_at_call 95; refine (KJ2.out _ ?_).mono ?_; (first | exact Sees.refl _ | exact (Sees.refl _).drew | exact (Sees.refl _).drew.drew); rintro e wa ⟨A2, rfl, hQ2, hsa⟩; have HQ2 := Lib.hid hQ2; have HSA := Lib.hid hsa; have HU := Lib.hid (hS.out.grow hsa); obtain ⟨p0, p1, p2, p3, p4, o0, o1, o2, o3, o4⟩ := five_facts HU.out.box; obtain ⟨vals, hvl, hown, hp⟩ := Acc.push bbF_ok hS.out.acc hS.out.size hsa hQ2 (Wa := wa.alloc (.cells #[.slice A2 n n] 57)) (C := n) ((Below.refl _ _).alloc (Nat.le_refl _) _); have hln : List.length (rsR ord rows) = n := HRL.out rows; rw [hln, HLEN.out] at hp; rw [HLEN.out] at hown; have HOWN := Lib.hid hown; have HP := Lib.hid hp; have zwa : w0.heap.size < wa.heap.size := (Nat.lt_of_lt_of_le zw1 hsa.size); clear hown hp hQ2 hsa)
        | (refine step_one Try.elBBB (wa.alloc (.cells #[.slice A2 n n] 57)) (by rfl) _ _ (by rfl) w2.heap.size j wa.heap.size v (.slice A2 n n) vals (by rfl) (by rfl) HOWN.out (by simp [go_sem]) rfl j4 (by have := HU.out.size; simp; omega) ?_; intro v' w' ho hg hat; have hacc := HP.out v' w' ho hg hat; obtain ⟨Zv, lv, Cv, hvf⟩ := hacc.form; subst hvf; obtain ⟨hX, hbx⟩ := (HU.out.grow ((Below.refl _ _).alloc (Nat.le_refl _) _)).push hacc hg; have HX := Lib.hid hX; obtain ⟨q0, q1, q2, q3, q4, t0, t1, t2, t3, t4⟩ := five_facts hbx; clear hX hacc ho hg hat))
      all_goals
        have HX2 : Hid (Sup w0 w2.heap.size t a n (rsT t ord ac) A1 ((rsA ord nx).take (j + 1)) (.slice Zv lv Cv) (w'.setCell ⟨w0.heap.size, 4, none⟩ (.slice Zv lv Cv))) := by rw [HST.out]; exact HX.out
        go_wp2_with fail
        go_roundw
        case rel => exact ⟨j + 1, _, JL.out, by go_num, HX2.out⟩
        case measure => have := JL.out; simp [intOf]; omega
    · obtain rfl : j = nx.length := by omega
      have HRr := (hS.out.below.block (w.heap.size + 1 + 1) (by omega)).trans HR1.out
      obtain ⟨u0, u1, u2, u3, u4, x0, x1, x2, x3, x4⟩ := five_facts HRr
      have hdone := hS.out.acc.done
      have hall : (rsA ord nx).take nx.length = rsA ord nx := List.take_of_length_le (by rw [rsA_len]; exact Nat.le_refl _)
      rw [hall, rsA_len] at hdone
      rw [hall] at hS
      obtain ⟨A2, C2, hv2, hR2⟩ := hdone
      subst hv2
      have HR2 := Lib.hid hR2
      clear hR2
      go_wp2_with fail
      obtain ⟨y0, y1, y2, y3, y4, _, _, _, _, _⟩ := five_facts (five_block HRr (.int .i64 (t : Int)) (.int .i64 (a : Int)) (.int .i64 (n : Int)) (.slice A1 t t) (.slice A2 nx.length C2))
      refine bodyPost_ret (v := .agg #[.int .i64 (t : Int), .int .i64 (a : Int), .int .i64 (n : Int), .slice A1 t t, .slice A2 nx.length C2]) (by simp [results, Try.results80, go_sem, y0, y1, y2, y3, y4]) rfl ?_
      exact hS.out.mret HR2.out (by omega) (by omega) (FIN.out _ (S1.out.below hS.out.below)) _ _ _ _ _ (rsT_len _ _ _) (rsA_len _ _)
end Go.Proofs.Ytmblgkpgfofceaa

namespace Go.Proofs.Ytmblgkpgfofceaa
open Go.RowKit

set_option maxHeartbeats 400000 in
theorem every1b_any (q : Bool) (N : Nat) (caps : Array Value) (eg : ∀ args w, (callFunc N args).run Try.prog w = .ok (.enter N args) w) (bh : Nat) (v : Value) (w : World) (hc : w.cell? ⟨bh, 0, none⟩ = some (.func (.func N) #[] caps))
    (KC : Hid (∀ W : World, Sees w W → Calls Try.prog N (#[v] ++ caps) W fun e w' => e = .returned (.bool q) ∧ Below W.heap.size W w')) :
    Calls Try.prog 170 #[v, .pointer (some ⟨bh, 0, none⟩)] w fun e w' => e = .returned (.bool (!q)) ∧ Below w.heap.size w w' := by
  cases q
  all_goals
    go_enter Try.func170, Try.ntmps170
    go_wp2_with (go_at_fn N; refine (KC.out _ (Sees.refl _)).mono ?_; rintro e w1 ⟨rfl, hb⟩)
    go_ret
    exact ⟨rfl, by assumption⟩

set_option maxHeartbeats 1000000 in
theorem indexb_any (G : Bool → Bool) (bh : Nat) (xs : List (Bool)) (hm : xs.length ≤ 9223372036854775807) (A : Option Addr) (C : Nat) (w : World) (hl : BoolsL 0 w xs A)
    (KC : Hid (∀ (W : World) (x : Bool), Sees w W → x ∈ xs → Calls Try.prog 170 #[.bool x, .pointer (some ⟨bh, 0, none⟩)] W fun e w' => e = .returned (.bool (!G x)) ∧ Below W.heap.size W w')) :
    Calls Try.prog 186 #[.slice A xs.length C, .func (.func 170) #[] #[.pointer (some ⟨bh, 0, none⟩)]] w fun e w' => (∃ i : Int, e = .returned (.int .i64 i) ∧ decide (0 ≤ i) = !(xs.all G)) ∧ Below w.heap.size w w' := by
  have HD : Hid (xs.all G = allG G xs 0) := allG_zero G xs
  have HH := Lib.hid hl
  clear hl
  go_enter Try.func186, Try.ntmps186
  go_wp2_with fail
  go_loopw [8] (fun i wr => ∃ j : Nat, j ≤ xs.length ∧ i = .int .i64 j ∧ Hid (xs.all G = allG G xs j) ∧ Hid (Below w.heap.size w wr)) (fun i _ => xs.length - (intOf i).toNat)
  case atStart => exact ⟨0, Nat.zero_le _, rfl, HD, Below.refl _ _⟩
  case round =>
    obtain ⟨j, hj, rfl, hq, hw⟩ := hrel
    clear HD
    by_cases hjl : j < xs.length
    · obtain ⟨b, o, _, rfl, hat⟩ := HH.out (by rintro rfl; simp at hjl)
      have c0' := hat j xs[j] (List.getElem?_eq_getElem hjl)
      have hst0 := allG_step G xs hjl
      have hin := List.getElem_mem hjl
      obtain ⟨x, hx⟩ : ∃ x, x = xs[j] := ⟨_, rfl⟩
      rw [← hx] at c0' hst0 hin
      have c0 := kc hw.out c0'
      have KX := Lib.hid (KC.out wr x hw.out hin)
      have HA := Lib.hid hat
      have hst : Hid (xs.all G = (G x && allG G xs (j + 1))) := hq.out.trans hst0
      obtain ⟨q, hqe⟩ : ∃ q : Bool, q = G x := ⟨_, rfl⟩
      rw [← hqe] at KX hst
      clear hat hst0 c0' hx hin hqe hq
      have hj0 : (0 : Int) ≤ (j : Int) := Int.natCast_nonneg _
      have hj1 : (j : Int) < (xs.length : Int) := by omega
      cases q
      · have hq2 : Hid (decide ((0 : Int) ≤ (j : Int)) = !(xs.all G)) := by show _ = _; rw [hst.out, decide_eq_true hj0]; rfl
        go_wp2_with fail
        refine KX.out.mono ?_
        rintro e w1 ⟨rfl, hb1⟩
        have hw2 := Sees.below hw.out hb1
        clear hb1 c0
        go_wp2_with fail
        go_ret
        exact ⟨⟨_, rfl, hq2.out⟩, hw2⟩
      · have hq2 : Hid (xs.all G = allG G xs (j + 1)) := by show _ = _; rw [hst.out]; rfl
        go_wp2_with fail
        refine KX.out.mono ?_
        rintro e w1 ⟨rfl, hb1⟩
        have hw2 := Lib.hid (Sees.below hw.out hb1)
        clear hb1 c0
        go_wp2_with fail
        go_roundw
        case rel => exact ⟨j + 1, by omega, by go_num, hq2, hw2⟩
        case measure => simp [intOf]; omega
    · obtain rfl : j = xs.length := by omega
      have hq2 : Hid (decide ((0 : Int) ≤ -1) = !(xs.all G)) := by show _ = _; rw [hq.out, allG_end]; rfl
      clear hq
      go_wp2_with fail
      go_ret
      exact ⟨⟨_, rfl, hq2.out⟩, hw.out⟩

set_option maxHeartbeats 400000 in
theorem containsb_any (G : Bool → Bool) (bh : Nat) (xs : List (Bool)) (hm : xs.length ≤ 9223372036854775807) (A : Option Addr) (C : Nat) (w : World) (hl : BoolsL 0 w xs A)
    (KC : Hid (∀ (W : World) (x : Bool), Sees w W → x ∈ xs → Calls Try.prog 170 #[.bool x, .pointer (some ⟨bh, 0, none⟩)] W fun e w' => e = .returned (.bool (!G x)) ∧ Below W.heap.size W w')) :
    Calls Try.prog 169 #[.slice A xs.length C, .func (.func 170) #[] #[.pointer (some ⟨bh, 0, none⟩)]] w fun e w' => e = .returned (.bool (!(xs.all G))) ∧ Below w.heap.size w w' := by
  have KI := Lib.hid (indexb_any G bh xs hm A C w hl KC)
  clear hl
  obtain ⟨q, hq⟩ : ∃ q : Bool, q = xs.all G := ⟨_, rfl⟩
  rw [← hq] at KI ⊢
  clear hq
  go_enter Try.func169, Try.ntmps169
  go_wp2_with fail
  refine KI.out.mono ?_
  rintro e w1 ⟨⟨i, rfl, hi⟩, hb⟩
  by_cases h0 : 0 ≤ i
  · have hi' : q = false := by rw [decide_eq_true h0] at hi; simpa using hi.symm
    subst hi'
    clear hi
    go_wp2_with fail
    go_ret
    exact ⟨rfl, hb⟩
  · have hi' : q = true := by rw [decide_eq_false h0] at hi; simpa using hi.symm
    subst hi'
    clear hi
    have hd : Hid (decide (0 ≤ i) = !true) := decide_eq_false h0
    go_wp2_with fail
    go_ret
    exact ⟨ret_bool hd.out, hb⟩

set_option maxHeartbeats 400000 in
theorem everyb_any (G : Bool → Bool) (N : Nat) (caps : Array Value) (eg : ∀ args w, (callFunc N args).run Try.prog w = .ok (.enter N args) w) (xs : List (Bool)) (hm : xs.length ≤ 9223372036854775807) (A : Option Addr) (C : Nat) (w : World) (hl : BoolsL 0 w xs A)
    (KC : Hid (∀ (W : World) (x : Bool), Sees w W → x ∈ xs → Calls Try.prog N (#[.bool x] ++ caps) W fun e w' => e = .returned (.bool (G x)) ∧ Below W.heap.size W w')) :
    Calls Try.prog 158 #[.slice A xs.length C, .func (.func N) #[] caps] w fun e w' => e = .returned (.bool (xs.all G)) ∧ Below w.heap.size w w' := by
  have KI : Hid (∀ W : World, Sees w W → W.cell? ⟨w.heap.size, 0, none⟩ = some (.func (.func N) #[] caps) → Calls Try.prog 169 #[.slice A xs.length C, .func (.func 170) #[] #[.pointer (some ⟨w.heap.size, 0, none⟩)]] W fun e w' => e = .returned (.bool (!(xs.all G))) ∧ Below W.heap.size W w') := fun W h hc =>
    containsb_any G w.heap.size xs hm A C W (bools_ok.below hl h) (fun W' x h' hx => every1b_any (G x) N caps eg w.heap.size _ W' (kc h' hc) (fun W2 h2 => KC.out W2 x (Sees.below h (Sees.below h' h2)) hx))
  clear hl
  obtain ⟨q, hq⟩ : ∃ q : Bool, q = xs.all G := ⟨_, rfl⟩
  rw [← hq] at KI ⊢
  clear hq
  cases q
  all_goals
    go_enter Try.func158, Try.ntmps158
    go_wp2_with fail
    refine (KI.out _ (by unfold Sees; go_grown) (by simp [go_sem])).mono ?_
    rintro e w1 ⟨rfl, hb⟩
    have B1 : Sees w w1 := Sees.below (by unfold Sees; go_grown) hb
    clear hb
    go_wp2_with fail
    go_ret
    exact ⟨rfl, B1⟩
end Go.Proofs.Ytmblgkpgfofceaa

namespace Go.Proofs.Ytmblgkpgfofceaa
open Go.RowKit

set_option maxHeartbeats 400000 in
theorem every1BB_any (q : Bool) (N : Nat) (caps : Array Value) (eg : ∀ args w, (callFunc N args).run Try.prog w = .ok (.enter N args) w) (bh : Nat) (v : Value) (w : World) (hc : w.cell? ⟨bh, 0, none⟩ = some (.func (.func N) #[] caps))
    (KC : Hid (∀ W : World, Sees w W → Calls Try.prog N (#[v] ++ caps) W fun e w' => e = .returned (.bool q) ∧ Below W.heap.size W w')) :
    Calls Try.prog 174 #[v, .pointer (some ⟨bh, 0, none⟩)] w fun e w' => e = .returned (.bool (!q)) ∧ Below w.heap.size w w' := by
  cases q
  all_goals
    go_enter Try.func174, Try.ntmps174
    go_wp2_with (go_at_fn N; refine (KC.out _ (Sees.refl _)).mono ?_; rintro e w1 ⟨rfl, hb⟩)
    go_ret
    exact ⟨rfl, by assumption⟩

set_option maxHeartbeats 1000000 in
theorem indexBB_any (G : List (List Bool) → Bool) (bh : Nat) (xs : List (List (List Bool))) (hm : xs.length ≤ 9223372036854775807) (A : Option Addr) (C : Nat) (w : World) (hl : BBB 0 w xs A)
    (KC : Hid (∀ (W : World) (x : List (List Bool)) (B : Option Addr) (D : Nat), Sees w W → x ∈ xs → BB 0 W x B → Calls Try.prog 174 #[.slice B x.length D, .pointer (some ⟨bh, 0, none⟩)] W fun e w' => e = .returned (.bool (!G x)) ∧ Below W.heap.size W w')) :
    Calls Try.prog 188 #[.slice A xs.length C, .func (.func 174) #[] #[.pointer (some ⟨bh, 0, none⟩)]] w fun e w' => (∃ i : Int, e = .returned (.int .i64 i) ∧ decide (0 ≤ i) = !(xs.all G)) ∧ Below w.heap.size w w' := by
  have HD : Hid (xs.all G = allG G xs 0) := allG_zero G xs
  have HH := Lib.hid hl
  clear hl
  go_enter Try.func188, Try.ntmps188
  go_wp2_with fail
  go_loopw [8] (fun i wr => ∃ j : Nat, j ≤ xs.length ∧ i = .int .i64 j ∧ Hid (xs.all G = allG G xs j) ∧ Hid (Below w.heap.size w wr)) (fun i _ => xs.length - (intOf i).toNat)
  case atStart => exact ⟨0, Nat.zero_le _, rfl, HD, Below.refl _ _⟩
  case round =>
    obtain ⟨j, hj, rfl, hq, hw⟩ := hrel
    clear HD
    by_cases hjl : j < xs.length
    · obtain ⟨b, o, _, rfl, hat⟩ := HH.out (by rintro rfl; simp at hjl)
      obtain ⟨B, D, c0', hQ⟩ := hat j xs[j] (List.getElem?_eq_getElem hjl)
      have hst0 := allG_step G xs hjl
      have hin := List.getElem_mem hjl
      obtain ⟨x, hx⟩ : ∃ x, x = xs[j] := ⟨_, rfl⟩
      rw [← hx] at c0' hst0 hin hQ
      have c0 := kc hw.out c0'
      have KX := Lib.hid (KC.out wr x B D hw.out hin (bb_ok.below hQ hw.out))
      have HA := Lib.hid hat
      have hst : Hid (xs.all G = (G x && allG G xs (j + 1))) := hq.out.trans hst0
      obtain ⟨q, hqe⟩ : ∃ q : Bool, q = G x := ⟨_, rfl⟩
      rw [← hqe] at KX hst
      clear hat hst0 c0' hx hin hQ hqe hq
      have hj0 : (0 : Int) ≤ (j : Int) := Int.natCast_nonneg _
      have hj1 : (j : Int) < (xs.length : Int) := by omega
      cases q
      · have hq2 : Hid (decide ((0 : Int) ≤ (j : Int)) = !(xs.all G)) := by show _ = _; rw [hst.out, decide_eq_true hj0]; rfl
        go_wp2_with fail
        refine KX.out.mono ?_
        rintro e w1 ⟨rfl, hb1⟩
        have hw2 := Sees.below hw.out hb1
        clear hb1 c0
        go_wp2_with fail
        go_ret
        exact ⟨⟨_, rfl, hq2.out⟩, hw2⟩
      · have hq2 : Hid (xs.all G = allG G xs (j + 1)) := by show _ = _; rw [hst.out]; rfl
        go_wp2_with fail
        refine KX.out.mono ?_
        rintro e w1 ⟨rfl, hb1⟩
        have hw2 := Lib.hid (Sees.below hw.out hb1)
        clear hb1 c0
        go_wp2_with fail
        go_roundw
        case rel => exact ⟨j + 1, by omega, by go_num, hq2, hw2⟩
        case measure => simp [intOf]; omega
    · obtain rfl : j = xs.length := by omega
      have hq2 : Hid (decide ((0 : Int) ≤ -1) = !(xs.all G)) := by show _ = _; rw [hq.out, allG_end]; rfl
      clear hq
      go_wp2_with fail
      go_ret
      exact ⟨⟨_, rfl, hq2.out⟩, hw.out⟩

set_option maxHeartbeats 400000 in
theorem containsBB_any (G : List (List Bool) → Bool) (bh : Nat) (xs : List (List (List Bool))) (hm : xs.length ≤ 9223372036854775807) (A : Option Addr) (C : Nat) (w : World) (hl : BBB 0 w xs A)
    (KC : Hid (∀ (W : World) (x : List (List Bool)) (B : Option Addr) (D : Nat), Sees w W → x ∈ xs → BB 0 W x B → Calls Try.prog 174 #[.slice B x.length D, .pointer (some ⟨bh, 0, none⟩)] W fun e w' => e = .returned (.bool (!G x)) ∧ Below W.heap.size W w')) :
    Calls Try.prog 173 #[.slice A xs.length C, .func (.func 174) #[] #[.pointer (some ⟨bh, 0, none⟩)]] w fun e w' => e = .returned (.bool (!(xs.all G))) ∧ Below w.heap.size w w' := by
  have KI := Lib.hid (indexBB_any G bh xs hm A C w hl KC)
  clear hl
  obtain ⟨q, hq⟩ : ∃ q : Bool, q = xs.all G := ⟨_, rfl⟩
  rw [← hq] at KI ⊢
  clear hq
  go_enter Try.func173, Try.ntmps173
  go_wp2_with fail
  refine KI.out.mono ?_
  rintro e w1 ⟨⟨i, rfl, hi⟩, hb⟩
  by_cases h0 : 0 ≤ i
  · have hi' : q = false := by rw [decide_eq_true h0] at hi; simpa using hi.symm
    subst hi'
    clear hi
    go_wp2_with fail
    go_ret
    exact ⟨rfl, hb⟩
  · have hi' : q = true := by rw [decide_eq_false h0] at hi; simpa using hi.symm
    subst hi'
    clear hi
    have hd : Hid (decide (0 ≤ i) = !true) := decide_eq_false h0
    go_wp2_with fail
    go_ret
    exact ⟨ret_bool hd.out, hb⟩

set_option maxHeartbeats 400000 in
theorem everyBB_any (G : List (List Bool) → Bool) (N : Nat) (caps : Array Value) (eg : ∀ args w, (callFunc N args).run Try.prog w = .ok (.enter N args) w) (xs : List (List (List Bool))) (hm : xs.length ≤ 9223372036854775807) (A : Option Addr) (C : Nat) (w : World) (hl : BBB 0 w xs A)
    (KC : Hid (∀ (W : World) (x : List (List Bool)) (B : Option Addr) (D : Nat), Sees w W → x ∈ xs → BB 0 W x B → Calls Try.prog N (#[.slice B x.length D] ++ caps) W fun e w' => e = .returned (.bool (G x)) ∧ Below W.heap.size W w')) :
    Calls Try.prog 161 #[.slice A xs.length C, .func (.func N) #[] caps] w fun e w' => e = .returned (.bool (xs.all G)) ∧ Below w.heap.size w w' := by
  have KI : Hid (∀ W : World, Sees w W → W.cell? ⟨w.heap.size, 0, none⟩ = some (.func (.func N) #[] caps) → Calls Try.prog 173 #[.slice A xs.length C, .func (.func 174) #[] #[.pointer (some ⟨w.heap.size, 0, none⟩)]] W fun e w' => e = .returned (.bool (!(xs.all G))) ∧ Below W.heap.size W w') := fun W h hc =>
    containsBB_any G w.heap.size xs hm A C W (bbb_ok.below hl h) (fun W' x B D h' hx hQ => every1BB_any (G x) N caps eg w.heap.size _ W' (kc h' hc) (fun W2 h2 => KC.out W2 x B D (Sees.below h (Sees.below h' h2)) hx (bb_ok.below hQ h2)))
  clear hl
  obtain ⟨q, hq⟩ : ∃ q : Bool, q = xs.all G := ⟨_, rfl⟩
  rw [← hq] at KI ⊢
  clear hq
  cases q
  all_goals
    go_enter Try.func161, Try.ntmps161
    go_wp2_with fail
    refine (KI.out _ (by unfold Sees; go_grown) (by simp [go_sem])).mono ?_
    rintro e w1 ⟨rfl, hb⟩
    have B1 : Sees w w1 := Sees.below (by unfold Sees; go_grown) hb
    clear hb
    go_wp2_with fail
    go_ret
    exact ⟨rfl, B1⟩
end Go.Proofs.Ytmblgkpgfofceaa

namespace Go.Proofs.Ytmblgkpgfofceaa
open Go.RowKit

theorem validB_any (x : Bool) (w : World) : Calls Try.prog 128 #[.bool x] w fun e w' => e = .returned (.bool ((fun _ : Bool => true) x)) ∧ Below w.heap.size w w' := by
  go_enter Try.func128, Try.ntmps128
  go_wp2_with fail
  go_ret
  exact ⟨rfl, Below.refl _ _⟩

theorem shape1B_any (p : Int) (bp : Nat) (row : List Bool) (B : Option Addr) (D : Nat) (w : World) (hp : w.cell? ⟨bp, 0, none⟩ = some (.int .i64 p)) :
    Calls Try.prog 156 #[.slice B row.length D, .pointer (some ⟨bp, 0, none⟩)] w fun e w' => e = .returned (.bool (isRow p row)) ∧ Below w.heap.size w w' := by
  by_cases h : (row.length : Int) = p
  · have HE : Hid (isRow p row = true) := isRow_pos h
    have te : ((row.length : Int) == p) = true := by simp [h]
    clear h
    go_enter Try.func156, Try.ntmps156
    go_wp2_with fail
    go_ret
    exact ⟨ret_bool HE.out.symm, Below.refl _ _⟩
  · have HE : Hid (isRow p row = false) := isRow_neg h
    have te : ((row.length : Int) == p) = false := by rw [beq_eq_false_iff_ne]; exact h
    clear h
    go_enter Try.func156, Try.ntmps156
    go_wp2_with fail
    go_ret
    exact ⟨ret_bool HE.out.symm, Below.refl _ _⟩

set_option maxHeartbeats 400000 in
theorem shape2B_any (p : Int) (bp bv : Nat) (row : List (Bool)) (hm : row.length ≤ 9223372036854775807) (B : Option Addr) (D : Nat) (w : World) (hp : w.cell? ⟨bp, 0, none⟩ = some (.int .i64 p)) (hv : w.cell? ⟨bv, 0, none⟩ = some (.func (.func 128) #[] #[])) (hl : BoolsL 0 w row B) :
    Calls Try.prog 157 #[.slice B row.length D, .pointer (some ⟨bp, 0, none⟩), .pointer (some ⟨bv, 0, none⟩)] w fun e w' => e = .returned (.bool (rowH p (fun _ : Bool => true) row)) ∧ Below w.heap.size w w' := by
  have KE : Hid (∀ W : World, Sees w W → Calls Try.prog 158 #[.slice B row.length D, .func (.func 128) #[] #[]] W fun e w' => e = .returned (.bool (row.all (fun _ : Bool => true))) ∧ Below W.heap.size W w') := fun W h => everyb_any (fun _ : Bool => true) 128 #[] (enters_of Try.func128 (by kernel_rfl) rfl) row hm B D W (bools_ok.below hl h) (fun W2 x h2 _ => validB_any x W2)
  by_cases h : (row.length : Int) = p
  · obtain ⟨q, hq⟩ : ∃ q : Bool, q = row.all (fun _ : Bool => true) := ⟨_, rfl⟩
    have HE : Hid (rowH p (fun _ : Bool => true) row = q) := by show _ = _; unfold rowH; rw [isRow_pos h, hq]; rfl
    have te : ((row.length : Int) == p) = true := by simp [h]
    rw [← hq] at KE
    clear h hq hl
    go_enter Try.func157, Try.ntmps157
    go_wp2_with fail
    refine (KE.out _ (Sees.refl _)).mono ?_
    rintro e w1 ⟨rfl, hb⟩
    go_wp2_with fail
    go_ret
    exact ⟨ret_bool HE.out.symm, hb⟩
  · have HE : Hid (rowH p (fun _ : Bool => true) row = false) := by show _ = _; unfold rowH; rw [isRow_neg h]; rfl
    have te : ((row.length : Int) == p) = false := by rw [beq_eq_false_iff_ne]; exact h
    clear h hl
    go_enter Try.func157, Try.ntmps157
    go_wp2_with fail
    go_ret
    exact ⟨ret_bool HE.out.symm, Below.refl _ _⟩

set_option maxHeartbeats 400000 in
theorem shape3B_any (p : Int) (bp br : Nat) (bv : Nat) (row : List (List Bool)) (hm : row.length ≤ 9223372036854775807) (B : Option Addr) (D : Nat) (w : World) (hp : w.cell? ⟨bp, 0, none⟩ = some (.int .i64 p)) (hv : w.cell? ⟨br, 0, none⟩ = some (.func (.func 157) #[] #[.pointer (some ⟨bp, 0, none⟩), .pointer (some ⟨bv, 0, none⟩)])) (hl : BB 0 w row B) (hv2 : w.cell? ⟨bv, 0, none⟩ = some (.func (.func 128) #[] #[])) (hf : ∀ x ∈ row, x.length ≤ 9223372036854775807) :
    Calls Try.prog 159 #[.slice B row.length D, .pointer (some ⟨bp, 0, none⟩), .pointer (some ⟨br, 0, none⟩)] w fun e w' => e = .returned (.bool (actH p (fun _ : Bool => true) row)) ∧ Below w.heap.size w w' := by
  have KE : Hid (∀ W : World, Sees w W → Calls Try.prog 160 #[.slice B row.length D, .func (.func 157) #[] #[.pointer (some ⟨bp, 0, none⟩), .pointer (some ⟨bv, 0, none⟩)]] W fun e w' => e = .returned (.bool (row.all (rowH p (fun _ : Bool => true)))) ∧ Below W.heap.size W w') := fun W h => everyB_any (rowH p (fun _ : Bool => true)) 157 #[.pointer (some ⟨bp, 0, none⟩), .pointer (some ⟨bv, 0, none⟩)] (enters_of Try.func157 (by kernel_rfl) rfl) row hm B D W (bb_ok.below hl h) (fun W2 x B2 D2 h2 hx hx2 => shape2B_any p bp bv x (hf x hx) B2 D2 W2 (kc (Sees.below h h2) hp) (kc (Sees.below h h2) hv2) hx2)
  by_cases h : (row.length : Int) = p
  · obtain ⟨q, hq⟩ : ∃ q : Bool, q = row.all (rowH p (fun _ : Bool => true)) := ⟨_, rfl⟩
    have HE : Hid (actH p (fun _ : Bool => true) row = q) := by show _ = _; unfold actH; rw [isRow_pos h, hq]; rfl
    have te : ((row.length : Int) == p) = true := by simp [h]
    rw [← hq] at KE
    clear h hq hl
    go_enter Try.func159, Try.ntmps159
    go_wp2_with fail
    refine (KE.out _ (Sees.refl _)).mono ?_
    rintro e w1 ⟨rfl, hb⟩
    go_wp2_with fail
    go_ret
    exact ⟨ret_bool HE.out.symm, hb⟩
  · have HE : Hid (actH p (fun _ : Bool => true) row = false) := by show _ = _; unfold actH; rw [isRow_neg h]; rfl
    have te : ((row.length : Int) == p) = false := by rw [beq_eq_false_iff_ne]; exact h
    clear h hl
    go_enter Try.func159, Try.ntmps159
    go_wp2_with fail
    go_ret
    exact ⟨ret_bool HE.out.symm, Below.refl _ _⟩

set_option maxHeartbeats 2000000 in
set_option maxRecDepth 100000 in
theorem haveShapeB_any (t a p : Int) (ac : List (List Bool)) (nx : List (List (List Bool))) (hs : SmallM ac nx) (A B : Option Addr) (C D : Nat) (w : World) (hA : BB 0 w ac A) (hB : BBB 0 w nx B) :
    Calls Try.prog 127 #[.agg #[.int .i64 t, .int .i64 a], .int .i64 p, .slice A ac.length C, .slice B nx.length D, (.func (.func 128) #[] #[])] w fun e w' => e = .returned (.bool (validH (fun _ : Bool => true) t a p ac nx)) ∧ Below w.heap.size w w' := by
  obtain ⟨f1, f2, f3, f4⟩ := hs
  obtain ⟨q1, hq1⟩ : ∃ q1 : Bool, q1 = sigOk t a := ⟨_, rfl⟩
  have K1 : Hid (∀ W : World, Calls Try.prog 105 #[.agg #[.int .i64 t, .int .i64 a]] W fun e w' => e = .returned (.bool q1) ∧ Below W.heap.size W w') := fun W => by rw [hq1]; exact implValidSig_any t a W
  obtain ⟨q2, hq2⟩ : ∃ q2 : Bool, q2 = ac.all (isRow p) := ⟨_, rfl⟩
  obtain ⟨q3, hq3⟩ : ∃ q3 : Bool, q3 = nx.all (actH p (fun _ : Bool => true)) := ⟨_, rfl⟩
  have K2 : Hid (∀ (W : World) (bp : Nat), Sees w W → W.cell? ⟨bp, 0, none⟩ = some (.int .i64 p) → Calls Try.prog 160 #[.slice A ac.length C, .func (.func 156) #[] #[.pointer (some ⟨bp, 0, none⟩)]] W fun e w' => e = .returned (.bool q2) ∧ Below W.heap.size W w') := fun W bp h hp => by
    rw [hq2]
    exact everyB_any (isRow p) 156 #[.pointer (some ⟨bp, 0, none⟩)] (enters_of Try.func156 (by kernel_rfl) rfl) ac (by omega) A C W (bb_ok.below hA h) (fun W2 x B2 D2 h2 _ _ => shape1B_any p bp x B2 D2 W2 (kc h2 hp))
  have K3 : Hid (∀ (W : World) (bp bv br : Nat), Sees w W → W.cell? ⟨bp, 0, none⟩ = some (.int .i64 p) → W.cell? ⟨bv, 0, none⟩ = some (.func (.func 128) #[] #[]) → W.cell? ⟨br, 0, none⟩ = some (.func (.func 157) #[] #[.pointer (some ⟨bp, 0, none⟩), .pointer (some ⟨bv, 0, none⟩)]) → Calls Try.prog 161 #[.slice B nx.length D, .func (.func 159) #[] #[.pointer (some ⟨bp, 0, none⟩), .pointer (some ⟨br, 0, none⟩)]] W fun e w' => e = .returned (.bool q3) ∧ Below W.heap.size W w') := fun W bp bv br h hp hv hr => by
    rw [hq3]
    exact everyBB_any (actH p (fun _ : Bool => true)) 159 #[.pointer (some ⟨bp, 0, none⟩), .pointer (some ⟨br, 0, none⟩)] (enters_of Try.func159 (by kernel_rfl) rfl) nx (by omega) B D W (bbb_ok.below hB h) (fun W2 x B2 D2 h2 hx hx2 => shape3B_any p bp br bv x (Nat.le_trans (f4 x hx).1 (by decide)) B2 D2 W2 (kc h2 hp) (kc h2 hr) hx2 (kc h2 hv) (fun y hy => Nat.le_trans ((f4 x hx).2 y hy) (by decide)))
  have hvalid : Hid (validH (fun _ : Bool => true) t a p ac nx = (q1 && (inB p 1 8 && (decide ((ac.length : Int) = t) && (decide ((nx.length : Int) = a) && (q2 && q3)))))) := by show _ = _; unfold validH; rw [hq1, hq2, hq3]
  obtain ⟨w0, hw0⟩ : ∃ w0, w0 = ((w.alloc (.cells #[.int .i64 t, .int .i64 a] 29)).alloc (.cells #[.int .i64 p] 2)).alloc (.cells #[.func (.func 128) #[] #[]] 166) := ⟨_, rfl⟩
  have B0 : Sees w w0 := by rw [hw0]; exact (((Sees.refl w).alloc _).alloc _).alloc _
  have g0 : w0.cell? ⟨w.heap.size, 0, none⟩ = some (.int .i64 t) := by rw [hw0]; simp [go_sem]
  have g1 : w0.cell? ⟨w.heap.size, 1, none⟩ = some (.int .i64 a) := by rw [hw0]; simp [go_sem]
  have g2 : w0.cell? ⟨w.heap.size + 1, 0, none⟩ = some (.int .i64 p) := by rw [hw0]; simp [go_sem]
  have g3 : w0.cell? ⟨w.heap.size + 1 + 1, 0, none⟩ = some (.func (.func 128) #[] #[]) := by rw [hw0]; simp [go_sem]
  clear hq1 hq2 hq3 hA hB f1 f2 f3 f4
  cases q1
  · have HD : Hid (validH (fun _ : Bool => true) t a p ac nx = false) := by show _ = _; rw [hvalid.out]; rfl
    clear hvalid
    go_enter Try.func127, Try.ntmps127
    go_wp2_with fail
    rw [← hw0]
    refine (K1.out _).mono ?_
    rintro e w1 ⟨rfl, hb⟩
    have x0 := kc hb g0; have x1 := kc hb g1; have x2 := kc hb g2; have x3 := kc hb g3
    have B1 : Sees w w1 := B0.below hb
    clear hw0 g0 g1 g2 g3 hb B0
    go_wp2_with fail
    go_ret
    exact ⟨ret_bool HD.out.symm, B1⟩
  by_cases hlo : p < 1
  · have HD : Hid (validH (fun _ : Bool => true) t a p ac nx = false) := by show _ = _; rw [hvalid.out, show inB p 1 8 = false from by unfold inB; simp; omega]; rfl
    have t1 : decide (p < 1) = true := decide_eq_true hlo
    clear hvalid
    go_enter Try.func127, Try.ntmps127
    go_wp2_with fail
    rw [← hw0]
    refine (K1.out _).mono ?_
    rintro e w1 ⟨rfl, hb⟩
    have x0 := kc hb g0; have x1 := kc hb g1; have x2 := kc hb g2; have x3 := kc hb g3
    have B1 : Sees w w1 := B0.below hb
    clear hw0 g0 g1 g2 g3 hb B0
    go_wp2_with fail
    go_ret
    exact ⟨ret_bool HD.out.symm, B1⟩
  have t1 : decide (p < 1) = false := decide_eq_false hlo
  by_cases hhi : (8 : Int) < p
  · have HD : Hid (validH (fun _ : Bool => true) t a p ac nx = false) := by show _ = _; rw [hvalid.out, show inB p 1 8 = false from by unfold inB; simp; omega]; rfl
    have t2 : decide ((8 : Int) < p) = true := decide_eq_true hhi
    clear hvalid
    go_enter Try.func127, Try.ntmps127
    go_wp2_with fail
    rw [← hw0]
    refine (K1.out _).mono ?_
    rintro e w1 ⟨rfl, hb⟩
    have x0 := kc hb g0; have x1 := kc hb g1; have x2 := kc hb g2; have x3 := kc hb g3
    have B1 : Sees w w1 := B0.below hb
    clear hw0 g0 g1 g2 g3 hb B0
    go_wp2_with fail
    go_ret
    exact ⟨ret_bool HD.out.symm, B1⟩
  have t2 : decide ((8 : Int) < p) = false := decide_eq_false hhi
  have hb18 : inB p 1 8 = true := by unfold inB; simp; omega
  rw [hb18] at hvalid
  by_cases hl1 : (ac.length : Int) = t
  case neg =>
    have HD : Hid (validH (fun _ : Bool => true) t a p ac nx = false) := by show _ = _; rw [hvalid.out, decide_eq_false hl1]; rfl
    have tn : ((ac.length : Int) != t) = true := by rw [bne_iff_ne]; exact hl1
    clear hvalid hb18 hl1
    go_enter Try.func127, Try.ntmps127
    go_wp2_with fail
    rw [← hw0]
    refine (K1.out _).mono ?_
    rintro e w1 ⟨rfl, hb⟩
    have x0 := kc hb g0; have x1 := kc hb g1; have x2 := kc hb g2; have x3 := kc hb g3
    have B1 : Sees w w1 := B0.below hb
    clear hw0 g0 g1 g2 g3 hb B0
    go_wp2_with fail
    go_ret
    exact ⟨ret_bool HD.out.symm, B1⟩
  have tl1 : ((ac.length : Int) != t) = false := by simp [hl1]
  rw [decide_eq_true hl1] at hvalid
  clear hl1
  by_cases hl2 : (nx.length : Int) = a
  case neg =>
    have HD : Hid (validH (fun _ : Bool => true) t a p ac nx = false) := by show _ = _; rw [hvalid.out, decide_eq_false hl2]; rfl
    have tn : ((nx.length : Int) != a) = true := by rw [bne_iff_ne]; exact hl2
    clear hvalid hb18 hl2
    go_enter Try.func127, Try.ntmps127
    go_wp2_with fail
    rw [← hw0]
    refine (K1.out _).mono ?_
    rintro e w1 ⟨rfl, hb⟩
    have x0 := kc hb g0; have x1 := kc hb g1; have x2 := kc hb g2; have x3 := kc hb g3
    have B1 : Sees w w1 := B0.below hb
    clear hw0 g0 g1 g2 g3 hb B0
    go_wp2_with fail
    go_ret
    exact ⟨ret_bool HD.out.symm, B1⟩
  have tl2 : ((nx.length : Int) != a) = false := by simp [hl2]
  rw [decide_eq_true hl2] at hvalid
  clear hl2
  cases q2
  · have HD : Hid (validH (fun _ : Bool => true) t a p ac nx = false) := by show _ = _; rw [hvalid.out]; rfl
    clear hvalid hb18
    go_enter Try.func127, Try.ntmps127
    go_wp2_with fail
    rw [← hw0]
    refine (K1.out _).mono ?_
    rintro e w1 ⟨rfl, hb⟩
    have x0 := kc hb g0; have x1 := kc hb g1; have x2 := kc hb g2; have x3 := kc hb g3
    have B1 : Sees w w1 := B0.below hb
    clear hw0 g0 g1 g2 g3 hb B0
    go_wp2_with fail
    refine (K2.out _ (w.heap.size + 1) (B1.alloc _) (ka _ x2)).mono ?_
    rintro e w2 ⟨rfl, hb⟩
    have B2 : Sees w w2 := Sees.below (B1.alloc _) hb
    clear hb
    go_wp2_with fail
    go_ret
    exact ⟨ret_bool HD.out.symm, B2⟩
  have HD : Hid (validH (fun _ : Bool => true) t a p ac nx = q3) := by show _ = _; rw [hvalid.out]; rfl
  clear hvalid hb18
  go_enter Try.func127, Try.ntmps127
  go_wp2_with fail
  rw [← hw0]
  refine (K1.out _).mono ?_
  rintro e w1 ⟨rfl, hb⟩
  have x0 := kc hb g0; have x1 := kc hb g1; have x2 := kc hb g2; have x3 := kc hb g3
  have B1 : Sees w w1 := B0.below hb
  clear hw0 g0 g1 g2 g3 hb B0
  go_wp2_with fail
  refine (K2.out _ (w.heap.size + 1) (B1.alloc _) (ka _ x2)).mono ?_
  rintro e w2 ⟨rfl, hb⟩
  have B2 : Sees w w2 := Sees.below (B1.alloc _) hb
  have y2 := kc hb (ka _ x2); have y3 := kc hb (ka _ x3)
  have y4 := kc hb (show (w1.alloc _).cell? ⟨w1.heap.size, 0, none⟩ = some (.func (.func 157) #[] #[.pointer (some ⟨w.heap.size + 1, 0, none⟩), .pointer (some ⟨w.heap.size + 1 + 1, 0, none⟩)]) from by simp [go_sem])
  clear hb x0 x1 x2 x3 B1
  go_wp2_with fail
  refine (K3.out _ (w.heap.size + 1) (w.heap.size + 1 + 1) w1.heap.size B2 y2 y3 y4).mono ?_
  rintro e w3 ⟨rfl, hb⟩
  have B3 : Sees w w3 := B2.below hb
  clear hb
  go_wp2_with fail
  go_ret
  exact ⟨ret_bool HD.out.symm, B3⟩

set_option maxRecDepth 100000 in
theorem implValidModel_any (t a p : Int) (ac : List (List Bool)) (nx : List (List (List Bool))) (hs : SmallM ac nx) (A B : Option Addr) (C D : Nat) (w : World) (hA : BB 0 w ac A) (hB : BBB 0 w nx B) :
    Calls Try.prog 78 #[.agg #[.int .i64 t, .int .i64 a, .int .i64 p, .slice A ac.length C, .slice B nx.length D]] w fun e w' => e = .returned (.bool (validM t a p ac nx)) ∧ Below w.heap.size w w' := by
  obtain ⟨q, hq⟩ : ∃ q : Bool, q = validM t a p ac nx := ⟨_, rfl⟩
  have K : Hid (∀ W : World, Sees w W → Calls Try.prog 127 #[.agg #[.int .i64 t, .int .i64 a], .int .i64 p, .slice A ac.length C, .slice B nx.length D, (.func (.func 128) #[] #[])] W fun e w' => e = .returned (.bool q) ∧ Below W.heap.size W w') := fun W h => by
    rw [hq, ← validH_model]
    exact haveShapeB_any t a p ac nx hs A B C D W (bb_ok.below hA h) (bbb_ok.below hB h)
  rw [← hq]
  clear hq hA hB hs
  go_enter Try.func78, Try.ntmps78
  go_wp2_with fail
  refine (K.out _ (by unfold Sees; go_grown)).mono ?_
  rintro e w1 ⟨rfl, hb⟩
  have B1 : Sees w w1 := Sees.below (by unfold Sees; go_grown) hb
  clear hb
  go_wp2_with fail
  go_ret
  exact ⟨rfl, B1⟩
end Go.Proofs.Ytmblgkpgfofceaa
