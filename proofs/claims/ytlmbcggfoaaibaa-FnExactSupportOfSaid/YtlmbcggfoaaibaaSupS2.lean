/- SupportOf: contract at valid arguments. -/
import Derived.Test.YtlmbcggfoaaibaaSupB
import Derived.Test.YtlmbcggfoaaibaaVCS
import Derived.Deep.RegionLaw
namespace Go.Proofs.Ytlmbcggfoaaibaa
open Go.RowKit

set_option maxHeartbeats 8000000 in
set_option maxRecDepth 100000 in
theorem specSupportOf_yes (t a p : Nat) (ac : List (List Bool)) (nx : List (List (List Int))) (hs : SmallA ac nx) (hv : validC t a p ac nx = true) (A B : Option Addr) (C D : Nat) (w : World) (hA0 : BB 0 w ac A) (hB0 : III 0 w nx B) :
    Calls Try.prog 32 #[.agg #[.int .i64 (t : Int), .int .i64 (a : Int), .int .i64 (p : Int), .slice A ac.length C, .slice B nx.length D]] w (MEnd t a p (supT t p ac) (supA p nx) 0 w) := by
  rw [supT_eq hv]
  obtain ⟨_, ht3, _, ha4, hp1, hp8, hal, hnl, har, hnr⟩ := validC_bd hv
  obtain ⟨w0, hw0⟩ : ∃ w0, w0 = (w.alloc (.cells #[.int .i64 (t : Int), .int .i64 (a : Int), .int .i64 (p : Int), .slice A ac.length C, .slice B nx.length D] 43)).alloc (.cells #[.int .i64 0, .int .i64 0, .int .i64 0, .slice none 0 0, .slice none 0 0] 32) := ⟨_, rfl⟩
  have B0 : Sees w w0 := by rw [hw0]; exact ((Sees.refl w).alloc _).alloc _
  have hA := hA0.sees B0; have hB := hB0.sees B0
  have hc0 : w0.heap[w.heap.size]? = some (.cells #[.int .i64 (t : Int), .int .i64 (a : Int), .int .i64 (p : Int), .slice A ac.length C, .slice B nx.length D] 43 (0, 0)) := by
    rw [hw0]; exact (Below.heap_alloc _ _ _ (by simp)).trans (heap_new _ _ _ rfl)
  have hr0 : w0.heap[w.heap.size + 1]? = some (.cells #[.int .i64 0, .int .i64 0, .int .i64 0, .slice none 0 0, .slice none 0 0] 32 (0, 0)) := by
    rw [hw0]; exact heap_new _ _ _ (by simp)
  have z0 : w.heap.size + 2 ≤ w0.heap.size := by rw [hw0]; simp
  have K1 : Hid (∀ W : World, Sees w0 W → Calls Try.prog 69 #[.pointer (some ⟨w.heap.size, 0, none⟩)] W fun e w' => e = .returned (.bool true) ∧ Below W.heap.size W w') := fun W h => by
    obtain ⟨g0, g1, g2, g3, g4, _, _, _, _, _⟩ := five_facts ((h.block _ (by omega)).trans hc0)
    rw [← hv]; exact l05CostsOk_any t a p ac nx hs A B C D _ W (hA.sees h) (hB.sees h) g0 g1 g2 g3 g4
  have HA := Lib.hid hA; have HB := Lib.hid hB
  have HC0 := Lib.hid hc0; have HR0 := Lib.hid hr0
  have HAR := Lib.hid har; have HNR := Lib.hid hnr
  have hn4 : nx.length ≤ 4 := by omega
  have hpn1 : 1 ≤ p := by omega
  have hpn8 : p ≤ 8 := by omega
  have hln : nx.length = a := by omega
  have hlt : ac.length = t := by omega
  have htn3 : t ≤ 3 := by omega
  have HLT := Lib.hid hlt; have HLN := Lib.hid hln
  have FIN : Hid (∀ W : World, Below w0.heap.size w0 W → Sees w W) := fun W h => B0.below h
  clear hA hB hA0 hB0 hv hs har hnr hal hnl ha4 B0 hc0 hr0 hp1 hp8 ht3 hln hlt
  go_enter Try.func32, Try.ntmps32
  have HW0 := Lib.hid hw0
  go_wp2_with fail
  rw [← hw0]
  clear hw0
  refine (K1.out _ (Sees.refl _)).mono ?_
  rintro e w1 ⟨rfl, hb⟩
  have S1 := Lib.hid (show Sees w0 w1 from hb)
  have HC1 := Lib.hid ((hb.block _ (by omega)).trans HC0.out)
  have HR1 := Lib.hid ((hb.block _ (by omega)).trans HR0.out)
  have z1 : w.heap.size + 2 ≤ w1.heap.size := Nat.le_trans z0 hb.size
  have zc : w.heap.size < w1.heap.size := by omega
  clear hb K1
  obtain ⟨c0, c1, c2, c3, c4, _, _, _, _, _⟩ := five_facts HC1.out
  obtain ⟨w2, hw2⟩ : ∃ w2, w2 = w1.alloc (.cells #[.int .i64 (t : Int), .int .i64 (a : Int), .int .i64 (p : Int), .slice none 0 0, .slice none 0 0] 32) := ⟨_, rfl⟩
  have hb2 : Below w1.heap.size w1 w2 := by rw [hw2]; exact (Below.refl _ _).alloc (Nat.le_refl _) _
  have HB2 := Lib.hid hb2
  have hz2 : w1.heap.size < w2.heap.size := by rw [hw2]; simp
  have HZ2 := Lib.hid hz2
  have H2 : Hid (BA 112 BoolsF List.length (fun v => #[.int .i64 (t : Int), .int .i64 (a : Int), .int .i64 (p : Int), v, .slice none 0 0]) w1.heap.size w2 (ac.take 0) (.slice none 0 0) w2) :=
    ⟨by rw [hw2]; exact heap_new _ _ _ rfl, Acc.start, ButF.refl _ _, hz2⟩
  clear hb2 hz2
  have HW2 := Lib.hid hw2
  go_wp2_with fail
  rw [← hw2]
  clear hw2 c0 c1 c2 c3 c4
  go_loopw [5] (fun i wr => ∃ (j : Nat) (v : Value), j ≤ t ∧ i = .int .i64 j ∧ Hid (BA 112 BoolsF List.length (fun v => #[.int .i64 (t : Int), .int .i64 (a : Int), .int .i64 (p : Int), v, .slice none 0 0]) w1.heap.size w2 (ac.take j) v wr)) (fun i _ => t - (intOf i).toNat)
  case atStart => exact ⟨0, _, Nat.zero_le _, rfl, H2.out⟩
  case round =>
    obtain ⟨j, v, hj, rfl, hS⟩ := hrel
    clear H2
    obtain ⟨w3, rfl⟩ : ∃ w3, w3 = wr := ⟨_, rfl⟩
    have B3 := Lib.hid (hS.out.but.old HB2.out)
    have HC3 := Lib.hid ((B3.out.block w.heap.size zc).trans HC1.out)
    obtain ⟨c0, c1, c2, c3, c4, _, _, _, _, _⟩ := five_facts HC3.out
    rw [HLT.out] at c3
    by_cases hjt : j < t
    · have JL := Lib.hid hjt
      have hja : j < ac.length := by rw [HLT.out]; exact hjt
      have hstep : ac.take (j + 1) = ac.take j ++ [ac[j]] := List.take_succ_eq_append_getElem hja
      have hrl : ac[j].length = p := by have := HAR.out ac[j] (List.getElem_mem hja); omega
      have s3 : Sees w0 w3 := S1.out.below B3.out
      obtain ⟨bA, oA, _, hAe, hat⟩ := (HA.out.sees s3) (by rintro rfl; simp at hja)
      obtain ⟨R, DR, cA, qA⟩ := hat j ac[j] (List.getElem?_eq_getElem hja)
      obtain ⟨row, hrow⟩ : ∃ row, row = ac[j] := ⟨_, rfl⟩
      rw [← hrow] at cA qA hrl hstep
      obtain ⟨y2, z2, _, hRe, hat2⟩ := qA (by rintro rfl; simp at hrl; omega)
      have HAT2 := Lib.hid hat2
      have HST := Lib.hid hstep
      have HR1' : Hid (1 ≤ row.length) := by show _ ≤ _; rw [hrl]; exact hpn1
      have HR8 : Hid (row.length ≤ 8) := by show _ ≤ _; rw [hrl]; exact hpn8
      have hlen : (ac.take j).length = j := by rw [List.length_take]; omega
      have HLEN := Lib.hid hlen
      have j0 : (0 : Int) ≤ (j : Int) := Int.natCast_nonneg _
      have j1 : (j : Int) < (t : Int) := by omega
      have j4 : j ≤ 1048576 := by omega
      obtain ⟨m0, m1, m2, m3, m4, n0, n1, n2, n3, n4⟩ := five_facts hS.out.box
      have zw1 : w1.heap.size < w3.heap.size := Nat.lt_of_lt_of_le HZ2.out hS.out.but.size
      have zw0 : w.heap.size < w3.heap.size := by omega
      clear hstep hrow hrl hja hat qA s3 hlen hat2 hjt
      subst hAe hRe
      have cA2 := ka (.cells #[] 4) cA
      go_wp2_with fail
      go_region_law (first
        | (refine step_copy _ (by rfl) _ _ (by rfl) w3.heap.size w3.heap.size y2 z2 DR row (by rfl) (by rfl) (Nat.le_refl _) (by exact heap_new _ _ _ rfl) (by exact fun k u hk => ka _ (HAT2.out k u hk)) HR1'.out HR8.out ?_; intro g cap wa hbel hbools; have hsa : Below w3.heap.size w3 wa := Below.trans (by first | exact (Below.refl _ _).alloc (Nat.le_refl _) _ | exact ((Sees.refl w3).alloc _).drew) hbel; have HSA := Lib.hid hsa; have HU := Lib.hid (hS.out.grow boolsF_ok hsa); obtain ⟨p0, p1, p2, p3, p4, o0, o1, o2, o3, o4⟩ := five_facts HU.out.box; obtain ⟨vals, hvl, hown, hpp⟩ := Acc.push boolsF_ok hS.out.acc hS.out.but.size hsa hbools (Wa := wa.alloc (.cells #[.slice (some ⟨g, 0, none⟩) row.length cap] 112)) (C := cap) ((Below.refl _ _).alloc (Nat.le_refl _) _); rw [HLEN.out] at hpp hown; have HOWN := Lib.hid hown; have HPP := Lib.hid hpp; have zwa : w1.heap.size < wa.heap.size := (Nat.lt_of_lt_of_le zw1 hsa.size); clear hown hpp hbools hsa hbel)
        | (refine step_one Try.elBB (wa.alloc (.cells #[.slice (some ⟨g, 0, none⟩) row.length cap] 112)) (by rfl) _ _ (by rfl) w2.heap.size j wa.heap.size v (.slice (some ⟨g, 0, none⟩) row.length cap) vals (by rfl) (by rfl) HOWN.out (by simp [go_sem]) rfl j4 (by have := HU.out.but.size; simp; omega) ?_; intro v' w' ho hg hat; have hacc := HPP.out v' w' ho hg hat; obtain ⟨Zv, lv, Cv, hvf⟩ := (accForm hacc); subst hvf; obtain ⟨hX, hbx⟩ := BA.push (i := 3) boolsF_ok (fun _ _ => rfl) (HU.out.grow boolsF_ok ((Below.refl _ _).alloc (Nat.le_refl _) _)) hacc hg; have HX := Lib.hid hX; obtain ⟨q0, q1, q2, q3, q4, t0, t1, t2, t3, t4⟩ := five_facts hbx; clear hX hacc ho hg hat))
      all_goals
        have HX2 : Hid (BA 112 BoolsF List.length (fun v => #[.int .i64 (t : Int), .int .i64 (a : Int), .int .i64 (p : Int), v, .slice none 0 0]) w1.heap.size w2 (ac.take (j + 1)) (.slice Zv lv Cv) (w'.setCell ⟨w1.heap.size, 3, none⟩ (.slice Zv lv Cv))) := by rw [HST.out]; exact HX.out
        go_wp2_with fail
        go_roundw
        case rel => exact ⟨j + 1, _, JL.out, by go_num, HX2.out⟩
        case measure => have := JL.out; simp [intOf]; omega
    · obtain rfl : t = j := by omega
      have hall : ac.take t = ac := List.take_of_length_le (by rw [HLT.out]; exact Nat.le_refl _)
      rw [hall] at hS
      obtain ⟨A1, C1, hv1, hR1⟩ := hS.out.acc.done
      rw [HLT.out] at hv1
      subst hv1
      have B23 : Hid (w2.heap.size ≤ w3.heap.size) := hS.out.but.size
      have z3 : w1.heap.size < w3.heap.size := Nat.lt_of_lt_of_le HZ2.out hS.out.but.size
      have HT3 : Hid (BBF w3 ac A1 (rng w2.heap.size w3.heap.size)) := hR1
      have H3 : Hid (BA 24 BBF List.length (fun v => #[.int .i64 (t : Int), .int .i64 (a : Int), .int .i64 (p : Int), .slice A1 t C1, v]) w1.heap.size w3 ((supA p nx).take 0) (.slice none 0 0) w3) := ⟨hS.out.box, Acc.start, ButF.refl _ _, z3⟩
      clear hR1 hall hS
      go_wp2_with fail
      clear c0 c1 c2 c3 c4
      go_loopw [6] (fun i wr => ∃ (j : Nat) (v : Value), j ≤ nx.length ∧ i = .int .i64 j ∧ Hid (BA 24 BBF List.length (fun v => #[.int .i64 (t : Int), .int .i64 (a : Int), .int .i64 (p : Int), .slice A1 t C1, v]) w1.heap.size w3 ((supA p nx).take j) v wr)) (fun i _ => nx.length - (intOf i).toNat)
      case atStart => exact ⟨0, _, Nat.zero_le _, rfl, H3.out⟩
      case round =>
        obtain ⟨j, v, hj, rfl, hS⟩ := hrel
        clear H3
        obtain ⟨w5, rfl⟩ : ∃ w5, w5 = wr := ⟨_, rfl⟩
        have B5 := Lib.hid (hS.out.but.old B3.out)
        have z5 : w1.heap.size < w5.heap.size := Nat.lt_of_lt_of_le z3 hS.out.but.size
        have HC5 := Lib.hid ((B5.out.block w.heap.size zc).trans HC1.out)
        obtain ⟨c0, c1, c2, c3, c4, _, _, _, _, _⟩ := five_facts HC5.out
        by_cases hjn : j < nx.length
        · obtain ⟨bB, oB, _, hBe, hat⟩ := (HB.out.sees (S1.out.below B5.out)) (by rintro rfl; simp at hjn)
          obtain ⟨RB, DB, cB, qB⟩ := hat j nx[j] (List.getElem?_eq_getElem hjn)
          have hstep := supA_step (p := (p : Int)) hjn
          obtain ⟨hr1, hr2⟩ := HNR.out nx[j] (List.getElem_mem hjn)
          obtain ⟨rows, hrows⟩ : ∃ x, x = nx[j] := ⟨_, rfl⟩
          rw [← hrows] at cB qB hstep hr1 hr2
          have hrp : rows.length = p := by omega
          rw [hrp] at cB
          obtain ⟨T, hT⟩ : ∃ T : Nat → Nat → Bool, T = fun x y => (rows.getD x []).getD y 0 != -1 := ⟨_, rfl⟩
          have HSUP : Hid (supR p rows = upT p T p 0) := by
            show _ = _
            rw [upT_all, hT]
            unfold supR
            simp
          have HT := Lib.hid hT; have HST := Lib.hid hstep; have HR2 := Lib.hid hr2; have HRP := Lib.hid hrp; have QB := Lib.hid qB; have CB := Lib.hid cB; have JL := Lib.hid hjn
          have j0 : (0 : Int) ≤ (j : Int) := Int.natCast_nonneg _
          have j1 : (j : Int) < (nx.length : Int) := by omega
          clear hT hstep hr1 hr2 hrp qB hat hrows cB hjn
          subst hBe
          go_wp2_with fail
          refine (l05None_any p hpn8 _).mono ?_
          rintro e w4 ⟨A2, C2, rfl, hN, hb4⟩
          have B4 := Lib.hid hb4
          have P0 : Hid (BBF w4 (upT p T 0 0) A2 (rng w5.heap.size w4.heap.size)) := by show BBF _ _ _ _; rw [upT_zero]; exact hN
          have z4 : w5.heap.size ≤ w4.heap.size := hb4.size
          clear hN hb4 c0 c1 c2 c3 c4
          go_wp2_with fail
          go_loopw [8] (fun i wr => ∃ x : Nat, x ≤ p ∧ i = .int .i64 x ∧ Hid (BBF wr (upT p T x 0) A2 (rng w5.heap.size w4.heap.size)) ∧ Hid (ButF (rng w5.heap.size w4.heap.size) w4 wr)) (fun i _ => p - (intOf i).toNat)
          case atStart => exact ⟨0, Nat.zero_le _, rfl, P0.out, ButF.refl _ _⟩
          case round =>
            obtain ⟨x, hx, rfl, hP, hW⟩ := hrel
            clear P0
            obtain ⟨w6, rfl⟩ : ∃ w6, w6 = wr := ⟨_, rfl⟩
            by_cases hxp : x < p
            · have XP := Lib.hid hxp
              have x0 : (0 : Int) ≤ (x : Int) := Int.natCast_nonneg _
              have x1 : (x : Int) < (p : Int) := by omega
              clear hxp
              go_wp2_with fail
              go_loopw [9] (fun i wr => ∃ y : Nat, y ≤ p ∧ i = .int .i64 y ∧ Hid (BBF wr (upT p T x y) A2 (rng w5.heap.size w4.heap.size)) ∧ Hid (ButF (rng w5.heap.size w4.heap.size) w4 wr)) (fun i _ => p - (intOf i).toNat)
              case atStart => exact ⟨0, Nat.zero_le _, rfl, hP.out, hW.out⟩
              case round =>
                obtain ⟨y, hy, rfl, hP2, hW2⟩ := hrel
                by_cases hyp : y < p
                · have YP := Lib.hid hyp
                  have s5 : Below w5.heap.size w5 wr := but_young hW2.out B4.out
                  obtain ⟨c0, c1, c2, c3, c4, _, _, _, _, _⟩ := five_facts ((s5.block w.heap.size (by omega)).trans HC5.out)
                  have cB1 := kc s5 CB.out
                  have hxr : x < rows.length := by rw [HRP.out]; exact XP.out
                  obtain ⟨b2, o2, _, hRB, hat2⟩ := QB.out (by rintro rfl; simp at hxr)
                  obtain ⟨R2, D2, cR0, q2⟩ := hat2 x rows[x] (List.getElem?_eq_getElem hxr)
                  have hrl : rows[x].length = p := by have := HR2.out rows[x] (List.getElem_mem hxr); omega
                  obtain ⟨row, hrow⟩ : ∃ row, row = rows[x] := ⟨_, rfl⟩
                  have hTx : T x y = (row.getD y 0 != -1) := by rw [HT.out, hrow]; simp [List.getD, hxr]
                  rw [← hrow] at cR0 q2 hrl
                  have cR := kc s5 cR0
                  rw [hrl] at cR
                  have hyr : y < row.length := by rw [hrl]; exact hyp
                  obtain ⟨b3, o3, _, hR2, hat3⟩ := q2 (by rintro rfl; simp at hyr)
                  obtain ⟨q, hq⟩ : ∃ q, q = row[y] := ⟨_, rfl⟩
                  have d0 := hat3 y row[y] (List.getElem?_eq_getElem hyr)
                  have hTq : T x y = (q != -1) := by rw [hTx, hq]; simp [List.getD, hyr]
                  rw [← hq] at d0
                  have dV := kc s5 d0
                  obtain ⟨b, r, C3, old, hA2, hF1, hF2, e0, e1, e2, hput⟩ := upT_put hP2.out XP.out hyp
                  rw [hTq] at hput
                  have HPUT := Lib.hid hput
                  have HBUT := Lib.hid (hW2.out.set (i := y) hF2 (.bool (q != -1)))
                  have y0 : (0 : Int) ≤ (y : Int) := Int.natCast_nonneg _
                  have y1 : (y : Int) < (p : Int) := by omega
                  clear hat2 hat3 hq hrow hTx hTq hyr hxr hrl cR0 q2 d0 hF1 hF2 hput s5 hyp hP hW hP2 hW2
                  subst hRB hR2 hA2
                  go_wp2_with fail
                  go_region
                  all_goals
                    go_wp2_with fail
                    go_roundw
                    case rel => exact ⟨y + 1, YP.out, by go_num, HPUT.out, HBUT.out.draws⟩
                    case measure => have := YP.out; simp [intOf]; omega
                · obtain rfl : p = y := by omega
                  have hP3 : Hid (BBF wr (upT p T (x + 1) 0) A2 (rng w5.heap.size w4.heap.size)) := by show BBF _ _ _ _; rw [← upT_next]; exact hP2.out
                  go_wp2_with fail
                  go_roundw
                  case rel => exact ⟨x + 1, XP.out, by go_num, hP3.out, hW2.out⟩
                  case measure => have := XP.out; simp [intOf]; omega
            · obtain rfl : p = x := by omega
              have hsa : Below w5.heap.size w5 w6 := but_young hW.out B4.out
              have h0 : BBF w6 (supR p rows) A2 (rng w5.heap.size w4.heap.size) := by rw [HSUP.out]; exact hP.out
              have hQ2 : BBF w6 (supR p rows) A2 (rng w5.heap.size w6.heap.size) := bbF_ok.mono h0 fun k hk => ⟨hk.1, Nat.lt_of_lt_of_le hk.2 hW.out.size⟩
              have hU := hS.out.grow bbF_ok hsa
              obtain ⟨vals, hvl, hown, hpp⟩ := Acc.push bbF_ok hS.out.acc hS.out.but.size hsa hQ2 (Wa := w6.alloc (.cells #[.slice A2 p C2] 24)) (C := C2) ((Below.refl _ _).alloc (Nat.le_refl _) _)
              have hlen : ((supA p nx).take j).length = j := by rw [List.length_take, supA_len]; have := JL.out; omega
              have hln : List.length (supR (p : Int) rows) = p := by rw [supR_len]; simp
              rw [hln, hlen] at hpp
              rw [hlen] at hown
              have HU := Lib.hid hU; have HOWN := Lib.hid hown; have HPP := Lib.hid hpp; have HN4 := Lib.hid hn4
              obtain ⟨p0, p1, p2, p3, p4, o0, o1, o2, o3, o4⟩ := five_facts HU.out.box
              clear h0 hsa hQ2 hU hown hpp hvl hlen hln hP hW
              go_wp2_with (at_builtin; refine wpList_one Try.elBBB _ rfl _ _ rfl w3.heap.size j w6.heap.size v (.slice A2 p C2) vals rfl ?hx HOWN.out ?hc rfl ?hn ?hz ?_)
              case hx => (first | rfl | simp)
              case hc => simp [go_sem]
              case hn => have := JL.out; have := HN4.out; omega
              case hz => have := HU.out.but.size; simp; omega
              intro v' w' ho hg hat
              have hacc := HPP.out v' w' ho hg (by simpa using hat)
              obtain ⟨Zv, lv, Cv, hvf⟩ : ∃ A n C, v' = .slice A n C := let ⟨A, C, h, _⟩ := hacc.done; ⟨A, _, C, h⟩
              subst hvf
              obtain ⟨hX, hbx⟩ := BA.push (i := 4) bbF_ok (fun _ _ => rfl) (HU.out.grow bbF_ok ((Below.refl _ _).alloc (Nat.le_refl _) (.cells #[.slice A2 p C2] 24))) hacc hg
              obtain ⟨q0, q1, q2, q3, q4, t0, t1, t2, t3, t4⟩ := five_facts hbx
              have HX2 : Hid (BA 24 BBF List.length (fun v => #[.int .i64 (t : Int), .int .i64 (a : Int), .int .i64 (p : Int), .slice A1 t C1, v]) w1.heap.size w3 ((supA p nx).take (j + 1)) (.slice Zv lv Cv) (w'.setCell ⟨w1.heap.size, 4, none⟩ (.slice Zv lv Cv))) := by rw [HST.out]; exact hX
              clear hX hacc ho hg hat p0 p1 p2 p3 p4 o0 o1 o2 o3 o4 hbx
              go_wp2_with fail
              go_roundw
              case rel => exact ⟨j + 1, _, JL.out, by go_num, HX2.out⟩
              case measure => have := JL.out; simp [intOf]; omega
        · obtain rfl : j = nx.length := by omega
          have HR5 := (B5.out.block (w.heap.size + 1) (by omega)).trans HR1.out
          obtain ⟨u0, u1, u2, u3, u4, x0, x1, x2, x3, x4⟩ := five_facts HR5
          have hall : (supA (p : Int) nx).take nx.length = supA p nx := List.take_of_length_le (by rw [supA_len]; exact Nat.le_refl _)
          rw [hall] at hS
          obtain ⟨A2, C2, hv2, hR2⟩ := hS.out.acc.done
          rw [supA_len] at hv2
          subst hv2
          obtain ⟨m0, m1, m2, m3, m4, n0, n1, n2, n3, n4⟩ := five_facts hS.out.box
          have HR2 := Lib.hid hR2
          have HT5 : Hid (BBF w5 ac A1 (rng w2.heap.size w3.heap.size)) := bbF_ok.keep HT3.out fun k hk => hS.out.but.block k hk.2 (by have := hk.1; have := HZ2.out; show k ≠ _; omega)
          clear hR2
          go_wp2_with fail
          obtain ⟨y0, y1, y2, y3, y4, _, _, _, _, _⟩ := five_facts (five_block HR5 (.int .i64 (t : Int)) (.int .i64 (a : Int)) (.int .i64 (p : Int)) (.slice A1 t C1) (.slice A2 nx.length C2))
          refine bodyPost_ret (v := .tuple #[.agg #[.int .i64 t, .int .i64 a, .int .i64 p, .slice A1 t C1, .slice A2 nx.length C2], .int .i64 0]) (by simp [results, Try.results32, go_sem, y0, y1, y2, y3, y4]) rfl ?_
          exact mend5 HT5.out HR2.out (FIN.out _ (S1.out.below B5.out)) (by omega) (by have := HZ2.out; omega) (B23.out) (Nat.le_refl _) hS.out.but.size (Nat.le_refl _) HLT.out (supA_len _ _) _ _ _ _ _
end Go.Proofs.Ytlmbcggfoaaibaa
