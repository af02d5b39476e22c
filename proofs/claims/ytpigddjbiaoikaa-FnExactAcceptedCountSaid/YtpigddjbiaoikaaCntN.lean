/- Contracts of impl.newCounter, impl.AcceptedCount. -/
import Derived.Test.YtpigddjbiaoikaaCntL
namespace Go.Proofs.Ytpigddjbiaoikaa
open Go.RowKit

theorem five_facts {W : World} {b : Nat} {T : TypeId} {u0 u1 u2 u3 u4 : Value} (h : W.heap[b]? = some (.cells #[u0, u1, u2, u3, u4] T (0, 0))) :
    (W.cell? ⟨b, 0, none⟩ = some u0 ∧ W.cell? ⟨b, 1, none⟩ = some u1 ∧ W.cell? ⟨b, 2, none⟩ = some u2 ∧ W.cell? ⟨b, 3, none⟩ = some u3 ∧ W.cell? ⟨b, 4, none⟩ = some u4) ∧ (W.frozen? ⟨b, 0, none⟩ = false ∧ W.frozen? ⟨b, 1, none⟩ = false ∧ W.frozen? ⟨b, 2, none⟩ = false ∧ W.frozen? ⟨b, 3, none⟩ = false ∧ W.frozen? ⟨b, 4, none⟩ = false) :=
  ⟨⟨Fo.cell_of_block h 0, Fo.cell_of_block h 1, Fo.cell_of_block h 2, Fo.cell_of_block h 3, Fo.cell_of_block h 4⟩, Fo.unfrozen_of_block h 0, Fo.unfrozen_of_block h 1, Fo.unfrozen_of_block h 2, Fo.unfrozen_of_block h 3, Fo.unfrozen_of_block h 4⟩

theorem index_two0 (f0 f1 : Value) (w : World) : (Instr.index 110 (.agg #[f0, f1]) (.int .i64 0)).run Try.prog w = .ok f0 w := by kernel_rfl
theorem index_two1 (f0 f1 : Value) (w : World) : (Instr.index 110 (.agg #[f0, f1]) (.int .i64 1)).run Try.prog w = .ok f1 w := by kernel_rfl
set_option maxHeartbeats 4000000 in
set_option maxRecDepth 100000 in
theorem newCounter_any {t a : Int} {ac : List (List Bool)} {nx : List (List (List Int))} (hv : validA t a ac nx = true) (L : Nat) (hL : L ≤ 10) (A B : Option Addr) (C D : Nat) (w : World) (hA : BB 0 w ac A) (hB : III 0 w nx B) :
    Calls Try.prog 52 #[.agg #[.int .i64 t, .int .i64 a, .slice A ac.length C, .slice B nx.length D], .int .i64 L] w fun e w' => ∃ P cap, e = .returned (.agg #[.int .i64 t, .int .i64 a, .slice A ac.length C, .slice B nx.length D, .slice P (L + 1) cap]) ∧ Tab ac nx ac.length ((w.heap.size + 1 + 1) + 1) w' (L + 1) (.slice P (L + 1) cap) ∧ Below w.heap.size w w' := by
  obtain ⟨j0, hj0, hy0, hy1, hy2⟩ := info_parts Try.infoInt64SS
  have HI2 := Lib.hid hj0; have HZ2 := Lib.hid hy0; have HS2 := Lib.hid hy1; have HB2 := Lib.hid hy2
  clear hj0 hy0 hy1 hy2
  obtain ⟨hsg, hN1, hN60, hnl, hall⟩ := valid_at hv
  have ha4 := (sigOk_of hsg).2.2.2
  have h8 := (atomsN_bd t).2
  have wl : IntKind.i64.wrap ((L : Int) + 1) = (L : Int) + 1 := IntWalk.i64_in _ (by omega)
  obtain ⟨w0, hw0⟩ : ∃ w0, Hid (w0 = ((w.alloc (.cells #[.int .i64 t, .int .i64 a, .slice A ac.length C, .slice B nx.length D] 45)).alloc (.cells #[.int .i64 0, .int .i64 0, .slice none 0 0, .slice none 0 0, .slice none 0 0] 89)).alloc (.cells #[.int .i64 t, .int .i64 a, .slice A ac.length C, .slice B nx.length D, .slice none 0 0] 89)) := ⟨_, rfl⟩
  have B0 : Sees w w0 := by rw [hw0.out]; exact (((Sees.refl w).alloc _).alloc _).alloc _
  have hsz : w0.heap.size = (w.heap.size + 1 + 1) + 1 := by rw [hw0.out]; simp
  have kb2 : w0.heap[w.heap.size]? = some (.cells #[.int .i64 t, .int .i64 a, .slice A ac.length C, .slice B nx.length D] 45 (0, 0)) := by
    rw [hw0.out]
    exact (Below.heap_alloc _ _ _ (by simp; omega)).trans ((Below.heap_alloc _ _ _ (by simp)).trans (heap_new _ _ _ (by simp)))
  have kb4 : w0.heap[w.heap.size + 1]? = some (.cells #[.int .i64 0, .int .i64 0, .slice none 0 0, .slice none 0 0, .slice none 0 0] 89 (0, 0)) := by
    rw [hw0.out]
    exact (Below.heap_alloc _ _ _ (by simp)).trans (heap_new _ _ _ (by simp))
  have kb5 : w0.heap[(w.heap.size + 1 + 1)]? = some (.cells #[.int .i64 t, .int .i64 a, .slice A ac.length C, .slice B nx.length D, .slice none 0 0] 89 (0, 0)) := by
    rw [hw0.out]
    exact heap_new _ _ _ (by simp)
  have T0 : Hid (Tab ac nx ac.length ((w.heap.size + 1 + 1) + 1) w0 0 (.slice none 0 0)) := ⟨[], rfl, ⟨by simp [slices], Or.inl ⟨rfl, rfl⟩⟩, fun i p hp => absurd hp (by simp)⟩
  have HA := Lib.hid hA; have HBB := Lib.hid hB
  have HSEE : Hid (∀ W : World, Below (w.heap.size + 1 + 1) w0 W → Sees w W) := fun W h => Below.trans B0 (h.mono (by omega))
  have HALL := Lib.hid hall; have HNL := Lib.hid hnl; have HB0 := Lib.hid B0; have HSZ := Lib.hid hsz; have HK2 := Lib.hid kb2; have HK4 := Lib.hid kb4; have HK5 := Lib.hid kb5
  have hi0 : ∀ (f0 f1 : Value) (w : World), (Instr.index 110 (.agg #[f0, f1]) (.int .i64 0)).run Try.prog w = .ok f0 w := index_two0
  have hi1 : ∀ (f0 f1 : Value) (w : World), (Instr.index 110 (.agg #[f0, f1]) (.int .i64 1)).run Try.prog w = .ok f1 w := index_two1
  have hmk := make_ints ac.length (by omega)
  have HMK := Lib.hid hmk
  clear hmk hA hB hall hnl B0 hsz kb2 kb4 kb5 hv hsg
  go_enter Try.func52, Try.ntmps52
  go_wp2_with fail
  rw [← hw0.out]
  go_loopw [14] (fun i wr => ∃ (k : Nat) (P : Option Addr) (cap : Nat), k ≤ L + 1 ∧ i = .int .i64 k ∧ Hid (Tab ac nx ac.length ((w.heap.size + 1 + 1) + 1) wr k (.slice P k cap)) ∧ Hid (wr.heap[(w.heap.size + 1 + 1)]? = some (.cells #[.int .i64 t, .int .i64 a, .slice A ac.length C, .slice B nx.length D, .slice P k cap] 89 (0, 0))) ∧ Hid (Below (w.heap.size + 1 + 1) w0 wr)) (fun i _ => L + 1 - (intOf i).toNat)
  case atStart => exact ⟨0, none, 0, Nat.zero_le _, rfl, T0, HK5, Below.refl _ _⟩
  case round =>
  obtain ⟨k, P, cap, hk, rfl, hT, h5, hb⟩ := hrel
  clear T0
  obtain ⟨wo, rfl⟩ : ∃ wo, wo = wr := ⟨_, rfl⟩
  by_cases hkl : k ≤ L
  · have tk : decide ((k : Int) < (L : Int) + 1) = true := decide_eq_true (by omega)
    obtain ⟨⟨x0, x1, x2, x3, x4⟩, _⟩ := five_facts h5.out
    have k2 := (hb.out.block _ (by omega)).trans HK2.out
    obtain ⟨_, _, y2, _, _, _, _, _⟩ := four_facts k2
    have HK2' := Lib.hid k2; clear k2
    have hmk := HMK.out
    by_cases hk0 : k = 0
    · have HBITS := Lib.hid hk0; clear hk0
      have K : Hid (∀ (W : World) (s : Nat), Below wo.heap.size wo W → s < ac.length → Calls Try.prog 70 #[.agg #[.int .i64 t, .int .i64 a, .slice A ac.length C, .slice B nx.length D, .slice P k cap], .int .i64 s, .int .i64 k] W fun e w' => e = .returned (.int .i64 (cnt ac nx k s)) ∧ Below W.heap.size W w') := fun W s h hs => by
        have hwW := HSEE.out _ (hb.out.trans (h.mono (by have := hb.out.size; have := HSZ.out; omega)))
        have ek : cnt ac nx k s = cnt ac nx 0 s := by rw [HBITS.out]
        rw [ek]
        exact ending_any t a A B P C D k cap W (bb_ok.below HA.out hwW) s k hs (by have := (HALL.out s hs (by rw [HNL.out]; exact hs)).1; omega)
      have hik : ∀ (f0 f1 : Value) (w : World), (Instr.index 110 (.agg #[f0, f1]) (.int .i64 (k : Int))).run Try.prog w = .ok f0 w := fun f0 f1 w => by rw [show (k : Int) = 0 by have := HBITS.out; omega]; exact index_two0 f0 f1 w
      have e1 : min (k : Int) 1 = 0 := by have := HBITS.out; omega
      have IR0 : Hid (IRow 2 (cntRow ac nx k ac.length) wo.heap.size (wo.alloc (.cells (zeroInts ac.length) 2)) 0) := irow_start (by rw [size_zeroInts, cntRow_len])
      have BR0 : Hid (Below wo.heap.size wo (wo.alloc (.cells (zeroInts ac.length) 2))) := (Below.refl _ _).alloc (Nat.le_refl _) _
      go_wp2_with fail
      go_loopw [31] (fun i wq => ∃ s : Nat, s ≤ ac.length ∧ i = .int .i64 s ∧ Hid (IRow 2 (cntRow ac nx k ac.length) wo.heap.size wq s) ∧ Hid (Below wo.heap.size wo wq)) (fun i _ => ac.length - (intOf i).toNat)
      case atStart => exact ⟨0, Nat.zero_le _, rfl, IR0, BR0⟩
      case round =>
      obtain ⟨s, hs, rfl, hR, hq⟩ := hrel
      clear IR0 BR0 x0 x1 x2 x3 x4 y2 hmk
      obtain ⟨wq, rfl⟩ : ∃ wq, wq = wr := ⟨_, rfl⟩
      by_cases hsl : s < ac.length
      · obtain ⟨z, hz⟩ : ∃ z, Hid (z = cnt ac nx k s) := ⟨_, rfl⟩
        have K2 : Hid (Calls Try.prog 70 #[.agg #[.int .i64 t, .int .i64 a, .slice A ac.length C, .slice B nx.length D, .slice P k cap], .int .i64 s, .int .i64 k] wq fun e w' => e = .returned (.int .i64 z) ∧ Below wq.heap.size wq w') := by
          show Calls _ _ _ _ _
          rw [hz.out]
          exact K.out wq s hq.out hsl
        have s0 : (0 : Int) ≤ (s : Int) := Int.natCast_nonneg _
        have s1 : (s : Int) < (ac.length : Int) := by omega
        go_wp2_with fail
        refine K2.out.mono ?_
        rintro e w1 ⟨rfl, hb1⟩
        have hR1 := hR.out.below hb1
        have hlen : s < (cntRow ac nx k ac.length).length := by rw [cntRow_len]; exact hsl
        obtain ⟨⟨v0, c0⟩, fz⟩ := hR1.cell hlen
        have hzz : nth (cntRow ac nx k ac.length) s = z := by rw [hz.out]; simp [nth, List.getD, cntRow, hsl]
        have hR2 := irow_step hR1 hlen
        rw [hzz] at hR2
        have hq2 := (hq.out.trans (hb1.mono hq.out.size)).setCell (p := ⟨wo.heap.size, s, none⟩) (Nat.le_refl _) (.int .i64 z)
        have HR3 := Lib.hid hR2; have HQ3 := Lib.hid hq2
        clear hR1 hR2 hq2 hb1 hlen hzz
        go_wp2_with fail
        go_roundw
        case rel => exact ⟨s + 1, by omega, by go_num, HR3, HQ3⟩
        case measure => simp [intOf]; omega
      · obtain rfl : s = ac.length := by omega
        obtain ⟨cs, hcs, hcsz, hci⟩ := hR.out
        have hcnt : Hid (CntAt ac nx k ac.length wq wo.heap.size) := fun s' hs' => by
          rw [Fo.cell_of_block hcs, hci s' hs']
          simp [nth, List.getD, cntRow, hs']
        have hlt : wo.heap.size < wq.heap.size := (Array.getElem?_eq_some_iff.1 hcs).1
        have HLT := Lib.hid hlt
        have h5q := (hq.out.block _ (by have := (Array.getElem?_eq_some_iff.1 h5.out).1; omega)).trans h5.out
        obtain ⟨⟨_, _, _, _, x4⟩, _, _, _, _, _⟩ := five_facts h5q
        have T1 := Lib.hid (hT.out.below hq.out)
        have HV := Lib.hid (hT.out.lt)
        have T2 := T1.out.below ((Below.refl _ wq).alloc (Nat.le_refl _) (.cells #[.slice (some ⟨wo.heap.size, 0, none⟩) ac.length ac.length] 24))
        obtain ⟨bs, hbsl, hown, hrows⟩ := T2.ex
        have HOWN := Lib.hid hown; have HROWS := Lib.hid hrows; have HBSL := Lib.hid hbsl
        have HB5 := Lib.hid (hb.out.trans (hq.out.mono (by have := hb.out.size; have := HSZ.out; omega)))
        have H5Q := Lib.hid h5q
        clear hcs hcsz hci hlt h5q hown hrows hbsl T2 hR
        go_wp2_with (at_builtin; refine wpList_append_own_at _ rfl _ _ 85 rfl ((w.heap.size + 1 + 1) + 1) 24 j0 (.slice none 0 0) 1 24 Try.underlying85 HI2.out HZ2.out HS2.out HB2.out rfl (by decide) _ _ _ rfl HOWN.out ⟨wq.heap.size, 0, none⟩ 1 1 [.slice (some ⟨wo.heap.size, 0, none⟩) ac.length ac.length] rfl rfl ?c1 ?c2 ?c3 ?c4 ?c5 ?_)
        case c1 =>
          intro i u hi
          match i, hi with
          | 0, hi => simp at hi; subst hi; simp [Addr.add]
        case c2 => intro u hu; simp at hu; subst hu; rfl
        case c3 => unfold maxLen; omega
        case c4 => omega
        case c5 => have := HB5.out.size; have := HSZ.out; simp; omega
        intro v' w1 hown' hgrow _ hor
        have hal : (wq.alloc (.cells #[.slice (some ⟨wo.heap.size, 0, none⟩) ac.length ac.length] 24)).heap[wo.heap.size]? = wq.heap[wo.heap.size]? := Below.heap_alloc _ _ _ HLT.out
        have T3 : Tab ac nx ac.length ((w.heap.size + 1 + 1) + 1) w1 (k + 1) v' := Tab.snoc HBSL.out HROWS.out (hcnt.out.keep hal) (by have := hb.out.size; have := HSZ.out; omega) (by have := HLT.out; simp; omega) (fun he => by have := HV.out _ he; omega) hown' hgrow (by rw [World.size_alloc]; exact hor)
        have hba : Below (w.heap.size + 1 + 1) w0 (wq.alloc (.cells #[.slice (some ⟨wo.heap.size, 0, none⟩) ac.length ac.length] 24)) := HB5.out.alloc (by have := HB5.out.size; have := HSZ.out; omega) _
        have hb1 : Below (w.heap.size + 1 + 1) w0 w1 := hba.grown hgrow (by have := hba.size; have := HSZ.out; omega) (fun g hg => by have := (HOWN.out.lt g hg).1; omega)
        have h51 : w1.heap[(w.heap.size + 1 + 1)]? = some (.cells #[.int .i64 t, .int .i64 a, .slice A ac.length C, .slice B nx.length D, .slice P k cap] 89 (0, 0)) := by
          have l5 : (w.heap.size + 1 + 1) < wq.heap.size := (Array.getElem?_eq_some_iff.1 H5Q.out).1
          refine (hgrow.block _ (by simp; omega) (fun he => ?_)).trans ((Below.heap_alloc _ _ _ l5).trans H5Q.out)
          have := (HOWN.out.lt _ he.symm).1
          omega
        obtain ⟨g, cap2, bb, cc, rfl, _, _⟩ := T3.row (Nat.succ_pos k)
        obtain ⟨⟨x0, x1, x2, x3, x4'⟩, f0, f1, f2, f3, f4⟩ := five_facts h51
        have HT3 := Lib.hid T3; have H51 := Lib.hid h51; have HB1 := Lib.hid hb1
        clear hown' hgrow hor hal T3 hba hb1 h51
        go_wp2_with fail
        have T4 := Lib.hid (HT3.out.set (b := (w.heap.size + 1 + 1)) (i := 4) (Nat.lt_succ_self _) (.slice (some ⟨g, 0, none⟩) (k + 1) cap2))
        have h52 : Hid ((w1.setCell ⟨(w.heap.size + 1 + 1), 4, none⟩ (.slice (some ⟨g, 0, none⟩) (k + 1) cap2)).heap[(w.heap.size + 1 + 1)]? = some (.cells #[.int .i64 t, .int .i64 a, .slice A ac.length C, .slice B nx.length D, .slice (some ⟨g, 0, none⟩) (k + 1) cap2] 89 (0, 0))) := by
          show _ = _
          rw [Fo.block_setCell H51.out _]
          rfl
        have hb3 := Lib.hid (HB1.out.setCell (p := ⟨(w.heap.size + 1 + 1), 4, none⟩) (Nat.le_refl _) (.slice (some ⟨g, 0, none⟩) (k + 1) cap2))
        go_roundw
        case rel => exact ⟨k + 1, some ⟨g, 0, none⟩, cap2, by omega, by go_num, T4, h52, hb3⟩
        case measure => simp [intOf]; omega
    · obtain ⟨m, HBITS⟩ : ∃ m, Hid (k = m + 1) := ⟨k - 1, by show _ = _; omega⟩
      clear hk0
      by_cases hk1 : k = 1
      · have HK1 := Lib.hid hk1; clear hk1
        have K : Hid (∀ (W : World) (s : Nat), Below wo.heap.size wo W → s < ac.length → Calls Try.prog 71 #[.agg #[.int .i64 t, .int .i64 a, .slice A ac.length C, .slice B nx.length D, .slice P k cap], .int .i64 s, .int .i64 k] W fun e w' => e = .returned (.int .i64 (cnt ac nx k s)) ∧ Below W.heap.size W w') := fun W s h hs => by
          have hwW := HSEE.out _ (hb.out.trans (h.mono (by have := hb.out.size; have := HSZ.out; omega)))
          skip
          obtain ⟨_, h2', h3'⟩ := HALL.out s hs (by rw [HNL.out]; exact hs)
          exact leading_any t a A B P C D k cap W (iii_ok.below HBB.out hwW) (hT.out.below h) s k m HBITS.out (by have := HBITS.out; omega) (by rw [HNL.out]; exact hs) (by omega) (fun row hrow => ⟨by have := (h3' row hrow).1; omega, (h3' row hrow).2⟩) (by omega)
        have hik : ∀ (f0 f1 : Value) (w : World), (Instr.index 110 (.agg #[f0, f1]) (.int .i64 (k : Int))).run Try.prog w = .ok f1 w := fun f0 f1 w => by rw [show (k : Int) = 1 by have := HK1.out; omega]; exact index_two1 f0 f1 w
        have hle : (k : Int) ≤ 1 := by have := HK1.out; omega
        have hle2 : k ≤ 1 := by have := HK1.out; omega
        have IR0 : Hid (IRow 2 (cntRow ac nx k ac.length) wo.heap.size (wo.alloc (.cells (zeroInts ac.length) 2)) 0) := irow_start (by rw [size_zeroInts, cntRow_len])
        have BR0 : Hid (Below wo.heap.size wo (wo.alloc (.cells (zeroInts ac.length) 2))) := (Below.refl _ _).alloc (Nat.le_refl _) _
        go_wp2_with fail
        go_loopw [31] (fun i wq => ∃ s : Nat, s ≤ ac.length ∧ i = .int .i64 s ∧ Hid (IRow 2 (cntRow ac nx k ac.length) wo.heap.size wq s) ∧ Hid (Below wo.heap.size wo wq)) (fun i _ => ac.length - (intOf i).toNat)
        case atStart => exact ⟨0, Nat.zero_le _, rfl, IR0, BR0⟩
        case round =>
        obtain ⟨s, hs, rfl, hR, hq⟩ := hrel
        clear IR0 BR0 x0 x1 x2 x3 x4 y2 hmk
        obtain ⟨wq, rfl⟩ : ∃ wq, wq = wr := ⟨_, rfl⟩
        by_cases hsl : s < ac.length
        · obtain ⟨z, hz⟩ : ∃ z, Hid (z = cnt ac nx k s) := ⟨_, rfl⟩
          have K2 : Hid (Calls Try.prog 71 #[.agg #[.int .i64 t, .int .i64 a, .slice A ac.length C, .slice B nx.length D, .slice P k cap], .int .i64 s, .int .i64 k] wq fun e w' => e = .returned (.int .i64 z) ∧ Below wq.heap.size wq w') := by
            show Calls _ _ _ _ _
            rw [hz.out]
            exact K.out wq s hq.out hsl
          have s0 : (0 : Int) ≤ (s : Int) := Int.natCast_nonneg _
          have s1 : (s : Int) < (ac.length : Int) := by omega
          go_wp2_with fail
          refine K2.out.mono ?_
          rintro e w1 ⟨rfl, hb1⟩
          have hR1 := hR.out.below hb1
          have hlen : s < (cntRow ac nx k ac.length).length := by rw [cntRow_len]; exact hsl
          obtain ⟨⟨v0, c0⟩, fz⟩ := hR1.cell hlen
          have hzz : nth (cntRow ac nx k ac.length) s = z := by rw [hz.out]; simp [nth, List.getD, cntRow, hsl]
          have hR2 := irow_step hR1 hlen
          rw [hzz] at hR2
          have hq2 := (hq.out.trans (hb1.mono hq.out.size)).setCell (p := ⟨wo.heap.size, s, none⟩) (Nat.le_refl _) (.int .i64 z)
          have HR3 := Lib.hid hR2; have HQ3 := Lib.hid hq2
          clear hR1 hR2 hq2 hb1 hlen hzz
          go_wp2_with fail
          go_roundw
          case rel => exact ⟨s + 1, by omega, by go_num, HR3, HQ3⟩
          case measure => simp [intOf]; omega
        · obtain rfl : s = ac.length := by omega
          obtain ⟨cs, hcs, hcsz, hci⟩ := hR.out
          have hcnt : Hid (CntAt ac nx k ac.length wq wo.heap.size) := fun s' hs' => by
            rw [Fo.cell_of_block hcs, hci s' hs']
            simp [nth, List.getD, cntRow, hs']
          have hlt : wo.heap.size < wq.heap.size := (Array.getElem?_eq_some_iff.1 hcs).1
          have HLT := Lib.hid hlt
          have h5q := (hq.out.block _ (by have := (Array.getElem?_eq_some_iff.1 h5.out).1; omega)).trans h5.out
          obtain ⟨⟨_, _, _, _, x4⟩, _, _, _, _, _⟩ := five_facts h5q
          have T1 := Lib.hid (hT.out.below hq.out)
          have HV := Lib.hid (hT.out.lt)
          have T2 := T1.out.below ((Below.refl _ wq).alloc (Nat.le_refl _) (.cells #[.slice (some ⟨wo.heap.size, 0, none⟩) ac.length ac.length] 24))
          obtain ⟨bs, hbsl, hown, hrows⟩ := T2.ex
          have HOWN := Lib.hid hown; have HROWS := Lib.hid hrows; have HBSL := Lib.hid hbsl
          have HB5 := Lib.hid (hb.out.trans (hq.out.mono (by have := hb.out.size; have := HSZ.out; omega)))
          have H5Q := Lib.hid h5q
          clear hcs hcsz hci hlt h5q hown hrows hbsl T2 hR
          go_wp2_with (at_builtin; refine wpList_append_own_at _ rfl _ _ 85 rfl ((w.heap.size + 1 + 1) + 1) 24 j0 (.slice none 0 0) 1 24 Try.underlying85 HI2.out HZ2.out HS2.out HB2.out rfl (by decide) _ _ _ rfl HOWN.out ⟨wq.heap.size, 0, none⟩ 1 1 [.slice (some ⟨wo.heap.size, 0, none⟩) ac.length ac.length] rfl rfl ?c1 ?c2 ?c3 ?c4 ?c5 ?_)
          case c1 =>
            intro i u hi
            match i, hi with
            | 0, hi => simp at hi; subst hi; simp [Addr.add]
          case c2 => intro u hu; simp at hu; subst hu; rfl
          case c3 => unfold maxLen; omega
          case c4 => omega
          case c5 => have := HB5.out.size; have := HSZ.out; simp; omega
          intro v' w1 hown' hgrow _ hor
          have hal : (wq.alloc (.cells #[.slice (some ⟨wo.heap.size, 0, none⟩) ac.length ac.length] 24)).heap[wo.heap.size]? = wq.heap[wo.heap.size]? := Below.heap_alloc _ _ _ HLT.out
          have T3 : Tab ac nx ac.length ((w.heap.size + 1 + 1) + 1) w1 (k + 1) v' := Tab.snoc HBSL.out HROWS.out (hcnt.out.keep hal) (by have := hb.out.size; have := HSZ.out; omega) (by have := HLT.out; simp; omega) (fun he => by have := HV.out _ he; omega) hown' hgrow (by rw [World.size_alloc]; exact hor)
          have hba : Below (w.heap.size + 1 + 1) w0 (wq.alloc (.cells #[.slice (some ⟨wo.heap.size, 0, none⟩) ac.length ac.length] 24)) := HB5.out.alloc (by have := HB5.out.size; have := HSZ.out; omega) _
          have hb1 : Below (w.heap.size + 1 + 1) w0 w1 := hba.grown hgrow (by have := hba.size; have := HSZ.out; omega) (fun g hg => by have := (HOWN.out.lt g hg).1; omega)
          have h51 : w1.heap[(w.heap.size + 1 + 1)]? = some (.cells #[.int .i64 t, .int .i64 a, .slice A ac.length C, .slice B nx.length D, .slice P k cap] 89 (0, 0)) := by
            have l5 : (w.heap.size + 1 + 1) < wq.heap.size := (Array.getElem?_eq_some_iff.1 H5Q.out).1
            refine (hgrow.block _ (by simp; omega) (fun he => ?_)).trans ((Below.heap_alloc _ _ _ l5).trans H5Q.out)
            have := (HOWN.out.lt _ he.symm).1
            omega
          obtain ⟨g, cap2, bb, cc, rfl, _, _⟩ := T3.row (Nat.succ_pos k)
          obtain ⟨⟨x0, x1, x2, x3, x4'⟩, f0, f1, f2, f3, f4⟩ := five_facts h51
          have HT3 := Lib.hid T3; have H51 := Lib.hid h51; have HB1 := Lib.hid hb1
          clear hown' hgrow hor hal T3 hba hb1 h51
          go_wp2_with fail
          have T4 := Lib.hid (HT3.out.set (b := (w.heap.size + 1 + 1)) (i := 4) (Nat.lt_succ_self _) (.slice (some ⟨g, 0, none⟩) (k + 1) cap2))
          have h52 : Hid ((w1.setCell ⟨(w.heap.size + 1 + 1), 4, none⟩ (.slice (some ⟨g, 0, none⟩) (k + 1) cap2)).heap[(w.heap.size + 1 + 1)]? = some (.cells #[.int .i64 t, .int .i64 a, .slice A ac.length C, .slice B nx.length D, .slice (some ⟨g, 0, none⟩) (k + 1) cap2] 89 (0, 0))) := by
            show _ = _
            rw [Fo.block_setCell H51.out _]
            rfl
          have hb3 := Lib.hid (HB1.out.setCell (p := ⟨(w.heap.size + 1 + 1), 4, none⟩) (Nat.le_refl _) (.slice (some ⟨g, 0, none⟩) (k + 1) cap2))
          go_roundw
          case rel => exact ⟨k + 1, some ⟨g, 0, none⟩, cap2, by omega, by go_num, T4, h52, hb3⟩
          case measure => simp [intOf]; omega

      · have HK1 := Lib.hid (show k ≠ 1 from hk1); clear hk1
        have K : Hid (∀ (W : World) (s : Nat), Below wo.heap.size wo W → s < ac.length → Calls Try.prog 71 #[.agg #[.int .i64 t, .int .i64 a, .slice A ac.length C, .slice B nx.length D, .slice P k cap], .int .i64 s, .int .i64 k] W fun e w' => e = .returned (.int .i64 (cnt ac nx k s)) ∧ Below W.heap.size W w') := fun W s h hs => by
          have hwW := HSEE.out _ (hb.out.trans (h.mono (by have := hb.out.size; have := HSZ.out; omega)))
          skip
          obtain ⟨_, h2', h3'⟩ := HALL.out s hs (by rw [HNL.out]; exact hs)
          exact leading_any t a A B P C D k cap W (iii_ok.below HBB.out hwW) (hT.out.below h) s k m HBITS.out (by have := HBITS.out; omega) (by rw [HNL.out]; exact hs) (by omega) (fun row hrow => ⟨by have := (h3' row hrow).1; omega, (h3' row hrow).2⟩) (by omega)
        have hgt : (1 : Int) < (k : Int) := by have := HBITS.out; have := HK1.out; omega
        have hgt2 : 1 < k := by omega
        have hgt3 : ¬ (k : Int) ≤ 1 := by omega
        have IR0 : Hid (IRow 2 (cntRow ac nx k ac.length) wo.heap.size (wo.alloc (.cells (zeroInts ac.length) 2)) 0) := irow_start (by rw [size_zeroInts, cntRow_len])
        have BR0 : Hid (Below wo.heap.size wo (wo.alloc (.cells (zeroInts ac.length) 2))) := (Below.refl _ _).alloc (Nat.le_refl _) _
        go_wp2_with fail
        go_loopw [31] (fun i wq => ∃ s : Nat, s ≤ ac.length ∧ i = .int .i64 s ∧ Hid (IRow 2 (cntRow ac nx k ac.length) wo.heap.size wq s) ∧ Hid (Below wo.heap.size wo wq)) (fun i _ => ac.length - (intOf i).toNat)
        case atStart => exact ⟨0, Nat.zero_le _, rfl, IR0, BR0⟩
        case round =>
        obtain ⟨s, hs, rfl, hR, hq⟩ := hrel
        clear IR0 BR0 x0 x1 x2 x3 x4 y2 hmk
        obtain ⟨wq, rfl⟩ : ∃ wq, wq = wr := ⟨_, rfl⟩
        by_cases hsl : s < ac.length
        · obtain ⟨z, hz⟩ : ∃ z, Hid (z = cnt ac nx k s) := ⟨_, rfl⟩
          have K2 : Hid (Calls Try.prog 71 #[.agg #[.int .i64 t, .int .i64 a, .slice A ac.length C, .slice B nx.length D, .slice P k cap], .int .i64 s, .int .i64 k] wq fun e w' => e = .returned (.int .i64 z) ∧ Below wq.heap.size wq w') := by
            show Calls _ _ _ _ _
            rw [hz.out]
            exact K.out wq s hq.out hsl
          have s0 : (0 : Int) ≤ (s : Int) := Int.natCast_nonneg _
          have s1 : (s : Int) < (ac.length : Int) := by omega
          go_wp2_with fail
          refine K2.out.mono ?_
          rintro e w1 ⟨rfl, hb1⟩
          have hR1 := hR.out.below hb1
          have hlen : s < (cntRow ac nx k ac.length).length := by rw [cntRow_len]; exact hsl
          obtain ⟨⟨v0, c0⟩, fz⟩ := hR1.cell hlen
          have hzz : nth (cntRow ac nx k ac.length) s = z := by rw [hz.out]; simp [nth, List.getD, cntRow, hsl]
          have hR2 := irow_step hR1 hlen
          rw [hzz] at hR2
          have hq2 := (hq.out.trans (hb1.mono hq.out.size)).setCell (p := ⟨wo.heap.size, s, none⟩) (Nat.le_refl _) (.int .i64 z)
          have HR3 := Lib.hid hR2; have HQ3 := Lib.hid hq2
          clear hR1 hR2 hq2 hb1 hlen hzz
          go_wp2_with fail
          go_roundw
          case rel => exact ⟨s + 1, by omega, by go_num, HR3, HQ3⟩
          case measure => simp [intOf]; omega
        · obtain rfl : s = ac.length := by omega
          obtain ⟨cs, hcs, hcsz, hci⟩ := hR.out
          have hcnt : Hid (CntAt ac nx k ac.length wq wo.heap.size) := fun s' hs' => by
            rw [Fo.cell_of_block hcs, hci s' hs']
            simp [nth, List.getD, cntRow, hs']
          have hlt : wo.heap.size < wq.heap.size := (Array.getElem?_eq_some_iff.1 hcs).1
          have HLT := Lib.hid hlt
          have h5q := (hq.out.block _ (by have := (Array.getElem?_eq_some_iff.1 h5.out).1; omega)).trans h5.out
          obtain ⟨⟨_, _, _, _, x4⟩, _, _, _, _, _⟩ := five_facts h5q
          have T1 := Lib.hid (hT.out.below hq.out)
          have HV := Lib.hid (hT.out.lt)
          have T2 := T1.out.below ((Below.refl _ wq).alloc (Nat.le_refl _) (.cells #[.slice (some ⟨wo.heap.size, 0, none⟩) ac.length ac.length] 24))
          obtain ⟨bs, hbsl, hown, hrows⟩ := T2.ex
          have HOWN := Lib.hid hown; have HROWS := Lib.hid hrows; have HBSL := Lib.hid hbsl
          have HB5 := Lib.hid (hb.out.trans (hq.out.mono (by have := hb.out.size; have := HSZ.out; omega)))
          have H5Q := Lib.hid h5q
          clear hcs hcsz hci hlt h5q hown hrows hbsl T2 hR
          go_wp2_with (at_builtin; refine wpList_append_own_at _ rfl _ _ 85 rfl ((w.heap.size + 1 + 1) + 1) 24 j0 (.slice none 0 0) 1 24 Try.underlying85 HI2.out HZ2.out HS2.out HB2.out rfl (by decide) _ _ _ rfl HOWN.out ⟨wq.heap.size, 0, none⟩ 1 1 [.slice (some ⟨wo.heap.size, 0, none⟩) ac.length ac.length] rfl rfl ?c1 ?c2 ?c3 ?c4 ?c5 ?_)
          case c1 =>
            intro i u hi
            match i, hi with
            | 0, hi => simp at hi; subst hi; simp [Addr.add]
          case c2 => intro u hu; simp at hu; subst hu; rfl
          case c3 => unfold maxLen; omega
          case c4 => omega
          case c5 => have := HB5.out.size; have := HSZ.out; simp; omega
          intro v' w1 hown' hgrow _ hor
          have hal : (wq.alloc (.cells #[.slice (some ⟨wo.heap.size, 0, none⟩) ac.length ac.length] 24)).heap[wo.heap.size]? = wq.heap[wo.heap.size]? := Below.heap_alloc _ _ _ HLT.out
          have T3 : Tab ac nx ac.length ((w.heap.size + 1 + 1) + 1) w1 (k + 1) v' := Tab.snoc HBSL.out HROWS.out (hcnt.out.keep hal) (by have := hb.out.size; have := HSZ.out; omega) (by have := HLT.out; simp; omega) (fun he => by have := HV.out _ he; omega) hown' hgrow (by rw [World.size_alloc]; exact hor)
          have hba : Below (w.heap.size + 1 + 1) w0 (wq.alloc (.cells #[.slice (some ⟨wo.heap.size, 0, none⟩) ac.length ac.length] 24)) := HB5.out.alloc (by have := HB5.out.size; have := HSZ.out; omega) _
          have hb1 : Below (w.heap.size + 1 + 1) w0 w1 := hba.grown hgrow (by have := hba.size; have := HSZ.out; omega) (fun g hg => by have := (HOWN.out.lt g hg).1; omega)
          have h51 : w1.heap[(w.heap.size + 1 + 1)]? = some (.cells #[.int .i64 t, .int .i64 a, .slice A ac.length C, .slice B nx.length D, .slice P k cap] 89 (0, 0)) := by
            have l5 : (w.heap.size + 1 + 1) < wq.heap.size := (Array.getElem?_eq_some_iff.1 H5Q.out).1
            refine (hgrow.block _ (by simp; omega) (fun he => ?_)).trans ((Below.heap_alloc _ _ _ l5).trans H5Q.out)
            have := (HOWN.out.lt _ he.symm).1
            omega
          obtain ⟨g, cap2, bb, cc, rfl, _, _⟩ := T3.row (Nat.succ_pos k)
          obtain ⟨⟨x0, x1, x2, x3, x4'⟩, f0, f1, f2, f3, f4⟩ := five_facts h51
          have HT3 := Lib.hid T3; have H51 := Lib.hid h51; have HB1 := Lib.hid hb1
          clear hown' hgrow hor hal T3 hba hb1 h51
          go_wp2_with fail
          have T4 := Lib.hid (HT3.out.set (b := (w.heap.size + 1 + 1)) (i := 4) (Nat.lt_succ_self _) (.slice (some ⟨g, 0, none⟩) (k + 1) cap2))
          have h52 : Hid ((w1.setCell ⟨(w.heap.size + 1 + 1), 4, none⟩ (.slice (some ⟨g, 0, none⟩) (k + 1) cap2)).heap[(w.heap.size + 1 + 1)]? = some (.cells #[.int .i64 t, .int .i64 a, .slice A ac.length C, .slice B nx.length D, .slice (some ⟨g, 0, none⟩) (k + 1) cap2] 89 (0, 0))) := by
            show _ = _
            rw [Fo.block_setCell H51.out _]
            rfl
          have hb3 := Lib.hid (HB1.out.setCell (p := ⟨(w.heap.size + 1 + 1), 4, none⟩) (Nat.le_refl _) (.slice (some ⟨g, 0, none⟩) (k + 1) cap2))
          go_roundw
          case rel => exact ⟨k + 1, some ⟨g, 0, none⟩, cap2, by omega, by go_num, T4, h52, hb3⟩
          case measure => simp [intOf]; omega

  · obtain rfl : k = L + 1 := by omega
    have tk : decide ((L : Int) + 1 < (L : Int) + 1) = false := decide_eq_false (by omega)
    obtain ⟨⟨x0, x1, x2, x3, x4⟩, _⟩ := five_facts h5.out
    have k4 := (hb.out.block _ (by omega)).trans HK4.out
    have HK4' := Lib.hid k4
    have HSE := Lib.hid (HSEE.out _ hb.out)
    obtain ⟨⟨y0, y1, y2, y3, y4⟩, f0, f1, f2, f3, f4⟩ := five_facts k4
    clear k4
    go_wp2_with fail
    have Tf := (((((hT.out.set (b := w.heap.size + 1) (i := 0) (by omega) (.int .i64 t)).set (b := w.heap.size + 1) (i := 1) (by omega) (.int .i64 a)).set (b := w.heap.size + 1) (i := 2) (by omega) (.slice A ac.length C)).set (b := w.heap.size + 1) (i := 3) (by omega) (.slice B nx.length D)).set (b := w.heap.size + 1) (i := 4) (by omega) (.slice P (L + 1) cap))
    have Sf := (Sees.set (b := w.heap.size + 1) (i := 4) (Sees.set (b := w.heap.size + 1) (i := 3) (Sees.set (b := w.heap.size + 1) (i := 2) (Sees.set (b := w.heap.size + 1) (i := 1) (Sees.set (b := w.heap.size + 1) (i := 0) HSE.out (by omega) (.int .i64 t)) (by omega) (.int .i64 a)) (by omega) (.slice A ac.length C)) (by omega) (.slice B nx.length D)) (by omega) (.slice P (L + 1) cap))
    have kf : (((((wo.setCell ⟨w.heap.size + 1, 0, none⟩ (.int .i64 t)).setCell ⟨w.heap.size + 1, 1, none⟩ (.int .i64 a)).setCell ⟨w.heap.size + 1, 2, none⟩ (.slice A ac.length C)).setCell ⟨w.heap.size + 1, 3, none⟩ (.slice B nx.length D)).setCell ⟨w.heap.size + 1, 4, none⟩ (.slice P (L + 1) cap)).heap[w.heap.size + 1]? = some (.cells #[.int .i64 t, .int .i64 a, .slice A ac.length C, .slice B nx.length D, .slice P (L + 1) cap] 89 (0, 0)) := (Fo.block_setCell (Fo.block_setCell (Fo.block_setCell (Fo.block_setCell (Fo.block_setCell HK4'.out (.int .i64 t)) (.int .i64 a)) (.slice A ac.length C)) (.slice B nx.length D)) (.slice P (L + 1) cap))
    generalize (((((wo.setCell ⟨w.heap.size + 1, 0, none⟩ (.int .i64 t)).setCell ⟨w.heap.size + 1, 1, none⟩ (.int .i64 a)).setCell ⟨w.heap.size + 1, 2, none⟩ (.slice A ac.length C)).setCell ⟨w.heap.size + 1, 3, none⟩ (.slice B nx.length D)).setCell ⟨w.heap.size + 1, 4, none⟩ (.slice P (L + 1) cap)) = j at Tf Sf kf ⊢
    clear x0 x1 x2 x3 x4 y0 y1 y2 y3 y4 f0 f1 f2 f3 f4
    obtain ⟨⟨y0, y1, y2, y3, y4⟩, _⟩ := five_facts kf
    refine bodyPost_ret (v := .agg #[.int .i64 t, .int .i64 a, .slice A ac.length C, .slice B nx.length D, .slice P (L + 1) cap]) (by simp [results, Try.results52, go_sem, y0, y1, y2, y3, y4]) rfl ⟨P, cap, rfl, Tf, Sf⟩
end Go.Proofs.Ytpigddjbiaoikaa
