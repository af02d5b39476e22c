/- Contracts of impl.writeRow, impl.writeSig. -/
import Derived.Test.YtlaebkhmefnmnaaDoorAuS
import Derived.Test.YtlaebkhmefnmnaaDoorTxB
namespace Go.Proofs.YtlaebkhmefnmnaaDoor
open Go.RowKit

set_option maxRecDepth 100000 in
set_option maxHeartbeats 2000000 in
theorem writeRow_any {B : Nat} {l : List UInt8} (b : Bool) (row : List Int) (h4 : row.length ≤ 4) (hv : ∀ v ∈ row, -1 ≤ v ∧ v < 100) (R : Option Addr) (D : Nat) {w : World} (h : Bld B l w) (hT : (l ++ rowT b row).length ≤ 1000000) (hR : Hid (∀ W, Below B w W → IntsL 0 W row R)) :
    Calls Tryd.prog 42 #[.pointer (some ⟨B, 0, none⟩), .bool b, .slice R row.length D] w fun e w' => e = .returned (.tuple #[]) ∧ Wrote B (l ++ rowT b row) w w' := by
  obtain ⟨T, hTe⟩ : ∃ T, T = l ++ rowT b row := ⟨_, rfl⟩
  rw [← hTe] at hT ⊢
  have h1 : T = (l ++ markT b) ++ cellsT row := by rw [hTe]; simp [rowT]
  have hl2 : l.length + (markT b).length ≤ 1000000 := by rw [h1] at hT; simp only [List.length_append] at hT; omega
  have K1 : Hid (Calls Tryd.prog 31 #[.pointer (some ⟨B, 0, none⟩), str (markT b)] w fun e w' => (∃ z, e = .returned (.tuple #[.int .i64 z, .nilIface])) ∧ Wrote B (l ++ markT b) w w') := write_any _ h (by omega)
  obtain ⟨l1, hl1⟩ : ∃ l1, l1 = l ++ markT b := ⟨_, rfl⟩
  rw [← hl1] at K1 h1
  have HV := Lib.hid hv; have HTL := Lib.hid hT; have H1 := Lib.hid h1
  clear hv hT h1 hl1 hl2 hTe h
  cases b
  · have K1 : Hid (Calls Tryd.prog 31 #[.pointer (some ⟨B, 0, none⟩), .string ⟨#[32, 45]⟩] w fun e w' => (∃ z, e = .returned (.tuple #[.int .i64 z, .nilIface])) ∧ Wrote B l1 w w') := K1
    go_enter Tryd.func42, Tryd.ntmps42
    go_wp2_with fail
    refine K1.out.mono ?_
    rintro e w1 ⟨⟨z, rfl⟩, hw1⟩
    have HW1 := Lib.hid hw1
    clear hw1 K1
    go_wp2_with fail
    go_loopw [15] (fun i wr => ∃ (j : Nat) (m : List UInt8), j ≤ row.length ∧ i = .int .i64 j ∧ Hid (T = m ++ cellsT (row.drop j)) ∧ Hid (Wrote B m w wr)) (fun i _ => row.length - (intOf i).toNat)
    case atStart => exact ⟨0, l1, Nat.zero_le _, rfl, H1.out, HW1.out⟩
    case round =>
      obtain ⟨j, m, hj, rfl, hTm, hW⟩ := hrel
      clear HW1
      by_cases hjl : j < row.length
      · obtain ⟨y, zo, hRe, c⟩ := int_at (hR.out wr hW.out.below) hjl
        have hstep := cellsT_step hjl
        obtain ⟨hv0, hv1⟩ := HV.out row[j] (List.getElem_mem hjl)
        obtain ⟨v, hvv⟩ : ∃ x, x = row[j] := ⟨_, rfl⟩
        rw [← hvv] at c hv0 hv1 hstep
        obtain ⟨R3, hR3⟩ : ∃ R, R = cellsT (row.drop (j + 1)) := ⟨_, rfl⟩
        have HR3 := Lib.hid hR3
        have hT0 : T = m ++ (cellT v ++ R3) := by rw [hTm.out, hstep, hR3]
        have JL := Lib.hid hjl
        have j0 : (0 : Int) ≤ (j : Int) := Int.natCast_nonneg _
        have j1 : (j : Int) < (row.length : Int) := by omega
        have j4 : (j : Int) < 4 := by omega
        have wk : IntKind.i64.wrap ((j : Int) + 1) = (j : Int) + 1 := IntWalk.i64_in _ (by omega)
        have jt : ((j : Int) + 1).toNat = j + 1 := by omega
        have htl : m.length + (cellT v).length ≤ 1000000 := by have := HTL.out; rw [hT0] at this; simp only [List.length_append] at this; omega
        subst hRe
        clear hvv hR3 hstep hjl hTm
        by_cases hneg : v < 0
        · have hcT : cellT v = [58, 46] := if_pos hneg
          rw [hcT] at hT0 htl
          have K2 : Hid (Calls Tryd.prog 31 #[.pointer (some ⟨B, 0, none⟩), .string ⟨#[58, 46]⟩] wr fun e w' => (∃ z, e = .returned (.tuple #[.int .i64 z, .nilIface])) ∧ Wrote B (m ++ [58, 46]) wr w') := write_any [58, 46] hW.out.bld (by simp only [List.length_cons, List.length_nil] at htl ⊢; omega)
          have HT3 : Hid (T = (m ++ [58, 46]) ++ cellsT (row.drop (j + 1))) := by show _ = _; rw [hT0, HR3.out, List.append_assoc]
          clear hT0 htl hcT hv0 hv1
          go_wp2_with fail
          refine K2.out.mono ?_
          rintro e w3 ⟨⟨z3, rfl⟩, hw3⟩
          have HW3 : Hid (Wrote B (m ++ [58, 46]) w w3) := hW.out.trans hw3
          clear hw3 K2
          go_wp2_with fail
          go_roundw
          case rel => exact ⟨j + 1, _, JL.out, by go_num, HT3.out, HW3.out⟩
          case measure => have := JL.out; simp [intOf]; omega
        · have hcT : cellT v = [58] ++ Lib.decDigits v.toNat := if_neg hneg
          rw [hcT] at hT0 htl
          have K2 : Hid (Calls Tryd.prog 30 #[.pointer (some ⟨B, 0, none⟩), .string ⟨#[58]⟩, .int .i64 v] wr fun e w' => e = .returned (.tuple #[]) ∧ Wrote B (m ++ ([58] ++ Lib.decDigits v.toNat)) wr w') := writeNumber_any [58] v (by omega) hv1 hW.out.bld (by simp only [List.length_append, List.length_cons, List.length_nil] at htl ⊢; omega)
          have HT3 : Hid (T = (m ++ ([58] ++ Lib.decDigits v.toNat)) ++ cellsT (row.drop (j + 1))) := by show _ = _; rw [hT0, HR3.out]; simp only [List.append_assoc]
          clear hT0 htl hcT hv0 hv1
          go_wp2_with fail
          refine K2.out.mono ?_
          rintro e w3 ⟨rfl, hw3⟩
          have HW3 : Hid (Wrote B (m ++ ([58] ++ Lib.decDigits v.toNat)) w w3) := hW.out.trans hw3
          clear hw3 K2
          go_wp2_with fail
          go_roundw
          case rel => exact ⟨j + 1, _, JL.out, by go_num, HT3.out, HW3.out⟩
          case measure => have := JL.out; simp [intOf]; omega
      · obtain rfl : j = row.length := by omega
        have e1 : T = m := by rw [hTm.out, List.drop_length]; exact List.append_nil _
        have HF : Hid (Wrote B T w wr) := by show Wrote B T w wr; rw [e1]; exact hW.out
        clear e1 hTm hW
        go_wp2_with fail
        go_end0
        exact ⟨rfl, HF.out⟩
  · have K1 : Hid (Calls Tryd.prog 31 #[.pointer (some ⟨B, 0, none⟩), .string ⟨#[32, 43]⟩] w fun e w' => (∃ z, e = .returned (.tuple #[.int .i64 z, .nilIface])) ∧ Wrote B l1 w w') := K1
    go_enter Tryd.func42, Tryd.ntmps42
    go_wp2_with fail
    refine K1.out.mono ?_
    rintro e w1 ⟨⟨z, rfl⟩, hw1⟩
    have HW1 := Lib.hid hw1
    clear hw1 K1
    go_wp2_with fail
    go_loopw [15] (fun i wr => ∃ (j : Nat) (m : List UInt8), j ≤ row.length ∧ i = .int .i64 j ∧ Hid (T = m ++ cellsT (row.drop j)) ∧ Hid (Wrote B m w wr)) (fun i _ => row.length - (intOf i).toNat)
    case atStart => exact ⟨0, l1, Nat.zero_le _, rfl, H1.out, HW1.out⟩
    case round =>
      obtain ⟨j, m, hj, rfl, hTm, hW⟩ := hrel
      clear HW1
      by_cases hjl : j < row.length
      · obtain ⟨y, zo, hRe, c⟩ := int_at (hR.out wr hW.out.below) hjl
        have hstep := cellsT_step hjl
        obtain ⟨hv0, hv1⟩ := HV.out row[j] (List.getElem_mem hjl)
        obtain ⟨v, hvv⟩ : ∃ x, x = row[j] := ⟨_, rfl⟩
        rw [← hvv] at c hv0 hv1 hstep
        obtain ⟨R3, hR3⟩ : ∃ R, R = cellsT (row.drop (j + 1)) := ⟨_, rfl⟩
        have HR3 := Lib.hid hR3
        have hT0 : T = m ++ (cellT v ++ R3) := by rw [hTm.out, hstep, hR3]
        have JL := Lib.hid hjl
        have j0 : (0 : Int) ≤ (j : Int) := Int.natCast_nonneg _
        have j1 : (j : Int) < (row.length : Int) := by omega
        have j4 : (j : Int) < 4 := by omega
        have wk : IntKind.i64.wrap ((j : Int) + 1) = (j : Int) + 1 := IntWalk.i64_in _ (by omega)
        have jt : ((j : Int) + 1).toNat = j + 1 := by omega
        have htl : m.length + (cellT v).length ≤ 1000000 := by have := HTL.out; rw [hT0] at this; simp only [List.length_append] at this; omega
        subst hRe
        clear hvv hR3 hstep hjl hTm
        by_cases hneg : v < 0
        · have hcT : cellT v = [58, 46] := if_pos hneg
          rw [hcT] at hT0 htl
          have K2 : Hid (Calls Tryd.prog 31 #[.pointer (some ⟨B, 0, none⟩), .string ⟨#[58, 46]⟩] wr fun e w' => (∃ z, e = .returned (.tuple #[.int .i64 z, .nilIface])) ∧ Wrote B (m ++ [58, 46]) wr w') := write_any [58, 46] hW.out.bld (by simp only [List.length_cons, List.length_nil] at htl ⊢; omega)
          have HT3 : Hid (T = (m ++ [58, 46]) ++ cellsT (row.drop (j + 1))) := by show _ = _; rw [hT0, HR3.out, List.append_assoc]
          clear hT0 htl hcT hv0 hv1
          go_wp2_with fail
          refine K2.out.mono ?_
          rintro e w3 ⟨⟨z3, rfl⟩, hw3⟩
          have HW3 : Hid (Wrote B (m ++ [58, 46]) w w3) := hW.out.trans hw3
          clear hw3 K2
          go_wp2_with fail
          go_roundw
          case rel => exact ⟨j + 1, _, JL.out, by go_num, HT3.out, HW3.out⟩
          case measure => have := JL.out; simp [intOf]; omega
        · have hcT : cellT v = [58] ++ Lib.decDigits v.toNat := if_neg hneg
          rw [hcT] at hT0 htl
          have K2 : Hid (Calls Tryd.prog 30 #[.pointer (some ⟨B, 0, none⟩), .string ⟨#[58]⟩, .int .i64 v] wr fun e w' => e = .returned (.tuple #[]) ∧ Wrote B (m ++ ([58] ++ Lib.decDigits v.toNat)) wr w') := writeNumber_any [58] v (by omega) hv1 hW.out.bld (by simp only [List.length_append, List.length_cons, List.length_nil] at htl ⊢; omega)
          have HT3 : Hid (T = (m ++ ([58] ++ Lib.decDigits v.toNat)) ++ cellsT (row.drop (j + 1))) := by show _ = _; rw [hT0, HR3.out]; simp only [List.append_assoc]
          clear hT0 htl hcT hv0 hv1
          go_wp2_with fail
          refine K2.out.mono ?_
          rintro e w3 ⟨rfl, hw3⟩
          have HW3 : Hid (Wrote B (m ++ ([58] ++ Lib.decDigits v.toNat)) w w3) := hW.out.trans hw3
          clear hw3 K2
          go_wp2_with fail
          go_roundw
          case rel => exact ⟨j + 1, _, JL.out, by go_num, HT3.out, HW3.out⟩
          case measure => have := JL.out; simp [intOf]; omega
      · obtain rfl : j = row.length := by omega
        have e1 : T = m := by rw [hTm.out, List.drop_length]; exact List.append_nil _
        have HF : Hid (Wrote B T w wr) := by show Wrote B T w wr; rw [e1]; exact hW.out
        clear e1 hTm hW
        go_wp2_with fail
        go_end0
        exact ⟨rfl, HF.out⟩

set_option maxRecDepth 100000 in
set_option maxHeartbeats 2000000 in
theorem writeSig_any {B : Nat} {l : List UInt8} (s : List UInt8) (t a : Int) (ht : 0 ≤ t ∧ t < 100) (ha : 0 ≤ a ∧ a < 100) {w : World} (h : Bld B l w) (hl : l.length + s.length ≤ 1000000) :
    Calls Tryd.prog 29 #[.pointer (some ⟨B, 0, none⟩), str s, .agg #[.int .i64 t, .int .i64 a]] w fun e w' => e = .returned (.tuple #[]) ∧ Wrote B (l ++ (s ++ Lib.decDigits t.toNat) ++ ([32] ++ Lib.decDigits a.toNat)) w w' := by
  obtain ⟨w0, hw0⟩ : ∃ w0, w0 = w.alloc (.cells #[.int .i64 t, .int .i64 a] 30) := ⟨_, rfl⟩
  have h0 : Bld B l w0 := by rw [hw0]; exact h.alloc _
  have hB : B < w.heap.size := h.lt
  have hbx : w0.heap[w.heap.size]? = some (.cells #[.int .i64 t, .int .i64 a] 30 (0, 0)) := by rw [hw0]; exact heap_new _ _ _ rfl
  have d1 := dec_len (n := t.toNat) (by omega)
  have K1 : Hid (Calls Tryd.prog 30 #[.pointer (some ⟨B, 0, none⟩), str s, .int .i64 t] w0 fun e w' => e = .returned (.tuple #[]) ∧ Wrote B (l ++ (s ++ Lib.decDigits t.toNat)) w0 w') := writeNumber_any s t ht.1 ht.2 h0 (by omega)
  have K2 : Hid (∀ W : World, Bld B (l ++ (s ++ Lib.decDigits t.toNat)) W → Calls Tryd.prog 30 #[.pointer (some ⟨B, 0, none⟩), .string ⟨#[32]⟩, .int .i64 a] W fun e w' => e = .returned (.tuple #[]) ∧ Wrote B (l ++ (s ++ Lib.decDigits t.toNat) ++ ([32] ++ Lib.decDigits a.toNat)) W w') := fun W hW => writeNumber_any [32] a ha.1 ha.2 hW (by simp only [List.length_append, List.length_cons, List.length_nil]; omega)
  have HX := Lib.hid hbx
  have HEND : Hid (∀ (m : List UInt8) (W : World), Wrote B m w0 W → Wrote B m w W) := fun m W hW => by rw [hw0] at hW; exact hW.behind h
  generalize str s = u at K1 ⊢
  generalize l ++ (s ++ Lib.decDigits t.toNat) = m1 at K1 K2 ⊢
  generalize m1 ++ ([32] ++ Lib.decDigits a.toNat) = m2 at K2 ⊢
  clear hl h0 d1 hbx ht ha
  go_enter Tryd.func29, Tryd.ntmps29
  go_wp2_with fail
  rw [← hw0]
  refine K1.out.mono ?_
  rintro e w1 ⟨rfl, hw1⟩
  have hb1 := hw1.one HX.out (by decide) (Nat.ne_of_gt hB)
  have c1 : w1.cell? ⟨w.heap.size, 1, none⟩ = some (.int .i64 a) := Fo.cell_of_block hb1 1
  have HW1 := Lib.hid hw1
  have HW0 := Lib.hid hw0
  clear hw1 hb1 K1 hw0
  go_wp2_with fail
  refine (K2.out _ HW1.out.bld).mono ?_
  rintro e w2 ⟨rfl, hw2⟩
  have HF : Hid (Wrote B m2 w w2) := HEND.out _ _ (HW1.out.trans hw2)
  clear hw2
  go_wp2_with fail
  go_end0
  exact ⟨rfl, HF.out⟩
end Go.Proofs.YtlaebkhmefnmnaaDoor
