/- Contract of impl.writeMarks. -/
import Derived.Test.YtlaebkhmefnmnaaDoorMtD
import Derived.Test.YtlaebkhmefnmnaaDoorAuS
import Derived.Test.YtlaebkhmefnmnaaDoorTxB
namespace Go.Proofs.YtlaebkhmefnmnaaDoor
open Go.RowKit

/-- Rows that stay where they are while a builder in block B is written to. -/
def RowsK (B : Nat) (w : World) (rows : List (List Bool)) (R : Option Addr) : Prop :=
  rows ≠ [] → ∃ y z, R = some ⟨y, z, none⟩ ∧ ∀ j (row : List Bool), rows[j]? = some row → ∃ Rj Cj, ∀ (W : World) (m : List UInt8), Wrote B m w W → W.cell? ⟨y, z + j, none⟩ = some (.slice Rj row.length Cj) ∧ BoolsL 0 W row Rj
theorem bools_wrote {B : Nat} {w0 w W : World} {m : List UInt8} {row : List Bool} {R : Option Addr} (h : BoolsL 0 w0 row R) (hs : Sees w0 w) (hB : w0.heap.size ≤ B) (hW : Wrote B m w W) : BoolsL 0 W row R :=
  bools_ok.later (w := w0) h fun b o _ hb => (hW.below.cell (p := ⟨b, o, none⟩) (Nat.lt_of_lt_of_le hb hB)).trans (Below.cell hs (p := ⟨b, o, none⟩) hb)
theorem rowsK_of {B : Nat} {w0 w : World} {rows : List (List Bool)} {R : Option Addr} (h : BB 0 w0 rows R) (hs : Sees w0 w) (hB : w0.heap.size ≤ B) : RowsK B w rows R := fun hn => by
  obtain ⟨y, z, _, hR, hat⟩ := h hn
  refine ⟨y, z, hR, fun j row hj => ?_⟩
  obtain ⟨Rj, Cj, hc, hq⟩ := hat j row hj
  exact ⟨Rj, Cj, fun W m hW => ⟨(hW.below.cell (p := ⟨y, z + j, none⟩) (Nat.lt_of_lt_of_le (World.block_lt_of_cell? _ _ hc) hB)).trans (kc hs hc), bools_wrote hq hs hB hW⟩⟩
theorem rowsK_one {B k : Nat} {w0 w : World} {row : List Bool} {R : Option Addr} {C : Nat} (h : BoolsL 0 w0 row R) (hs : Sees w0 w) (hB : w0.heap.size ≤ B) (hk : w.heap[k]? = some (.cells #[.slice R row.length C] 72 (0, 0))) (hkB : k ≠ B) : RowsK B w [row] (some ⟨k, 0, none⟩) := fun _ => by
  refine ⟨k, 0, rfl, fun j r hj => ?_⟩
  have hj0 : j = 0 := by
    obtain ⟨hl, _⟩ := List.getElem?_eq_some_iff.1 hj
    simpa using hl
  subst hj0
  have hr : r = row := by simpa using hj.symm
  subst hr
  exact ⟨R, C, fun W m hW => ⟨by rw [Fo.cell_of_block (hW.one hk (by decide) hkB)]; rfl, bools_wrote h hs hB hW⟩⟩
theorem RowsK.row {B : Nat} {w : World} {rows : List (List Bool)} {R : Option Addr} (h : RowsK B w rows R) {j : Nat} (hj : j < rows.length) :
    ∃ y z Rj Cj, R = some ⟨y, z, none⟩ ∧ ∀ (W : World) (m : List UInt8), Wrote B m w W → W.cell? ⟨y, z + j, none⟩ = some (.slice Rj rows[j].length Cj) ∧ BoolsL 0 W rows[j] Rj := by
  obtain ⟨y, z, hR, hat⟩ := h (by rintro rfl; simp at hj)
  obtain ⟨Rj, Cj, hW⟩ := hat j rows[j] (List.getElem?_eq_getElem hj)
  exact ⟨y, z, Rj, Cj, hR, hW⟩

set_option maxRecDepth 100000 in
set_option maxHeartbeats 4000000 in
theorem writeMarks_any {B : Nat} {l : List UInt8} (s : List UInt8) (rows : List (List Bool)) (h8 : rows.length ≤ 8) (hr : ∀ r ∈ rows, r.length ≤ 8) (R : Option Addr) (D : Nat) {w : World} (h : Bld B l w) (hT : (l ++ (s ++ (rowsB rows ++ [10]))).length ≤ 1000000) (hR : RowsK B w rows R) :
    Calls Tryd.prog 32 #[.pointer (some ⟨B, 0, none⟩), str s, .slice R rows.length D] w fun e w' => e = .returned (.tuple #[]) ∧ Wrote B (l ++ (s ++ (rowsB rows ++ [10]))) w w' := by
  obtain ⟨T, hTe⟩ : ∃ T, T = l ++ (s ++ (rowsB rows ++ [10])) := ⟨_, rfl⟩
  rw [← hTe] at hT ⊢
  have hl1 : l.length + s.length ≤ 1000000 := by rw [hTe] at hT; simp only [List.length_append] at hT; omega
  have K1 : Hid (Calls Tryd.prog 31 #[.pointer (some ⟨B, 0, none⟩), str s] w fun e w' => (∃ z, e = .returned (.tuple #[.int .i64 z, .nilIface])) ∧ Wrote B (l ++ s) w w') := write_any _ h (by omega)
  obtain ⟨l1, hl1e⟩ : ∃ l1, l1 = l ++ s := ⟨_, rfl⟩
  rw [← hl1e] at K1
  have H1 : Hid (T = l1 ++ (rowsB (rows.drop 0) ++ [10])) := by show _ = _; rw [hTe, hl1e, List.append_assoc, List.drop_zero]
  have HTL := Lib.hid hT; have HR := Lib.hid hR; have HV := Lib.hid hr
  generalize str s = u at K1 ⊢
  clear hT hl1 hl1e hTe h hR hr
  go_enter Tryd.func32, Tryd.ntmps32
  go_wp2_with fail
  refine K1.out.mono ?_
  rintro e w1 ⟨⟨z, rfl⟩, hw1⟩
  have HW1 := Lib.hid hw1
  clear hw1 K1
  go_wp2_with fail
  go_loopw [15] (fun i wr => ∃ (j : Nat) (m : List UInt8), j ≤ rows.length ∧ i = .int .i64 j ∧ Hid (T = m ++ (rowsB (rows.drop j) ++ [10])) ∧ Hid (Wrote B m w wr)) (fun i _ => rows.length - (intOf i).toNat)
  case atStart => exact ⟨0, l1, Nat.zero_le _, rfl, H1.out, HW1.out⟩
  case round =>
    obtain ⟨j, m, hj, rfl, hTm, hW⟩ := hrel
    clear HW1 H1
    obtain ⟨wo, rfl⟩ : ∃ wo, wo = wr := ⟨_, rfl⟩
    by_cases hjl : j < rows.length
    · obtain ⟨y, zo, Rj, Cj, hRe, hk⟩ := HR.out.row hjl
      have hstep := rowsB_step hjl
      have hr8 := HV.out rows[j] (List.getElem_mem hjl)
      obtain ⟨row, hrow⟩ : ∃ x, x = rows[j] := ⟨_, rfl⟩
      rw [← hrow] at hk hstep hr8
      have c := (hk wo m hW.out).1
      have HK := Lib.hid hk
      obtain ⟨R3, hR3⟩ : ∃ R, R = rowsB (rows.drop (j + 1)) ++ [10] := ⟨_, rfl⟩
      have HR3 := Lib.hid hR3
      have hT0 : T = m ++ ([32] ++ (bitsT row ++ R3)) := by rw [hTm.out, hstep, hR3]; simp only [List.append_assoc]
      have hml : m.length + 1 ≤ 1000000 := by have := HTL.out; rw [hT0] at this; simp only [List.length_append, List.length_cons, List.length_nil] at this; omega
      have K2 : Hid (Calls Tryd.prog 31 #[.pointer (some ⟨B, 0, none⟩), .string ⟨#[32]⟩] wo fun e w' => (∃ z, e = .returned (.tuple #[.int .i64 z, .nilIface])) ∧ Wrote B (m ++ [32]) wo w') := write_any [32] hW.out.bld (by simp only [List.length_cons, List.length_nil]; omega)
      obtain ⟨m1, hm1⟩ : ∃ m1, m1 = m ++ [32] := ⟨_, rfl⟩
      rw [← hm1] at K2
      have H2 : Hid (T = m1 ++ (bitsT (row.drop 0) ++ R3)) := by show _ = _; rw [hT0, hm1, List.append_assoc, List.drop_zero]
      have JL := Lib.hid hjl
      have j0 : (0 : Int) ≤ (j : Int) := Int.natCast_nonneg _
      have j1 : (j : Int) < (rows.length : Int) := by omega
      have j8 : (j : Int) < 8 := by omega
      subst hRe
      clear hrow hstep hk hR3 hT0 hml hm1 hTm hjl
      go_wp2_with fail
      refine K2.out.mono ?_
      rintro e w3 ⟨⟨z3, rfl⟩, hw3⟩
      have HW3 : Hid (Wrote B m1 w w3) := hW.out.trans hw3
      clear hw3 K2 c hW
      go_wp2_with fail
      go_loopw [23] (fun i wr => ∃ (k : Nat) (m : List UInt8), k ≤ row.length ∧ i = .int .i64 k ∧ Hid (T = m ++ (bitsT (row.drop k) ++ R3)) ∧ Hid (Wrote B m w wr)) (fun i _ => row.length - (intOf i).toNat)
      case atStart => exact ⟨0, m1, Nat.zero_le _, rfl, H2.out, HW3.out⟩
      case round =>
        obtain ⟨k, m, hk, rfl, hTm, hW⟩ := hrel
        clear HW3 H2
        by_cases hkl : k < row.length
        · obtain ⟨yr, zr, hRe, c⟩ := bool_at ((HK.out _ _ hW.out).2) hkl
          have hstep := bitsT_step hkl
          obtain ⟨v, hvv⟩ : ∃ x, x = row[k] := ⟨_, rfl⟩
          rw [← hvv] at c hstep
          obtain ⟨R4, hR4⟩ : ∃ R, R = bitsT (row.drop (k + 1)) ++ R3 := ⟨_, rfl⟩
          have HR4 := Lib.hid hR4
          have hT0 : T = m ++ (bitT v ++ R4) := by rw [hTm.out, hstep, hR4]; simp only [List.append_assoc]
          have hml : m.length + 1 ≤ 1000000 := by have := HTL.out; rw [hT0] at this; cases v <;> simp only [bitT, List.length_append] at this <;> simp at this <;> omega
          have KL := Lib.hid hkl
          have k0 : (0 : Int) ≤ (k : Int) := Int.natCast_nonneg _
          have k1 : (k : Int) < (row.length : Int) := by omega
          have k8 : (k : Int) < 8 := by omega
          subst hRe
          clear hvv hR4 hstep hkl hTm
          cases v
          · have K3 : Hid (Calls Tryd.prog 31 #[.pointer (some ⟨B, 0, none⟩), .string ⟨#[48]⟩] wr fun e w' => (∃ z, e = .returned (.tuple #[.int .i64 z, .nilIface])) ∧ Wrote B (m ++ [48]) wr w') := write_any [48] hW.out.bld (by simp only [List.length_cons, List.length_nil]; omega)
            have HT3 : Hid (T = (m ++ [48]) ++ (bitsT (row.drop (k + 1)) ++ R3)) := by show _ = _; rw [hT0, HR4.out, List.append_assoc]; rfl
            clear hT0 hml
            go_wp2_with fail
            refine K3.out.mono ?_
            rintro e w4 ⟨⟨z4, rfl⟩, hw4⟩
            have HW4 : Hid (Wrote B (m ++ [48]) w w4) := hW.out.trans hw4
            clear hw4 K3
            go_wp2_with fail
            go_roundw
            case rel => exact ⟨k + 1, _, KL.out, by go_num, HT3.out, HW4.out⟩
            case measure => have := KL.out; simp [intOf]; omega
          · have K3 : Hid (Calls Tryd.prog 31 #[.pointer (some ⟨B, 0, none⟩), .string ⟨#[49]⟩] wr fun e w' => (∃ z, e = .returned (.tuple #[.int .i64 z, .nilIface])) ∧ Wrote B (m ++ [49]) wr w') := write_any [49] hW.out.bld (by simp only [List.length_cons, List.length_nil]; omega)
            have HT3 : Hid (T = (m ++ [49]) ++ (bitsT (row.drop (k + 1)) ++ R3)) := by show _ = _; rw [hT0, HR4.out, List.append_assoc]; rfl
            clear hT0 hml
            go_wp2_with fail
            refine K3.out.mono ?_
            rintro e w4 ⟨⟨z4, rfl⟩, hw4⟩
            have HW4 : Hid (Wrote B (m ++ [49]) w w4) := hW.out.trans hw4
            clear hw4 K3
            go_wp2_with fail
            go_roundw
            case rel => exact ⟨k + 1, _, KL.out, by go_num, HT3.out, HW4.out⟩
            case measure => have := KL.out; simp [intOf]; omega
        · obtain rfl : k = row.length := by omega
          have HT3 : Hid (T = m ++ (rowsB (rows.drop (j + 1)) ++ [10])) := by show _ = _; rw [hTm.out, List.drop_length, HR3.out]; rfl
          clear hTm
          go_wp2_with fail
          go_roundw
          case rel => exact ⟨j + 1, m, JL.out, by go_num, HT3.out, hW.out⟩
          case measure => have := JL.out; simp [intOf]; omega
    · obtain rfl : j = rows.length := by omega
      have e1 : T = m ++ [10] := by rw [hTm.out, List.drop_length]; rfl
      have hml : m.length + 1 ≤ 1000000 := by have := HTL.out; rw [e1] at this; simp only [List.length_append, List.length_cons, List.length_nil] at this; omega
      have K2 : Hid (Calls Tryd.prog 31 #[.pointer (some ⟨B, 0, none⟩), .string ⟨#[10]⟩] wo fun e w' => (∃ z, e = .returned (.tuple #[.int .i64 z, .nilIface])) ∧ Wrote B (m ++ [10]) wo w') := write_any [10] hW.out.bld (by simp only [List.length_cons, List.length_nil]; omega)
      rw [← e1] at K2
      have HW2 := Lib.hid hW.out
      clear hml hTm e1
      go_wp2_with fail
      refine K2.out.mono ?_
      rintro e w3 ⟨⟨z3, rfl⟩, hw3⟩
      have HF : Hid (Wrote B T w w3) := HW2.out.trans hw3
      clear hw3 K2
      go_wp2_with fail
      go_end0
      exact ⟨rfl, HF.out⟩
end Go.Proofs.YtlaebkhmefnmnaaDoor
