/- Assertions that a node is the one of zero. Closed facts. Contracts of impl.writeBoth, writeNode. A region that draws its order, of which the last operation stores into a cell that the region loads: walked in the text's order. No function of the program. Contract of impl.writeProg. Contracts of impl.writeProg at all programs of the table, impl.ProgText. Contracts of impl.nodeText, impl.ExprText, spec.ExprText. -/
import Derived.Test.YtcgbepmhfimbjaaGreatDoorTqe
import Derived.Test.YtcgbepmhfimbjaaGreatDoorTqd
import Derived.Test.YtcgbepmhfimbjaaGreatDoorFill
import Derived.Deep.RegionHeld
import Derived.OrdersHeld
import Derived.WalkKit
import Derived.Test.YtcgbepmhfimbjaaGreatDoorTqb
import Derived.Test.YtcgbepmhfimbjaaGreatDoorOk
import Derived.Test.YtcgbepmhfimbjaaGreatDoorValidI
namespace Go.Proofs.YtcgbepmhfimbjaaGreatDoor
open Go.RowKit
theorem is_zero_zero (v : Value) (w : World) : (Instr.typeAssert (.iface 169 v) 113 169 true).run Tryz.prog w = .ok (.tuple #[v, .bool true]) w := by kernel_rfl
theorem is_one_zero (v : Value) (w : World) : (Instr.typeAssert (.iface 163 v) 113 169 true).run Tryz.prog w = .ok (.tuple #[.agg #[], .bool false]) w := by kernel_rfl
theorem is_test_zero (v : Value) (w : World) : (Instr.typeAssert (.iface 165 v) 113 169 true).run Tryz.prog w = .ok (.tuple #[.agg #[], .bool false]) w := by kernel_rfl
theorem is_act_zero (v : Value) (w : World) : (Instr.typeAssert (.iface 166 v) 113 169 true).run Tryz.prog w = .ok (.tuple #[.agg #[], .bool false]) w := by kernel_rfl
theorem is_not_zero (v : Value) (w : World) : (Instr.typeAssert (.iface 202 v) 113 169 true).run Tryz.prog w = .ok (.tuple #[.agg #[], .bool false]) w := by kernel_rfl
theorem is_sum_zero (v : Value) (w : World) : (Instr.typeAssert (.iface 204 v) 113 169 true).run Tryz.prog w = .ok (.tuple #[.agg #[], .bool false]) w := by kernel_rfl
theorem is_dot_zero (v : Value) (w : World) : (Instr.typeAssert (.iface 206 v) 113 169 true).run Tryz.prog w = .ok (.tuple #[.agg #[], .bool false]) w := by kernel_rfl
theorem is_star_zero (v : Value) (w : World) : (Instr.typeAssert (.iface 207 v) 113 169 true).run Tryz.prog w = .ok (.tuple #[.agg #[], .bool false]) w := by kernel_rfl
end Go.Proofs.YtcgbepmhfimbjaaGreatDoor

namespace Go.Proofs.YtcgbepmhfimbjaaGreatDoor
open Go.RowKit

set_option maxHeartbeats 2000000 in
theorem writeBoth_of {B : Nat} {l la lb m : List UInt8} {va vb : Value} {w : World} (KA : Hid (∀ W, Bld B (l ++ [40]) W → Calls Tryz.prog 83 #[.pointer (some ⟨B, 0, none⟩), va] W fun e w' => e = .returned (.tuple #[]) ∧ Wrote B (l ++ [40] ++ la) W w')) (KB : Hid (∀ W, Bld B (l ++ [40] ++ la ++ m) W → Calls Tryz.prog 83 #[.pointer (some ⟨B, 0, none⟩), vb] W fun e w' => e = .returned (.tuple #[]) ∧ Wrote B (l ++ [40] ++ la ++ m ++ lb) W w'))
    (h : Bld B l w) (hl : l.length + la.length + m.length + lb.length + 2 ≤ 1099511627776) :
    Calls Tryz.prog 119 #[.pointer (some ⟨B, 0, none⟩), va, str m, vb] w fun e w' => e = .returned (.tuple #[]) ∧ Wrote B (l ++ (40 :: (la ++ (m ++ (lb ++ [41]))))) w w' := by
  have K1 : Hid (Calls Tryz.prog 34 #[.pointer (some ⟨B, 0, none⟩), str [40]] w fun e w' => (∃ z, e = .returned (.tuple #[.int .i64 z, .nilIface])) ∧ Wrote B (l ++ [40]) w w') := write_any [40] h (by simp only [List.length_cons, List.length_nil]; omega)
  have K2 : Hid (∀ W, Bld B (l ++ [40] ++ la) W → Calls Tryz.prog 34 #[.pointer (some ⟨B, 0, none⟩), str m] W fun e w' => (∃ z, e = .returned (.tuple #[.int .i64 z, .nilIface])) ∧ Wrote B (l ++ [40] ++ la ++ m) W w') := fun W hW => write_any m hW (by simp only [List.length_append, List.length_cons, List.length_nil]; omega)
  have K3 : Hid (∀ W, Bld B (l ++ [40] ++ la ++ m ++ lb) W → Calls Tryz.prog 34 #[.pointer (some ⟨B, 0, none⟩), str [41]] W fun e w' => (∃ z, e = .returned (.tuple #[.int .i64 z, .nilIface])) ∧ Wrote B (l ++ [40] ++ la ++ m ++ lb ++ [41]) W w') := fun W hW => write_any [41] hW (by simp only [List.length_append, List.length_cons, List.length_nil]; omega)
  have HE : Hid (l ++ [40] ++ la ++ m ++ lb ++ [41] = l ++ (40 :: (la ++ (m ++ (lb ++ [41]))))) := by show _ = _; simp
  clear hl
  generalize str m = u at K2 ⊢
  go_enter Tryz.func119, Tryz.ntmps119
  go_wp2_with fail
  refine K1.out.mono ?_
  rintro e w1 ⟨⟨z, rfl⟩, hw1⟩
  go_wp2_with fail
  refine (KA.out _ hw1.bld).mono ?_
  rintro e w2 ⟨rfl, hw2⟩
  go_wp2_with fail
  refine (K2.out _ hw2.bld).mono ?_
  rintro e w3 ⟨⟨z, rfl⟩, hw3⟩
  go_wp2_with fail
  refine (KB.out _ hw3.bld).mono ?_
  rintro e w4 ⟨rfl, hw4⟩
  go_wp2_with fail
  refine (K3.out _ hw4.bld).mono ?_
  rintro e w5 ⟨⟨z, rfl⟩, hw5⟩
  go_wp2_with fail
  go_end0
  exact ⟨rfl, ((((hw1.trans hw2).trans hw3).trans hw4).trans hw5).to HE.out⟩

set_option maxRecDepth 100000 in
set_option maxHeartbeats 4000000 in
theorem writeNode_any : ∀ (d : Nd), d.okD → ∀ (B : Nat) (l : List UInt8) (w : World), l.length + 5 * d.size ≤ 1099511627776 → Bld B l w → Calls Tryz.prog 83 #[.pointer (some ⟨B, 0, none⟩), d.val] w fun e w' => e = .returned (.tuple #[]) ∧ Wrote B (l ++ d.tx) w w' := by
  intro d
  induction d with
  | zero =>
    intro _ B l w hl h
    have K1 : Hid (∀ W, Bld B l W → Calls Tryz.prog 34 #[.pointer (some ⟨B, 0, none⟩), str [48]] W fun e w' => (∃ z, e = .returned (.tuple #[.int .i64 z, .nilIface])) ∧ Wrote B (l ++ [48]) W w') := fun W hW => write_any _ hW (by simp only [List.length_cons, List.length_nil]; omega)
    clear hl
    show Calls Tryz.prog 83 #[.pointer (some ⟨B, 0, none⟩), .iface 169 (.agg #[])] w _
    have q_zero := is_zero_zero
    go_enter Tryz.func83, Tryz.ntmps83
    go_wp2_with fail
    refine (K1.out _ (by first | exact h | exact h.alloc _)).mono ?_
    rintro e w1 ⟨⟨z, rfl⟩, hw1⟩
    go_wp2_with fail
    go_end0
    exact ⟨rfl, by first | exact hw1 | exact hw1.behind h⟩
  | one =>
    intro _ B l w hl h
    have K1 : Hid (∀ W, Bld B l W → Calls Tryz.prog 34 #[.pointer (some ⟨B, 0, none⟩), str [49]] W fun e w' => (∃ z, e = .returned (.tuple #[.int .i64 z, .nilIface])) ∧ Wrote B (l ++ [49]) W w') := fun W hW => write_any _ hW (by simp only [List.length_cons, List.length_nil]; omega)
    clear hl
    show Calls Tryz.prog 83 #[.pointer (some ⟨B, 0, none⟩), .iface 163 (.agg #[])] w _
    have q_zero := is_one_zero
    have q_one := is_one_one
    go_enter Tryz.func83, Tryz.ntmps83
    go_wp2_with fail
    refine (K1.out _ (by first | exact h | exact h.alloc _)).mono ?_
    rintro e w1 ⟨⟨z, rfl⟩, hw1⟩
    go_wp2_with fail
    go_end0
    exact ⟨rfl, by first | exact hw1 | exact hw1.behind h⟩
  | test n =>
    intro hn B l w hl h
    have K1 : Hid (∀ W, Bld B l W → Calls Tryz.prog 67 #[.pointer (some ⟨B, 0, none⟩), str [116], .int .i64 n] W fun e w' => e = .returned (.tuple #[]) ∧ Wrote B (l ++ ([116] ++ Lib.decDigits n.toNat)) W w') := fun W hW => writeNumber_any [116] n hn.1 (by have := hn.2; omega) hW (by simp only [List.length_cons, List.length_nil]; omega)
    clear hl hn
    show Calls Tryz.prog 83 #[.pointer (some ⟨B, 0, none⟩), .iface 165 (.agg #[.int .i64 n])] w _
    have q_zero := is_test_zero
    have q_one := is_test_one
    have q_test := is_test_test
    go_enter Tryz.func83, Tryz.ntmps83
    go_wp2_with fail
    refine (K1.out _ (by first | exact h | exact h.alloc _)).mono ?_
    rintro e w1 ⟨rfl, hw1⟩
    go_wp2_with fail
    go_end0
    exact ⟨rfl, by first | exact hw1 | exact hw1.behind h⟩
  | act n =>
    intro hn B l w hl h
    have K1 : Hid (∀ W, Bld B l W → Calls Tryz.prog 67 #[.pointer (some ⟨B, 0, none⟩), str [97], .int .i64 n] W fun e w' => e = .returned (.tuple #[]) ∧ Wrote B (l ++ ([97] ++ Lib.decDigits n.toNat)) W w') := fun W hW => writeNumber_any [97] n hn.1 (by have := hn.2; omega) hW (by simp only [List.length_cons, List.length_nil]; omega)
    clear hl hn
    show Calls Tryz.prog 83 #[.pointer (some ⟨B, 0, none⟩), .iface 166 (.agg #[.int .i64 n])] w _
    have q_zero := is_act_zero
    have q_one := is_act_one
    have q_test := is_act_test
    have q_act := is_act_act
    go_enter Tryz.func83, Tryz.ntmps83
    go_wp2_with fail
    refine (K1.out _ (by first | exact h | exact h.alloc _)).mono ?_
    rintro e w1 ⟨rfl, hw1⟩
    go_wp2_with fail
    go_end0
    exact ⟨rfl, by first | exact hw1 | exact hw1.behind h⟩
  | not a ih =>
    intro hd B l w hl h
    have hl2 : l.length + 1 + 5 * a.size ≤ 1099511627776 := by simp only [Nd.size] at hl; omega
    have K1 : Hid (∀ W, Bld B l W → Calls Tryz.prog 34 #[.pointer (some ⟨B, 0, none⟩), str [126]] W fun e w' => (∃ z, e = .returned (.tuple #[.int .i64 z, .nilIface])) ∧ Wrote B (l ++ [126]) W w') := fun W hW => write_any _ hW (by simp only [List.length_cons, List.length_nil]; omega)
    have K2 : Hid (∀ W, Bld B (l ++ [126]) W → Calls Tryz.prog 83 #[.pointer (some ⟨B, 0, none⟩), a.val] W fun e w' => e = .returned (.tuple #[]) ∧ Wrote B (l ++ [126] ++ a.tx) W w') := fun W hW => ih hd B _ W (by simp only [List.length_append, List.length_cons, List.length_nil]; omega) hW
    have HE : Hid (l ++ [126] ++ a.tx = l ++ (Nd.not a).tx) := by show _ = _; simp [Nd.tx]
    clear ih hl hl2 hd
    show Calls Tryz.prog 83 #[.pointer (some ⟨B, 0, none⟩), .iface 202 (.agg #[a.val, .int .i64 (1 + a.size : Nat)])] w _
    obtain ⟨T1, x1, h1⟩ := Nd.val_if a
    rw [h1] at K2 ⊢
    clear h1
    generalize ((1 + a.size : Nat) : Int) = z0
    have q_zero := is_not_zero
    have q_one := is_not_one
    have q_test := is_not_test
    have q_act := is_not_act
    have q_not := is_not_not
    go_enter Tryz.func83, Tryz.ntmps83
    go_wp2_with fail
    have hbk : (w.alloc (.cells #[.iface T1 x1, .int .i64 z0] 202)).heap[w.heap.size]? = some (.cells #[.iface T1 x1, .int .i64 z0] 202 (0, 0)) := heap_new _ _ _ rfl
    refine (K1.out _ (h.alloc _)).mono ?_
    rintro e w1 ⟨⟨z, rfl⟩, hw1⟩
    have hb1 := hw1.one hbk (by decide) (Nat.ne_of_gt h.lt)
    have c0 := Fo.cell_of_block hb1 0
    go_wp2_with fail
    refine (K2.out _ hw1.bld).mono ?_
    rintro e w2 ⟨rfl, hw2⟩
    go_wp2_with fail
    go_end0
    exact ⟨rfl, ((hw1.behind h).trans hw2).to HE.out⟩
  | sum a b iha ihb =>
    intro hd B l w hl h
    have hta := Nd.tx_len hd.1
    have htb := Nd.tx_len hd.2
    have hl2 : l.length + 5 * a.size + 5 * b.size + 5 ≤ 1099511627776 := by simp only [Nd.size] at hl; omega
    have K1 : Hid (∀ W, Bld B l W → Calls Tryz.prog 119 #[.pointer (some ⟨B, 0, none⟩), a.val, str [32, 43, 32], b.val] W fun e w' => e = .returned (.tuple #[]) ∧ Wrote B (l ++ (40 :: (a.tx ++ ([32, 43, 32] ++ (b.tx ++ [41]))))) W w') := fun W hW => writeBoth_of (fun W h => iha hd.1 B _ W (by simp only [List.length_append, List.length_cons, List.length_nil]; omega) h) (fun W h => ihb hd.2 B _ W (by simp only [List.length_append, List.length_cons, List.length_nil]; omega) h) hW (by simp only [List.length_cons, List.length_nil]; omega)
    clear iha ihb hl hl2 hd hta htb
    show Calls Tryz.prog 83 #[.pointer (some ⟨B, 0, none⟩), .iface 204 (.agg #[a.val, b.val, .int .i64 (1 + a.size + b.size : Nat)])] w _
    show Calls _ _ _ _ fun e w' => e = .returned (.tuple #[]) ∧ Wrote B (l ++ (40 :: (a.tx ++ ([32, 43, 32] ++ (b.tx ++ [41]))))) w w'
    obtain ⟨T1, x1, h1⟩ := Nd.val_if a
    obtain ⟨T2, x2, h2⟩ := Nd.val_if b
    rw [h1, h2] at K1
    rw [h1, h2]
    clear h1 h2
    generalize ((1 + a.size + b.size : Nat) : Int) = z0
    generalize a.tx = la at K1 ⊢
    generalize b.tx = lb at K1 ⊢
    have q_zero := is_sum_zero
    have q_one := is_sum_one
    have q_test := is_sum_test
    have q_act := is_sum_act
    have q_not := is_sum_not
    have q_sum := is_sum_sum
    go_enter Tryz.func83, Tryz.ntmps83
    go_wp2_with fail
    refine (K1.out _ (h.alloc _)).mono ?_
    rintro e w1 ⟨rfl, hw1⟩
    go_wp2_with fail
    go_end0
    exact ⟨rfl, hw1.behind h⟩
  | dot a b iha ihb =>
    intro hd B l w hl h
    have hta := Nd.tx_len hd.1
    have htb := Nd.tx_len hd.2
    have hl2 : l.length + 5 * a.size + 5 * b.size + 5 ≤ 1099511627776 := by simp only [Nd.size] at hl; omega
    have K1 : Hid (∀ W, Bld B l W → Calls Tryz.prog 119 #[.pointer (some ⟨B, 0, none⟩), a.val, str [32], b.val] W fun e w' => e = .returned (.tuple #[]) ∧ Wrote B (l ++ (40 :: (a.tx ++ ([32] ++ (b.tx ++ [41]))))) W w') := fun W hW => writeBoth_of (fun W h => iha hd.1 B _ W (by simp only [List.length_append, List.length_cons, List.length_nil]; omega) h) (fun W h => ihb hd.2 B _ W (by simp only [List.length_append, List.length_cons, List.length_nil]; omega) h) hW (by simp only [List.length_cons, List.length_nil]; omega)
    clear iha ihb hl hl2 hd hta htb
    show Calls Tryz.prog 83 #[.pointer (some ⟨B, 0, none⟩), .iface 206 (.agg #[a.val, b.val, .int .i64 (1 + a.size + b.size : Nat)])] w _
    show Calls _ _ _ _ fun e w' => e = .returned (.tuple #[]) ∧ Wrote B (l ++ (40 :: (a.tx ++ ([32] ++ (b.tx ++ [41]))))) w w'
    obtain ⟨T1, x1, h1⟩ := Nd.val_if a
    obtain ⟨T2, x2, h2⟩ := Nd.val_if b
    rw [h1, h2] at K1
    rw [h1, h2]
    clear h1 h2
    generalize ((1 + a.size + b.size : Nat) : Int) = z0
    generalize a.tx = la at K1 ⊢
    generalize b.tx = lb at K1 ⊢
    have q_zero := is_dot_zero
    have q_one := is_dot_one
    have q_test := is_dot_test
    have q_act := is_dot_act
    have q_not := is_dot_not
    have q_sum := is_dot_sum
    have q_dot := is_dot_dot
    go_enter Tryz.func83, Tryz.ntmps83
    go_wp2_with fail
    refine (K1.out _ (h.alloc _)).mono ?_
    rintro e w1 ⟨rfl, hw1⟩
    go_wp2_with fail
    go_end0
    exact ⟨rfl, hw1.behind h⟩
  | star a ih =>
    intro hd B l w hl h
    have hta := Nd.tx_len hd
    have hl2 : l.length + 5 * a.size + 5 ≤ 1099511627776 := by simp only [Nd.size] at hl; omega
    have K1 : Hid (∀ W, Bld B l W → Calls Tryz.prog 83 #[.pointer (some ⟨B, 0, none⟩), a.val] W fun e w' => e = .returned (.tuple #[]) ∧ Wrote B (l ++ a.tx) W w') := fun W hW => ih hd B _ W (by omega) hW
    have K2 : Hid (∀ W, Bld B (l ++ a.tx) W → Calls Tryz.prog 34 #[.pointer (some ⟨B, 0, none⟩), str [42]] W fun e w' => (∃ z, e = .returned (.tuple #[.int .i64 z, .nilIface])) ∧ Wrote B (l ++ a.tx ++ [42]) W w') := fun W hW => write_any _ hW (by simp only [List.length_append, List.length_cons, List.length_nil]; simp only [Nd.tx, Nd.size, List.length_append, List.length_cons, List.length_nil] at hta; omega)
    have HE : Hid (l ++ a.tx ++ [42] = l ++ (Nd.star a).tx) := by show _ = _; simp [Nd.tx]
    clear ih hl hl2 hd hta
    show Calls Tryz.prog 83 #[.pointer (some ⟨B, 0, none⟩), .iface 207 (.agg #[a.val, .int .i64 (1 + a.size : Nat)])] w _
    obtain ⟨T1, x1, h1⟩ := Nd.val_if a
    rw [h1] at K1 ⊢
    clear h1
    generalize ((1 + a.size : Nat) : Int) = z0
    have q_zero := is_star_zero
    have q_one := is_star_one
    have q_test := is_star_test
    have q_act := is_star_act
    have q_not := is_star_not
    have q_sum := is_star_sum
    have q_dot := is_star_dot
    have q_star := is_star_star
    go_enter Tryz.func83, Tryz.ntmps83
    go_wp2_with fail
    refine (K1.out _ (h.alloc _)).mono ?_
    rintro e w1 ⟨rfl, hw1⟩
    go_wp2_with fail
    refine (K2.out _ hw1.bld).mono ?_
    rintro e w2 ⟨⟨z, rfl⟩, hw2⟩
    go_wp2_with fail
    go_end0
    exact ⟨rfl, ((hw1.behind h).trans hw2).to HE.out⟩
end Go.Proofs.YtcgbepmhfimbjaaGreatDoor

namespace Go.Proofs.YtcgbepmhfimbjaaGreatDoor
open Go
set_option linter.unusedVariables false

section
variable {P : Program} {md : Region.Mode} {ops : Array Oper} {Q : Exit → Act → World → Prop} {S : World → Prop} {k : Nat}

/-- What is listed has all that it waits for listed. -/
def Closed (md : Region.Mode) (ops : Array Oper) (listed : Array Bool) : Prop := ∀ (j : Nat) (o : Oper), ops[j]? = some o → listed.getD j false = true → ∀ e ∈ o.after, Region.binds md e = true → listed.getD e.on false = true
def closedB (md : Region.Mode) (ops : Array Oper) (listed : Array Bool) : Bool := (List.range ops.size).all fun j => match ops[j]? with
  | none => true
  | some o => !listed.getD j false || o.after.toList.all fun e => !Region.binds md e || listed.getD e.on false
theorem closed_of {listed : Array Bool} (h : closedB md ops listed = true) : Closed md ops listed := fun j o ho hl e he hb => by
  have h1 := List.all_eq_true.1 h j (List.mem_range.2 (Array.getElem?_eq_some_iff.1 ho).1)
  rw [ho] at h1
  simp only [hl, Bool.not_true, Bool.false_or] at h1
  have h2 := List.all_eq_true.1 h1 e (Array.mem_toList_iff.2 he)
  simpa [hb] using h2
/-- Operation j waits, by whatever way, for operation i. -/
def waits (md : Region.Mode) (ops : Array Oper) : Nat → Nat → Nat → Bool
  | 0, _, _ => false
  | n + 1, j, i => match ops[j]? with
    | none => false
    | some o => o.after.toList.any fun e => Region.binds md e && (e.on == i || waits md ops n e.on i)
theorem listed_of {listed : Array Bool} (hc : Closed md ops listed) {i : Nat} : ∀ (n j : Nat) (o : Oper), ops[j]? = some o → (∀ e ∈ o.after, Region.binds md e = true → listed.getD e.on false = true) → waits md ops n j i = true → listed.getD i false = true
  | 0, _, _, _, _, h => by simp [waits] at h
  | n + 1, j, o, ho, hd, h => by
    simp only [waits, ho] at h
    obtain ⟨e, he, h1⟩ := List.any_eq_true.1 h
    rw [Bool.and_eq_true, Bool.or_eq_true] at h1
    have he' : e ∈ o.after := Array.mem_toList_iff.1 he
    have hl := hd e he' h1.1
    rcases h1.2 with h2 | h2
    · have : e.on = i := by simpa using h2
      rw [← this]; exact hl
    · cases ho2 : ops[e.on]? with
      | none =>
        cases n with
        | zero => simp [waits] at h2
        | succ n => simp [waits, ho2] at h2
      | some o2 => exact listed_of hc n e.on o2 ho2 (fun e2 h3 h4 => hc e.on o2 ho2 hl e2 h3 h4) h2
theorem closed_set {listed : Array Bool} (hc : Closed md ops listed) {i : Nat} (hi : i ∈ Region.ready md ops listed) : Closed md ops (listed.setIfInBounds i true) := fun j o ho hl e he hb => by
  have up : ∀ x, listed.getD x false = true → (listed.setIfInBounds i true).getD x false = true := fun x hx => by
    simp only [Array.getD_eq_getD_getElem?, Array.getElem?_setIfInBounds] at hx ⊢
    split
    · split
      · rfl
      · rename_i h1 h2
        rw [Array.getElem?_eq_none (by omega)] at hx
        simp at hx
    · exact hx
  by_cases hji : j = i
  · subst hji
    obtain ⟨_, o2, ho2, hall⟩ := mem_ready.1 hi
    obtain rfl : o = o2 := Option.some.inj (ho.symm.trans ho2)
    exact up _ (hall e he hb)
  · refine up _ (hc j o ho ?_ e he hb)
    simp only [Array.getD_eq_getD_getElem?, Array.getElem?_setIfInBounds, if_neg (Ne.symm hji)] at hl
    simpa [Array.getD_eq_getD_getElem?] using hl

/-- Whatever order is picked, and S holds behind each operation but the last one, k. -/
def wpAnyL (P : Program) (md : Region.Mode) (ops : Array Oper) (Q : Exit → Act → World → Prop) (S : World → Prop) (k : Nat) : Nat → Array Bool → Act → World → Prop
  | 0, listed, a, w => Region.ready md ops listed = [] ∧ Q .normal a w
  | fuel + 1, listed, a, w =>
    (Region.ready md ops listed = [] → Q .normal a w) ∧
    ∀ i ∈ Region.ready md ops listed, wpOp P ops Q i (fun a' w' => (i = k ∨ S w') ∧ wpAnyL P md ops Q S k fuel (listed.setIfInBounds i true) a' w') a w
theorem wpAny_of_last : ∀ (fuel : Nat) (listed : Array Bool) (a : Act) (w : World), wpAnyL P md ops Q S k fuel listed a w → wpAny P md ops Q fuel listed a w
  | 0, _, _, _, h => h
  | fuel + 1, _, _, _, h => ⟨h.1, fun i hi => wpOp_mono (fun a' w' h' => wpAny_of_last fuel _ a' w' h'.2) (h.2 i hi)⟩
theorem wpAnyL_first {i : Nat} {oi : Oper} {v : Value} (hi : ops[i]? = some oi) (hsel : ∀ (j : Nat) (o : Oper) cs b, ops[j]? = some o → o.op ≠ .select cs b)
    (hQ : ∀ c a w, Q (.panic c) (a.put oi.dst v) w → Q (.panic c) a w) {n : Nat} (hwait : waits md ops n k i = true) :
    ∀ (fuel : Nat) (listed : Array Bool) (a : Act) (w : World), Closed md ops listed →
      (∀ j oj, ops[j]? = some oj → j ≠ i → listed.getD j true = false → (∀ e ∈ oj.after, Region.binds md e = true → e.on ≠ i) → oi.apart ops oj = true) →
      i ∈ Region.ready md ops listed → YieldsIf P ops S oi v a → S w →
      wpAnyL P md ops Q S k fuel (listed.setIfInBounds i true) (a.put oi.dst v) w → wpAnyL P md ops Q S k (fuel + 1) listed a w := by
  intro fuel
  induction fuel with
  | zero =>
    intro listed a w _ _ hr hy hS H
    refine ⟨fun h => (by rw [h] at hr; cases hr), fun j hj => ?_⟩
    by_cases hji : j = i
    · subst hji; exact hy.wpOp hi hS ⟨Or.inr hS, H⟩
    · have := ready_mono hj hji
      rw [H.1] at this
      cases this
  | succ fuel ih =>
    intro listed a w hcl hfree hr hy hS H
    refine ⟨fun h => (by rw [h] at hr; cases hr), fun j hj => ?_⟩
    by_cases hji : j = i
    · subst hji; exact hy.wpOp hi hS ⟨Or.inr hS, H⟩
    · have h1 := H.2 j (ready_mono hj hji)
      obtain ⟨hjun, oj, hoj, hall⟩ := mem_ready.1 hj
      have hjk : j ≠ k := fun he => by
        have h5 := listed_of hcl n j oj hoj hall (by rw [he]; exact hwait)
        have h6 := (mem_ready.1 hr).1
        simp only [Array.getD_eq_getD_getElem?] at h5 h6
        cases hx : listed[i]? with
        | none => rw [hx] at h5; simp at h5
        | some b => rw [hx] at h5 h6; simp at h5 h6; rw [h5] at h6; cases h6
      have hnot : ∀ e ∈ oj.after, Region.binds md e = true → e.on ≠ i := fun e he hb heq => by
        have h1 := hall e he hb
        have h0 := (mem_ready.1 hr).1
        rw [heq] at h1
        rcases Nat.lt_or_ge i listed.size with h' | h'
        · simp [h'] at h0 h1; rw [h0] at h1; cases h1
        · simp [Array.getElem?_eq_none h'] at h1
      have h2 := wpOp_putIf hoj (hfree j oj hoj hji hjun hnot) (fun cs b => hsel i oi cs b hi) (fun cs b => hsel j oj cs b hoj) hQ hy h1
      have hfree' : ∀ k ok, ops[k]? = some ok → k ≠ i → (listed.setIfInBounds j true).getD k true = false →
          (∀ e ∈ ok.after, Region.binds md e = true → e.on ≠ i) → oi.apart ops ok = true := fun k ok hk hki hun hno => by
        refine hfree k ok hk hki ?_ hno
        by_cases hjk : j = k
        · subst hjk; exact hjun
        · rw [getD_set_ne true hjk] at hun; exact hun
      refine wpOp_mono (fun a' w' h3 => ?_) h2
      have hS' : S w' := h3.2.1.resolve_left hjk
      refine ⟨h3.2.1, ih (listed.setIfInBounds j true) a' w' (closed_set hcl hj) hfree' (ready_mono hr (Ne.symm hji)) h3.1 hS' ?_⟩
      rw [Array.setIfInBounds_comm _ _ hji]
      exact h3.2.2
theorem wpAnyL_take {i : Nat} {oi : Oper} {v : Value} {fuel : Nat} {listed : Array Bool} {a : Act} {w : World} (hi : ops[i]? = some oi)
    (hs : Region.noSelect ops = true) (hf : Region.free md ops listed i = true) (hr : (Region.ready md ops listed).contains i = true) (hwait : waits md ops ops.size k i = true) (hcl : closedB md ops listed = true)
    (hQ : ∀ c a w, Q (.panic c) (a.put oi.dst v) w → Q (.panic c) a w) (hy : YieldsIf P ops S oi v a) (hS : S w)
    (h : wpAnyL P md ops Q S k fuel (listed.setIfInBounds i true) (a.put oi.dst v) w) : wpAnyL P md ops Q S k (fuel + 1) listed a w :=
  wpAnyL_first hi (Region.noSelect_spec hs) hQ hwait fuel listed a w (closed_of hcl) (Region.free_spec hi hf) (by simpa using hr) hy hS h
/-- The one operation that may come up. -/
theorem wpAnyL_ready {i : Nat} {o : Oper} {fuel : Nat} {listed : Array Bool} {a : Act} {w : World} (hr : Region.ready md ops listed = [i]) (ho : ops[i]? = some o)
    (h : ∀ K' : Act → World → Prop, Shut (∀ a w, S w → wpAnyL P md ops Q S k fuel (listed.setIfInBounds i true) a w → K' a w) → if Region.wanted o (yielded ops a.tmps) = true then Oper.wp P o a w K' Q else K' (a.put o.dst undef) w) :
    wpAnyL P md ops Q S k (fuel + 1) listed a w := by
  refine ⟨fun h0 => absurd (hr.symm.trans h0) (by simp), fun j hj => ?_⟩
  rw [hr] at hj
  obtain rfl : j = i := by simpa using hj
  exact wpOp_step ho (fun K' hK => h K' (fun a w hS hW => hK a w ⟨Or.inr hS, hW⟩))
/-- The last operation: S is not asked behind it. -/
theorem wpAnyL_last {o : Oper} {fuel : Nat} {listed : Array Bool} {a : Act} {w : World} (hr : Region.ready md ops listed = [k]) (ho : ops[k]? = some o) (hr2 : Region.ready md ops (listed.setIfInBounds k true) = [])
    (h : ∀ K' : Act → World → Prop, Shut (∀ a w, Q .normal a w → K' a w) → if Region.wanted o (yielded ops a.tmps) = true then Oper.wp P o a w K' Q else K' (a.put o.dst undef) w) :
    wpAnyL P md ops Q S k (fuel + 1) listed a w := by
  refine ⟨fun h0 => absurd (hr.symm.trans h0) (by simp), fun j hj => ?_⟩
  rw [hr] at hj
  obtain rfl : j = k := by simpa using hj
  refine wpOp_step ho (fun K' hK => h K' (fun a w hQ => hK a w ⟨Or.inl rfl, ?_⟩))
  cases fuel with
  | zero => exact ⟨hr2, hQ⟩
  | succ n => exact ⟨fun _ => hQ, by rw [hr2]; simp⟩
/-- The beginning. -/
theorem wp_region_last {id : Nat} {a : Act} {w : World} (k : Nat) (hm : P.follows .mixedOrders = true) (hS : S w.drew)
    (h : S w.drew → wpAnyL P .any ops Q S k ops.size (Array.replicate ops.size false) a w.drew) : (Code.region id ops true).wp P Q a w :=
  wp_region_any hm (wpAny_of_last _ _ _ _ (h hS))
end
end Go.Proofs.YtcgbepmhfimbjaaGreatDoor

namespace Go.Proofs.YtcgbepmhfimbjaaGreatDoor
open Go.RowKit
set_option linter.unusedVariables false

theorem builder_belowB {B : Nat} {p : Value} {bs : List Value} {W W' : World} (h : Lib.BuilderAtF 82 5 B B p bs W) (hb : Below W.heap.size W W') : Lib.BuilderAtF 82 5 B B p bs W' := by
  obtain ⟨hB, v, hbl, hown, hne⟩ := h
  refine ⟨hB, v, (hb.block _ (Array.getElem?_eq_some_iff.1 hbl).1).trans hbl, ⟨hown.1, ?_⟩, hne⟩
  rcases hown.2 with h | ⟨g, cap, cur, fz, hv, hbg, hg, rest⟩
  · exact Or.inl h
  · exact Or.inr ⟨g, cap, cur, fz, hv, hbg, (hb.block _ (Array.getElem?_eq_some_iff.1 hg).1).trans hg, rest⟩
theorem Bld.belowB {B : Nat} {l : List UInt8} {W W' : World} (h : Bld B l W) (hb : Below W.heap.size W W') : Bld B l W' := by
  rcases h with h | h
  · exact Or.inl (builder_belowB h hb)
  · exact Or.inr (builder_belowB h hb)
theorem Wrote.thenB {B : Nat} {l : List UInt8} {a b c : World} (h : Wrote B l a b) (hb : Below b.heap.size b c) : Wrote B l a c :=
  ⟨h.bld.belowB hb, h.below.trans (hb.mono (Nat.le_of_lt h.bld.lt)), fun k o hk h1 h2 => (hb.block k (Array.getElem?_eq_some_iff.1 (h.kept k o hk h1 h2)).1).trans (h.kept k o hk h1 h2)⟩
/-- What is so within a call of writeProg: the builder, and the boxes of the builder's pointer, of the program, and of the words that are left. -/
structure PSt (w : World) (B bo bp bf bw : Nat) (vp vf : Array Value) (l : List UInt8) (v : Value) (W : World) : Prop where
  wrote : Wrote B l w W
  out : W.heap[bo]? = some (.cells #[.pointer (some ⟨B, 0, none⟩)] 79 (0, 0))
  prog : W.heap[bp]? = some (.cells vp 41 (0, 0))
  form : W.heap[bf]? = some (.cells vf 172 (0, 0))
  words : W.heap[bw]? = some (.cells #[v] 170 (0, 0))
  low : B < w.heap.size ∧ w.heap.size ≤ bo ∧ w.heap.size ≤ bp ∧ w.heap.size ≤ bf ∧ w.heap.size ≤ bw ∧ bo ≠ bw ∧ bp ≠ bw ∧ bf ≠ bw
section
variable {w W W' : World} {B bo bp bf bw : Nat} {vp vf : Array Value} {l l' : List UInt8} {v v' : Value}
theorem PSt.word (h : PSt w B bo bp bf bw vp vf l v W) (k : WroteW B bw l' v' 170 W W') : PSt w B bo bp bf bw vp vf l' v' W' := by
  obtain ⟨z0, z1, z2, z3, z4, z5, z6, z7⟩ := h.low
  exact ⟨WroteW.after h.wrote k z4, k.one h.out (by decide) (by omega) z5, k.one h.prog (by decide) (by omega) z6, k.one h.form (by decide) (by omega) z7, k.box, h.low⟩
theorem PSt.write (h : PSt w B bo bp bf bw vp vf l v W) (k : Wrote B l' W W') : PSt w B bo bp bf bw vp vf l' v W' := by
  obtain ⟨z0, z1, z2, z3, z4, z5, z6, z7⟩ := h.low
  exact ⟨h.wrote.trans k, k.one h.out (by decide) (by omega), k.one h.prog (by decide) (by omega), k.one h.form (by decide) (by omega), k.one h.words (by decide) (by omega), h.low⟩
theorem PSt.thenB (h : PSt w B bo bp bf bw vp vf l v W) (k : Below W.heap.size W W') : PSt w B bo bp bf bw vp vf l v W' := by
  have up : ∀ {b : Nat} {o : Obj}, W.heap[b]? = some o → W'.heap[b]? = some o := fun hb => (k.block _ (Array.getElem?_eq_some_iff.1 hb).1).trans hb
  exact ⟨h.wrote.thenB k, up h.out, up h.prog, up h.form, up h.words, h.low⟩
theorem PSt.sees {w0 : World} (h : PSt w B bo bp bf bw vp vf l v W) (hs : Sees w0 w) (hB : w0.heap.size ≤ B) : Sees w0 W := Below.trans hs (h.wrote.below.mono hB)
end
theorem pcells6 {W : World} {b : Nat} {T : TypeId} {u0 u1 u2 u3 u4 u5 : Value} (h : W.heap[b]? = some (.cells #[u0, u1, u2, u3, u4, u5] T (0, 0))) :
    W.cell? ⟨b, 0, none⟩ = some u0 ∧ W.cell? ⟨b, 1, none⟩ = some u1 ∧ W.cell? ⟨b, 2, none⟩ = some u2 ∧ W.cell? ⟨b, 3, none⟩ = some u3 ∧ W.cell? ⟨b, 4, none⟩ = some u4 ∧ W.cell? ⟨b, 5, none⟩ = some u5 :=
  ⟨Fo.cell_of_block h 0, Fo.cell_of_block h 1, Fo.cell_of_block h 2, Fo.cell_of_block h 3, Fo.cell_of_block h 4, Fo.cell_of_block h 5⟩
set_option maxRecDepth 100000 in
set_option maxHeartbeats 8000000 in
theorem writeProg_1 (w0 : World) (n ck cn : Int) (cf : Fo) (A : Option Addr) (C : Nat) (D : Option Addr) (E : Nat) (B : Nat)  (hF : FormAt w0 1 false false 0) (hW : WordsAt w0 1 [[115, 107, 105, 112]])
    (l : List UInt8) (hl : l.length ≤ 1099411000000) (w : World) (hs : Sees w0 w) (hB : w0.heap.size ≤ B) (hb : Bld B l w) :
    Calls Tryz.prog 54 #[.pointer (some ⟨B, 0, none⟩), .agg #[.int .i64 1, .int .i64 n, .int .i64 ck, .int .i64 cn, .slice A cf.len C, .slice D 0 E]] w fun e w' => e = .returned (.tuple #[]) ∧ Wrote B (l ++ [115, 107, 105, 112]) w w' := by
  obtain ⟨b, o, c0, cw⟩ := hW
  obtain ⟨Wd, lw, Cw, c0', c1, c2, c3⟩ := hF
  have hbg : 0 < w0.heap.size := World.block_lt_of_cell? _ _ c0
  clear c0' Wd lw Cw
  have lB : B < w.heap.size := hb.lt
  obtain ⟨w4, hw4⟩ : ∃ w4, w4 = (((w.alloc (.cells #[.pointer (some ⟨B, 0, none⟩)] 79)).alloc (.cells #[.int .i64 1, .int .i64 n, .int .i64 ck, .int .i64 cn, .slice A cf.len C, .slice D 0 E] 41)).alloc (.cells #[.slice (some ⟨b, o, none⟩) 1 1, .bool false, .bool false, .int .i64 0] 172)).alloc (.cells #[.slice (some ⟨b, o, none⟩) 1 1] 170) := ⟨_, rfl⟩
  have S4 : PSt w B w.heap.size (w.heap.size + 1) (w.heap.size + 1 + 1) (w.heap.size + 1 + 1 + 1) #[.int .i64 1, .int .i64 n, .int .i64 ck, .int .i64 cn, .slice A cf.len C, .slice D 0 E] #[.slice (some ⟨b, o, none⟩) 1 1, .bool false, .bool false, .int .i64 0] (l) (.slice (some ⟨b, o, none⟩) 1 1) w4 := by
    refine ⟨by rw [hw4]; exact ((((Wrote.start hb).alloc _).alloc _).alloc _).alloc _, ?_, ?_, ?_, ?_, by omega⟩
    · rw [hw4]; exact (Below.heap_alloc _ _ _ (by simp <;> omega)).trans ((Below.heap_alloc _ _ _ (by simp <;> omega)).trans ((Below.heap_alloc _ _ _ (by simp)).trans (heap_new _ _ _ rfl)))
    · rw [hw4]; exact (Below.heap_alloc _ _ _ (by simp <;> omega)).trans ((Below.heap_alloc _ _ _ (by simp)).trans (heap_new _ _ _ (by simp)))
    · rw [hw4]; exact (Below.heap_alloc _ _ _ (by simp)).trans (heap_new _ _ _ (by simp))
    · rw [hw4]; exact heap_new _ _ _ (by simp)
  have HS4 := Lib.hid S4
  have HSEE : Hid (∀ (L : List UInt8) (v : Value) (W : World), PSt w B w.heap.size (w.heap.size + 1) (w.heap.size + 1 + 1) (w.heap.size + 1 + 1 + 1) #[.int .i64 1, .int .i64 n, .int .i64 ck, .int .i64 cn, .slice A cf.len C, .slice D 0 E] #[.slice (some ⟨b, o, none⟩) 1 1, .bool false, .bool false, .int .i64 0] L v W → Sees w0 W) := fun L v W h => h.sees hs hB
  have s2 : Sees w0 ((w.alloc (.cells #[.pointer (some ⟨B, 0, none⟩)] 79)).alloc (.cells #[.int .i64 1, .int .i64 n, .int .i64 ck, .int .i64 cn, .slice A cf.len C, .slice D 0 E] 41)) := (hs.alloc _).alloc _
  have e0 := kc s2 c0; have e1 := kc s2 c1; have e2 := kc s2 c2; have e3 := kc s2 c3
  have p0 : ((w.alloc (.cells #[.pointer (some ⟨B, 0, none⟩)] 79)).alloc (.cells #[.int .i64 1, .int .i64 n, .int .i64 ck, .int .i64 cn, .slice A cf.len C, .slice D 0 E] 41)).heap[w.heap.size + 1]? = some (.cells #[.int .i64 1, .int .i64 n, .int .i64 ck, .int .i64 cn, .slice A cf.len C, .slice D 0 E] 41 (0, 0)) := heap_new _ _ _ (by simp)
  obtain ⟨q0, _, _, _, _, _⟩ := pcells6 p0
  have f3 : (((w.alloc (.cells #[.pointer (some ⟨B, 0, none⟩)] 79)).alloc (.cells #[.int .i64 1, .int .i64 n, .int .i64 ck, .int .i64 cn, .slice A cf.len C, .slice D 0 E] 41)).alloc (.cells #[.slice (some ⟨b, o, none⟩) 1 1, .bool false, .bool false, .int .i64 0] 172)).heap[w.heap.size + 1 + 1]? = some (.cells #[.slice (some ⟨b, o, none⟩) 1 1, .bool false, .bool false, .int .i64 0] 172 (0, 0)) := heap_new _ _ _ (by simp)
  have r0 := Fo.cell_of_block f3 0
  have KW0 : Hid (∀ W : World, PSt w B w.heap.size (w.heap.size + 1) (w.heap.size + 1 + 1) (w.heap.size + 1 + 1 + 1) #[.int .i64 1, .int .i64 n, .int .i64 ck, .int .i64 cn, .slice A cf.len C, .slice D 0 E] #[.slice (some ⟨b, o, none⟩) 1 1, .bool false, .bool false, .int .i64 0] (l) (.slice (some ⟨b, o, none⟩) 1 1) W → Calls Tryz.prog 88 #[.pointer (some ⟨w.heap.size, 0, none⟩), .pointer (some ⟨w.heap.size + 1 + 1 + 1, 0, none⟩)] W fun e w' => e = .returned (.tuple #[]) ∧ PSt w B w.heap.size (w.heap.size + 1) (w.heap.size + 1 + 1) (w.heap.size + 1 + 1 + 1) #[.int .i64 1, .int .i64 n, .int .i64 ck, .int .i64 cn, .slice A cf.len C, .slice D 0 E] #[.slice (some ⟨b, o, none⟩) 1 1, .bool false, .bool false, .int .i64 0] (l ++ [115, 107, 105, 112]) (.slice (some ⟨b, o, none⟩) 0 0) w') := fun W h =>
    (word_1 h.wrote.bld h.out h.words (kc (h.sees hs hB) (cw 0 _ rfl)) (by omega) (by simp only [List.length_cons, List.length_nil]; omega)).mono fun e w' ⟨h1, h2⟩ => ⟨h1, h.word h2⟩
  clear hs hB hb c0 c1 c2 c3 cw hl S4 p0 f3 s2 hbg lB
  go_enter Tryz.func54, Tryz.ntmps54
  have HW4 := Lib.hid hw4
  clear hw4
  go_wp2_with fail
  rw [← HW4.out]
  clear e0 e1 e2 e3 q0 r0
  refine (KW0.out _ HS4.out).mono ?_
  rintro e w5 ⟨rfl, hx⟩
  have HS5 := Lib.hid hx
  clear hx HS4
  have u0 := Fo.cell_of_block HS5.out.form 0; have u1 := Fo.cell_of_block HS5.out.form 1; have u2 := Fo.cell_of_block HS5.out.form 2; have u3 := Fo.cell_of_block HS5.out.form 3
  obtain ⟨v0, v1, v2, v3, v4, v5⟩ := pcells6 HS5.out.prog
  go_wp2_with fail
  clear u0 u1 u2 u3 v0 v1 v2 v3 v4 v5
  go_loopw [38] (fun i wr => (i = .int .i64 0 ∧ Hid (PSt w B w.heap.size (w.heap.size + 1) (w.heap.size + 1 + 1) (w.heap.size + 1 + 1 + 1) #[.int .i64 1, .int .i64 n, .int .i64 ck, .int .i64 cn, .slice A cf.len C, .slice D 0 E] #[.slice (some ⟨b, o, none⟩) 1 1, .bool false, .bool false, .int .i64 0] (l ++ [115, 107, 105, 112]) (.slice (some ⟨b, o, none⟩) 0 0) wr))) (fun i _ => 0 - (intOf i).toNat)
  case atStart => exact ⟨rfl, HS5.out⟩
  case round =>
    clear HS5
    obtain ⟨rfl, hS⟩ := hrel
    go_wp2_with fail
    go_end0
    exact ⟨rfl, hS.out.wrote⟩
set_option maxRecDepth 100000 in
set_option maxHeartbeats 8000000 in
theorem writeProg_2 (w0 : World) (n ck cn : Int) (cf : Fo) (A : Option Addr) (C : Nat) (D : Option Addr) (E : Nat) (B : Nat)  (hF : FormAt w0 2 false false 0) (hW : WordsAt w0 2 [[102, 97, 105, 108]])
    (l : List UInt8) (hl : l.length ≤ 1099411000000) (w : World) (hs : Sees w0 w) (hB : w0.heap.size ≤ B) (hb : Bld B l w) :
    Calls Tryz.prog 54 #[.pointer (some ⟨B, 0, none⟩), .agg #[.int .i64 2, .int .i64 n, .int .i64 ck, .int .i64 cn, .slice A cf.len C, .slice D 0 E]] w fun e w' => e = .returned (.tuple #[]) ∧ Wrote B (l ++ [102, 97, 105, 108]) w w' := by
  obtain ⟨b, o, c0, cw⟩ := hW
  obtain ⟨Wd, lw, Cw, c0', c1, c2, c3⟩ := hF
  have hbg : 0 < w0.heap.size := World.block_lt_of_cell? _ _ c0
  clear c0' Wd lw Cw
  have lB : B < w.heap.size := hb.lt
  obtain ⟨w4, hw4⟩ : ∃ w4, w4 = (((w.alloc (.cells #[.pointer (some ⟨B, 0, none⟩)] 79)).alloc (.cells #[.int .i64 2, .int .i64 n, .int .i64 ck, .int .i64 cn, .slice A cf.len C, .slice D 0 E] 41)).alloc (.cells #[.slice (some ⟨b, o, none⟩) 1 1, .bool false, .bool false, .int .i64 0] 172)).alloc (.cells #[.slice (some ⟨b, o, none⟩) 1 1] 170) := ⟨_, rfl⟩
  have S4 : PSt w B w.heap.size (w.heap.size + 1) (w.heap.size + 1 + 1) (w.heap.size + 1 + 1 + 1) #[.int .i64 2, .int .i64 n, .int .i64 ck, .int .i64 cn, .slice A cf.len C, .slice D 0 E] #[.slice (some ⟨b, o, none⟩) 1 1, .bool false, .bool false, .int .i64 0] (l) (.slice (some ⟨b, o, none⟩) 1 1) w4 := by
    refine ⟨by rw [hw4]; exact ((((Wrote.start hb).alloc _).alloc _).alloc _).alloc _, ?_, ?_, ?_, ?_, by omega⟩
    · rw [hw4]; exact (Below.heap_alloc _ _ _ (by simp <;> omega)).trans ((Below.heap_alloc _ _ _ (by simp <;> omega)).trans ((Below.heap_alloc _ _ _ (by simp)).trans (heap_new _ _ _ rfl)))
    · rw [hw4]; exact (Below.heap_alloc _ _ _ (by simp <;> omega)).trans ((Below.heap_alloc _ _ _ (by simp)).trans (heap_new _ _ _ (by simp)))
    · rw [hw4]; exact (Below.heap_alloc _ _ _ (by simp)).trans (heap_new _ _ _ (by simp))
    · rw [hw4]; exact heap_new _ _ _ (by simp)
  have HS4 := Lib.hid S4
  have HSEE : Hid (∀ (L : List UInt8) (v : Value) (W : World), PSt w B w.heap.size (w.heap.size + 1) (w.heap.size + 1 + 1) (w.heap.size + 1 + 1 + 1) #[.int .i64 2, .int .i64 n, .int .i64 ck, .int .i64 cn, .slice A cf.len C, .slice D 0 E] #[.slice (some ⟨b, o, none⟩) 1 1, .bool false, .bool false, .int .i64 0] L v W → Sees w0 W) := fun L v W h => h.sees hs hB
  have s2 : Sees w0 ((w.alloc (.cells #[.pointer (some ⟨B, 0, none⟩)] 79)).alloc (.cells #[.int .i64 2, .int .i64 n, .int .i64 ck, .int .i64 cn, .slice A cf.len C, .slice D 0 E] 41)) := (hs.alloc _).alloc _
  have e0 := kc s2 c0; have e1 := kc s2 c1; have e2 := kc s2 c2; have e3 := kc s2 c3
  have p0 : ((w.alloc (.cells #[.pointer (some ⟨B, 0, none⟩)] 79)).alloc (.cells #[.int .i64 2, .int .i64 n, .int .i64 ck, .int .i64 cn, .slice A cf.len C, .slice D 0 E] 41)).heap[w.heap.size + 1]? = some (.cells #[.int .i64 2, .int .i64 n, .int .i64 ck, .int .i64 cn, .slice A cf.len C, .slice D 0 E] 41 (0, 0)) := heap_new _ _ _ (by simp)
  obtain ⟨q0, _, _, _, _, _⟩ := pcells6 p0
  have f3 : (((w.alloc (.cells #[.pointer (some ⟨B, 0, none⟩)] 79)).alloc (.cells #[.int .i64 2, .int .i64 n, .int .i64 ck, .int .i64 cn, .slice A cf.len C, .slice D 0 E] 41)).alloc (.cells #[.slice (some ⟨b, o, none⟩) 1 1, .bool false, .bool false, .int .i64 0] 172)).heap[w.heap.size + 1 + 1]? = some (.cells #[.slice (some ⟨b, o, none⟩) 1 1, .bool false, .bool false, .int .i64 0] 172 (0, 0)) := heap_new _ _ _ (by simp)
  have r0 := Fo.cell_of_block f3 0
  have KW0 : Hid (∀ W : World, PSt w B w.heap.size (w.heap.size + 1) (w.heap.size + 1 + 1) (w.heap.size + 1 + 1 + 1) #[.int .i64 2, .int .i64 n, .int .i64 ck, .int .i64 cn, .slice A cf.len C, .slice D 0 E] #[.slice (some ⟨b, o, none⟩) 1 1, .bool false, .bool false, .int .i64 0] (l) (.slice (some ⟨b, o, none⟩) 1 1) W → Calls Tryz.prog 88 #[.pointer (some ⟨w.heap.size, 0, none⟩), .pointer (some ⟨w.heap.size + 1 + 1 + 1, 0, none⟩)] W fun e w' => e = .returned (.tuple #[]) ∧ PSt w B w.heap.size (w.heap.size + 1) (w.heap.size + 1 + 1) (w.heap.size + 1 + 1 + 1) #[.int .i64 2, .int .i64 n, .int .i64 ck, .int .i64 cn, .slice A cf.len C, .slice D 0 E] #[.slice (some ⟨b, o, none⟩) 1 1, .bool false, .bool false, .int .i64 0] (l ++ [102, 97, 105, 108]) (.slice (some ⟨b, o, none⟩) 0 0) w') := fun W h =>
    (word_1 h.wrote.bld h.out h.words (kc (h.sees hs hB) (cw 0 _ rfl)) (by omega) (by simp only [List.length_cons, List.length_nil]; omega)).mono fun e w' ⟨h1, h2⟩ => ⟨h1, h.word h2⟩
  clear hs hB hb c0 c1 c2 c3 cw hl S4 p0 f3 s2 hbg lB
  go_enter Tryz.func54, Tryz.ntmps54
  have HW4 := Lib.hid hw4
  clear hw4
  go_wp2_with fail
  rw [← HW4.out]
  clear e0 e1 e2 e3 q0 r0
  refine (KW0.out _ HS4.out).mono ?_
  rintro e w5 ⟨rfl, hx⟩
  have HS5 := Lib.hid hx
  clear hx HS4
  have u0 := Fo.cell_of_block HS5.out.form 0; have u1 := Fo.cell_of_block HS5.out.form 1; have u2 := Fo.cell_of_block HS5.out.form 2; have u3 := Fo.cell_of_block HS5.out.form 3
  obtain ⟨v0, v1, v2, v3, v4, v5⟩ := pcells6 HS5.out.prog
  go_wp2_with fail
  clear u0 u1 u2 u3 v0 v1 v2 v3 v4 v5
  go_loopw [38] (fun i wr => (i = .int .i64 0 ∧ Hid (PSt w B w.heap.size (w.heap.size + 1) (w.heap.size + 1 + 1) (w.heap.size + 1 + 1 + 1) #[.int .i64 2, .int .i64 n, .int .i64 ck, .int .i64 cn, .slice A cf.len C, .slice D 0 E] #[.slice (some ⟨b, o, none⟩) 1 1, .bool false, .bool false, .int .i64 0] (l ++ [102, 97, 105, 108]) (.slice (some ⟨b, o, none⟩) 0 0) wr))) (fun i _ => 0 - (intOf i).toNat)
  case atStart => exact ⟨rfl, HS5.out⟩
  case round =>
    clear HS5
    obtain ⟨rfl, hS⟩ := hrel
    go_wp2_with fail
    go_end0
    exact ⟨rfl, hS.out.wrote⟩
set_option maxRecDepth 100000 in
set_option maxHeartbeats 8000000 in
theorem writeProg_3 (w0 : World) (n ck cn : Int) (cf : Fo) (A : Option Addr) (C : Nat) (D : Option Addr) (E : Nat) (B : Nat)  (hF : FormAt w0 3 true false 0) (hW : WordsAt w0 3 [[97], []])
    (l : List UInt8) (hl : l.length ≤ 1099411000000) (h0 : 0 ≤ n) (h9 : n < 10) (w : World) (hs : Sees w0 w) (hB : w0.heap.size ≤ B) (hb : Bld B l w) :
    Calls Tryz.prog 54 #[.pointer (some ⟨B, 0, none⟩), .agg #[.int .i64 3, .int .i64 n, .int .i64 ck, .int .i64 cn, .slice A cf.len C, .slice D 0 E]] w fun e w' => e = .returned (.tuple #[]) ∧ Wrote B (l ++ [97] ++ Lib.decDigits n.toNat ++ []) w w' := by
  obtain ⟨b, o, c0, cw⟩ := hW
  obtain ⟨Wd, lw, Cw, c0', c1, c2, c3⟩ := hF
  have hbg : 0 < w0.heap.size := World.block_lt_of_cell? _ _ c0
  clear c0' Wd lw Cw
  have lB : B < w.heap.size := hb.lt
  obtain ⟨w4, hw4⟩ : ∃ w4, w4 = (((w.alloc (.cells #[.pointer (some ⟨B, 0, none⟩)] 79)).alloc (.cells #[.int .i64 3, .int .i64 n, .int .i64 ck, .int .i64 cn, .slice A cf.len C, .slice D 0 E] 41)).alloc (.cells #[.slice (some ⟨b, o, none⟩) 2 2, .bool true, .bool false, .int .i64 0] 172)).alloc (.cells #[.slice (some ⟨b, o, none⟩) 2 2] 170) := ⟨_, rfl⟩
  have S4 : PSt w B w.heap.size (w.heap.size + 1) (w.heap.size + 1 + 1) (w.heap.size + 1 + 1 + 1) #[.int .i64 3, .int .i64 n, .int .i64 ck, .int .i64 cn, .slice A cf.len C, .slice D 0 E] #[.slice (some ⟨b, o, none⟩) 2 2, .bool true, .bool false, .int .i64 0] (l) (.slice (some ⟨b, o, none⟩) 2 2) w4 := by
    refine ⟨by rw [hw4]; exact ((((Wrote.start hb).alloc _).alloc _).alloc _).alloc _, ?_, ?_, ?_, ?_, by omega⟩
    · rw [hw4]; exact (Below.heap_alloc _ _ _ (by simp <;> omega)).trans ((Below.heap_alloc _ _ _ (by simp <;> omega)).trans ((Below.heap_alloc _ _ _ (by simp)).trans (heap_new _ _ _ rfl)))
    · rw [hw4]; exact (Below.heap_alloc _ _ _ (by simp <;> omega)).trans ((Below.heap_alloc _ _ _ (by simp)).trans (heap_new _ _ _ (by simp)))
    · rw [hw4]; exact (Below.heap_alloc _ _ _ (by simp)).trans (heap_new _ _ _ (by simp))
    · rw [hw4]; exact heap_new _ _ _ (by simp)
  have HS4 := Lib.hid S4
  have HSEE : Hid (∀ (L : List UInt8) (v : Value) (W : World), PSt w B w.heap.size (w.heap.size + 1) (w.heap.size + 1 + 1) (w.heap.size + 1 + 1 + 1) #[.int .i64 3, .int .i64 n, .int .i64 ck, .int .i64 cn, .slice A cf.len C, .slice D 0 E] #[.slice (some ⟨b, o, none⟩) 2 2, .bool true, .bool false, .int .i64 0] L v W → Sees w0 W) := fun L v W h => h.sees hs hB
  have s2 : Sees w0 ((w.alloc (.cells #[.pointer (some ⟨B, 0, none⟩)] 79)).alloc (.cells #[.int .i64 3, .int .i64 n, .int .i64 ck, .int .i64 cn, .slice A cf.len C, .slice D 0 E] 41)) := (hs.alloc _).alloc _
  have e0 := kc s2 c0; have e1 := kc s2 c1; have e2 := kc s2 c2; have e3 := kc s2 c3
  have p0 : ((w.alloc (.cells #[.pointer (some ⟨B, 0, none⟩)] 79)).alloc (.cells #[.int .i64 3, .int .i64 n, .int .i64 ck, .int .i64 cn, .slice A cf.len C, .slice D 0 E] 41)).heap[w.heap.size + 1]? = some (.cells #[.int .i64 3, .int .i64 n, .int .i64 ck, .int .i64 cn, .slice A cf.len C, .slice D 0 E] 41 (0, 0)) := heap_new _ _ _ (by simp)
  obtain ⟨q0, _, _, _, _, _⟩ := pcells6 p0
  have f3 : (((w.alloc (.cells #[.pointer (some ⟨B, 0, none⟩)] 79)).alloc (.cells #[.int .i64 3, .int .i64 n, .int .i64 ck, .int .i64 cn, .slice A cf.len C, .slice D 0 E] 41)).alloc (.cells #[.slice (some ⟨b, o, none⟩) 2 2, .bool true, .bool false, .int .i64 0] 172)).heap[w.heap.size + 1 + 1]? = some (.cells #[.slice (some ⟨b, o, none⟩) 2 2, .bool true, .bool false, .int .i64 0] 172 (0, 0)) := heap_new _ _ _ (by simp)
  have r0 := Fo.cell_of_block f3 0
  have KW0 : Hid (∀ W : World, PSt w B w.heap.size (w.heap.size + 1) (w.heap.size + 1 + 1) (w.heap.size + 1 + 1 + 1) #[.int .i64 3, .int .i64 n, .int .i64 ck, .int .i64 cn, .slice A cf.len C, .slice D 0 E] #[.slice (some ⟨b, o, none⟩) 2 2, .bool true, .bool false, .int .i64 0] (l) (.slice (some ⟨b, o, none⟩) 2 2) W → Calls Tryz.prog 88 #[.pointer (some ⟨w.heap.size, 0, none⟩), .pointer (some ⟨w.heap.size + 1 + 1 + 1, 0, none⟩)] W fun e w' => e = .returned (.tuple #[]) ∧ PSt w B w.heap.size (w.heap.size + 1) (w.heap.size + 1 + 1) (w.heap.size + 1 + 1 + 1) #[.int .i64 3, .int .i64 n, .int .i64 ck, .int .i64 cn, .slice A cf.len C, .slice D 0 E] #[.slice (some ⟨b, o, none⟩) 2 2, .bool true, .bool false, .int .i64 0] (l ++ [97]) (.slice (some ⟨b, o + 1, none⟩) 1 1) w') := fun W h =>
    (word_2 h.wrote.bld h.out h.words (kc (h.sees hs hB) (cw 0 _ rfl)) (by omega) (by simp only [List.length_cons, List.length_nil]; omega)).mono fun e w' ⟨h1, h2⟩ => ⟨h1, h.word h2⟩
  have KW1 : Hid (∀ W : World, PSt w B w.heap.size (w.heap.size + 1) (w.heap.size + 1 + 1) (w.heap.size + 1 + 1 + 1) #[.int .i64 3, .int .i64 n, .int .i64 ck, .int .i64 cn, .slice A cf.len C, .slice D 0 E] #[.slice (some ⟨b, o, none⟩) 2 2, .bool true, .bool false, .int .i64 0] (l ++ [97] ++ Lib.decDigits n.toNat) (.slice (some ⟨b, o + 1, none⟩) 1 1) W → Calls Tryz.prog 88 #[.pointer (some ⟨w.heap.size, 0, none⟩), .pointer (some ⟨w.heap.size + 1 + 1 + 1, 0, none⟩)] W fun e w' => e = .returned (.tuple #[]) ∧ PSt w B w.heap.size (w.heap.size + 1) (w.heap.size + 1 + 1) (w.heap.size + 1 + 1 + 1) #[.int .i64 3, .int .i64 n, .int .i64 ck, .int .i64 cn, .slice A cf.len C, .slice D 0 E] #[.slice (some ⟨b, o, none⟩) 2 2, .bool true, .bool false, .int .i64 0] (l ++ [97] ++ Lib.decDigits n.toNat ++ []) (.slice (some ⟨b, o + 1, none⟩) 0 0) w') := fun W h =>
    (word_1 h.wrote.bld h.out h.words (kc (h.sees hs hB) (cw 1 _ rfl)) (by omega) (by simp only [List.length_append, List.length_cons, List.length_nil]; have := Nd.dig_len h9; omega)).mono fun e w' ⟨h1, h2⟩ => ⟨h1, h.word h2⟩
  have KX : Hid (∀ W : World, PSt w B w.heap.size (w.heap.size + 1) (w.heap.size + 1 + 1) (w.heap.size + 1 + 1 + 1) #[.int .i64 3, .int .i64 n, .int .i64 ck, .int .i64 cn, .slice A cf.len C, .slice D 0 E] #[.slice (some ⟨b, o, none⟩) 2 2, .bool true, .bool false, .int .i64 0] (l ++ [97]) (.slice (some ⟨b, o + 1, none⟩) 1 1) W → Calls Tryz.prog 67 #[.pointer (some ⟨B, 0, none⟩), .string ⟨#[]⟩, .int .i64 n] W fun e w' => e = .returned (.tuple #[]) ∧ PSt w B w.heap.size (w.heap.size + 1) (w.heap.size + 1 + 1) (w.heap.size + 1 + 1 + 1) #[.int .i64 3, .int .i64 n, .int .i64 ck, .int .i64 cn, .slice A cf.len C, .slice D 0 E] #[.slice (some ⟨b, o, none⟩) 2 2, .bool true, .bool false, .int .i64 0] (l ++ [97] ++ Lib.decDigits n.toNat) (.slice (some ⟨b, o + 1, none⟩) 1 1) w') := fun W h =>
    (writeNumber_any [] n h0 (by omega) h.wrote.bld (by simp only [List.length_append, List.length_cons, List.length_nil]; omega)).mono fun e w' ⟨h1, h2⟩ => ⟨h1, h.write h2⟩
  clear hs hB hb c0 c1 c2 c3 cw hl S4 p0 f3 s2 hbg lB h0 h9
  go_enter Tryz.func54, Tryz.ntmps54
  have HW4 := Lib.hid hw4
  clear hw4
  go_wp2_with fail
  rw [← HW4.out]
  clear e0 e1 e2 e3 q0 r0
  refine (KW0.out _ HS4.out).mono ?_
  rintro e w5 ⟨rfl, hx⟩
  have HS5 := Lib.hid hx
  clear hx HS4
  have u0 := Fo.cell_of_block HS5.out.form 0; have u1 := Fo.cell_of_block HS5.out.form 1; have u2 := Fo.cell_of_block HS5.out.form 2; have u3 := Fo.cell_of_block HS5.out.form 3
  obtain ⟨v0, v1, v2, v3, v4, v5⟩ := pcells6 HS5.out.prog
  have g0 := Fo.cell_of_block HS5.out.out 0
  go_wp2_with fail
  clear u0 u1 u2 u3 v0 v1 v2 v3 v4 v5 g0
  refine (KX.out _ HS5.out).mono ?_
  rintro e w6 ⟨rfl, hx⟩
  have HS6 := Lib.hid hx
  clear hx HS5
  go_wp2_with fail
  refine (KW1.out _ HS6.out).mono ?_
  rintro e w7 ⟨rfl, hx⟩
  have HS7 := Lib.hid hx
  clear hx HS6
  have u0 := Fo.cell_of_block HS7.out.form 0; have u1 := Fo.cell_of_block HS7.out.form 1; have u2 := Fo.cell_of_block HS7.out.form 2; have u3 := Fo.cell_of_block HS7.out.form 3
  obtain ⟨v0, v1, v2, v3, v4, v5⟩ := pcells6 HS7.out.prog
  go_wp2_with fail
  clear u0 u1 u2 u3 v0 v1 v2 v3 v4 v5
  go_loopw [38] (fun i wr => (i = .int .i64 0 ∧ Hid (PSt w B w.heap.size (w.heap.size + 1) (w.heap.size + 1 + 1) (w.heap.size + 1 + 1 + 1) #[.int .i64 3, .int .i64 n, .int .i64 ck, .int .i64 cn, .slice A cf.len C, .slice D 0 E] #[.slice (some ⟨b, o, none⟩) 2 2, .bool true, .bool false, .int .i64 0] (l ++ [97] ++ Lib.decDigits n.toNat ++ []) (.slice (some ⟨b, o + 1, none⟩) 0 0) wr))) (fun i _ => 0 - (intOf i).toNat)
  case atStart => exact ⟨rfl, HS7.out⟩
  case round =>
    clear HS7
    obtain ⟨rfl, hS⟩ := hrel
    go_wp2_with fail
    go_end0
    exact ⟨rfl, hS.out.wrote⟩
set_option maxRecDepth 100000 in
set_option maxHeartbeats 8000000 in
theorem writeProg_4 (w0 : World) (n ck cn : Int) (cf : Fo) (A : Option Addr) (C : Nat) (D : Option Addr) (E : Nat) (B : Nat) (lc : List UInt8) (vn : Value) (hlc : lc.length ≤ 83886080) (hA : cf.Lies w0 A)
    (KN : Hid (∀ W : World, Sees w0 W → Calls Tryz.prog 53 #[.agg #[.int .i64 ck, .int .i64 cn, .slice A cf.len C]] W fun e w' => e = .returned vn ∧ Below W.heap.size W w'))
    (KT : Hid (∀ (L : List UInt8) (W : World), L.length ≤ 1099500000000 → Bld B L W → Calls Tryz.prog 83 #[.pointer (some ⟨B, 0, none⟩), vn] W fun e w' => e = .returned (.tuple #[]) ∧ Wrote B (L ++ lc) W w')) (hF : FormAt w0 4 false true 0) (hW : WordsAt w0 4 [[97, 115, 115, 101, 114, 116, 32], []])
    (l : List UInt8) (hl : l.length ≤ 1099411000000) (w : World) (hs : Sees w0 w) (hB : w0.heap.size ≤ B) (hb : Bld B l w) :
    Calls Tryz.prog 54 #[.pointer (some ⟨B, 0, none⟩), .agg #[.int .i64 4, .int .i64 n, .int .i64 ck, .int .i64 cn, .slice A cf.len C, .slice D 0 E]] w fun e w' => e = .returned (.tuple #[]) ∧ Wrote B (l ++ [97, 115, 115, 101, 114, 116, 32] ++ lc ++ []) w w' := by
  obtain ⟨b, o, c0, cw⟩ := hW
  obtain ⟨Wd, lw, Cw, c0', c1, c2, c3⟩ := hF
  have hbg : 0 < w0.heap.size := World.block_lt_of_cell? _ _ c0
  clear c0' Wd lw Cw
  have lB : B < w.heap.size := hb.lt
  obtain ⟨w4, hw4⟩ : ∃ w4, w4 = (((w.alloc (.cells #[.pointer (some ⟨B, 0, none⟩)] 79)).alloc (.cells #[.int .i64 4, .int .i64 n, .int .i64 ck, .int .i64 cn, .slice A cf.len C, .slice D 0 E] 41)).alloc (.cells #[.slice (some ⟨b, o, none⟩) 2 2, .bool false, .bool true, .int .i64 0] 172)).alloc (.cells #[.slice (some ⟨b, o, none⟩) 2 2] 170) := ⟨_, rfl⟩
  have S4 : PSt w B w.heap.size (w.heap.size + 1) (w.heap.size + 1 + 1) (w.heap.size + 1 + 1 + 1) #[.int .i64 4, .int .i64 n, .int .i64 ck, .int .i64 cn, .slice A cf.len C, .slice D 0 E] #[.slice (some ⟨b, o, none⟩) 2 2, .bool false, .bool true, .int .i64 0] (l) (.slice (some ⟨b, o, none⟩) 2 2) w4 := by
    refine ⟨by rw [hw4]; exact ((((Wrote.start hb).alloc _).alloc _).alloc _).alloc _, ?_, ?_, ?_, ?_, by omega⟩
    · rw [hw4]; exact (Below.heap_alloc _ _ _ (by simp <;> omega)).trans ((Below.heap_alloc _ _ _ (by simp <;> omega)).trans ((Below.heap_alloc _ _ _ (by simp)).trans (heap_new _ _ _ rfl)))
    · rw [hw4]; exact (Below.heap_alloc _ _ _ (by simp <;> omega)).trans ((Below.heap_alloc _ _ _ (by simp)).trans (heap_new _ _ _ (by simp)))
    · rw [hw4]; exact (Below.heap_alloc _ _ _ (by simp)).trans (heap_new _ _ _ (by simp))
    · rw [hw4]; exact heap_new _ _ _ (by simp)
  have HS4 := Lib.hid S4
  have HSEE : Hid (∀ (L : List UInt8) (v : Value) (W : World), PSt w B w.heap.size (w.heap.size + 1) (w.heap.size + 1 + 1) (w.heap.size + 1 + 1 + 1) #[.int .i64 4, .int .i64 n, .int .i64 ck, .int .i64 cn, .slice A cf.len C, .slice D 0 E] #[.slice (some ⟨b, o, none⟩) 2 2, .bool false, .bool true, .int .i64 0] L v W → Sees w0 W) := fun L v W h => h.sees hs hB
  have s2 : Sees w0 ((w.alloc (.cells #[.pointer (some ⟨B, 0, none⟩)] 79)).alloc (.cells #[.int .i64 4, .int .i64 n, .int .i64 ck, .int .i64 cn, .slice A cf.len C, .slice D 0 E] 41)) := (hs.alloc _).alloc _
  have e0 := kc s2 c0; have e1 := kc s2 c1; have e2 := kc s2 c2; have e3 := kc s2 c3
  have p0 : ((w.alloc (.cells #[.pointer (some ⟨B, 0, none⟩)] 79)).alloc (.cells #[.int .i64 4, .int .i64 n, .int .i64 ck, .int .i64 cn, .slice A cf.len C, .slice D 0 E] 41)).heap[w.heap.size + 1]? = some (.cells #[.int .i64 4, .int .i64 n, .int .i64 ck, .int .i64 cn, .slice A cf.len C, .slice D 0 E] 41 (0, 0)) := heap_new _ _ _ (by simp)
  obtain ⟨q0, _, _, _, _, _⟩ := pcells6 p0
  have f3 : (((w.alloc (.cells #[.pointer (some ⟨B, 0, none⟩)] 79)).alloc (.cells #[.int .i64 4, .int .i64 n, .int .i64 ck, .int .i64 cn, .slice A cf.len C, .slice D 0 E] 41)).alloc (.cells #[.slice (some ⟨b, o, none⟩) 2 2, .bool false, .bool true, .int .i64 0] 172)).heap[w.heap.size + 1 + 1]? = some (.cells #[.slice (some ⟨b, o, none⟩) 2 2, .bool false, .bool true, .int .i64 0] 172 (0, 0)) := heap_new _ _ _ (by simp)
  have r0 := Fo.cell_of_block f3 0
  have KW0 : Hid (∀ W : World, PSt w B w.heap.size (w.heap.size + 1) (w.heap.size + 1 + 1) (w.heap.size + 1 + 1 + 1) #[.int .i64 4, .int .i64 n, .int .i64 ck, .int .i64 cn, .slice A cf.len C, .slice D 0 E] #[.slice (some ⟨b, o, none⟩) 2 2, .bool false, .bool true, .int .i64 0] (l) (.slice (some ⟨b, o, none⟩) 2 2) W → Calls Tryz.prog 88 #[.pointer (some ⟨w.heap.size, 0, none⟩), .pointer (some ⟨w.heap.size + 1 + 1 + 1, 0, none⟩)] W fun e w' => e = .returned (.tuple #[]) ∧ PSt w B w.heap.size (w.heap.size + 1) (w.heap.size + 1 + 1) (w.heap.size + 1 + 1 + 1) #[.int .i64 4, .int .i64 n, .int .i64 ck, .int .i64 cn, .slice A cf.len C, .slice D 0 E] #[.slice (some ⟨b, o, none⟩) 2 2, .bool false, .bool true, .int .i64 0] (l ++ [97, 115, 115, 101, 114, 116, 32]) (.slice (some ⟨b, o + 1, none⟩) 1 1) w') := fun W h =>
    (word_2 h.wrote.bld h.out h.words (kc (h.sees hs hB) (cw 0 _ rfl)) (by omega) (by simp only [List.length_cons, List.length_nil]; omega)).mono fun e w' ⟨h1, h2⟩ => ⟨h1, h.word h2⟩
  have KW1 : Hid (∀ W : World, PSt w B w.heap.size (w.heap.size + 1) (w.heap.size + 1 + 1) (w.heap.size + 1 + 1 + 1) #[.int .i64 4, .int .i64 n, .int .i64 ck, .int .i64 cn, .slice A cf.len C, .slice D 0 E] #[.slice (some ⟨b, o, none⟩) 2 2, .bool false, .bool true, .int .i64 0] (l ++ [97, 115, 115, 101, 114, 116, 32] ++ lc) (.slice (some ⟨b, o + 1, none⟩) 1 1) W → Calls Tryz.prog 88 #[.pointer (some ⟨w.heap.size, 0, none⟩), .pointer (some ⟨w.heap.size + 1 + 1 + 1, 0, none⟩)] W fun e w' => e = .returned (.tuple #[]) ∧ PSt w B w.heap.size (w.heap.size + 1) (w.heap.size + 1 + 1) (w.heap.size + 1 + 1 + 1) #[.int .i64 4, .int .i64 n, .int .i64 ck, .int .i64 cn, .slice A cf.len C, .slice D 0 E] #[.slice (some ⟨b, o, none⟩) 2 2, .bool false, .bool true, .int .i64 0] (l ++ [97, 115, 115, 101, 114, 116, 32] ++ lc ++ []) (.slice (some ⟨b, o + 1, none⟩) 0 0) w') := fun W h =>
    (word_1 h.wrote.bld h.out h.words (kc (h.sees hs hB) (cw 1 _ rfl)) (by omega) (by simp only [List.length_append, List.length_cons, List.length_nil]; omega)).mono fun e w' ⟨h1, h2⟩ => ⟨h1, h.word h2⟩
  have KC : Hid (∀ W : World, PSt w B w.heap.size (w.heap.size + 1) (w.heap.size + 1 + 1) (w.heap.size + 1 + 1 + 1) #[.int .i64 4, .int .i64 n, .int .i64 ck, .int .i64 cn, .slice A cf.len C, .slice D 0 E] #[.slice (some ⟨b, o, none⟩) 2 2, .bool false, .bool true, .int .i64 0] (l ++ [97, 115, 115, 101, 114, 116, 32]) (.slice (some ⟨b, o + 1, none⟩) 1 1) W → Calls Tryz.prog 83 #[.pointer (some ⟨B, 0, none⟩), vn] W fun e w' => e = .returned (.tuple #[]) ∧ PSt w B w.heap.size (w.heap.size + 1) (w.heap.size + 1 + 1) (w.heap.size + 1 + 1 + 1) #[.int .i64 4, .int .i64 n, .int .i64 ck, .int .i64 cn, .slice A cf.len C, .slice D 0 E] #[.slice (some ⟨b, o, none⟩) 2 2, .bool false, .bool true, .int .i64 0] (l ++ [97, 115, 115, 101, 114, 116, 32] ++ lc) (.slice (some ⟨b, o + 1, none⟩) 1 1) w') := fun W h =>
    (KT.out _ W (by simp only [List.length_append, List.length_cons, List.length_nil]; omega) h.wrote.bld).mono fun e w' ⟨h1, h2⟩ => ⟨h1, h.write h2⟩
  clear hs hB hb c0 c1 c2 c3 cw hl S4 p0 f3 s2 hbg lB KT hlc hA
  go_enter Tryz.func54, Tryz.ntmps54
  have HW4 := Lib.hid hw4
  clear hw4
  go_wp2_with fail
  rw [← HW4.out]
  clear e0 e1 e2 e3 q0 r0
  refine (KW0.out _ HS4.out).mono ?_
  rintro e w5 ⟨rfl, hx⟩
  have HS5 := Lib.hid hx
  clear hx HS4
  have u0 := Fo.cell_of_block HS5.out.form 0; have u1 := Fo.cell_of_block HS5.out.form 1; have u2 := Fo.cell_of_block HS5.out.form 2; have u3 := Fo.cell_of_block HS5.out.form 3
  obtain ⟨v0, v1, v2, v3, v4, v5⟩ := pcells6 HS5.out.prog
  have g0 := Fo.cell_of_block HS5.out.out 0
  go_wp2_with fail
  clear u0 u1 u2 u3
  have HL : Hid (St w5 [(w.heap.size, 0, .pointer (some ⟨B, 0, none⟩)), (w.heap.size + 1, 2, .int .i64 ck), (w.heap.size + 1, 3, .int .i64 cn), (w.heap.size + 1, 4, .slice A cf.len C)] w5.drew) := ⟨(Sees.refl _).drew, g0, v2, v3, v4, trivial⟩
  have HSD : Hid (PSt w B w.heap.size (w.heap.size + 1) (w.heap.size + 1 + 1) (w.heap.size + 1 + 1 + 1) #[.int .i64 4, .int .i64 n, .int .i64 ck, .int .i64 cn, .slice A cf.len C, .slice D 0 E] #[.slice (some ⟨b, o, none⟩) 2 2, .bool false, .bool true, .int .i64 0] (l ++ [97, 115, 115, 101, 114, 116, 32]) (.slice (some ⟨b, o + 1, none⟩) 1 1) w5.drew) := HS5.out.thenB ((Below.refl _ _).drew)
  clear v0 v1 v2 v3 v4 v5 g0
  refine wp_region_last (S := fun W' => St w5 [(w.heap.size, 0, .pointer (some ⟨B, 0, none⟩)), (w.heap.size + 1, 2, .int .i64 ck), (w.heap.size + 1, 3, .int .i64 cn), (w.heap.size + 1, 4, .slice A cf.len C)] W') 4 (by kernel_rfl) HL.out (fun HS => ?_)
  obtain ⟨wd, hwd⟩ : ∃ wd, wd = w5.drew := ⟨_, rfl⟩
  rw [← hwd] at HS HSD ⊢
  clear hwd
  refine wpAnyL_take (i := 0) (oi := { dst := some 28, op := Op.load 79 (Operand.tmp 2), type := 79, pos := "l06_programs.go:223", after := #[], guard := none }) (v := .pointer (some ⟨B, 0, none⟩)) rfl (by kernel_rfl) (by kernel_rfl) (by kernel_rfl) (by kernel_rfl) (by kernel_rfl) (fun _ _ _ h => h) (Or.inl ⟨rfl, fun W hW => by (obtain ⟨_, y0_, y1_, y2_, y3_, _⟩ := hW; go_simp; try rfl)⟩) HS ?_
  try simp only [Act.put, List.setIfInBounds_toArray, List.set_cons_zero, List.set_cons_succ]
  refine wpAnyL_take (i := 1) (oi := { dst := some 29, op := Op.fieldAddr 41 (Operand.tmp 3) 2, type := 0, pos := "l06_programs.go:223", after := #[], guard := none }) (v := .pointer (some ⟨w.heap.size + 1, 2, none⟩)) rfl (by kernel_rfl) (by kernel_rfl) (by kernel_rfl) (by kernel_rfl) (by kernel_rfl) (fun _ _ _ h => h) (Or.inl ⟨rfl, fun W hW => by (obtain ⟨_, y0_, y1_, y2_, y3_, _⟩ := hW; go_simp; try rfl)⟩) HS ?_
  try simp only [Act.put, List.setIfInBounds_toArray, List.set_cons_zero, List.set_cons_succ]
  refine wpAnyL_take (i := 2) (oi := { dst := some 30, op := Op.load 38 (Operand.tmp 29), type := 38, pos := "l06_programs.go:223", after := #[{ on := 1, ground := Ground.data }], guard := none }) (v := .agg #[.int .i64 ck, .int .i64 cn, .slice A cf.len C]) rfl (by kernel_rfl) (by kernel_rfl) (by kernel_rfl) (by kernel_rfl) (by kernel_rfl) (fun _ _ _ h => h) (Or.inl ⟨rfl, fun W hW => by (obtain ⟨_, y0_, y1_, y2_, y3_, _⟩ := hW; go_simp; try rfl)⟩) HS ?_
  try simp only [Act.put, List.setIfInBounds_toArray, List.set_cons_zero, List.set_cons_succ]
  refine wpAnyL_ready (i := 3) (o := { dst := some 31, op := Op.call { callee := Callee.value (Operand.func 53), args := #[Operand.tmp 30], argTypes := #[38] }, type := 113, pos := "l06_programs.go:223", after := #[{ on := 2, ground := Ground.data }], guard := none }) (by kernel_rfl) rfl (fun K hK => ?_)
  go_simp
  go_at_call 53
  refine (KN.out _ (HSEE.out _ _ _ HSD.out)).mono ?_
  rintro e we ⟨rfl, hbe⟩
  have HSE : Hid (PSt w B w.heap.size (w.heap.size + 1) (w.heap.size + 1 + 1) (w.heap.size + 1 + 1 + 1) #[.int .i64 4, .int .i64 n, .int .i64 ck, .int .i64 cn, .slice A cf.len C, .slice D 0 E] #[.slice (some ⟨b, o, none⟩) 2 2, .bool false, .bool true, .int .i64 0] (l ++ [97, 115, 115, 101, 114, 116, 32]) (.slice (some ⟨b, o + 1, none⟩) 1 1) we) := HSD.out.thenB hbe
  have HS' : St w5 [(w.heap.size, 0, .pointer (some ⟨B, 0, none⟩)), (w.heap.size + 1, 2, .int .i64 ck), (w.heap.size + 1, 3, .int .i64 cn), (w.heap.size + 1, 4, .slice A cf.len C)] we := HS.below hbe
  clear HS hbe HSD
  have HS := HS'; clear HS'
  go_simp
  refine hK.out _ _ HS ?_
  clear hK K
  try simp only [Act.put, List.setIfInBounds_toArray, List.set_cons_zero, List.set_cons_succ]
  refine wpAnyL_last (o := { dst := some 32, op := Op.call { callee := Callee.value (Operand.func 83), args := #[Operand.tmp 28, Operand.tmp 31], argTypes := #[79, 113] }, type := 0, pos := "l06_programs.go:223", after := #[{ on := 0, ground := Ground.data }, { on := 3, ground := Ground.data }, { on := 3, ground := Ground.chain }], guard := none }) (by kernel_rfl) rfl (by kernel_rfl) (fun K hK => ?_)
  go_simp
  go_at_call 83
  refine (KC.out _ HSE.out).mono ?_
  rintro e w6 ⟨rfl, hx⟩
  have HS6 := Lib.hid hx
  clear hx
  go_simp
  refine hK.out _ _ ?_
  clear hK K HS
  try simp only [Act.put]
  clear HSE HS5
  go_wp2_with fail
  refine (KW1.out _ HS6.out).mono ?_
  rintro e w7 ⟨rfl, hx⟩
  have HS7 := Lib.hid hx
  clear hx HS6
  have u0 := Fo.cell_of_block HS7.out.form 0; have u1 := Fo.cell_of_block HS7.out.form 1; have u2 := Fo.cell_of_block HS7.out.form 2; have u3 := Fo.cell_of_block HS7.out.form 3
  obtain ⟨v0, v1, v2, v3, v4, v5⟩ := pcells6 HS7.out.prog
  go_wp2_with fail
  clear u0 u1 u2 u3 v0 v1 v2 v3 v4 v5
  go_loopw [38] (fun i wr => (i = .int .i64 0 ∧ Hid (PSt w B w.heap.size (w.heap.size + 1) (w.heap.size + 1 + 1) (w.heap.size + 1 + 1 + 1) #[.int .i64 4, .int .i64 n, .int .i64 ck, .int .i64 cn, .slice A cf.len C, .slice D 0 E] #[.slice (some ⟨b, o, none⟩) 2 2, .bool false, .bool true, .int .i64 0] (l ++ [97, 115, 115, 101, 114, 116, 32] ++ lc ++ []) (.slice (some ⟨b, o + 1, none⟩) 0 0) wr))) (fun i _ => 0 - (intOf i).toNat)
  case atStart => exact ⟨rfl, HS7.out⟩
  case round =>
    clear HS7
    obtain ⟨rfl, hS⟩ := hrel
    go_wp2_with fail
    go_end0
    exact ⟨rfl, hS.out.wrote⟩
set_option maxRecDepth 100000 in
set_option maxHeartbeats 8000000 in
theorem writeProg_5 (w0 : World) (n ck cn : Int) (cf : Fo) (k1 n1 ck1 cn1 : Int) (cf1 : Fo) (f1 : Pg) (k2 n2 ck2 cn2 : Int) (cf2 : Fo) (f2 : Pg) (A : Option Addr) (C : Nat) (D : Option Addr) (E : Nat) (B : Nat) (b' o' : Nat) (A1 D1 : Option Addr) (C1 E1 : Nat) (A2 D2 : Option Addr) (C2 E2 : Nat) (la : List UInt8) (hla : la.length ≤ 83886080) (M1 : Nat)
    (K1 : Hid (∀ (L : List UInt8) (W : World), L.length ≤ M1 → Sees w0 W → Bld B L W → Calls Tryz.prog 54 #[.pointer (some ⟨B, 0, none⟩), .agg #[.int .i64 k1, .int .i64 n1, .int .i64 ck1, .int .i64 cn1, .slice A1 cf1.len C1, .slice D1 f1.len E1]] W fun e w' => e = .returned (.tuple #[]) ∧ Wrote B (L ++ la) W w')) (lb : List UInt8) (hlb : lb.length ≤ 83886080) (M2 : Nat)
    (K2 : Hid (∀ (L : List UInt8) (W : World), L.length ≤ M2 → Sees w0 W → Bld B L W → Calls Tryz.prog 54 #[.pointer (some ⟨B, 0, none⟩), .agg #[.int .i64 k2, .int .i64 n2, .int .i64 ck2, .int .i64 cn2, .slice A2 cf2.len C2, .slice D2 f2.len E2]] W fun e w' => e = .returned (.tuple #[]) ∧ Wrote B (L ++ lb) W w')) (d10 : w0.cell? ⟨b', o', none⟩ = some (.int .i64 k1)) (d11 : w0.cell? ⟨b', o' + 1, none⟩ = some (.int .i64 n1)) (d12 : w0.cell? ⟨b', o' + 2, none⟩ = some (.int .i64 ck1)) (d13 : w0.cell? ⟨b', o' + 3, none⟩ = some (.int .i64 cn1)) (d14 : w0.cell? ⟨b', o' + 4, none⟩ = some (.slice A1 cf1.len C1)) (d15 : w0.cell? ⟨b', o' + 5, none⟩ = some (.slice D1 f1.len E1)) (d20 : w0.cell? ⟨b', o' + 6, none⟩ = some (.int .i64 k2)) (d21 : w0.cell? ⟨b', o' + 6 + 1, none⟩ = some (.int .i64 n2)) (d22 : w0.cell? ⟨b', o' + 6 + 2, none⟩ = some (.int .i64 ck2)) (d23 : w0.cell? ⟨b', o' + 6 + 3, none⟩ = some (.int .i64 cn2)) (d24 : w0.cell? ⟨b', o' + 6 + 4, none⟩ = some (.slice A2 cf2.len C2)) (d25 : w0.cell? ⟨b', o' + 6 + 5, none⟩ = some (.slice D2 f2.len E2)) (hD : D = some ⟨b', o', none⟩) (hF : FormAt w0 5 false false 2) (hW : WordsAt w0 5 [[123], [59, 32], [125]])
    (l : List UInt8) (hl : l.length ≤ 1099411000000) (hM1 : (l ++ [123]).length ≤ M1) (hM2 : (l ++ [123] ++ la ++ [59, 32]).length ≤ M2) (w : World) (hs : Sees w0 w) (hB : w0.heap.size ≤ B) (hb : Bld B l w) :
    Calls Tryz.prog 54 #[.pointer (some ⟨B, 0, none⟩), .agg #[.int .i64 5, .int .i64 n, .int .i64 ck, .int .i64 cn, .slice A cf.len C, .slice D 2 E]] w fun e w' => e = .returned (.tuple #[]) ∧ Wrote B (l ++ [123] ++ la ++ [59, 32] ++ lb ++ [125]) w w' := by
  obtain ⟨b, o, c0, cw⟩ := hW
  obtain ⟨Wd, lw, Cw, c0', c1, c2, c3⟩ := hF
  have hbg : 0 < w0.heap.size := World.block_lt_of_cell? _ _ c0
  clear c0' Wd lw Cw
  subst hD
  have lB : B < w.heap.size := hb.lt
  obtain ⟨w4, hw4⟩ : ∃ w4, w4 = (((w.alloc (.cells #[.pointer (some ⟨B, 0, none⟩)] 79)).alloc (.cells #[.int .i64 5, .int .i64 n, .int .i64 ck, .int .i64 cn, .slice A cf.len C, .slice (some ⟨b', o', none⟩) 2 E] 41)).alloc (.cells #[.slice (some ⟨b, o, none⟩) 3 3, .bool false, .bool false, .int .i64 2] 172)).alloc (.cells #[.slice (some ⟨b, o, none⟩) 3 3] 170) := ⟨_, rfl⟩
  have S4 : PSt w B w.heap.size (w.heap.size + 1) (w.heap.size + 1 + 1) (w.heap.size + 1 + 1 + 1) #[.int .i64 5, .int .i64 n, .int .i64 ck, .int .i64 cn, .slice A cf.len C, .slice (some ⟨b', o', none⟩) 2 E] #[.slice (some ⟨b, o, none⟩) 3 3, .bool false, .bool false, .int .i64 2] (l) (.slice (some ⟨b, o, none⟩) 3 3) w4 := by
    refine ⟨by rw [hw4]; exact ((((Wrote.start hb).alloc _).alloc _).alloc _).alloc _, ?_, ?_, ?_, ?_, by omega⟩
    · rw [hw4]; exact (Below.heap_alloc _ _ _ (by simp <;> omega)).trans ((Below.heap_alloc _ _ _ (by simp <;> omega)).trans ((Below.heap_alloc _ _ _ (by simp)).trans (heap_new _ _ _ rfl)))
    · rw [hw4]; exact (Below.heap_alloc _ _ _ (by simp <;> omega)).trans ((Below.heap_alloc _ _ _ (by simp)).trans (heap_new _ _ _ (by simp)))
    · rw [hw4]; exact (Below.heap_alloc _ _ _ (by simp)).trans (heap_new _ _ _ (by simp))
    · rw [hw4]; exact heap_new _ _ _ (by simp)
  have HS4 := Lib.hid S4
  have HSEE : Hid (∀ (L : List UInt8) (v : Value) (W : World), PSt w B w.heap.size (w.heap.size + 1) (w.heap.size + 1 + 1) (w.heap.size + 1 + 1 + 1) #[.int .i64 5, .int .i64 n, .int .i64 ck, .int .i64 cn, .slice A cf.len C, .slice (some ⟨b', o', none⟩) 2 E] #[.slice (some ⟨b, o, none⟩) 3 3, .bool false, .bool false, .int .i64 2] L v W → Sees w0 W) := fun L v W h => h.sees hs hB
  have s2 : Sees w0 ((w.alloc (.cells #[.pointer (some ⟨B, 0, none⟩)] 79)).alloc (.cells #[.int .i64 5, .int .i64 n, .int .i64 ck, .int .i64 cn, .slice A cf.len C, .slice (some ⟨b', o', none⟩) 2 E] 41)) := (hs.alloc _).alloc _
  have e0 := kc s2 c0; have e1 := kc s2 c1; have e2 := kc s2 c2; have e3 := kc s2 c3
  have p0 : ((w.alloc (.cells #[.pointer (some ⟨B, 0, none⟩)] 79)).alloc (.cells #[.int .i64 5, .int .i64 n, .int .i64 ck, .int .i64 cn, .slice A cf.len C, .slice (some ⟨b', o', none⟩) 2 E] 41)).heap[w.heap.size + 1]? = some (.cells #[.int .i64 5, .int .i64 n, .int .i64 ck, .int .i64 cn, .slice A cf.len C, .slice (some ⟨b', o', none⟩) 2 E] 41 (0, 0)) := heap_new _ _ _ (by simp)
  obtain ⟨q0, _, _, _, _, _⟩ := pcells6 p0
  have f3 : (((w.alloc (.cells #[.pointer (some ⟨B, 0, none⟩)] 79)).alloc (.cells #[.int .i64 5, .int .i64 n, .int .i64 ck, .int .i64 cn, .slice A cf.len C, .slice (some ⟨b', o', none⟩) 2 E] 41)).alloc (.cells #[.slice (some ⟨b, o, none⟩) 3 3, .bool false, .bool false, .int .i64 2] 172)).heap[w.heap.size + 1 + 1]? = some (.cells #[.slice (some ⟨b, o, none⟩) 3 3, .bool false, .bool false, .int .i64 2] 172 (0, 0)) := heap_new _ _ _ (by simp)
  have r0 := Fo.cell_of_block f3 0
  have KW0 : Hid (∀ W : World, PSt w B w.heap.size (w.heap.size + 1) (w.heap.size + 1 + 1) (w.heap.size + 1 + 1 + 1) #[.int .i64 5, .int .i64 n, .int .i64 ck, .int .i64 cn, .slice A cf.len C, .slice (some ⟨b', o', none⟩) 2 E] #[.slice (some ⟨b, o, none⟩) 3 3, .bool false, .bool false, .int .i64 2] (l) (.slice (some ⟨b, o, none⟩) 3 3) W → Calls Tryz.prog 88 #[.pointer (some ⟨w.heap.size, 0, none⟩), .pointer (some ⟨w.heap.size + 1 + 1 + 1, 0, none⟩)] W fun e w' => e = .returned (.tuple #[]) ∧ PSt w B w.heap.size (w.heap.size + 1) (w.heap.size + 1 + 1) (w.heap.size + 1 + 1 + 1) #[.int .i64 5, .int .i64 n, .int .i64 ck, .int .i64 cn, .slice A cf.len C, .slice (some ⟨b', o', none⟩) 2 E] #[.slice (some ⟨b, o, none⟩) 3 3, .bool false, .bool false, .int .i64 2] (l ++ [123]) (.slice (some ⟨b, o + 1, none⟩) 2 2) w') := fun W h =>
    (word_3 h.wrote.bld h.out h.words (kc (h.sees hs hB) (cw 0 _ rfl)) (by omega) (by simp only [List.length_cons, List.length_nil]; omega)).mono fun e w' ⟨h1, h2⟩ => ⟨h1, h.word h2⟩
  have KW1 : Hid (∀ W : World, PSt w B w.heap.size (w.heap.size + 1) (w.heap.size + 1 + 1) (w.heap.size + 1 + 1 + 1) #[.int .i64 5, .int .i64 n, .int .i64 ck, .int .i64 cn, .slice A cf.len C, .slice (some ⟨b', o', none⟩) 2 E] #[.slice (some ⟨b, o, none⟩) 3 3, .bool false, .bool false, .int .i64 2] (l ++ [123] ++ la) (.slice (some ⟨b, o + 1, none⟩) 2 2) W → Calls Tryz.prog 88 #[.pointer (some ⟨w.heap.size, 0, none⟩), .pointer (some ⟨w.heap.size + 1 + 1 + 1, 0, none⟩)] W fun e w' => e = .returned (.tuple #[]) ∧ PSt w B w.heap.size (w.heap.size + 1) (w.heap.size + 1 + 1) (w.heap.size + 1 + 1 + 1) #[.int .i64 5, .int .i64 n, .int .i64 ck, .int .i64 cn, .slice A cf.len C, .slice (some ⟨b', o', none⟩) 2 E] #[.slice (some ⟨b, o, none⟩) 3 3, .bool false, .bool false, .int .i64 2] (l ++ [123] ++ la ++ [59, 32]) (.slice (some ⟨b, o + 1 + 1, none⟩) 1 1) w') := fun W h =>
    (word_2 h.wrote.bld h.out h.words (kc (h.sees hs hB) (cw 1 _ rfl)) (by omega) (by simp only [List.length_append, List.length_cons, List.length_nil]; omega)).mono fun e w' ⟨h1, h2⟩ => ⟨h1, h.word h2⟩
  have KW2 : Hid (∀ W : World, PSt w B w.heap.size (w.heap.size + 1) (w.heap.size + 1 + 1) (w.heap.size + 1 + 1 + 1) #[.int .i64 5, .int .i64 n, .int .i64 ck, .int .i64 cn, .slice A cf.len C, .slice (some ⟨b', o', none⟩) 2 E] #[.slice (some ⟨b, o, none⟩) 3 3, .bool false, .bool false, .int .i64 2] (l ++ [123] ++ la ++ [59, 32] ++ lb) (.slice (some ⟨b, o + 1 + 1, none⟩) 1 1) W → Calls Tryz.prog 88 #[.pointer (some ⟨w.heap.size, 0, none⟩), .pointer (some ⟨w.heap.size + 1 + 1 + 1, 0, none⟩)] W fun e w' => e = .returned (.tuple #[]) ∧ PSt w B w.heap.size (w.heap.size + 1) (w.heap.size + 1 + 1) (w.heap.size + 1 + 1 + 1) #[.int .i64 5, .int .i64 n, .int .i64 ck, .int .i64 cn, .slice A cf.len C, .slice (some ⟨b', o', none⟩) 2 E] #[.slice (some ⟨b, o, none⟩) 3 3, .bool false, .bool false, .int .i64 2] (l ++ [123] ++ la ++ [59, 32] ++ lb ++ [125]) (.slice (some ⟨b, o + 1 + 1, none⟩) 0 0) w') := fun W h =>
    (word_1 h.wrote.bld h.out h.words (kc (h.sees hs hB) (cw 2 _ rfl)) (by omega) (by simp only [List.length_append, List.length_cons, List.length_nil]; omega)).mono fun e w' ⟨h1, h2⟩ => ⟨h1, h.word h2⟩
  have KK1 : Hid (∀ W : World, PSt w B w.heap.size (w.heap.size + 1) (w.heap.size + 1 + 1) (w.heap.size + 1 + 1 + 1) #[.int .i64 5, .int .i64 n, .int .i64 ck, .int .i64 cn, .slice A cf.len C, .slice (some ⟨b', o', none⟩) 2 E] #[.slice (some ⟨b, o, none⟩) 3 3, .bool false, .bool false, .int .i64 2] (l ++ [123]) (.slice (some ⟨b, o + 1, none⟩) 2 2) W → Calls Tryz.prog 54 #[.pointer (some ⟨B, 0, none⟩), .agg #[.int .i64 k1, .int .i64 n1, .int .i64 ck1, .int .i64 cn1, .slice A1 cf1.len C1, .slice D1 f1.len E1]] W fun e w' => e = .returned (.tuple #[]) ∧ PSt w B w.heap.size (w.heap.size + 1) (w.heap.size + 1 + 1) (w.heap.size + 1 + 1 + 1) #[.int .i64 5, .int .i64 n, .int .i64 ck, .int .i64 cn, .slice A cf.len C, .slice (some ⟨b', o', none⟩) 2 E] #[.slice (some ⟨b, o, none⟩) 3 3, .bool false, .bool false, .int .i64 2] (l ++ [123] ++ la) (.slice (some ⟨b, o + 1, none⟩) 2 2) w') := fun W h =>
    (K1.out _ W hM1 (h.sees hs hB) h.wrote.bld).mono fun e w' ⟨h1, h2⟩ => ⟨h1, h.write h2⟩
  have GC1 : Hid (∀ W : World, Sees w0 W → W.cell? ⟨b', o', none⟩ = some (.int .i64 k1) ∧ W.cell? ⟨b', o' + 1, none⟩ = some (.int .i64 n1) ∧ W.cell? ⟨b', o' + 2, none⟩ = some (.int .i64 ck1) ∧ W.cell? ⟨b', o' + 3, none⟩ = some (.int .i64 cn1) ∧ W.cell? ⟨b', o' + 4, none⟩ = some (.slice A1 cf1.len C1) ∧ W.cell? ⟨b', o' + 5, none⟩ = some (.slice D1 f1.len E1)) := fun W h => ⟨kc h d10, kc h d11, kc h d12, kc h d13, kc h d14, kc h d15⟩
  have KK2 : Hid (∀ W : World, PSt w B w.heap.size (w.heap.size + 1) (w.heap.size + 1 + 1) (w.heap.size + 1 + 1 + 1) #[.int .i64 5, .int .i64 n, .int .i64 ck, .int .i64 cn, .slice A cf.len C, .slice (some ⟨b', o', none⟩) 2 E] #[.slice (some ⟨b, o, none⟩) 3 3, .bool false, .bool false, .int .i64 2] (l ++ [123] ++ la ++ [59, 32]) (.slice (some ⟨b, o + 1 + 1, none⟩) 1 1) W → Calls Tryz.prog 54 #[.pointer (some ⟨B, 0, none⟩), .agg #[.int .i64 k2, .int .i64 n2, .int .i64 ck2, .int .i64 cn2, .slice A2 cf2.len C2, .slice D2 f2.len E2]] W fun e w' => e = .returned (.tuple #[]) ∧ PSt w B w.heap.size (w.heap.size + 1) (w.heap.size + 1 + 1) (w.heap.size + 1 + 1 + 1) #[.int .i64 5, .int .i64 n, .int .i64 ck, .int .i64 cn, .slice A cf.len C, .slice (some ⟨b', o', none⟩) 2 E] #[.slice (some ⟨b, o, none⟩) 3 3, .bool false, .bool false, .int .i64 2] (l ++ [123] ++ la ++ [59, 32] ++ lb) (.slice (some ⟨b, o + 1 + 1, none⟩) 1 1) w') := fun W h =>
    (K2.out _ W hM2 (h.sees hs hB) h.wrote.bld).mono fun e w' ⟨h1, h2⟩ => ⟨h1, h.write h2⟩
  have GC2 : Hid (∀ W : World, Sees w0 W → W.cell? ⟨b', o' + 6, none⟩ = some (.int .i64 k2) ∧ W.cell? ⟨b', o' + 6 + 1, none⟩ = some (.int .i64 n2) ∧ W.cell? ⟨b', o' + 6 + 2, none⟩ = some (.int .i64 ck2) ∧ W.cell? ⟨b', o' + 6 + 3, none⟩ = some (.int .i64 cn2) ∧ W.cell? ⟨b', o' + 6 + 4, none⟩ = some (.slice A2 cf2.len C2) ∧ W.cell? ⟨b', o' + 6 + 5, none⟩ = some (.slice D2 f2.len E2)) := fun W h => ⟨kc h d20, kc h d21, kc h d22, kc h d23, kc h d24, kc h d25⟩
  have LBK : Hid (b' < w0.heap.size) := World.block_lt_of_cell? _ _ d10
  clear hs hB hb c0 c1 c2 c3 cw hl S4 p0 f3 s2 hbg lB K1 hM1 hla d10 d11 d12 d13 d14 d15 K2 hM2 hlb d20 d21 d22 d23 d24 d25
  go_enter Tryz.func54, Tryz.ntmps54
  have HW4 := Lib.hid hw4
  clear hw4
  go_wp2_with fail
  rw [← HW4.out]
  clear e0 e1 e2 e3 q0 r0
  refine (KW0.out _ HS4.out).mono ?_
  rintro e w5 ⟨rfl, hx⟩
  have HS5 := Lib.hid hx
  clear hx HS4
  have u0 := Fo.cell_of_block HS5.out.form 0; have u1 := Fo.cell_of_block HS5.out.form 1; have u2 := Fo.cell_of_block HS5.out.form 2; have u3 := Fo.cell_of_block HS5.out.form 3
  obtain ⟨v0, v1, v2, v3, v4, v5⟩ := pcells6 HS5.out.prog
  go_wp2_with fail
  clear u0 u1 u2 u3 v0 v1 v2 v3 v4 v5
  go_loopw [38] (fun i wr => (i = .int .i64 0 ∧ Hid (PSt w B w.heap.size (w.heap.size + 1) (w.heap.size + 1 + 1) (w.heap.size + 1 + 1 + 1) #[.int .i64 5, .int .i64 n, .int .i64 ck, .int .i64 cn, .slice A cf.len C, .slice (some ⟨b', o', none⟩) 2 E] #[.slice (some ⟨b, o, none⟩) 3 3, .bool false, .bool false, .int .i64 2] (l ++ [123]) (.slice (some ⟨b, o + 1, none⟩) 2 2) wr)) ∨ (i = .int .i64 1 ∧ Hid (PSt w B w.heap.size (w.heap.size + 1) (w.heap.size + 1 + 1) (w.heap.size + 1 + 1 + 1) #[.int .i64 5, .int .i64 n, .int .i64 ck, .int .i64 cn, .slice A cf.len C, .slice (some ⟨b', o', none⟩) 2 E] #[.slice (some ⟨b, o, none⟩) 3 3, .bool false, .bool false, .int .i64 2] (l ++ [123] ++ la ++ [59, 32]) (.slice (some ⟨b, o + 1 + 1, none⟩) 1 1) wr)) ∨ (i = .int .i64 2 ∧ Hid (PSt w B w.heap.size (w.heap.size + 1) (w.heap.size + 1 + 1) (w.heap.size + 1 + 1 + 1) #[.int .i64 5, .int .i64 n, .int .i64 ck, .int .i64 cn, .slice A cf.len C, .slice (some ⟨b', o', none⟩) 2 E] #[.slice (some ⟨b, o, none⟩) 3 3, .bool false, .bool false, .int .i64 2] (l ++ [123] ++ la ++ [59, 32] ++ lb ++ [125]) (.slice (some ⟨b, o + 1 + 1, none⟩) 0 0) wr))) (fun i _ => 2 - (intOf i).toNat)
  case atStart => exact Or.inl ⟨rfl, HS5.out⟩
  case round =>
    clear HS5
    rcases hrel with ⟨rfl, hS⟩ | ⟨rfl, hS⟩ | ⟨rfl, hS⟩
    · have hse := HSEE.out _ _ _ hS.out
      obtain ⟨m0, m1, m2, m3, m4, m5⟩ := GC1.out wr hse
      have zb := LBK.out
      have lbr : b' < wr.heap.size := Nat.lt_of_lt_of_le zb hse.size
      obtain ⟨wk, hwk⟩ : ∃ wk, wk = wr.alloc (.cells #[.int .i64 k1, .int .i64 n1, .int .i64 ck1, .int .i64 cn1, .slice A1 cf1.len C1, .slice D1 f1.len E1] 41) := ⟨_, rfl⟩
      have HSk : Hid (PSt w B w.heap.size (w.heap.size + 1) (w.heap.size + 1 + 1) (w.heap.size + 1 + 1 + 1) #[.int .i64 5, .int .i64 n, .int .i64 ck, .int .i64 cn, .slice A cf.len C, .slice (some ⟨b', o', none⟩) 2 E] #[.slice (some ⟨b, o, none⟩) 3 3, .bool false, .bool false, .int .i64 2] (l ++ [123]) (.slice (some ⟨b, o + 1, none⟩) 2 2) wk) := by show PSt _ _ _ _ _ _ _ _ _ _ _; rw [hwk]; exact hS.out.thenB ((Below.refl _ _).alloc (Nat.le_refl _) _)
      have hkb : wk.heap[wr.heap.size]? = some (.cells #[.int .i64 k1, .int .i64 n1, .int .i64 ck1, .int .i64 cn1, .slice A1 cf1.len C1, .slice D1 f1.len E1] 41 (0, 0)) := by rw [hwk]; exact heap_new _ _ _ rfl
      obtain ⟨t0, t1, t2, t3, t4, t5⟩ := pcells6 hkb
      have g0 := Fo.cell_of_block HSk.out.out 0
      rw [hwk] at t0 t1 t2 t3 t4 t5 g0
      clear hse zb hS hkb
      have HWK := Lib.hid hwk
      clear hwk
      go_wp2_with fail
      rw [← HWK.out]
      clear m0 m1 m2 m3 m4 m5 t0 t1 t2 t3 t4 t5 g0 lbr
      refine (KK1.out _ HSk.out).mono ?_
      rintro e wy ⟨rfl, hy⟩
      have HSy := Lib.hid hy
      clear hy HSk
      go_wp2_with fail
      refine (KW1.out _ HSy.out).mono ?_
      rintro e wz ⟨rfl, hz⟩
      have HSz := Lib.hid hz
      clear hz HSy
      go_wp2_with fail
      go_roundw
      case rel => exact Or.inr (Or.inl ⟨by first | rfl | go_num, HSz.out⟩)
      case measure => simp [intOf]
    · have hse := HSEE.out _ _ _ hS.out
      obtain ⟨m0, m1, m2, m3, m4, m5⟩ := GC2.out wr hse
      have zb := LBK.out
      have lbr : b' < wr.heap.size := Nat.lt_of_lt_of_le zb hse.size
      obtain ⟨wk, hwk⟩ : ∃ wk, wk = wr.alloc (.cells #[.int .i64 k2, .int .i64 n2, .int .i64 ck2, .int .i64 cn2, .slice A2 cf2.len C2, .slice D2 f2.len E2] 41) := ⟨_, rfl⟩
      have HSk : Hid (PSt w B w.heap.size (w.heap.size + 1) (w.heap.size + 1 + 1) (w.heap.size + 1 + 1 + 1) #[.int .i64 5, .int .i64 n, .int .i64 ck, .int .i64 cn, .slice A cf.len C, .slice (some ⟨b', o', none⟩) 2 E] #[.slice (some ⟨b, o, none⟩) 3 3, .bool false, .bool false, .int .i64 2] (l ++ [123] ++ la ++ [59, 32]) (.slice (some ⟨b, o + 1 + 1, none⟩) 1 1) wk) := by show PSt _ _ _ _ _ _ _ _ _ _ _; rw [hwk]; exact hS.out.thenB ((Below.refl _ _).alloc (Nat.le_refl _) _)
      have hkb : wk.heap[wr.heap.size]? = some (.cells #[.int .i64 k2, .int .i64 n2, .int .i64 ck2, .int .i64 cn2, .slice A2 cf2.len C2, .slice D2 f2.len E2] 41 (0, 0)) := by rw [hwk]; exact heap_new _ _ _ rfl
      obtain ⟨t0, t1, t2, t3, t4, t5⟩ := pcells6 hkb
      have g0 := Fo.cell_of_block HSk.out.out 0
      rw [hwk] at t0 t1 t2 t3 t4 t5 g0
      clear hse zb hS hkb
      have HWK := Lib.hid hwk
      clear hwk
      go_wp2_with fail
      rw [← HWK.out]
      clear m0 m1 m2 m3 m4 m5 t0 t1 t2 t3 t4 t5 g0 lbr
      refine (KK2.out _ HSk.out).mono ?_
      rintro e wy ⟨rfl, hy⟩
      have HSy := Lib.hid hy
      clear hy HSk
      go_wp2_with fail
      refine (KW2.out _ HSy.out).mono ?_
      rintro e wz ⟨rfl, hz⟩
      have HSz := Lib.hid hz
      clear hz HSy
      go_wp2_with fail
      go_roundw
      case rel => exact Or.inr (Or.inr (⟨by first | rfl | go_num, HSz.out⟩))
      case measure => simp [intOf]
    · go_wp2_with fail
      go_end0
      exact ⟨rfl, hS.out.wrote⟩
set_option maxRecDepth 100000 in
set_option maxHeartbeats 8000000 in
theorem writeProg_6 (w0 : World) (n ck cn : Int) (cf : Fo) (k1 n1 ck1 cn1 : Int) (cf1 : Fo) (f1 : Pg) (k2 n2 ck2 cn2 : Int) (cf2 : Fo) (f2 : Pg) (A : Option Addr) (C : Nat) (D : Option Addr) (E : Nat) (B : Nat) (b' o' : Nat) (A1 D1 : Option Addr) (C1 E1 : Nat) (A2 D2 : Option Addr) (C2 E2 : Nat) (lc : List UInt8) (vn : Value) (hlc : lc.length ≤ 83886080) (hA : cf.Lies w0 A)
    (KN : Hid (∀ W : World, Sees w0 W → Calls Tryz.prog 53 #[.agg #[.int .i64 ck, .int .i64 cn, .slice A cf.len C]] W fun e w' => e = .returned vn ∧ Below W.heap.size W w'))
    (KT : Hid (∀ (L : List UInt8) (W : World), L.length ≤ 1099500000000 → Bld B L W → Calls Tryz.prog 83 #[.pointer (some ⟨B, 0, none⟩), vn] W fun e w' => e = .returned (.tuple #[]) ∧ Wrote B (L ++ lc) W w')) (la : List UInt8) (hla : la.length ≤ 83886080) (M1 : Nat)
    (K1 : Hid (∀ (L : List UInt8) (W : World), L.length ≤ M1 → Sees w0 W → Bld B L W → Calls Tryz.prog 54 #[.pointer (some ⟨B, 0, none⟩), .agg #[.int .i64 k1, .int .i64 n1, .int .i64 ck1, .int .i64 cn1, .slice A1 cf1.len C1, .slice D1 f1.len E1]] W fun e w' => e = .returned (.tuple #[]) ∧ Wrote B (L ++ la) W w')) (lb : List UInt8) (hlb : lb.length ≤ 83886080) (M2 : Nat)
    (K2 : Hid (∀ (L : List UInt8) (W : World), L.length ≤ M2 → Sees w0 W → Bld B L W → Calls Tryz.prog 54 #[.pointer (some ⟨B, 0, none⟩), .agg #[.int .i64 k2, .int .i64 n2, .int .i64 ck2, .int .i64 cn2, .slice A2 cf2.len C2, .slice D2 f2.len E2]] W fun e w' => e = .returned (.tuple #[]) ∧ Wrote B (L ++ lb) W w')) (d10 : w0.cell? ⟨b', o', none⟩ = some (.int .i64 k1)) (d11 : w0.cell? ⟨b', o' + 1, none⟩ = some (.int .i64 n1)) (d12 : w0.cell? ⟨b', o' + 2, none⟩ = some (.int .i64 ck1)) (d13 : w0.cell? ⟨b', o' + 3, none⟩ = some (.int .i64 cn1)) (d14 : w0.cell? ⟨b', o' + 4, none⟩ = some (.slice A1 cf1.len C1)) (d15 : w0.cell? ⟨b', o' + 5, none⟩ = some (.slice D1 f1.len E1)) (d20 : w0.cell? ⟨b', o' + 6, none⟩ = some (.int .i64 k2)) (d21 : w0.cell? ⟨b', o' + 6 + 1, none⟩ = some (.int .i64 n2)) (d22 : w0.cell? ⟨b', o' + 6 + 2, none⟩ = some (.int .i64 ck2)) (d23 : w0.cell? ⟨b', o' + 6 + 3, none⟩ = some (.int .i64 cn2)) (d24 : w0.cell? ⟨b', o' + 6 + 4, none⟩ = some (.slice A2 cf2.len C2)) (d25 : w0.cell? ⟨b', o' + 6 + 5, none⟩ = some (.slice D2 f2.len E2)) (hD : D = some ⟨b', o', none⟩) (hF : FormAt w0 6 false true 2) (hW : WordsAt w0 6 [[105, 102, 32], [32, 116, 104, 101, 110, 32], [32, 101, 108, 115, 101, 32], [32, 102, 105]])
    (l : List UInt8) (hl : l.length ≤ 1099411000000) (hM1 : (l ++ [105, 102, 32] ++ lc ++ [32, 116, 104, 101, 110, 32]).length ≤ M1) (hM2 : (l ++ [105, 102, 32] ++ lc ++ [32, 116, 104, 101, 110, 32] ++ la ++ [32, 101, 108, 115, 101, 32]).length ≤ M2) (w : World) (hs : Sees w0 w) (hB : w0.heap.size ≤ B) (hb : Bld B l w) :
    Calls Tryz.prog 54 #[.pointer (some ⟨B, 0, none⟩), .agg #[.int .i64 6, .int .i64 n, .int .i64 ck, .int .i64 cn, .slice A cf.len C, .slice D 2 E]] w fun e w' => e = .returned (.tuple #[]) ∧ Wrote B (l ++ [105, 102, 32] ++ lc ++ [32, 116, 104, 101, 110, 32] ++ la ++ [32, 101, 108, 115, 101, 32] ++ lb ++ [32, 102, 105]) w w' := by
  obtain ⟨b, o, c0, cw⟩ := hW
  obtain ⟨Wd, lw, Cw, c0', c1, c2, c3⟩ := hF
  have hbg : 0 < w0.heap.size := World.block_lt_of_cell? _ _ c0
  clear c0' Wd lw Cw
  subst hD
  have lB : B < w.heap.size := hb.lt
  obtain ⟨w4, hw4⟩ : ∃ w4, w4 = (((w.alloc (.cells #[.pointer (some ⟨B, 0, none⟩)] 79)).alloc (.cells #[.int .i64 6, .int .i64 n, .int .i64 ck, .int .i64 cn, .slice A cf.len C, .slice (some ⟨b', o', none⟩) 2 E] 41)).alloc (.cells #[.slice (some ⟨b, o, none⟩) 4 4, .bool false, .bool true, .int .i64 2] 172)).alloc (.cells #[.slice (some ⟨b, o, none⟩) 4 4] 170) := ⟨_, rfl⟩
  have S4 : PSt w B w.heap.size (w.heap.size + 1) (w.heap.size + 1 + 1) (w.heap.size + 1 + 1 + 1) #[.int .i64 6, .int .i64 n, .int .i64 ck, .int .i64 cn, .slice A cf.len C, .slice (some ⟨b', o', none⟩) 2 E] #[.slice (some ⟨b, o, none⟩) 4 4, .bool false, .bool true, .int .i64 2] (l) (.slice (some ⟨b, o, none⟩) 4 4) w4 := by
    refine ⟨by rw [hw4]; exact ((((Wrote.start hb).alloc _).alloc _).alloc _).alloc _, ?_, ?_, ?_, ?_, by omega⟩
    · rw [hw4]; exact (Below.heap_alloc _ _ _ (by simp <;> omega)).trans ((Below.heap_alloc _ _ _ (by simp <;> omega)).trans ((Below.heap_alloc _ _ _ (by simp)).trans (heap_new _ _ _ rfl)))
    · rw [hw4]; exact (Below.heap_alloc _ _ _ (by simp <;> omega)).trans ((Below.heap_alloc _ _ _ (by simp)).trans (heap_new _ _ _ (by simp)))
    · rw [hw4]; exact (Below.heap_alloc _ _ _ (by simp)).trans (heap_new _ _ _ (by simp))
    · rw [hw4]; exact heap_new _ _ _ (by simp)
  have HS4 := Lib.hid S4
  have HSEE : Hid (∀ (L : List UInt8) (v : Value) (W : World), PSt w B w.heap.size (w.heap.size + 1) (w.heap.size + 1 + 1) (w.heap.size + 1 + 1 + 1) #[.int .i64 6, .int .i64 n, .int .i64 ck, .int .i64 cn, .slice A cf.len C, .slice (some ⟨b', o', none⟩) 2 E] #[.slice (some ⟨b, o, none⟩) 4 4, .bool false, .bool true, .int .i64 2] L v W → Sees w0 W) := fun L v W h => h.sees hs hB
  have s2 : Sees w0 ((w.alloc (.cells #[.pointer (some ⟨B, 0, none⟩)] 79)).alloc (.cells #[.int .i64 6, .int .i64 n, .int .i64 ck, .int .i64 cn, .slice A cf.len C, .slice (some ⟨b', o', none⟩) 2 E] 41)) := (hs.alloc _).alloc _
  have e0 := kc s2 c0; have e1 := kc s2 c1; have e2 := kc s2 c2; have e3 := kc s2 c3
  have p0 : ((w.alloc (.cells #[.pointer (some ⟨B, 0, none⟩)] 79)).alloc (.cells #[.int .i64 6, .int .i64 n, .int .i64 ck, .int .i64 cn, .slice A cf.len C, .slice (some ⟨b', o', none⟩) 2 E] 41)).heap[w.heap.size + 1]? = some (.cells #[.int .i64 6, .int .i64 n, .int .i64 ck, .int .i64 cn, .slice A cf.len C, .slice (some ⟨b', o', none⟩) 2 E] 41 (0, 0)) := heap_new _ _ _ (by simp)
  obtain ⟨q0, _, _, _, _, _⟩ := pcells6 p0
  have f3 : (((w.alloc (.cells #[.pointer (some ⟨B, 0, none⟩)] 79)).alloc (.cells #[.int .i64 6, .int .i64 n, .int .i64 ck, .int .i64 cn, .slice A cf.len C, .slice (some ⟨b', o', none⟩) 2 E] 41)).alloc (.cells #[.slice (some ⟨b, o, none⟩) 4 4, .bool false, .bool true, .int .i64 2] 172)).heap[w.heap.size + 1 + 1]? = some (.cells #[.slice (some ⟨b, o, none⟩) 4 4, .bool false, .bool true, .int .i64 2] 172 (0, 0)) := heap_new _ _ _ (by simp)
  have r0 := Fo.cell_of_block f3 0
  have KW0 : Hid (∀ W : World, PSt w B w.heap.size (w.heap.size + 1) (w.heap.size + 1 + 1) (w.heap.size + 1 + 1 + 1) #[.int .i64 6, .int .i64 n, .int .i64 ck, .int .i64 cn, .slice A cf.len C, .slice (some ⟨b', o', none⟩) 2 E] #[.slice (some ⟨b, o, none⟩) 4 4, .bool false, .bool true, .int .i64 2] (l) (.slice (some ⟨b, o, none⟩) 4 4) W → Calls Tryz.prog 88 #[.pointer (some ⟨w.heap.size, 0, none⟩), .pointer (some ⟨w.heap.size + 1 + 1 + 1, 0, none⟩)] W fun e w' => e = .returned (.tuple #[]) ∧ PSt w B w.heap.size (w.heap.size + 1) (w.heap.size + 1 + 1) (w.heap.size + 1 + 1 + 1) #[.int .i64 6, .int .i64 n, .int .i64 ck, .int .i64 cn, .slice A cf.len C, .slice (some ⟨b', o', none⟩) 2 E] #[.slice (some ⟨b, o, none⟩) 4 4, .bool false, .bool true, .int .i64 2] (l ++ [105, 102, 32]) (.slice (some ⟨b, o + 1, none⟩) 3 3) w') := fun W h =>
    (word_4 h.wrote.bld h.out h.words (kc (h.sees hs hB) (cw 0 _ rfl)) (by omega) (by simp only [List.length_cons, List.length_nil]; omega)).mono fun e w' ⟨h1, h2⟩ => ⟨h1, h.word h2⟩
  have KW1 : Hid (∀ W : World, PSt w B w.heap.size (w.heap.size + 1) (w.heap.size + 1 + 1) (w.heap.size + 1 + 1 + 1) #[.int .i64 6, .int .i64 n, .int .i64 ck, .int .i64 cn, .slice A cf.len C, .slice (some ⟨b', o', none⟩) 2 E] #[.slice (some ⟨b, o, none⟩) 4 4, .bool false, .bool true, .int .i64 2] (l ++ [105, 102, 32] ++ lc) (.slice (some ⟨b, o + 1, none⟩) 3 3) W → Calls Tryz.prog 88 #[.pointer (some ⟨w.heap.size, 0, none⟩), .pointer (some ⟨w.heap.size + 1 + 1 + 1, 0, none⟩)] W fun e w' => e = .returned (.tuple #[]) ∧ PSt w B w.heap.size (w.heap.size + 1) (w.heap.size + 1 + 1) (w.heap.size + 1 + 1 + 1) #[.int .i64 6, .int .i64 n, .int .i64 ck, .int .i64 cn, .slice A cf.len C, .slice (some ⟨b', o', none⟩) 2 E] #[.slice (some ⟨b, o, none⟩) 4 4, .bool false, .bool true, .int .i64 2] (l ++ [105, 102, 32] ++ lc ++ [32, 116, 104, 101, 110, 32]) (.slice (some ⟨b, o + 1 + 1, none⟩) 2 2) w') := fun W h =>
    (word_3 h.wrote.bld h.out h.words (kc (h.sees hs hB) (cw 1 _ rfl)) (by omega) (by simp only [List.length_append, List.length_cons, List.length_nil]; omega)).mono fun e w' ⟨h1, h2⟩ => ⟨h1, h.word h2⟩
  have KW2 : Hid (∀ W : World, PSt w B w.heap.size (w.heap.size + 1) (w.heap.size + 1 + 1) (w.heap.size + 1 + 1 + 1) #[.int .i64 6, .int .i64 n, .int .i64 ck, .int .i64 cn, .slice A cf.len C, .slice (some ⟨b', o', none⟩) 2 E] #[.slice (some ⟨b, o, none⟩) 4 4, .bool false, .bool true, .int .i64 2] (l ++ [105, 102, 32] ++ lc ++ [32, 116, 104, 101, 110, 32] ++ la) (.slice (some ⟨b, o + 1 + 1, none⟩) 2 2) W → Calls Tryz.prog 88 #[.pointer (some ⟨w.heap.size, 0, none⟩), .pointer (some ⟨w.heap.size + 1 + 1 + 1, 0, none⟩)] W fun e w' => e = .returned (.tuple #[]) ∧ PSt w B w.heap.size (w.heap.size + 1) (w.heap.size + 1 + 1) (w.heap.size + 1 + 1 + 1) #[.int .i64 6, .int .i64 n, .int .i64 ck, .int .i64 cn, .slice A cf.len C, .slice (some ⟨b', o', none⟩) 2 E] #[.slice (some ⟨b, o, none⟩) 4 4, .bool false, .bool true, .int .i64 2] (l ++ [105, 102, 32] ++ lc ++ [32, 116, 104, 101, 110, 32] ++ la ++ [32, 101, 108, 115, 101, 32]) (.slice (some ⟨b, o + 1 + 1 + 1, none⟩) 1 1) w') := fun W h =>
    (word_2 h.wrote.bld h.out h.words (kc (h.sees hs hB) (cw 2 _ rfl)) (by omega) (by simp only [List.length_append, List.length_cons, List.length_nil]; omega)).mono fun e w' ⟨h1, h2⟩ => ⟨h1, h.word h2⟩
  have KW3 : Hid (∀ W : World, PSt w B w.heap.size (w.heap.size + 1) (w.heap.size + 1 + 1) (w.heap.size + 1 + 1 + 1) #[.int .i64 6, .int .i64 n, .int .i64 ck, .int .i64 cn, .slice A cf.len C, .slice (some ⟨b', o', none⟩) 2 E] #[.slice (some ⟨b, o, none⟩) 4 4, .bool false, .bool true, .int .i64 2] (l ++ [105, 102, 32] ++ lc ++ [32, 116, 104, 101, 110, 32] ++ la ++ [32, 101, 108, 115, 101, 32] ++ lb) (.slice (some ⟨b, o + 1 + 1 + 1, none⟩) 1 1) W → Calls Tryz.prog 88 #[.pointer (some ⟨w.heap.size, 0, none⟩), .pointer (some ⟨w.heap.size + 1 + 1 + 1, 0, none⟩)] W fun e w' => e = .returned (.tuple #[]) ∧ PSt w B w.heap.size (w.heap.size + 1) (w.heap.size + 1 + 1) (w.heap.size + 1 + 1 + 1) #[.int .i64 6, .int .i64 n, .int .i64 ck, .int .i64 cn, .slice A cf.len C, .slice (some ⟨b', o', none⟩) 2 E] #[.slice (some ⟨b, o, none⟩) 4 4, .bool false, .bool true, .int .i64 2] (l ++ [105, 102, 32] ++ lc ++ [32, 116, 104, 101, 110, 32] ++ la ++ [32, 101, 108, 115, 101, 32] ++ lb ++ [32, 102, 105]) (.slice (some ⟨b, o + 1 + 1 + 1, none⟩) 0 0) w') := fun W h =>
    (word_1 h.wrote.bld h.out h.words (kc (h.sees hs hB) (cw 3 _ rfl)) (by omega) (by simp only [List.length_append, List.length_cons, List.length_nil]; omega)).mono fun e w' ⟨h1, h2⟩ => ⟨h1, h.word h2⟩
  have KC : Hid (∀ W : World, PSt w B w.heap.size (w.heap.size + 1) (w.heap.size + 1 + 1) (w.heap.size + 1 + 1 + 1) #[.int .i64 6, .int .i64 n, .int .i64 ck, .int .i64 cn, .slice A cf.len C, .slice (some ⟨b', o', none⟩) 2 E] #[.slice (some ⟨b, o, none⟩) 4 4, .bool false, .bool true, .int .i64 2] (l ++ [105, 102, 32]) (.slice (some ⟨b, o + 1, none⟩) 3 3) W → Calls Tryz.prog 83 #[.pointer (some ⟨B, 0, none⟩), vn] W fun e w' => e = .returned (.tuple #[]) ∧ PSt w B w.heap.size (w.heap.size + 1) (w.heap.size + 1 + 1) (w.heap.size + 1 + 1 + 1) #[.int .i64 6, .int .i64 n, .int .i64 ck, .int .i64 cn, .slice A cf.len C, .slice (some ⟨b', o', none⟩) 2 E] #[.slice (some ⟨b, o, none⟩) 4 4, .bool false, .bool true, .int .i64 2] (l ++ [105, 102, 32] ++ lc) (.slice (some ⟨b, o + 1, none⟩) 3 3) w') := fun W h =>
    (KT.out _ W (by simp only [List.length_append, List.length_cons, List.length_nil]; omega) h.wrote.bld).mono fun e w' ⟨h1, h2⟩ => ⟨h1, h.write h2⟩
  have KK1 : Hid (∀ W : World, PSt w B w.heap.size (w.heap.size + 1) (w.heap.size + 1 + 1) (w.heap.size + 1 + 1 + 1) #[.int .i64 6, .int .i64 n, .int .i64 ck, .int .i64 cn, .slice A cf.len C, .slice (some ⟨b', o', none⟩) 2 E] #[.slice (some ⟨b, o, none⟩) 4 4, .bool false, .bool true, .int .i64 2] (l ++ [105, 102, 32] ++ lc ++ [32, 116, 104, 101, 110, 32]) (.slice (some ⟨b, o + 1 + 1, none⟩) 2 2) W → Calls Tryz.prog 54 #[.pointer (some ⟨B, 0, none⟩), .agg #[.int .i64 k1, .int .i64 n1, .int .i64 ck1, .int .i64 cn1, .slice A1 cf1.len C1, .slice D1 f1.len E1]] W fun e w' => e = .returned (.tuple #[]) ∧ PSt w B w.heap.size (w.heap.size + 1) (w.heap.size + 1 + 1) (w.heap.size + 1 + 1 + 1) #[.int .i64 6, .int .i64 n, .int .i64 ck, .int .i64 cn, .slice A cf.len C, .slice (some ⟨b', o', none⟩) 2 E] #[.slice (some ⟨b, o, none⟩) 4 4, .bool false, .bool true, .int .i64 2] (l ++ [105, 102, 32] ++ lc ++ [32, 116, 104, 101, 110, 32] ++ la) (.slice (some ⟨b, o + 1 + 1, none⟩) 2 2) w') := fun W h =>
    (K1.out _ W hM1 (h.sees hs hB) h.wrote.bld).mono fun e w' ⟨h1, h2⟩ => ⟨h1, h.write h2⟩
  have GC1 : Hid (∀ W : World, Sees w0 W → W.cell? ⟨b', o', none⟩ = some (.int .i64 k1) ∧ W.cell? ⟨b', o' + 1, none⟩ = some (.int .i64 n1) ∧ W.cell? ⟨b', o' + 2, none⟩ = some (.int .i64 ck1) ∧ W.cell? ⟨b', o' + 3, none⟩ = some (.int .i64 cn1) ∧ W.cell? ⟨b', o' + 4, none⟩ = some (.slice A1 cf1.len C1) ∧ W.cell? ⟨b', o' + 5, none⟩ = some (.slice D1 f1.len E1)) := fun W h => ⟨kc h d10, kc h d11, kc h d12, kc h d13, kc h d14, kc h d15⟩
  have KK2 : Hid (∀ W : World, PSt w B w.heap.size (w.heap.size + 1) (w.heap.size + 1 + 1) (w.heap.size + 1 + 1 + 1) #[.int .i64 6, .int .i64 n, .int .i64 ck, .int .i64 cn, .slice A cf.len C, .slice (some ⟨b', o', none⟩) 2 E] #[.slice (some ⟨b, o, none⟩) 4 4, .bool false, .bool true, .int .i64 2] (l ++ [105, 102, 32] ++ lc ++ [32, 116, 104, 101, 110, 32] ++ la ++ [32, 101, 108, 115, 101, 32]) (.slice (some ⟨b, o + 1 + 1 + 1, none⟩) 1 1) W → Calls Tryz.prog 54 #[.pointer (some ⟨B, 0, none⟩), .agg #[.int .i64 k2, .int .i64 n2, .int .i64 ck2, .int .i64 cn2, .slice A2 cf2.len C2, .slice D2 f2.len E2]] W fun e w' => e = .returned (.tuple #[]) ∧ PSt w B w.heap.size (w.heap.size + 1) (w.heap.size + 1 + 1) (w.heap.size + 1 + 1 + 1) #[.int .i64 6, .int .i64 n, .int .i64 ck, .int .i64 cn, .slice A cf.len C, .slice (some ⟨b', o', none⟩) 2 E] #[.slice (some ⟨b, o, none⟩) 4 4, .bool false, .bool true, .int .i64 2] (l ++ [105, 102, 32] ++ lc ++ [32, 116, 104, 101, 110, 32] ++ la ++ [32, 101, 108, 115, 101, 32] ++ lb) (.slice (some ⟨b, o + 1 + 1 + 1, none⟩) 1 1) w') := fun W h =>
    (K2.out _ W hM2 (h.sees hs hB) h.wrote.bld).mono fun e w' ⟨h1, h2⟩ => ⟨h1, h.write h2⟩
  have GC2 : Hid (∀ W : World, Sees w0 W → W.cell? ⟨b', o' + 6, none⟩ = some (.int .i64 k2) ∧ W.cell? ⟨b', o' + 6 + 1, none⟩ = some (.int .i64 n2) ∧ W.cell? ⟨b', o' + 6 + 2, none⟩ = some (.int .i64 ck2) ∧ W.cell? ⟨b', o' + 6 + 3, none⟩ = some (.int .i64 cn2) ∧ W.cell? ⟨b', o' + 6 + 4, none⟩ = some (.slice A2 cf2.len C2) ∧ W.cell? ⟨b', o' + 6 + 5, none⟩ = some (.slice D2 f2.len E2)) := fun W h => ⟨kc h d20, kc h d21, kc h d22, kc h d23, kc h d24, kc h d25⟩
  have LBK : Hid (b' < w0.heap.size) := World.block_lt_of_cell? _ _ d10
  clear hs hB hb c0 c1 c2 c3 cw hl S4 p0 f3 s2 hbg lB KT hlc hA K1 hM1 hla d10 d11 d12 d13 d14 d15 K2 hM2 hlb d20 d21 d22 d23 d24 d25
  go_enter Tryz.func54, Tryz.ntmps54
  have HW4 := Lib.hid hw4
  clear hw4
  go_wp2_with fail
  rw [← HW4.out]
  clear e0 e1 e2 e3 q0 r0
  refine (KW0.out _ HS4.out).mono ?_
  rintro e w5 ⟨rfl, hx⟩
  have HS5 := Lib.hid hx
  clear hx HS4
  have u0 := Fo.cell_of_block HS5.out.form 0; have u1 := Fo.cell_of_block HS5.out.form 1; have u2 := Fo.cell_of_block HS5.out.form 2; have u3 := Fo.cell_of_block HS5.out.form 3
  obtain ⟨v0, v1, v2, v3, v4, v5⟩ := pcells6 HS5.out.prog
  have g0 := Fo.cell_of_block HS5.out.out 0
  go_wp2_with fail
  clear u0 u1 u2 u3
  have HL : Hid (St w5 [(w.heap.size, 0, .pointer (some ⟨B, 0, none⟩)), (w.heap.size + 1, 2, .int .i64 ck), (w.heap.size + 1, 3, .int .i64 cn), (w.heap.size + 1, 4, .slice A cf.len C)] w5.drew) := ⟨(Sees.refl _).drew, g0, v2, v3, v4, trivial⟩
  have HSD : Hid (PSt w B w.heap.size (w.heap.size + 1) (w.heap.size + 1 + 1) (w.heap.size + 1 + 1 + 1) #[.int .i64 6, .int .i64 n, .int .i64 ck, .int .i64 cn, .slice A cf.len C, .slice (some ⟨b', o', none⟩) 2 E] #[.slice (some ⟨b, o, none⟩) 4 4, .bool false, .bool true, .int .i64 2] (l ++ [105, 102, 32]) (.slice (some ⟨b, o + 1, none⟩) 3 3) w5.drew) := HS5.out.thenB ((Below.refl _ _).drew)
  clear v0 v1 v2 v3 v4 v5 g0
  refine wp_region_last (S := fun W' => St w5 [(w.heap.size, 0, .pointer (some ⟨B, 0, none⟩)), (w.heap.size + 1, 2, .int .i64 ck), (w.heap.size + 1, 3, .int .i64 cn), (w.heap.size + 1, 4, .slice A cf.len C)] W') 4 (by kernel_rfl) HL.out (fun HS => ?_)
  obtain ⟨wd, hwd⟩ : ∃ wd, wd = w5.drew := ⟨_, rfl⟩
  rw [← hwd] at HS HSD ⊢
  clear hwd
  refine wpAnyL_take (i := 0) (oi := { dst := some 28, op := Op.load 79 (Operand.tmp 2), type := 79, pos := "l06_programs.go:223", after := #[], guard := none }) (v := .pointer (some ⟨B, 0, none⟩)) rfl (by kernel_rfl) (by kernel_rfl) (by kernel_rfl) (by kernel_rfl) (by kernel_rfl) (fun _ _ _ h => h) (Or.inl ⟨rfl, fun W hW => by (obtain ⟨_, y0_, y1_, y2_, y3_, _⟩ := hW; go_simp; try rfl)⟩) HS ?_
  try simp only [Act.put, List.setIfInBounds_toArray, List.set_cons_zero, List.set_cons_succ]
  refine wpAnyL_take (i := 1) (oi := { dst := some 29, op := Op.fieldAddr 41 (Operand.tmp 3) 2, type := 0, pos := "l06_programs.go:223", after := #[], guard := none }) (v := .pointer (some ⟨w.heap.size + 1, 2, none⟩)) rfl (by kernel_rfl) (by kernel_rfl) (by kernel_rfl) (by kernel_rfl) (by kernel_rfl) (fun _ _ _ h => h) (Or.inl ⟨rfl, fun W hW => by (obtain ⟨_, y0_, y1_, y2_, y3_, _⟩ := hW; go_simp; try rfl)⟩) HS ?_
  try simp only [Act.put, List.setIfInBounds_toArray, List.set_cons_zero, List.set_cons_succ]
  refine wpAnyL_take (i := 2) (oi := { dst := some 30, op := Op.load 38 (Operand.tmp 29), type := 38, pos := "l06_programs.go:223", after := #[{ on := 1, ground := Ground.data }], guard := none }) (v := .agg #[.int .i64 ck, .int .i64 cn, .slice A cf.len C]) rfl (by kernel_rfl) (by kernel_rfl) (by kernel_rfl) (by kernel_rfl) (by kernel_rfl) (fun _ _ _ h => h) (Or.inl ⟨rfl, fun W hW => by (obtain ⟨_, y0_, y1_, y2_, y3_, _⟩ := hW; go_simp; try rfl)⟩) HS ?_
  try simp only [Act.put, List.setIfInBounds_toArray, List.set_cons_zero, List.set_cons_succ]
  refine wpAnyL_ready (i := 3) (o := { dst := some 31, op := Op.call { callee := Callee.value (Operand.func 53), args := #[Operand.tmp 30], argTypes := #[38] }, type := 113, pos := "l06_programs.go:223", after := #[{ on := 2, ground := Ground.data }], guard := none }) (by kernel_rfl) rfl (fun K hK => ?_)
  go_simp
  go_at_call 53
  refine (KN.out _ (HSEE.out _ _ _ HSD.out)).mono ?_
  rintro e we ⟨rfl, hbe⟩
  have HSE : Hid (PSt w B w.heap.size (w.heap.size + 1) (w.heap.size + 1 + 1) (w.heap.size + 1 + 1 + 1) #[.int .i64 6, .int .i64 n, .int .i64 ck, .int .i64 cn, .slice A cf.len C, .slice (some ⟨b', o', none⟩) 2 E] #[.slice (some ⟨b, o, none⟩) 4 4, .bool false, .bool true, .int .i64 2] (l ++ [105, 102, 32]) (.slice (some ⟨b, o + 1, none⟩) 3 3) we) := HSD.out.thenB hbe
  have HS' : St w5 [(w.heap.size, 0, .pointer (some ⟨B, 0, none⟩)), (w.heap.size + 1, 2, .int .i64 ck), (w.heap.size + 1, 3, .int .i64 cn), (w.heap.size + 1, 4, .slice A cf.len C)] we := HS.below hbe
  clear HS hbe HSD
  have HS := HS'; clear HS'
  go_simp
  refine hK.out _ _ HS ?_
  clear hK K
  try simp only [Act.put, List.setIfInBounds_toArray, List.set_cons_zero, List.set_cons_succ]
  refine wpAnyL_last (o := { dst := some 32, op := Op.call { callee := Callee.value (Operand.func 83), args := #[Operand.tmp 28, Operand.tmp 31], argTypes := #[79, 113] }, type := 0, pos := "l06_programs.go:223", after := #[{ on := 0, ground := Ground.data }, { on := 3, ground := Ground.data }, { on := 3, ground := Ground.chain }], guard := none }) (by kernel_rfl) rfl (by kernel_rfl) (fun K hK => ?_)
  go_simp
  go_at_call 83
  refine (KC.out _ HSE.out).mono ?_
  rintro e w6 ⟨rfl, hx⟩
  have HS6 := Lib.hid hx
  clear hx
  go_simp
  refine hK.out _ _ ?_
  clear hK K HS
  try simp only [Act.put]
  clear HSE HS5
  go_wp2_with fail
  refine (KW1.out _ HS6.out).mono ?_
  rintro e w7 ⟨rfl, hx⟩
  have HS7 := Lib.hid hx
  clear hx HS6
  have u0 := Fo.cell_of_block HS7.out.form 0; have u1 := Fo.cell_of_block HS7.out.form 1; have u2 := Fo.cell_of_block HS7.out.form 2; have u3 := Fo.cell_of_block HS7.out.form 3
  obtain ⟨v0, v1, v2, v3, v4, v5⟩ := pcells6 HS7.out.prog
  go_wp2_with fail
  clear u0 u1 u2 u3 v0 v1 v2 v3 v4 v5
  go_loopw [38] (fun i wr => (i = .int .i64 0 ∧ Hid (PSt w B w.heap.size (w.heap.size + 1) (w.heap.size + 1 + 1) (w.heap.size + 1 + 1 + 1) #[.int .i64 6, .int .i64 n, .int .i64 ck, .int .i64 cn, .slice A cf.len C, .slice (some ⟨b', o', none⟩) 2 E] #[.slice (some ⟨b, o, none⟩) 4 4, .bool false, .bool true, .int .i64 2] (l ++ [105, 102, 32] ++ lc ++ [32, 116, 104, 101, 110, 32]) (.slice (some ⟨b, o + 1 + 1, none⟩) 2 2) wr)) ∨ (i = .int .i64 1 ∧ Hid (PSt w B w.heap.size (w.heap.size + 1) (w.heap.size + 1 + 1) (w.heap.size + 1 + 1 + 1) #[.int .i64 6, .int .i64 n, .int .i64 ck, .int .i64 cn, .slice A cf.len C, .slice (some ⟨b', o', none⟩) 2 E] #[.slice (some ⟨b, o, none⟩) 4 4, .bool false, .bool true, .int .i64 2] (l ++ [105, 102, 32] ++ lc ++ [32, 116, 104, 101, 110, 32] ++ la ++ [32, 101, 108, 115, 101, 32]) (.slice (some ⟨b, o + 1 + 1 + 1, none⟩) 1 1) wr)) ∨ (i = .int .i64 2 ∧ Hid (PSt w B w.heap.size (w.heap.size + 1) (w.heap.size + 1 + 1) (w.heap.size + 1 + 1 + 1) #[.int .i64 6, .int .i64 n, .int .i64 ck, .int .i64 cn, .slice A cf.len C, .slice (some ⟨b', o', none⟩) 2 E] #[.slice (some ⟨b, o, none⟩) 4 4, .bool false, .bool true, .int .i64 2] (l ++ [105, 102, 32] ++ lc ++ [32, 116, 104, 101, 110, 32] ++ la ++ [32, 101, 108, 115, 101, 32] ++ lb ++ [32, 102, 105]) (.slice (some ⟨b, o + 1 + 1 + 1, none⟩) 0 0) wr))) (fun i _ => 2 - (intOf i).toNat)
  case atStart => exact Or.inl ⟨rfl, HS7.out⟩
  case round =>
    clear HS7
    rcases hrel with ⟨rfl, hS⟩ | ⟨rfl, hS⟩ | ⟨rfl, hS⟩
    · have hse := HSEE.out _ _ _ hS.out
      obtain ⟨m0, m1, m2, m3, m4, m5⟩ := GC1.out wr hse
      have zb := LBK.out
      have lbr : b' < wr.heap.size := Nat.lt_of_lt_of_le zb hse.size
      obtain ⟨wk, hwk⟩ : ∃ wk, wk = wr.alloc (.cells #[.int .i64 k1, .int .i64 n1, .int .i64 ck1, .int .i64 cn1, .slice A1 cf1.len C1, .slice D1 f1.len E1] 41) := ⟨_, rfl⟩
      have HSk : Hid (PSt w B w.heap.size (w.heap.size + 1) (w.heap.size + 1 + 1) (w.heap.size + 1 + 1 + 1) #[.int .i64 6, .int .i64 n, .int .i64 ck, .int .i64 cn, .slice A cf.len C, .slice (some ⟨b', o', none⟩) 2 E] #[.slice (some ⟨b, o, none⟩) 4 4, .bool false, .bool true, .int .i64 2] (l ++ [105, 102, 32] ++ lc ++ [32, 116, 104, 101, 110, 32]) (.slice (some ⟨b, o + 1 + 1, none⟩) 2 2) wk) := by show PSt _ _ _ _ _ _ _ _ _ _ _; rw [hwk]; exact hS.out.thenB ((Below.refl _ _).alloc (Nat.le_refl _) _)
      have hkb : wk.heap[wr.heap.size]? = some (.cells #[.int .i64 k1, .int .i64 n1, .int .i64 ck1, .int .i64 cn1, .slice A1 cf1.len C1, .slice D1 f1.len E1] 41 (0, 0)) := by rw [hwk]; exact heap_new _ _ _ rfl
      obtain ⟨t0, t1, t2, t3, t4, t5⟩ := pcells6 hkb
      have g0 := Fo.cell_of_block HSk.out.out 0
      rw [hwk] at t0 t1 t2 t3 t4 t5 g0
      clear hse zb hS hkb
      have HWK := Lib.hid hwk
      clear hwk
      go_wp2_with fail
      rw [← HWK.out]
      clear m0 m1 m2 m3 m4 m5 t0 t1 t2 t3 t4 t5 g0 lbr
      refine (KK1.out _ HSk.out).mono ?_
      rintro e wy ⟨rfl, hy⟩
      have HSy := Lib.hid hy
      clear hy HSk
      go_wp2_with fail
      refine (KW2.out _ HSy.out).mono ?_
      rintro e wz ⟨rfl, hz⟩
      have HSz := Lib.hid hz
      clear hz HSy
      go_wp2_with fail
      go_roundw
      case rel => exact Or.inr (Or.inl ⟨by first | rfl | go_num, HSz.out⟩)
      case measure => simp [intOf]
    · have hse := HSEE.out _ _ _ hS.out
      obtain ⟨m0, m1, m2, m3, m4, m5⟩ := GC2.out wr hse
      have zb := LBK.out
      have lbr : b' < wr.heap.size := Nat.lt_of_lt_of_le zb hse.size
      obtain ⟨wk, hwk⟩ : ∃ wk, wk = wr.alloc (.cells #[.int .i64 k2, .int .i64 n2, .int .i64 ck2, .int .i64 cn2, .slice A2 cf2.len C2, .slice D2 f2.len E2] 41) := ⟨_, rfl⟩
      have HSk : Hid (PSt w B w.heap.size (w.heap.size + 1) (w.heap.size + 1 + 1) (w.heap.size + 1 + 1 + 1) #[.int .i64 6, .int .i64 n, .int .i64 ck, .int .i64 cn, .slice A cf.len C, .slice (some ⟨b', o', none⟩) 2 E] #[.slice (some ⟨b, o, none⟩) 4 4, .bool false, .bool true, .int .i64 2] (l ++ [105, 102, 32] ++ lc ++ [32, 116, 104, 101, 110, 32] ++ la ++ [32, 101, 108, 115, 101, 32]) (.slice (some ⟨b, o + 1 + 1 + 1, none⟩) 1 1) wk) := by show PSt _ _ _ _ _ _ _ _ _ _ _; rw [hwk]; exact hS.out.thenB ((Below.refl _ _).alloc (Nat.le_refl _) _)
      have hkb : wk.heap[wr.heap.size]? = some (.cells #[.int .i64 k2, .int .i64 n2, .int .i64 ck2, .int .i64 cn2, .slice A2 cf2.len C2, .slice D2 f2.len E2] 41 (0, 0)) := by rw [hwk]; exact heap_new _ _ _ rfl
      obtain ⟨t0, t1, t2, t3, t4, t5⟩ := pcells6 hkb
      have g0 := Fo.cell_of_block HSk.out.out 0
      rw [hwk] at t0 t1 t2 t3 t4 t5 g0
      clear hse zb hS hkb
      have HWK := Lib.hid hwk
      clear hwk
      go_wp2_with fail
      rw [← HWK.out]
      clear m0 m1 m2 m3 m4 m5 t0 t1 t2 t3 t4 t5 g0 lbr
      refine (KK2.out _ HSk.out).mono ?_
      rintro e wy ⟨rfl, hy⟩
      have HSy := Lib.hid hy
      clear hy HSk
      go_wp2_with fail
      refine (KW3.out _ HSy.out).mono ?_
      rintro e wz ⟨rfl, hz⟩
      have HSz := Lib.hid hz
      clear hz HSy
      go_wp2_with fail
      go_roundw
      case rel => exact Or.inr (Or.inr (⟨by first | rfl | go_num, HSz.out⟩))
      case measure => simp [intOf]
    · go_wp2_with fail
      go_end0
      exact ⟨rfl, hS.out.wrote⟩
set_option maxRecDepth 100000 in
set_option maxHeartbeats 8000000 in
theorem writeProg_7 (w0 : World) (n ck cn : Int) (cf : Fo) (k1 n1 ck1 cn1 : Int) (cf1 : Fo) (f1 : Pg) (A : Option Addr) (C : Nat) (D : Option Addr) (E : Nat) (B : Nat) (b' o' : Nat) (A1 D1 : Option Addr) (C1 E1 : Nat) (lc : List UInt8) (vn : Value) (hlc : lc.length ≤ 83886080) (hA : cf.Lies w0 A)
    (KN : Hid (∀ W : World, Sees w0 W → Calls Tryz.prog 53 #[.agg #[.int .i64 ck, .int .i64 cn, .slice A cf.len C]] W fun e w' => e = .returned vn ∧ Below W.heap.size W w'))
    (KT : Hid (∀ (L : List UInt8) (W : World), L.length ≤ 1099500000000 → Bld B L W → Calls Tryz.prog 83 #[.pointer (some ⟨B, 0, none⟩), vn] W fun e w' => e = .returned (.tuple #[]) ∧ Wrote B (L ++ lc) W w')) (la : List UInt8) (hla : la.length ≤ 83886080) (M1 : Nat)
    (K1 : Hid (∀ (L : List UInt8) (W : World), L.length ≤ M1 → Sees w0 W → Bld B L W → Calls Tryz.prog 54 #[.pointer (some ⟨B, 0, none⟩), .agg #[.int .i64 k1, .int .i64 n1, .int .i64 ck1, .int .i64 cn1, .slice A1 cf1.len C1, .slice D1 f1.len E1]] W fun e w' => e = .returned (.tuple #[]) ∧ Wrote B (L ++ la) W w')) (d10 : w0.cell? ⟨b', o', none⟩ = some (.int .i64 k1)) (d11 : w0.cell? ⟨b', o' + 1, none⟩ = some (.int .i64 n1)) (d12 : w0.cell? ⟨b', o' + 2, none⟩ = some (.int .i64 ck1)) (d13 : w0.cell? ⟨b', o' + 3, none⟩ = some (.int .i64 cn1)) (d14 : w0.cell? ⟨b', o' + 4, none⟩ = some (.slice A1 cf1.len C1)) (d15 : w0.cell? ⟨b', o' + 5, none⟩ = some (.slice D1 f1.len E1)) (hD : D = some ⟨b', o', none⟩) (hF : FormAt w0 7 false true 1) (hW : WordsAt w0 7 [[119, 104, 105, 108, 101, 32], [32, 100, 111, 32], [32, 111, 100]])
    (l : List UInt8) (hl : l.length ≤ 1099411000000) (hM1 : (l ++ [119, 104, 105, 108, 101, 32] ++ lc ++ [32, 100, 111, 32]).length ≤ M1) (w : World) (hs : Sees w0 w) (hB : w0.heap.size ≤ B) (hb : Bld B l w) :
    Calls Tryz.prog 54 #[.pointer (some ⟨B, 0, none⟩), .agg #[.int .i64 7, .int .i64 n, .int .i64 ck, .int .i64 cn, .slice A cf.len C, .slice D 1 E]] w fun e w' => e = .returned (.tuple #[]) ∧ Wrote B (l ++ [119, 104, 105, 108, 101, 32] ++ lc ++ [32, 100, 111, 32] ++ la ++ [32, 111, 100]) w w' := by
  obtain ⟨b, o, c0, cw⟩ := hW
  obtain ⟨Wd, lw, Cw, c0', c1, c2, c3⟩ := hF
  have hbg : 0 < w0.heap.size := World.block_lt_of_cell? _ _ c0
  clear c0' Wd lw Cw
  subst hD
  have lB : B < w.heap.size := hb.lt
  obtain ⟨w4, hw4⟩ : ∃ w4, w4 = (((w.alloc (.cells #[.pointer (some ⟨B, 0, none⟩)] 79)).alloc (.cells #[.int .i64 7, .int .i64 n, .int .i64 ck, .int .i64 cn, .slice A cf.len C, .slice (some ⟨b', o', none⟩) 1 E] 41)).alloc (.cells #[.slice (some ⟨b, o, none⟩) 3 3, .bool false, .bool true, .int .i64 1] 172)).alloc (.cells #[.slice (some ⟨b, o, none⟩) 3 3] 170) := ⟨_, rfl⟩
  have S4 : PSt w B w.heap.size (w.heap.size + 1) (w.heap.size + 1 + 1) (w.heap.size + 1 + 1 + 1) #[.int .i64 7, .int .i64 n, .int .i64 ck, .int .i64 cn, .slice A cf.len C, .slice (some ⟨b', o', none⟩) 1 E] #[.slice (some ⟨b, o, none⟩) 3 3, .bool false, .bool true, .int .i64 1] (l) (.slice (some ⟨b, o, none⟩) 3 3) w4 := by
    refine ⟨by rw [hw4]; exact ((((Wrote.start hb).alloc _).alloc _).alloc _).alloc _, ?_, ?_, ?_, ?_, by omega⟩
    · rw [hw4]; exact (Below.heap_alloc _ _ _ (by simp <;> omega)).trans ((Below.heap_alloc _ _ _ (by simp <;> omega)).trans ((Below.heap_alloc _ _ _ (by simp)).trans (heap_new _ _ _ rfl)))
    · rw [hw4]; exact (Below.heap_alloc _ _ _ (by simp <;> omega)).trans ((Below.heap_alloc _ _ _ (by simp)).trans (heap_new _ _ _ (by simp)))
    · rw [hw4]; exact (Below.heap_alloc _ _ _ (by simp)).trans (heap_new _ _ _ (by simp))
    · rw [hw4]; exact heap_new _ _ _ (by simp)
  have HS4 := Lib.hid S4
  have HSEE : Hid (∀ (L : List UInt8) (v : Value) (W : World), PSt w B w.heap.size (w.heap.size + 1) (w.heap.size + 1 + 1) (w.heap.size + 1 + 1 + 1) #[.int .i64 7, .int .i64 n, .int .i64 ck, .int .i64 cn, .slice A cf.len C, .slice (some ⟨b', o', none⟩) 1 E] #[.slice (some ⟨b, o, none⟩) 3 3, .bool false, .bool true, .int .i64 1] L v W → Sees w0 W) := fun L v W h => h.sees hs hB
  have s2 : Sees w0 ((w.alloc (.cells #[.pointer (some ⟨B, 0, none⟩)] 79)).alloc (.cells #[.int .i64 7, .int .i64 n, .int .i64 ck, .int .i64 cn, .slice A cf.len C, .slice (some ⟨b', o', none⟩) 1 E] 41)) := (hs.alloc _).alloc _
  have e0 := kc s2 c0; have e1 := kc s2 c1; have e2 := kc s2 c2; have e3 := kc s2 c3
  have p0 : ((w.alloc (.cells #[.pointer (some ⟨B, 0, none⟩)] 79)).alloc (.cells #[.int .i64 7, .int .i64 n, .int .i64 ck, .int .i64 cn, .slice A cf.len C, .slice (some ⟨b', o', none⟩) 1 E] 41)).heap[w.heap.size + 1]? = some (.cells #[.int .i64 7, .int .i64 n, .int .i64 ck, .int .i64 cn, .slice A cf.len C, .slice (some ⟨b', o', none⟩) 1 E] 41 (0, 0)) := heap_new _ _ _ (by simp)
  obtain ⟨q0, _, _, _, _, _⟩ := pcells6 p0
  have f3 : (((w.alloc (.cells #[.pointer (some ⟨B, 0, none⟩)] 79)).alloc (.cells #[.int .i64 7, .int .i64 n, .int .i64 ck, .int .i64 cn, .slice A cf.len C, .slice (some ⟨b', o', none⟩) 1 E] 41)).alloc (.cells #[.slice (some ⟨b, o, none⟩) 3 3, .bool false, .bool true, .int .i64 1] 172)).heap[w.heap.size + 1 + 1]? = some (.cells #[.slice (some ⟨b, o, none⟩) 3 3, .bool false, .bool true, .int .i64 1] 172 (0, 0)) := heap_new _ _ _ (by simp)
  have r0 := Fo.cell_of_block f3 0
  have KW0 : Hid (∀ W : World, PSt w B w.heap.size (w.heap.size + 1) (w.heap.size + 1 + 1) (w.heap.size + 1 + 1 + 1) #[.int .i64 7, .int .i64 n, .int .i64 ck, .int .i64 cn, .slice A cf.len C, .slice (some ⟨b', o', none⟩) 1 E] #[.slice (some ⟨b, o, none⟩) 3 3, .bool false, .bool true, .int .i64 1] (l) (.slice (some ⟨b, o, none⟩) 3 3) W → Calls Tryz.prog 88 #[.pointer (some ⟨w.heap.size, 0, none⟩), .pointer (some ⟨w.heap.size + 1 + 1 + 1, 0, none⟩)] W fun e w' => e = .returned (.tuple #[]) ∧ PSt w B w.heap.size (w.heap.size + 1) (w.heap.size + 1 + 1) (w.heap.size + 1 + 1 + 1) #[.int .i64 7, .int .i64 n, .int .i64 ck, .int .i64 cn, .slice A cf.len C, .slice (some ⟨b', o', none⟩) 1 E] #[.slice (some ⟨b, o, none⟩) 3 3, .bool false, .bool true, .int .i64 1] (l ++ [119, 104, 105, 108, 101, 32]) (.slice (some ⟨b, o + 1, none⟩) 2 2) w') := fun W h =>
    (word_3 h.wrote.bld h.out h.words (kc (h.sees hs hB) (cw 0 _ rfl)) (by omega) (by simp only [List.length_cons, List.length_nil]; omega)).mono fun e w' ⟨h1, h2⟩ => ⟨h1, h.word h2⟩
  have KW1 : Hid (∀ W : World, PSt w B w.heap.size (w.heap.size + 1) (w.heap.size + 1 + 1) (w.heap.size + 1 + 1 + 1) #[.int .i64 7, .int .i64 n, .int .i64 ck, .int .i64 cn, .slice A cf.len C, .slice (some ⟨b', o', none⟩) 1 E] #[.slice (some ⟨b, o, none⟩) 3 3, .bool false, .bool true, .int .i64 1] (l ++ [119, 104, 105, 108, 101, 32] ++ lc) (.slice (some ⟨b, o + 1, none⟩) 2 2) W → Calls Tryz.prog 88 #[.pointer (some ⟨w.heap.size, 0, none⟩), .pointer (some ⟨w.heap.size + 1 + 1 + 1, 0, none⟩)] W fun e w' => e = .returned (.tuple #[]) ∧ PSt w B w.heap.size (w.heap.size + 1) (w.heap.size + 1 + 1) (w.heap.size + 1 + 1 + 1) #[.int .i64 7, .int .i64 n, .int .i64 ck, .int .i64 cn, .slice A cf.len C, .slice (some ⟨b', o', none⟩) 1 E] #[.slice (some ⟨b, o, none⟩) 3 3, .bool false, .bool true, .int .i64 1] (l ++ [119, 104, 105, 108, 101, 32] ++ lc ++ [32, 100, 111, 32]) (.slice (some ⟨b, o + 1 + 1, none⟩) 1 1) w') := fun W h =>
    (word_2 h.wrote.bld h.out h.words (kc (h.sees hs hB) (cw 1 _ rfl)) (by omega) (by simp only [List.length_append, List.length_cons, List.length_nil]; omega)).mono fun e w' ⟨h1, h2⟩ => ⟨h1, h.word h2⟩
  have KW2 : Hid (∀ W : World, PSt w B w.heap.size (w.heap.size + 1) (w.heap.size + 1 + 1) (w.heap.size + 1 + 1 + 1) #[.int .i64 7, .int .i64 n, .int .i64 ck, .int .i64 cn, .slice A cf.len C, .slice (some ⟨b', o', none⟩) 1 E] #[.slice (some ⟨b, o, none⟩) 3 3, .bool false, .bool true, .int .i64 1] (l ++ [119, 104, 105, 108, 101, 32] ++ lc ++ [32, 100, 111, 32] ++ la) (.slice (some ⟨b, o + 1 + 1, none⟩) 1 1) W → Calls Tryz.prog 88 #[.pointer (some ⟨w.heap.size, 0, none⟩), .pointer (some ⟨w.heap.size + 1 + 1 + 1, 0, none⟩)] W fun e w' => e = .returned (.tuple #[]) ∧ PSt w B w.heap.size (w.heap.size + 1) (w.heap.size + 1 + 1) (w.heap.size + 1 + 1 + 1) #[.int .i64 7, .int .i64 n, .int .i64 ck, .int .i64 cn, .slice A cf.len C, .slice (some ⟨b', o', none⟩) 1 E] #[.slice (some ⟨b, o, none⟩) 3 3, .bool false, .bool true, .int .i64 1] (l ++ [119, 104, 105, 108, 101, 32] ++ lc ++ [32, 100, 111, 32] ++ la ++ [32, 111, 100]) (.slice (some ⟨b, o + 1 + 1, none⟩) 0 0) w') := fun W h =>
    (word_1 h.wrote.bld h.out h.words (kc (h.sees hs hB) (cw 2 _ rfl)) (by omega) (by simp only [List.length_append, List.length_cons, List.length_nil]; omega)).mono fun e w' ⟨h1, h2⟩ => ⟨h1, h.word h2⟩
  have KC : Hid (∀ W : World, PSt w B w.heap.size (w.heap.size + 1) (w.heap.size + 1 + 1) (w.heap.size + 1 + 1 + 1) #[.int .i64 7, .int .i64 n, .int .i64 ck, .int .i64 cn, .slice A cf.len C, .slice (some ⟨b', o', none⟩) 1 E] #[.slice (some ⟨b, o, none⟩) 3 3, .bool false, .bool true, .int .i64 1] (l ++ [119, 104, 105, 108, 101, 32]) (.slice (some ⟨b, o + 1, none⟩) 2 2) W → Calls Tryz.prog 83 #[.pointer (some ⟨B, 0, none⟩), vn] W fun e w' => e = .returned (.tuple #[]) ∧ PSt w B w.heap.size (w.heap.size + 1) (w.heap.size + 1 + 1) (w.heap.size + 1 + 1 + 1) #[.int .i64 7, .int .i64 n, .int .i64 ck, .int .i64 cn, .slice A cf.len C, .slice (some ⟨b', o', none⟩) 1 E] #[.slice (some ⟨b, o, none⟩) 3 3, .bool false, .bool true, .int .i64 1] (l ++ [119, 104, 105, 108, 101, 32] ++ lc) (.slice (some ⟨b, o + 1, none⟩) 2 2) w') := fun W h =>
    (KT.out _ W (by simp only [List.length_append, List.length_cons, List.length_nil]; omega) h.wrote.bld).mono fun e w' ⟨h1, h2⟩ => ⟨h1, h.write h2⟩
  have KK1 : Hid (∀ W : World, PSt w B w.heap.size (w.heap.size + 1) (w.heap.size + 1 + 1) (w.heap.size + 1 + 1 + 1) #[.int .i64 7, .int .i64 n, .int .i64 ck, .int .i64 cn, .slice A cf.len C, .slice (some ⟨b', o', none⟩) 1 E] #[.slice (some ⟨b, o, none⟩) 3 3, .bool false, .bool true, .int .i64 1] (l ++ [119, 104, 105, 108, 101, 32] ++ lc ++ [32, 100, 111, 32]) (.slice (some ⟨b, o + 1 + 1, none⟩) 1 1) W → Calls Tryz.prog 54 #[.pointer (some ⟨B, 0, none⟩), .agg #[.int .i64 k1, .int .i64 n1, .int .i64 ck1, .int .i64 cn1, .slice A1 cf1.len C1, .slice D1 f1.len E1]] W fun e w' => e = .returned (.tuple #[]) ∧ PSt w B w.heap.size (w.heap.size + 1) (w.heap.size + 1 + 1) (w.heap.size + 1 + 1 + 1) #[.int .i64 7, .int .i64 n, .int .i64 ck, .int .i64 cn, .slice A cf.len C, .slice (some ⟨b', o', none⟩) 1 E] #[.slice (some ⟨b, o, none⟩) 3 3, .bool false, .bool true, .int .i64 1] (l ++ [119, 104, 105, 108, 101, 32] ++ lc ++ [32, 100, 111, 32] ++ la) (.slice (some ⟨b, o + 1 + 1, none⟩) 1 1) w') := fun W h =>
    (K1.out _ W hM1 (h.sees hs hB) h.wrote.bld).mono fun e w' ⟨h1, h2⟩ => ⟨h1, h.write h2⟩
  have GC1 : Hid (∀ W : World, Sees w0 W → W.cell? ⟨b', o', none⟩ = some (.int .i64 k1) ∧ W.cell? ⟨b', o' + 1, none⟩ = some (.int .i64 n1) ∧ W.cell? ⟨b', o' + 2, none⟩ = some (.int .i64 ck1) ∧ W.cell? ⟨b', o' + 3, none⟩ = some (.int .i64 cn1) ∧ W.cell? ⟨b', o' + 4, none⟩ = some (.slice A1 cf1.len C1) ∧ W.cell? ⟨b', o' + 5, none⟩ = some (.slice D1 f1.len E1)) := fun W h => ⟨kc h d10, kc h d11, kc h d12, kc h d13, kc h d14, kc h d15⟩
  have LBK : Hid (b' < w0.heap.size) := World.block_lt_of_cell? _ _ d10
  clear hs hB hb c0 c1 c2 c3 cw hl S4 p0 f3 s2 hbg lB KT hlc hA K1 hM1 hla d10 d11 d12 d13 d14 d15
  go_enter Tryz.func54, Tryz.ntmps54
  have HW4 := Lib.hid hw4
  clear hw4
  go_wp2_with fail
  rw [← HW4.out]
  clear e0 e1 e2 e3 q0 r0
  refine (KW0.out _ HS4.out).mono ?_
  rintro e w5 ⟨rfl, hx⟩
  have HS5 := Lib.hid hx
  clear hx HS4
  have u0 := Fo.cell_of_block HS5.out.form 0; have u1 := Fo.cell_of_block HS5.out.form 1; have u2 := Fo.cell_of_block HS5.out.form 2; have u3 := Fo.cell_of_block HS5.out.form 3
  obtain ⟨v0, v1, v2, v3, v4, v5⟩ := pcells6 HS5.out.prog
  have g0 := Fo.cell_of_block HS5.out.out 0
  go_wp2_with fail
  clear u0 u1 u2 u3
  have HL : Hid (St w5 [(w.heap.size, 0, .pointer (some ⟨B, 0, none⟩)), (w.heap.size + 1, 2, .int .i64 ck), (w.heap.size + 1, 3, .int .i64 cn), (w.heap.size + 1, 4, .slice A cf.len C)] w5.drew) := ⟨(Sees.refl _).drew, g0, v2, v3, v4, trivial⟩
  have HSD : Hid (PSt w B w.heap.size (w.heap.size + 1) (w.heap.size + 1 + 1) (w.heap.size + 1 + 1 + 1) #[.int .i64 7, .int .i64 n, .int .i64 ck, .int .i64 cn, .slice A cf.len C, .slice (some ⟨b', o', none⟩) 1 E] #[.slice (some ⟨b, o, none⟩) 3 3, .bool false, .bool true, .int .i64 1] (l ++ [119, 104, 105, 108, 101, 32]) (.slice (some ⟨b, o + 1, none⟩) 2 2) w5.drew) := HS5.out.thenB ((Below.refl _ _).drew)
  clear v0 v1 v2 v3 v4 v5 g0
  refine wp_region_last (S := fun W' => St w5 [(w.heap.size, 0, .pointer (some ⟨B, 0, none⟩)), (w.heap.size + 1, 2, .int .i64 ck), (w.heap.size + 1, 3, .int .i64 cn), (w.heap.size + 1, 4, .slice A cf.len C)] W') 4 (by kernel_rfl) HL.out (fun HS => ?_)
  obtain ⟨wd, hwd⟩ : ∃ wd, wd = w5.drew := ⟨_, rfl⟩
  rw [← hwd] at HS HSD ⊢
  clear hwd
  refine wpAnyL_take (i := 0) (oi := { dst := some 28, op := Op.load 79 (Operand.tmp 2), type := 79, pos := "l06_programs.go:223", after := #[], guard := none }) (v := .pointer (some ⟨B, 0, none⟩)) rfl (by kernel_rfl) (by kernel_rfl) (by kernel_rfl) (by kernel_rfl) (by kernel_rfl) (fun _ _ _ h => h) (Or.inl ⟨rfl, fun W hW => by (obtain ⟨_, y0_, y1_, y2_, y3_, _⟩ := hW; go_simp; try rfl)⟩) HS ?_
  try simp only [Act.put, List.setIfInBounds_toArray, List.set_cons_zero, List.set_cons_succ]
  refine wpAnyL_take (i := 1) (oi := { dst := some 29, op := Op.fieldAddr 41 (Operand.tmp 3) 2, type := 0, pos := "l06_programs.go:223", after := #[], guard := none }) (v := .pointer (some ⟨w.heap.size + 1, 2, none⟩)) rfl (by kernel_rfl) (by kernel_rfl) (by kernel_rfl) (by kernel_rfl) (by kernel_rfl) (fun _ _ _ h => h) (Or.inl ⟨rfl, fun W hW => by (obtain ⟨_, y0_, y1_, y2_, y3_, _⟩ := hW; go_simp; try rfl)⟩) HS ?_
  try simp only [Act.put, List.setIfInBounds_toArray, List.set_cons_zero, List.set_cons_succ]
  refine wpAnyL_take (i := 2) (oi := { dst := some 30, op := Op.load 38 (Operand.tmp 29), type := 38, pos := "l06_programs.go:223", after := #[{ on := 1, ground := Ground.data }], guard := none }) (v := .agg #[.int .i64 ck, .int .i64 cn, .slice A cf.len C]) rfl (by kernel_rfl) (by kernel_rfl) (by kernel_rfl) (by kernel_rfl) (by kernel_rfl) (fun _ _ _ h => h) (Or.inl ⟨rfl, fun W hW => by (obtain ⟨_, y0_, y1_, y2_, y3_, _⟩ := hW; go_simp; try rfl)⟩) HS ?_
  try simp only [Act.put, List.setIfInBounds_toArray, List.set_cons_zero, List.set_cons_succ]
  refine wpAnyL_ready (i := 3) (o := { dst := some 31, op := Op.call { callee := Callee.value (Operand.func 53), args := #[Operand.tmp 30], argTypes := #[38] }, type := 113, pos := "l06_programs.go:223", after := #[{ on := 2, ground := Ground.data }], guard := none }) (by kernel_rfl) rfl (fun K hK => ?_)
  go_simp
  go_at_call 53
  refine (KN.out _ (HSEE.out _ _ _ HSD.out)).mono ?_
  rintro e we ⟨rfl, hbe⟩
  have HSE : Hid (PSt w B w.heap.size (w.heap.size + 1) (w.heap.size + 1 + 1) (w.heap.size + 1 + 1 + 1) #[.int .i64 7, .int .i64 n, .int .i64 ck, .int .i64 cn, .slice A cf.len C, .slice (some ⟨b', o', none⟩) 1 E] #[.slice (some ⟨b, o, none⟩) 3 3, .bool false, .bool true, .int .i64 1] (l ++ [119, 104, 105, 108, 101, 32]) (.slice (some ⟨b, o + 1, none⟩) 2 2) we) := HSD.out.thenB hbe
  have HS' : St w5 [(w.heap.size, 0, .pointer (some ⟨B, 0, none⟩)), (w.heap.size + 1, 2, .int .i64 ck), (w.heap.size + 1, 3, .int .i64 cn), (w.heap.size + 1, 4, .slice A cf.len C)] we := HS.below hbe
  clear HS hbe HSD
  have HS := HS'; clear HS'
  go_simp
  refine hK.out _ _ HS ?_
  clear hK K
  try simp only [Act.put, List.setIfInBounds_toArray, List.set_cons_zero, List.set_cons_succ]
  refine wpAnyL_last (o := { dst := some 32, op := Op.call { callee := Callee.value (Operand.func 83), args := #[Operand.tmp 28, Operand.tmp 31], argTypes := #[79, 113] }, type := 0, pos := "l06_programs.go:223", after := #[{ on := 0, ground := Ground.data }, { on := 3, ground := Ground.data }, { on := 3, ground := Ground.chain }], guard := none }) (by kernel_rfl) rfl (by kernel_rfl) (fun K hK => ?_)
  go_simp
  go_at_call 83
  refine (KC.out _ HSE.out).mono ?_
  rintro e w6 ⟨rfl, hx⟩
  have HS6 := Lib.hid hx
  clear hx
  go_simp
  refine hK.out _ _ ?_
  clear hK K HS
  try simp only [Act.put]
  clear HSE HS5
  go_wp2_with fail
  refine (KW1.out _ HS6.out).mono ?_
  rintro e w7 ⟨rfl, hx⟩
  have HS7 := Lib.hid hx
  clear hx HS6
  have u0 := Fo.cell_of_block HS7.out.form 0; have u1 := Fo.cell_of_block HS7.out.form 1; have u2 := Fo.cell_of_block HS7.out.form 2; have u3 := Fo.cell_of_block HS7.out.form 3
  obtain ⟨v0, v1, v2, v3, v4, v5⟩ := pcells6 HS7.out.prog
  go_wp2_with fail
  clear u0 u1 u2 u3 v0 v1 v2 v3 v4 v5
  go_loopw [38] (fun i wr => (i = .int .i64 0 ∧ Hid (PSt w B w.heap.size (w.heap.size + 1) (w.heap.size + 1 + 1) (w.heap.size + 1 + 1 + 1) #[.int .i64 7, .int .i64 n, .int .i64 ck, .int .i64 cn, .slice A cf.len C, .slice (some ⟨b', o', none⟩) 1 E] #[.slice (some ⟨b, o, none⟩) 3 3, .bool false, .bool true, .int .i64 1] (l ++ [119, 104, 105, 108, 101, 32] ++ lc ++ [32, 100, 111, 32]) (.slice (some ⟨b, o + 1 + 1, none⟩) 1 1) wr)) ∨ (i = .int .i64 1 ∧ Hid (PSt w B w.heap.size (w.heap.size + 1) (w.heap.size + 1 + 1) (w.heap.size + 1 + 1 + 1) #[.int .i64 7, .int .i64 n, .int .i64 ck, .int .i64 cn, .slice A cf.len C, .slice (some ⟨b', o', none⟩) 1 E] #[.slice (some ⟨b, o, none⟩) 3 3, .bool false, .bool true, .int .i64 1] (l ++ [119, 104, 105, 108, 101, 32] ++ lc ++ [32, 100, 111, 32] ++ la ++ [32, 111, 100]) (.slice (some ⟨b, o + 1 + 1, none⟩) 0 0) wr))) (fun i _ => 1 - (intOf i).toNat)
  case atStart => exact Or.inl ⟨rfl, HS7.out⟩
  case round =>
    clear HS7
    rcases hrel with ⟨rfl, hS⟩ | ⟨rfl, hS⟩
    · have hse := HSEE.out _ _ _ hS.out
      obtain ⟨m0, m1, m2, m3, m4, m5⟩ := GC1.out wr hse
      have zb := LBK.out
      have lbr : b' < wr.heap.size := Nat.lt_of_lt_of_le zb hse.size
      obtain ⟨wk, hwk⟩ : ∃ wk, wk = wr.alloc (.cells #[.int .i64 k1, .int .i64 n1, .int .i64 ck1, .int .i64 cn1, .slice A1 cf1.len C1, .slice D1 f1.len E1] 41) := ⟨_, rfl⟩
      have HSk : Hid (PSt w B w.heap.size (w.heap.size + 1) (w.heap.size + 1 + 1) (w.heap.size + 1 + 1 + 1) #[.int .i64 7, .int .i64 n, .int .i64 ck, .int .i64 cn, .slice A cf.len C, .slice (some ⟨b', o', none⟩) 1 E] #[.slice (some ⟨b, o, none⟩) 3 3, .bool false, .bool true, .int .i64 1] (l ++ [119, 104, 105, 108, 101, 32] ++ lc ++ [32, 100, 111, 32]) (.slice (some ⟨b, o + 1 + 1, none⟩) 1 1) wk) := by show PSt _ _ _ _ _ _ _ _ _ _ _; rw [hwk]; exact hS.out.thenB ((Below.refl _ _).alloc (Nat.le_refl _) _)
      have hkb : wk.heap[wr.heap.size]? = some (.cells #[.int .i64 k1, .int .i64 n1, .int .i64 ck1, .int .i64 cn1, .slice A1 cf1.len C1, .slice D1 f1.len E1] 41 (0, 0)) := by rw [hwk]; exact heap_new _ _ _ rfl
      obtain ⟨t0, t1, t2, t3, t4, t5⟩ := pcells6 hkb
      have g0 := Fo.cell_of_block HSk.out.out 0
      rw [hwk] at t0 t1 t2 t3 t4 t5 g0
      clear hse zb hS hkb
      have HWK := Lib.hid hwk
      clear hwk
      go_wp2_with fail
      rw [← HWK.out]
      clear m0 m1 m2 m3 m4 m5 t0 t1 t2 t3 t4 t5 g0 lbr
      refine (KK1.out _ HSk.out).mono ?_
      rintro e wy ⟨rfl, hy⟩
      have HSy := Lib.hid hy
      clear hy HSk
      go_wp2_with fail
      refine (KW2.out _ HSy.out).mono ?_
      rintro e wz ⟨rfl, hz⟩
      have HSz := Lib.hid hz
      clear hz HSy
      go_wp2_with fail
      go_roundw
      case rel => exact Or.inr (⟨by first | rfl | go_num, HSz.out⟩)
      case measure => simp [intOf]
    · go_wp2_with fail
      go_end0
      exact ⟨rfl, hS.out.wrote⟩
end Go.Proofs.YtcgbepmhfimbjaaGreatDoor

namespace Go.Proofs.YtcgbepmhfimbjaaGreatDoor
open Go.RowKit
set_option linter.unusedVariables false

set_option maxRecDepth 100000 in
set_option maxHeartbeats 4000000 in
theorem writeProg_any (t a : Int) (ha : a ≤ 4) (w0 : World) (hF : Forms w0) (hW : FWords w0) : ∀ (N : Nat) (cf : Fo) (f : Pg), cf.nodes + f.nodes < N → cf.nodes + f.nodes ≤ 1048576 → ∀ (k n ck cn : Int) (A D : Option Addr) (C E : Nat) (l : List UInt8) (B : Nat) (w : World), ptreeE t a k n ck cn cf f = true → cf.Lies w0 A → f.Lies w0 D → l.length + 40 * (1 + cf.nodes + f.nodes) ≤ 1099000000000 → Sees w0 w → w0.heap.size ≤ B → Bld B l w →
      Calls Tryz.prog 54 #[.pointer (some ⟨B, 0, none⟩), .agg #[.int .i64 k, .int .i64 n, .int .i64 ck, .int .i64 cn, .slice A cf.len C, .slice D f.len E]] w fun e w' => e = .returned (.tuple #[]) ∧ Wrote B (l ++ ptE k n ck cn cf f) w w' := by
  intro N
  induction N with
  | zero => intro cf f hN; exact absurd hN (Nat.not_lt_zero _)
  | succ N ih =>
    intro cf f hN hm k n ck cn A D C E l B w ht hA hD hl hs hB hb
    rcases ptree_forms ht with ⟨rfl, hk⟩ | ⟨k1, n1, ck1, cn1, cf1, f1, rfl, rfl, hc, h1⟩ | ⟨k1, n1, ck1, cn1, cf1, f1, k2, n2, ck2, cn2, cf2, f2, rfl, hk, h1, h2⟩
    · simp only [Pg.nodes] at hN hm hl
      rcases hk with rfl | rfl | ⟨rfl, hn0, hn1⟩ | ⟨rfl, hc⟩
      · exact (writeProg_1 w0 n ck cn cf A C D E B hF.f1 hW.f1 l (by omega) w hs hB hb).mono fun e w' ⟨g1, g2⟩ => ⟨g1, g2.to (by simp [ptE, ptN])⟩
      · exact (writeProg_2 w0 n ck cn cf A C D E B hF.f2 hW.f2 l (by omega) w hs hB hb).mono fun e w' ⟨g1, g2⟩ => ⟨g1, g2.to (by simp [ptE, ptN])⟩
      · exact (writeProg_3 w0 n ck cn cf A C D E B hF.f3 hW.f3 l (by omega) hn0 (by omega) w hs hB hb).mono fun e w' ⟨g1, g2⟩ => ⟨g1, g2.to (by simp [ptE, ptN])⟩
      · have hcl : (ndE cf ck cn).tx.length ≤ 83886080 := by have := (condV_tx hc).2; omega
        have KN : Hid (∀ W : World, Sees w0 W → Calls Tryz.prog 53 #[.agg #[.int .i64 ck, .int .i64 cn, .slice A cf.len C]] W fun e w' => e = .returned (ndE cf ck cn).val ∧ Below W.heap.size W w') := fun W h => nodeOf_any (cf.nodes + 1) cf (Nat.lt_succ_self _) (by omega) t a false ck cn A C W (hA.sees h) (condV_parts hc).2.2
        have KT : Hid (∀ (L : List UInt8) (W : World), L.length ≤ 1099500000000 → Bld B L W → Calls Tryz.prog 83 #[.pointer (some ⟨B, 0, none⟩), (ndE cf ck cn).val] W fun e w' => e = .returned (.tuple #[]) ∧ Wrote B (L ++ (ndE cf ck cn).tx) W w') := fun L W hL hb2 => writeNode_any _ (condV_tx hc).1 B L W (by have := ndE_size cf ck cn; omega) hb2
        exact (writeProg_4 w0 n ck cn cf A C D E B (ndE cf ck cn).tx (ndE cf ck cn).val hcl hA KN KT hF.f4 hW.f4 l (by omega) w hs hB hb).mono fun e w' ⟨g1, g2⟩ => ⟨g1, g2.to (by simp [ptE, ptN])⟩
    · obtain ⟨b', o', rfl, hat⟩ := hD (by simp)
      obtain ⟨d10, d11, d12, d13, ⟨A1, C1, d14, hA1⟩, ⟨D1, E1, d15, hD1⟩, _⟩ := hat
      have hD1 : f1.Lies w0 D1 := hD1
      have pa := ptE_len t a ha (cf1.nodes + f1.nodes + 1) cf1 f1 (Nat.lt_succ_self _) k1 n1 ck1 cn1 h1
      simp only [Pg.nodes] at hN hm hl
      have hal : (ptE k1 n1 ck1 cn1 cf1 f1).length ≤ 83886080 := by omega
      have hcl : (ndE cf ck cn).tx.length ≤ 83886080 := by have := (condV_tx hc).2; omega
      have KN : Hid (∀ W : World, Sees w0 W → Calls Tryz.prog 53 #[.agg #[.int .i64 ck, .int .i64 cn, .slice A cf.len C]] W fun e w' => e = .returned (ndE cf ck cn).val ∧ Below W.heap.size W w') := fun W h => nodeOf_any (cf.nodes + 1) cf (Nat.lt_succ_self _) (by omega) t a false ck cn A C W (hA.sees h) (condV_parts hc).2.2
      have KT : Hid (∀ (L : List UInt8) (W : World), L.length ≤ 1099500000000 → Bld B L W → Calls Tryz.prog 83 #[.pointer (some ⟨B, 0, none⟩), (ndE cf ck cn).val] W fun e w' => e = .returned (.tuple #[]) ∧ Wrote B (L ++ (ndE cf ck cn).tx) W w') := fun L W hL hb2 => writeNode_any _ (condV_tx hc).1 B L W (by have := ndE_size cf ck cn; omega) hb2
      obtain ⟨M1, hM1e⟩ : ∃ M, M = l.length + 10 + (ndE cf ck cn).tx.length := ⟨_, rfl⟩
      have hcl2 := (condV_tx hc).2
      have K1 : Hid (∀ (L : List UInt8) (W : World), L.length ≤ M1 → Sees w0 W → Bld B L W → Calls Tryz.prog 54 #[.pointer (some ⟨B, 0, none⟩), .agg #[.int .i64 k1, .int .i64 n1, .int .i64 ck1, .int .i64 cn1, .slice A1 cf1.len C1, .slice D1 f1.len E1]] W fun e w' => e = .returned (.tuple #[]) ∧ Wrote B (L ++ ptE k1 n1 ck1 cn1 cf1 f1) W w') := fun L W hL h hb2 =>
        ih cf1 f1 (by omega) (by omega) k1 n1 ck1 cn1 A1 D1 C1 E1 L B W h1 hA1 hD1 (by omega) h hB hb2
      have hM1 : (l ++ [119, 104, 105, 108, 101, 32] ++ (ndE cf ck cn).tx ++ [32, 100, 111, 32]).length ≤ M1 := by simp only [List.length_append, List.length_cons, List.length_nil]; omega
      exact (writeProg_7 w0 n ck cn cf k1 n1 ck1 cn1 cf1 f1 A C (some ⟨b', o', none⟩) E B b' o' A1 D1 C1 E1 (ndE cf ck cn).tx (ndE cf ck cn).val hcl hA KN KT (ptE k1 n1 ck1 cn1 cf1 f1) hal M1 K1 d10 d11 d12 d13 d14 d15 rfl hF.f7 hW.f7 l (by omega) hM1 w hs hB hb).mono fun e w' ⟨g1, g2⟩ => ⟨g1, g2.to (by simp [ptE, ptN, Pg.txs])⟩
    · rcases hk with rfl | ⟨rfl, hc⟩
      · obtain ⟨b', o', rfl, hat⟩ := hD (by simp)
        obtain ⟨d10, d11, d12, d13, ⟨A1, C1, d14, hA1⟩, ⟨D1, E1, d15, hD1⟩, d20, d21, d22, d23, ⟨A2, C2, d24, hA2⟩, ⟨D2, E2, d25, hD2⟩, _⟩ := hat
        have hD1 : f1.Lies w0 D1 := hD1
        have pa := ptE_len t a ha (cf1.nodes + f1.nodes + 1) cf1 f1 (Nat.lt_succ_self _) k1 n1 ck1 cn1 h1
        have hD2 : f2.Lies w0 D2 := hD2
        have pb := ptE_len t a ha (cf2.nodes + f2.nodes + 1) cf2 f2 (Nat.lt_succ_self _) k2 n2 ck2 cn2 h2
        simp only [Pg.nodes] at hN hm hl
        have hal : (ptE k1 n1 ck1 cn1 cf1 f1).length ≤ 83886080 := by omega
        have hbl : (ptE k2 n2 ck2 cn2 cf2 f2).length ≤ 83886080 := by omega
        obtain ⟨M1, hM1e⟩ : ∃ M, M = l.length + 1 := ⟨_, rfl⟩
        obtain ⟨M2, hM2e⟩ : ∃ M, M = l.length + 3 + (ptE k1 n1 ck1 cn1 cf1 f1).length := ⟨_, rfl⟩
        have K1 : Hid (∀ (L : List UInt8) (W : World), L.length ≤ M1 → Sees w0 W → Bld B L W → Calls Tryz.prog 54 #[.pointer (some ⟨B, 0, none⟩), .agg #[.int .i64 k1, .int .i64 n1, .int .i64 ck1, .int .i64 cn1, .slice A1 cf1.len C1, .slice D1 f1.len E1]] W fun e w' => e = .returned (.tuple #[]) ∧ Wrote B (L ++ ptE k1 n1 ck1 cn1 cf1 f1) W w') := fun L W hL h hb2 =>
          ih cf1 f1 (by omega) (by omega) k1 n1 ck1 cn1 A1 D1 C1 E1 L B W h1 hA1 hD1 (by omega) h hB hb2
        have K2 : Hid (∀ (L : List UInt8) (W : World), L.length ≤ M2 → Sees w0 W → Bld B L W → Calls Tryz.prog 54 #[.pointer (some ⟨B, 0, none⟩), .agg #[.int .i64 k2, .int .i64 n2, .int .i64 ck2, .int .i64 cn2, .slice A2 cf2.len C2, .slice D2 f2.len E2]] W fun e w' => e = .returned (.tuple #[]) ∧ Wrote B (L ++ ptE k2 n2 ck2 cn2 cf2 f2) W w') := fun L W hL h hb2 =>
          ih cf2 f2 (by omega) (by omega) k2 n2 ck2 cn2 A2 D2 C2 E2 L B W h2 hA2 hD2 (by omega) h hB hb2
        have hM1 : (l ++ [123]).length ≤ M1 := by simp only [List.length_append, List.length_cons, List.length_nil]; omega
        have hM2 : (l ++ [123] ++ ptE k1 n1 ck1 cn1 cf1 f1 ++ [59, 32]).length ≤ M2 := by simp only [List.length_append, List.length_cons, List.length_nil]; omega
        exact (writeProg_5 w0 n ck cn cf k1 n1 ck1 cn1 cf1 f1 k2 n2 ck2 cn2 cf2 f2 A C (some ⟨b', o', none⟩) E B b' o' A1 D1 C1 E1 A2 D2 C2 E2 (ptE k1 n1 ck1 cn1 cf1 f1) hal M1 K1 (ptE k2 n2 ck2 cn2 cf2 f2) hbl M2 K2 d10 d11 d12 d13 d14 d15 d20 d21 d22 d23 d24 d25 rfl hF.f5 hW.f5 l (by omega) hM1 hM2 w hs hB hb).mono fun e w' ⟨g1, g2⟩ => ⟨g1, g2.to (by simp [ptE, ptN, Pg.txs])⟩
      · obtain ⟨b', o', rfl, hat⟩ := hD (by simp)
        obtain ⟨d10, d11, d12, d13, ⟨A1, C1, d14, hA1⟩, ⟨D1, E1, d15, hD1⟩, d20, d21, d22, d23, ⟨A2, C2, d24, hA2⟩, ⟨D2, E2, d25, hD2⟩, _⟩ := hat
        have hD1 : f1.Lies w0 D1 := hD1
        have pa := ptE_len t a ha (cf1.nodes + f1.nodes + 1) cf1 f1 (Nat.lt_succ_self _) k1 n1 ck1 cn1 h1
        have hD2 : f2.Lies w0 D2 := hD2
        have pb := ptE_len t a ha (cf2.nodes + f2.nodes + 1) cf2 f2 (Nat.lt_succ_self _) k2 n2 ck2 cn2 h2
        simp only [Pg.nodes] at hN hm hl
        have hal : (ptE k1 n1 ck1 cn1 cf1 f1).length ≤ 83886080 := by omega
        have hbl : (ptE k2 n2 ck2 cn2 cf2 f2).length ≤ 83886080 := by omega
        have hcl : (ndE cf ck cn).tx.length ≤ 83886080 := by have := (condV_tx hc).2; omega
        have KN : Hid (∀ W : World, Sees w0 W → Calls Tryz.prog 53 #[.agg #[.int .i64 ck, .int .i64 cn, .slice A cf.len C]] W fun e w' => e = .returned (ndE cf ck cn).val ∧ Below W.heap.size W w') := fun W h => nodeOf_any (cf.nodes + 1) cf (Nat.lt_succ_self _) (by omega) t a false ck cn A C W (hA.sees h) (condV_parts hc).2.2
        have KT : Hid (∀ (L : List UInt8) (W : World), L.length ≤ 1099500000000 → Bld B L W → Calls Tryz.prog 83 #[.pointer (some ⟨B, 0, none⟩), (ndE cf ck cn).val] W fun e w' => e = .returned (.tuple #[]) ∧ Wrote B (L ++ (ndE cf ck cn).tx) W w') := fun L W hL hb2 => writeNode_any _ (condV_tx hc).1 B L W (by have := ndE_size cf ck cn; omega) hb2
        have hcl2 := (condV_tx hc).2
        obtain ⟨M1, hM1e⟩ : ∃ M, M = l.length + 9 + (ndE cf ck cn).tx.length := ⟨_, rfl⟩
        obtain ⟨M2, hM2e⟩ : ∃ M, M = l.length + 15 + (ndE cf ck cn).tx.length + (ptE k1 n1 ck1 cn1 cf1 f1).length := ⟨_, rfl⟩
        have K1 : Hid (∀ (L : List UInt8) (W : World), L.length ≤ M1 → Sees w0 W → Bld B L W → Calls Tryz.prog 54 #[.pointer (some ⟨B, 0, none⟩), .agg #[.int .i64 k1, .int .i64 n1, .int .i64 ck1, .int .i64 cn1, .slice A1 cf1.len C1, .slice D1 f1.len E1]] W fun e w' => e = .returned (.tuple #[]) ∧ Wrote B (L ++ ptE k1 n1 ck1 cn1 cf1 f1) W w') := fun L W hL h hb2 =>
          ih cf1 f1 (by omega) (by omega) k1 n1 ck1 cn1 A1 D1 C1 E1 L B W h1 hA1 hD1 (by omega) h hB hb2
        have K2 : Hid (∀ (L : List UInt8) (W : World), L.length ≤ M2 → Sees w0 W → Bld B L W → Calls Tryz.prog 54 #[.pointer (some ⟨B, 0, none⟩), .agg #[.int .i64 k2, .int .i64 n2, .int .i64 ck2, .int .i64 cn2, .slice A2 cf2.len C2, .slice D2 f2.len E2]] W fun e w' => e = .returned (.tuple #[]) ∧ Wrote B (L ++ ptE k2 n2 ck2 cn2 cf2 f2) W w') := fun L W hL h hb2 =>
          ih cf2 f2 (by omega) (by omega) k2 n2 ck2 cn2 A2 D2 C2 E2 L B W h2 hA2 hD2 (by omega) h hB hb2
        have hM1 : (l ++ [105, 102, 32] ++ (ndE cf ck cn).tx ++ [32, 116, 104, 101, 110, 32]).length ≤ M1 := by simp only [List.length_append, List.length_cons, List.length_nil]; omega
        have hM2 : (l ++ [105, 102, 32] ++ (ndE cf ck cn).tx ++ [32, 116, 104, 101, 110, 32] ++ ptE k1 n1 ck1 cn1 cf1 f1 ++ [32, 101, 108, 115, 101, 32]).length ≤ M2 := by simp only [List.length_append, List.length_cons, List.length_nil]; omega
        exact (writeProg_6 w0 n ck cn cf k1 n1 ck1 cn1 cf1 f1 k2 n2 ck2 cn2 cf2 f2 A C (some ⟨b', o', none⟩) E B b' o' A1 D1 C1 E1 A2 D2 C2 E2 (ndE cf ck cn).tx (ndE cf ck cn).val hcl hA KN KT (ptE k1 n1 ck1 cn1 cf1 f1) hal M1 K1 (ptE k2 n2 ck2 cn2 cf2 f2) hbl M2 K2 d10 d11 d12 d13 d14 d15 d20 d21 d22 d23 d24 d25 rfl hF.f6 hW.f6 l (by omega) hM1 hM2 w hs hB hb).mono fun e w' ⟨g1, g2⟩ => ⟨g1, g2.to (by simp [ptE, ptN, Pg.txs])⟩

set_option maxRecDepth 100000 in
set_option maxHeartbeats 4000000 in
theorem implProgText_any (t a k n ck cn : Int) (cf : Fo) (f : Pg) (hm : cf.nodes + f.nodes ≤ 1048576) (hcf : cf.Fits) (hf : f.Fits) (A D : Option Addr) (C E : Nat) (w : World) (hA : cf.Lies w A) (hD : f.Lies w D) (hF : Forms w) (hW : FWords w) :
    Calls Tryz.prog 25 #[.agg #[.int .i64 t, .int .i64 a], .agg #[.int .i64 k, .int .i64 n, .int .i64 ck, .int .i64 cn, .slice A cf.len C, .slice D f.len E]] w fun e w' => e = .returned (.string ⟨(pgT t a k n ck cn cf f).toArray⟩) ∧ Below w.heap.size w w' := by
  obtain ⟨w0, hw0⟩ : ∃ w0, w0 = (w.alloc (.cells #[.int .i64 t, .int .i64 a] 34)).alloc (.cells #[.int .i64 k, .int .i64 n, .int .i64 ck, .int .i64 cn, .slice A cf.len C, .slice D f.len E] 41) := ⟨_, rfl⟩
  have B0 : Sees w w0 := by rw [hw0]; exact ((Sees.refl w).alloc _).alloc _
  have hg0 : w0.heap[w.heap.size]? = some (.cells #[.int .i64 t, .int .i64 a] 34 (0, 0)) := by rw [hw0]; exact (Below.heap_alloc _ _ _ (by simp)).trans (heap_new _ _ _ rfl)
  have hp0 : w0.heap[w.heap.size + 1]? = some (.cells #[.int .i64 k, .int .i64 n, .int .i64 ck, .int .i64 cn, .slice A cf.len C, .slice D f.len E] 41 (0, 0)) := by rw [hw0]; exact heap_new _ _ _ (by simp)
  have z0 : w0.heap.size = w.heap.size + 2 := by rw [hw0]; simp
  obtain ⟨q1, hq1⟩ : ∃ q1 : Bool, q1 = validP t a k n ck cn cf f := ⟨_, rfl⟩
  have K1 : Hid (∀ W : World, Sees w W → Calls Tryz.prog 50 #[.agg #[.int .i64 t, .int .i64 a], .agg #[.int .i64 k, .int .i64 n, .int .i64 ck, .int .i64 cn, .slice A cf.len C, .slice D f.len E]] W fun e w' => e = .returned (.bool q1) ∧ Below W.heap.size W w') := fun W h => by
    rw [hq1]; exact implValidProg_any t a k n ck cn cf f hm hcf hf A D C E W (hA.sees h) (hD.sees h) (hF.sees h)
  have HG0 := Lib.hid hg0; have HP0 := Lib.hid hp0; have HB0 := Lib.hid B0; have HZ0 := Lib.hid z0
  cases q1
  · have HD : Hid (pgT t a k n ck cn cf f = []) := by show _ = _; unfold pgT; rw [← hq1]; rfl
    rw [HD.out]
    have s0 := Fo.cell_of_block hg0 0; have s1 := Fo.cell_of_block hg0 1
    obtain ⟨p0, p1, p2, p3, p4, p5⟩ := pcells6 hp0
    rw [hw0] at s0 s1 p0 p1 p2 p3 p4 p5
    have HW0 := Lib.hid hw0
    clear hq1 HD hA hD hF hW hg0 hp0 hw0 z0 B0
    go_enter Tryz.func25, Tryz.ntmps25
    go_wp2_with fail
    rw [← HW0.out]
    refine (K1.out _ HB0.out).mono ?_
    rintro e w1 ⟨rfl, hb⟩
    have HB1 := Lib.hid (HB0.out.below hb)
    clear hb s0 s1 p0 p1 p2 p3 p4 p5
    go_wp2_with fail
    go_ret
    exact ⟨rfl, HB1.out⟩
  · have hv := validP_parts hq1.symm
    have HD : Hid (pgT t a k n ck cn cf f = ptE k n ck cn cf f) := by show _ = _; unfold pgT; rw [← hq1]; rfl
    rw [HD.out]
    obtain ⟨sv, hsv⟩ : ∃ l : List UInt8, l = ptE k n ck cn cf f := ⟨_, rfl⟩
    have KX : Hid (∀ (B : Nat) (W : World), Sees w W → w.heap.size ≤ B → Bld B [] W → Calls Tryz.prog 54 #[.pointer (some ⟨B, 0, none⟩), .agg #[.int .i64 k, .int .i64 n, .int .i64 ck, .int .i64 cn, .slice A cf.len C, .slice D f.len E]] W fun e w' => e = .returned (.tuple #[]) ∧ Wrote B ([] ++ sv) W w') := fun B W h hB hb => by
      rw [hsv]; exact writeProg_any t a hv.2.1 w hF hW (cf.nodes + f.nodes + 1) cf f (Nat.lt_succ_self _) hm k n ck cn A D C E [] B W hv.2.2 hA hD (by simp only [List.length_nil]; omega) h hB hb
    have KS : Hid (∀ (B : Nat) (W : World), Bld B ([] ++ sv) W → Calls Tryz.prog 39 #[.pointer (some ⟨B, 0, none⟩)] W fun e w' => e = .returned (.string ⟨sv.toArray⟩) ∧ Below B W w') := fun B W hW => string_any hW
    rw [← hsv]
    have s0 := Fo.cell_of_block hg0 0; have s1 := Fo.cell_of_block hg0 1
    obtain ⟨p0, p1, p2, p3, p4, p5⟩ := pcells6 hp0
    rw [hw0] at s0 s1 p0 p1 p2 p3 p4 p5
    have HW0 := Lib.hid hw0
    clear hq1 HD hA hD hF hW hg0 hp0 hw0 z0 B0 hv hsv
    go_enter Tryz.func25, Tryz.ntmps25
    go_wp2_with fail
    rw [← HW0.out]
    refine (K1.out _ HB0.out).mono ?_
    rintro e w1 ⟨rfl, hb⟩
    have HB1 := Lib.hid (HB0.out.below hb)
    have HP1 := Lib.hid ((hb.block _ (by have := HZ0.out; omega)).trans HP0.out)
    have lw1 : w.heap.size + 1 < w1.heap.size := by have := hb.size; have := HZ0.out; omega
    obtain ⟨w2, hw2⟩ : ∃ w2, w2 = w1.alloc (.cells #[.pointer none, .slice none 0 0] 82) := ⟨_, rfl⟩
    have hb2 : Bld w1.heap.size [] w2 := by rw [hw2]; exact Bld.fresh w1
    have B2 := Lib.hid (show Sees w w2 by rw [hw2]; exact HB1.out.alloc _)
    have hp2 : w2.heap[w.heap.size + 1]? = some (.cells #[.int .i64 k, .int .i64 n, .int .i64 ck, .int .i64 cn, .slice A cf.len C, .slice D f.len E] 41 (0, 0)) := by rw [hw2]; exact (Below.heap_alloc _ _ _ lw1).trans HP1.out
    clear p0 p1 p2 p3 p4 p5 s0 s1
    obtain ⟨p0, p1, p2, p3, p4, p5⟩ := pcells6 hp2
    rw [hw2] at p0 p1 p2 p3 p4 p5
    have HW2 := Lib.hid hw2; have HBB := Lib.hid hb2
    have hlw : w.heap.size ≤ w1.heap.size := HB1.out.size
    clear hb hw2 hb2 hp2
    go_wp2_with fail
    rw [← HW2.out]
    refine (KX.out _ _ B2.out hlw HBB.out).mono ?_
    rintro e w3 ⟨rfl, hx⟩
    have HX := Lib.hid hx
    clear hx p0 p1 p2 p3 p4 p5
    go_wp2_with fail
    refine (KS.out _ _ HX.out.bld).mono ?_
    rintro e w4 ⟨rfl, hy⟩
    have HY := Lib.hid (Below.trans B2.out ((HX.out.below.trans hy).mono hlw))
    clear hy
    go_wp2_with fail
    go_ret
    exact ⟨rfl, HY.out⟩
end Go.Proofs.YtcgbepmhfimbjaaGreatDoor

namespace Go.Proofs.YtcgbepmhfimbjaaGreatDoor
open Go.RowKit

theorem bgrow_any {B : Nat} (z : Nat) (hz : z ≤ 281474976710656) {w : World} (h : w.heap[B]? = some (.cells #[.pointer none, .slice none 0 0] 82 (0, 0))) :
    Calls Tryz.prog 82 #[.pointer (some ⟨B, 0, none⟩), .int .i64 (z : Int)] w fun e w' => e = .returned (.tuple #[]) ∧ Bld B [] w' ∧ Below B w w' :=
  (Tryz.Builder_Grow_fresh B B z w (Nat.le_refl _) h (Nat.le_of_lt (Array.getElem?_eq_some_iff.1 h).1) hz).mono fun _ _ ⟨h1, h2, h3⟩ => ⟨h1, Lib.IsBuilderF.of (Or.inr h2), h3⟩

set_option maxRecDepth 100000 in
set_option maxHeartbeats 2000000 in
theorem nodeText_any (d : Nd) (hd : d.okD) (hs : d.size ≤ 134217729) (w : World) :
    Calls Tryz.prog 52 #[d.val] w fun e w' => e = .returned (.string ⟨d.tx.toArray⟩) ∧ Below w.heap.size w w' := by
  obtain ⟨T1, x1, F1, hv1, hm1, he1, hc1⟩ := node_size d
  have KN : Hid (∀ W, Bld w.heap.size [] W → Calls Tryz.prog 83 #[.pointer (some ⟨w.heap.size, 0, none⟩), .iface T1 x1] W fun e w' => e = .returned (.tuple #[]) ∧ Wrote w.heap.size ([] ++ d.tx) W w') := fun W hW => by rw [← hv1]; exact writeNode_any d hd w.heap.size [] W (by simp only [List.length_nil]; omega) hW
  obtain ⟨z, hz, hz0, hz1⟩ : ∃ z : Int, z = (d.size : Int) ∧ 0 ≤ z ∧ z ≤ 134217729 := ⟨_, rfl, by omega, by omega⟩
  obtain ⟨y, hy⟩ : ∃ y : Int, y = 4 * z := ⟨_, rfl⟩
  have wy : IntKind.i64.wrap (4 * z) = y := by rw [IntWalk.i64_in _ (by omega), hy]
  have K1 : Hid (∀ W : World, Calls Tryz.prog F1 #[x1] W fun e w' => e = .returned (.int .i64 z) ∧ Below W.heap.size W w') := fun W => by rw [hz]; exact hc1 W
  have KG : Hid (∀ W : World, W.heap[w.heap.size]? = some (.cells #[.pointer none, .slice none 0 0] 82 (0, 0)) → Calls Tryz.prog 82 #[.pointer (some ⟨w.heap.size, 0, none⟩), .int .i64 y] W fun e w' => e = .returned (.tuple #[]) ∧ Bld w.heap.size [] w' ∧ Below w.heap.size W w') := fun W h => by
    rw [show y = ((4 * d.size : Nat) : Int) by omega]
    exact bgrow_any (4 * d.size) (by omega) h
  have KS : Hid (∀ W, Bld w.heap.size ([] ++ d.tx) W → Calls Tryz.prog 39 #[.pointer (some ⟨w.heap.size, 0, none⟩)] W fun e w' => e = .returned (.string ⟨d.tx.toArray⟩) ∧ Below w.heap.size W w') := fun W hW => string_any hW
  rw [hv1]
  clear hc1 hv1 hz hd hs hy
  go_enter Tryz.func52, Tryz.ntmps52
  go_wp2_with fail
  refine (K1.out _).mono ?_
  rintro e w1 ⟨rfl, hb1⟩
  have hbk := (hb1.block w.heap.size (by simp)).trans (heap_new w (.cells #[.pointer none, .slice none 0 0] 82) _ rfl)
  have B1 : Below w.heap.size w w1 := Below.trans (by go_grown) (hb1.mono (by simp))
  go_wp2_with fail
  refine (KG.out _ hbk).mono ?_
  rintro e w2 ⟨rfl, hB2, hb2⟩
  go_wp2_with fail
  refine (KN.out _ hB2).mono ?_
  rintro e w3 ⟨rfl, hw3⟩
  go_wp2_with fail
  refine (KS.out _ hw3.bld).mono ?_
  rintro e w4 ⟨rfl, hb4⟩
  go_wp2_with fail
  go_ret
  exact ⟨rfl, ((B1.trans hb2).trans hw3.below).trans hb4⟩

/-- What ExprText answers. -/
def exT (t a k n : Int) (f : Fo) : List UInt8 := if validE t a k n f = true then (ndE f k n).tx else []
theorem validE_parts0 {t a k n : Int} {f : Fo} (h : validE t a k n f = true) : t ≤ 3 ∧ a ≤ 4 ∧ treeE t a false k n f = true := by
  unfold validE at h
  simp only [Bool.and_eq_true] at h
  have := sigOk_of h.1.1.1
  exact ⟨this.2.1, this.2.2.2, h.2⟩

set_option maxRecDepth 100000 in
set_option maxHeartbeats 2000000 in
theorem implExprText_any (t a k n : Int) (f : Fo) (_hf : f.Fits) (h0 : f.nodes ≤ 1048576) (A : Option Addr) (C : Nat) (w : World) (hl : f.Lies w A) :
    Calls Tryz.prog 24 #[.agg #[.int .i64 t, .int .i64 a], .agg #[.int .i64 k, .int .i64 n, .slice A f.len C]] w fun e w' => e = .returned (.string ⟨(exT t a k n f).toArray⟩) ∧ Below w.heap.size w w' := by
  obtain ⟨q1, hq1⟩ : ∃ q1 : Bool, q1 = validE t a k n f := ⟨_, rfl⟩
  have K1 : Hid (∀ W : World, St w [(w.heap.size, 0, .int .i64 t), (w.heap.size, 1, .int .i64 a), (w.heap.size + 1, 0, .int .i64 k), (w.heap.size + 1, 1, .int .i64 n), (w.heap.size + 1, 2, .slice A f.len C)] W → Calls Tryz.prog 51 #[.agg #[.int .i64 t, .int .i64 a], .agg #[.int .i64 k, .int .i64 n, .slice A f.len C]] W fun e w' => e = .returned (.bool q1) ∧ Below W.heap.size W w') :=
    fun W h => by rw [hq1]; exact implValidExpr_any t a k n f h0 A C W (hl.sees h.1)
  cases q1
  · have HD : Hid (exT t a k n f = []) := by show _ = _; unfold exT; rw [← hq1]; rfl
    rw [HD.out]
    clear hq1 HD
    go_enter Tryz.func24, Tryz.ntmps24
    go_wp2_with fail
    refine (K1.out _ ⟨(by unfold Sees; go_grown), (by simp [go_sem]), (by simp [go_sem]), (by simp [go_sem]), (by simp [go_sem]), (by simp [go_sem]), trivial⟩).mono ?_
    rintro e w1 ⟨rfl, hb⟩
    have H1 : Hid (St w [(w.heap.size, 0, .int .i64 t), (w.heap.size, 1, .int .i64 a), (w.heap.size + 1, 0, .int .i64 k), (w.heap.size + 1, 1, .int .i64 n), (w.heap.size + 1, 2, .slice A f.len C)] w1) := St.below (l := [(w.heap.size, 0, .int .i64 t), (w.heap.size, 1, .int .i64 a), (w.heap.size + 1, 0, .int .i64 k), (w.heap.size + 1, 1, .int .i64 n), (w.heap.size + 1, 2, .slice A f.len C)]) ⟨(by unfold Sees; go_grown), (by simp [go_sem]), (by simp [go_sem]), (by simp [go_sem]), (by simp [go_sem]), (by simp [go_sem]), trivial⟩ hb
    clear hb
    obtain ⟨sS, s0, s1, s2, s3, s4, _⟩ := H1.out
    go_wp2_with fail
    go_ret
    exact ⟨rfl, sS⟩
  · have hv := validE_parts0 hq1.symm
    have HD : Hid (exT t a k n f = (ndE f k n).tx) := by show _ = _; unfold exT; rw [← hq1]; rfl
    rw [HD.out]
    have hok := ndE_okD t a hv.1 hv.2.1 (f.nodes + 1) f (Nat.lt_succ_self _) false k n hv.2.2
    have hsz := ndE_size f k n
    obtain ⟨sv, hsv⟩ : ∃ s : ByteArray, s = ⟨(ndE f k n).tx.toArray⟩ := ⟨_, rfl⟩
    obtain ⟨v1, hv1⟩ : ∃ v : Value, v = (ndE f k n).val := ⟨_, rfl⟩
    have K4 : Hid (∀ W : World, Sees w W → Calls Tryz.prog 53 #[.agg #[.int .i64 k, .int .i64 n, .slice A f.len C]] W fun e w' => e = .returned v1 ∧ Below W.heap.size W w') :=
      fun W h => by rw [hv1]; exact nodeOf_any (f.nodes + 1) f (Nat.lt_succ_self _) h0 t a false k n A C W (hl.sees h) hv.2.2
    have K5 : Hid (∀ W : World, Calls Tryz.prog 52 #[v1] W fun e w' => e = .returned (.string sv) ∧ Below W.heap.size W w') := fun W => by rw [hv1, hsv]; exact nodeText_any _ hok (by omega) W
    rw [← hsv]
    clear hq1 HD hv hsv hv1 hok hsz
    go_enter Tryz.func24, Tryz.ntmps24
    go_wp2_with fail
    refine (K1.out _ ⟨(by unfold Sees; go_grown), (by simp [go_sem]), (by simp [go_sem]), (by simp [go_sem]), (by simp [go_sem]), (by simp [go_sem]), trivial⟩).mono ?_
    rintro e w1 ⟨rfl, hb⟩
    have H1 : Hid (St w [(w.heap.size, 0, .int .i64 t), (w.heap.size, 1, .int .i64 a), (w.heap.size + 1, 0, .int .i64 k), (w.heap.size + 1, 1, .int .i64 n), (w.heap.size + 1, 2, .slice A f.len C)] w1) := St.below (l := [(w.heap.size, 0, .int .i64 t), (w.heap.size, 1, .int .i64 a), (w.heap.size + 1, 0, .int .i64 k), (w.heap.size + 1, 1, .int .i64 n), (w.heap.size + 1, 2, .slice A f.len C)]) ⟨(by unfold Sees; go_grown), (by simp [go_sem]), (by simp [go_sem]), (by simp [go_sem]), (by simp [go_sem]), (by simp [go_sem]), trivial⟩ hb
    clear hb
    obtain ⟨sS, s0, s1, s2, s3, s4, _⟩ := H1.out
    go_wp2_with fail
    refine (K4.out _ sS).mono ?_
    rintro e w2 ⟨rfl, hb⟩
    have S2 := sS.below hb
    clear hb
    go_wp2_with fail
    refine (K5.out _).mono ?_
    rintro e w3 ⟨rfl, hb⟩
    have S3 := S2.below hb
    go_wp2_with fail
    go_ret
    exact ⟨rfl, S3⟩
end Go.Proofs.YtcgbepmhfimbjaaGreatDoor
