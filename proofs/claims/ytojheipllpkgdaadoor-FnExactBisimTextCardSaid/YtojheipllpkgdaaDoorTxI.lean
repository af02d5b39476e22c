/- Contracts of impl.writeBoth, writeNode. -/
import Derived.Test.YtojheipllpkgdaaDoorTxB
import Derived.Test.YtojheipllpkgdaaDoorAssZ
import Derived.Test.YtojheipllpkgdaaDoorNode
import Derived.Test.YtojheipllpkgdaaDoorFill
namespace Go.Proofs.YtojheipllpkgdaaDoor
open Go.RowKit

set_option maxHeartbeats 2000000 in
theorem writeBoth_of {B : Nat} {l la lb m : List UInt8} {va vb : Value} {w : World} (KA : Hid (∀ W, Bld B (l ++ [40]) W → Calls Tryd.prog 58 #[.pointer (some ⟨B, 0, none⟩), va] W fun e w' => e = .returned (.tuple #[]) ∧ Wrote B (l ++ [40] ++ la) W w')) (KB : Hid (∀ W, Bld B (l ++ [40] ++ la ++ m) W → Calls Tryd.prog 58 #[.pointer (some ⟨B, 0, none⟩), vb] W fun e w' => e = .returned (.tuple #[]) ∧ Wrote B (l ++ [40] ++ la ++ m ++ lb) W w'))
    (h : Bld B l w) (hl : l.length + la.length + m.length + lb.length + 2 ≤ 1099511627776) :
    Calls Tryd.prog 93 #[.pointer (some ⟨B, 0, none⟩), va, str m, vb] w fun e w' => e = .returned (.tuple #[]) ∧ Wrote B (l ++ (40 :: (la ++ (m ++ (lb ++ [41]))))) w w' := by
  have K1 : Hid (Calls Tryd.prog 60 #[.pointer (some ⟨B, 0, none⟩), str [40]] w fun e w' => (∃ z, e = .returned (.tuple #[.int .i64 z, .nilIface])) ∧ Wrote B (l ++ [40]) w w') := write_any [40] h (by simp only [List.length_cons, List.length_nil]; omega)
  have K2 : Hid (∀ W, Bld B (l ++ [40] ++ la) W → Calls Tryd.prog 60 #[.pointer (some ⟨B, 0, none⟩), str m] W fun e w' => (∃ z, e = .returned (.tuple #[.int .i64 z, .nilIface])) ∧ Wrote B (l ++ [40] ++ la ++ m) W w') := fun W hW => write_any m hW (by simp only [List.length_append, List.length_cons, List.length_nil]; omega)
  have K3 : Hid (∀ W, Bld B (l ++ [40] ++ la ++ m ++ lb) W → Calls Tryd.prog 60 #[.pointer (some ⟨B, 0, none⟩), str [41]] W fun e w' => (∃ z, e = .returned (.tuple #[.int .i64 z, .nilIface])) ∧ Wrote B (l ++ [40] ++ la ++ m ++ lb ++ [41]) W w') := fun W hW => write_any [41] hW (by simp only [List.length_append, List.length_cons, List.length_nil]; omega)
  have HE : Hid (l ++ [40] ++ la ++ m ++ lb ++ [41] = l ++ (40 :: (la ++ (m ++ (lb ++ [41]))))) := by show _ = _; simp
  clear hl
  generalize str m = u at K2 ⊢
  go_enter Tryd.func93, Tryd.ntmps93
  go_wp2_with fail
  refine K1.out.mono ?_
  rintro e w1 ⟨⟨z, rfl⟩, hw1⟩
  go_wp2_with fail
  refine (KA.out _ hw1.bld).mono ?_
  rintro e w2 ⟨rfl, hw2⟩
  go_wp2_with fail
  refine (K2.out _ hw2.bld).mono ?_
  rintro e w3 ⟨⟨z, rfl⟩, hw3⟩
  go_wp2_with fail
  refine (KB.out _ hw3.bld).mono ?_
  rintro e w4 ⟨rfl, hw4⟩
  go_wp2_with fail
  refine (K3.out _ hw4.bld).mono ?_
  rintro e w5 ⟨⟨z, rfl⟩, hw5⟩
  go_wp2_with fail
  go_end0
  exact ⟨rfl, ((((hw1.trans hw2).trans hw3).trans hw4).trans hw5).to HE.out⟩

set_option maxRecDepth 100000 in
set_option maxHeartbeats 4000000 in
theorem writeNode_any : ∀ (d : Nd), d.okD → ∀ (B : Nat) (l : List UInt8) (w : World), l.length + 5 * d.size ≤ 1099511627776 → Bld B l w → Calls Tryd.prog 58 #[.pointer (some ⟨B, 0, none⟩), d.val] w fun e w' => e = .returned (.tuple #[]) ∧ Wrote B (l ++ d.tx) w w' := by
  intro d
  induction d with
  | zero =>
    intro _ B l w hl h
    have K1 : Hid (∀ W, Bld B l W → Calls Tryd.prog 60 #[.pointer (some ⟨B, 0, none⟩), str [48]] W fun e w' => (∃ z, e = .returned (.tuple #[.int .i64 z, .nilIface])) ∧ Wrote B (l ++ [48]) W w') := fun W hW => write_any _ hW (by simp only [List.length_cons, List.length_nil]; omega)
    clear hl
    show Calls Tryd.prog 58 #[.pointer (some ⟨B, 0, none⟩), .iface 151 (.agg #[])] w _
    have q_zero := is_zero_zero
    go_enter Tryd.func58, Tryd.ntmps58
    go_wp2_with fail
    refine (K1.out _ (by first | exact h | exact h.alloc _)).mono ?_
    rintro e w1 ⟨⟨z, rfl⟩, hw1⟩
    go_wp2_with fail
    go_end0
    exact ⟨rfl, by first | exact hw1 | exact hw1.behind h⟩
  | one =>
    intro _ B l w hl h
    have K1 : Hid (∀ W, Bld B l W → Calls Tryd.prog 60 #[.pointer (some ⟨B, 0, none⟩), str [49]] W fun e w' => (∃ z, e = .returned (.tuple #[.int .i64 z, .nilIface])) ∧ Wrote B (l ++ [49]) W w') := fun W hW => write_any _ hW (by simp only [List.length_cons, List.length_nil]; omega)
    clear hl
    show Calls Tryd.prog 58 #[.pointer (some ⟨B, 0, none⟩), .iface 139 (.agg #[])] w _
    have q_zero := is_one_zero
    have q_one := is_one_one
    go_enter Tryd.func58, Tryd.ntmps58
    go_wp2_with fail
    refine (K1.out _ (by first | exact h | exact h.alloc _)).mono ?_
    rintro e w1 ⟨⟨z, rfl⟩, hw1⟩
    go_wp2_with fail
    go_end0
    exact ⟨rfl, by first | exact hw1 | exact hw1.behind h⟩
  | test n =>
    intro hn B l w hl h
    have K1 : Hid (∀ W, Bld B l W → Calls Tryd.prog 92 #[.pointer (some ⟨B, 0, none⟩), str [116], .int .i64 n] W fun e w' => e = .returned (.tuple #[]) ∧ Wrote B (l ++ ([116] ++ Lib.decDigits n.toNat)) W w') := fun W hW => writeNumber_any [116] n hn.1 (by have := hn.2; omega) hW (by simp only [List.length_cons, List.length_nil]; omega)
    clear hl hn
    show Calls Tryd.prog 58 #[.pointer (some ⟨B, 0, none⟩), .iface 141 (.agg #[.int .i64 n])] w _
    have q_zero := is_test_zero
    have q_one := is_test_one
    have q_test := is_test_test
    go_enter Tryd.func58, Tryd.ntmps58
    go_wp2_with fail
    refine (K1.out _ (by first | exact h | exact h.alloc _)).mono ?_
    rintro e w1 ⟨rfl, hw1⟩
    go_wp2_with fail
    go_end0
    exact ⟨rfl, by first | exact hw1 | exact hw1.behind h⟩
  | act n =>
    intro hn B l w hl h
    have K1 : Hid (∀ W, Bld B l W → Calls Tryd.prog 92 #[.pointer (some ⟨B, 0, none⟩), str [97], .int .i64 n] W fun e w' => e = .returned (.tuple #[]) ∧ Wrote B (l ++ ([97] ++ Lib.decDigits n.toNat)) W w') := fun W hW => writeNumber_any [97] n hn.1 (by have := hn.2; omega) hW (by simp only [List.length_cons, List.length_nil]; omega)
    clear hl hn
    show Calls Tryd.prog 58 #[.pointer (some ⟨B, 0, none⟩), .iface 142 (.agg #[.int .i64 n])] w _
    have q_zero := is_act_zero
    have q_one := is_act_one
    have q_test := is_act_test
    have q_act := is_act_act
    go_enter Tryd.func58, Tryd.ntmps58
    go_wp2_with fail
    refine (K1.out _ (by first | exact h | exact h.alloc _)).mono ?_
    rintro e w1 ⟨rfl, hw1⟩
    go_wp2_with fail
    go_end0
    exact ⟨rfl, by first | exact hw1 | exact hw1.behind h⟩
  | not a ih =>
    intro hd B l w hl h
    have hl2 : l.length + 1 + 5 * a.size ≤ 1099511627776 := by simp only [Nd.size] at hl; omega
    have K1 : Hid (∀ W, Bld B l W → Calls Tryd.prog 60 #[.pointer (some ⟨B, 0, none⟩), str [126]] W fun e w' => (∃ z, e = .returned (.tuple #[.int .i64 z, .nilIface])) ∧ Wrote B (l ++ [126]) W w') := fun W hW => write_any _ hW (by simp only [List.length_cons, List.length_nil]; omega)
    have K2 : Hid (∀ W, Bld B (l ++ [126]) W → Calls Tryd.prog 58 #[.pointer (some ⟨B, 0, none⟩), a.val] W fun e w' => e = .returned (.tuple #[]) ∧ Wrote B (l ++ [126] ++ a.tx) W w') := fun W hW => ih hd B _ W (by simp only [List.length_append, List.length_cons, List.length_nil]; omega) hW
    have HE : Hid (l ++ [126] ++ a.tx = l ++ (Nd.not a).tx) := by show _ = _; simp [Nd.tx]
    clear ih hl hl2 hd
    show Calls Tryd.prog 58 #[.pointer (some ⟨B, 0, none⟩), .iface 144 (.agg #[a.val, .int .i64 (1 + a.size : Nat)])] w _
    obtain ⟨T1, x1, h1⟩ := Nd.val_if a
    rw [h1] at K2 ⊢
    clear h1
    generalize ((1 + a.size : Nat) : Int) = z0
    have q_zero := is_not_zero
    have q_one := is_not_one
    have q_test := is_not_test
    have q_act := is_not_act
    have q_not := is_not_not
    go_enter Tryd.func58, Tryd.ntmps58
    go_wp2_with fail
    have hbk : (w.alloc (.cells #[.iface T1 x1, .int .i64 z0] 144)).heap[w.heap.size]? = some (.cells #[.iface T1 x1, .int .i64 z0] 144 (0, 0)) := heap_new _ _ _ rfl
    refine (K1.out _ (h.alloc _)).mono ?_
    rintro e w1 ⟨⟨z, rfl⟩, hw1⟩
    have hb1 := hw1.one hbk (by decide) (Nat.ne_of_gt h.lt)
    have c0 := Fo.cell_of_block hb1 0
    go_wp2_with fail
    refine (K2.out _ hw1.bld).mono ?_
    rintro e w2 ⟨rfl, hw2⟩
    go_wp2_with fail
    go_end0
    exact ⟨rfl, ((hw1.behind h).trans hw2).to HE.out⟩
  | sum a b iha ihb =>
    intro hd B l w hl h
    have hta := Nd.tx_len hd.1
    have htb := Nd.tx_len hd.2
    have hl2 : l.length + 5 * a.size + 5 * b.size + 5 ≤ 1099511627776 := by simp only [Nd.size] at hl; omega
    have K1 : Hid (∀ W, Bld B l W → Calls Tryd.prog 93 #[.pointer (some ⟨B, 0, none⟩), a.val, str [32, 43, 32], b.val] W fun e w' => e = .returned (.tuple #[]) ∧ Wrote B (l ++ (40 :: (a.tx ++ ([32, 43, 32] ++ (b.tx ++ [41]))))) W w') := fun W hW => writeBoth_of (fun W h => iha hd.1 B _ W (by simp only [List.length_append, List.length_cons, List.length_nil]; omega) h) (fun W h => ihb hd.2 B _ W (by simp only [List.length_append, List.length_cons, List.length_nil]; omega) h) hW (by simp only [List.length_cons, List.length_nil]; omega)
    clear iha ihb hl hl2 hd hta htb
    show Calls Tryd.prog 58 #[.pointer (some ⟨B, 0, none⟩), .iface 146 (.agg #[a.val, b.val, .int .i64 (1 + a.size + b.size : Nat)])] w _
    show Calls _ _ _ _ fun e w' => e = .returned (.tuple #[]) ∧ Wrote B (l ++ (40 :: (a.tx ++ ([32, 43, 32] ++ (b.tx ++ [41]))))) w w'
    obtain ⟨T1, x1, h1⟩ := Nd.val_if a
    obtain ⟨T2, x2, h2⟩ := Nd.val_if b
    rw [h1, h2] at K1
    rw [h1, h2]
    clear h1 h2
    generalize ((1 + a.size + b.size : Nat) : Int) = z0
    generalize a.tx = la at K1 ⊢
    generalize b.tx = lb at K1 ⊢
    have q_zero := is_sum_zero
    have q_one := is_sum_one
    have q_test := is_sum_test
    have q_act := is_sum_act
    have q_not := is_sum_not
    have q_sum := is_sum_sum
    go_enter Tryd.func58, Tryd.ntmps58
    go_wp2_with fail
    refine (K1.out _ (h.alloc _)).mono ?_
    rintro e w1 ⟨rfl, hw1⟩
    go_wp2_with fail
    go_end0
    exact ⟨rfl, hw1.behind h⟩
  | dot a b iha ihb =>
    intro hd B l w hl h
    have hta := Nd.tx_len hd.1
    have htb := Nd.tx_len hd.2
    have hl2 : l.length + 5 * a.size + 5 * b.size + 5 ≤ 1099511627776 := by simp only [Nd.size] at hl; omega
    have K1 : Hid (∀ W, Bld B l W → Calls Tryd.prog 93 #[.pointer (some ⟨B, 0, none⟩), a.val, str [32], b.val] W fun e w' => e = .returned (.tuple #[]) ∧ Wrote B (l ++ (40 :: (a.tx ++ ([32] ++ (b.tx ++ [41]))))) W w') := fun W hW => writeBoth_of (fun W h => iha hd.1 B _ W (by simp only [List.length_append, List.length_cons, List.length_nil]; omega) h) (fun W h => ihb hd.2 B _ W (by simp only [List.length_append, List.length_cons, List.length_nil]; omega) h) hW (by simp only [List.length_cons, List.length_nil]; omega)
    clear iha ihb hl hl2 hd hta htb
    show Calls Tryd.prog 58 #[.pointer (some ⟨B, 0, none⟩), .iface 147 (.agg #[a.val, b.val, .int .i64 (1 + a.size + b.size : Nat)])] w _
    show Calls _ _ _ _ fun e w' => e = .returned (.tuple #[]) ∧ Wrote B (l ++ (40 :: (a.tx ++ ([32] ++ (b.tx ++ [41]))))) w w'
    obtain ⟨T1, x1, h1⟩ := Nd.val_if a
    obtain ⟨T2, x2, h2⟩ := Nd.val_if b
    rw [h1, h2] at K1
    rw [h1, h2]
    clear h1 h2
    generalize ((1 + a.size + b.size : Nat) : Int) = z0
    generalize a.tx = la at K1 ⊢
    generalize b.tx = lb at K1 ⊢
    have q_zero := is_dot_zero
    have q_one := is_dot_one
    have q_test := is_dot_test
    have q_act := is_dot_act
    have q_not := is_dot_not
    have q_sum := is_dot_sum
    have q_dot := is_dot_dot
    go_enter Tryd.func58, Tryd.ntmps58
    go_wp2_with fail
    refine (K1.out _ (h.alloc _)).mono ?_
    rintro e w1 ⟨rfl, hw1⟩
    go_wp2_with fail
    go_end0
    exact ⟨rfl, hw1.behind h⟩
  | star a ih =>
    intro hd B l w hl h
    have hta := Nd.tx_len hd
    have hl2 : l.length + 5 * a.size + 5 ≤ 1099511627776 := by simp only [Nd.size] at hl; omega
    have K1 : Hid (∀ W, Bld B l W → Calls Tryd.prog 58 #[.pointer (some ⟨B, 0, none⟩), a.val] W fun e w' => e = .returned (.tuple #[]) ∧ Wrote B (l ++ a.tx) W w') := fun W hW => ih hd B _ W (by omega) hW
    have K2 : Hid (∀ W, Bld B (l ++ a.tx) W → Calls Tryd.prog 60 #[.pointer (some ⟨B, 0, none⟩), str [42]] W fun e w' => (∃ z, e = .returned (.tuple #[.int .i64 z, .nilIface])) ∧ Wrote B (l ++ a.tx ++ [42]) W w') := fun W hW => write_any _ hW (by simp only [List.length_append, List.length_cons, List.length_nil]; simp only [Nd.tx, Nd.size, List.length_append, List.length_cons, List.length_nil] at hta; omega)
    have HE : Hid (l ++ a.tx ++ [42] = l ++ (Nd.star a).tx) := by show _ = _; simp [Nd.tx]
    clear ih hl hl2 hd hta
    show Calls Tryd.prog 58 #[.pointer (some ⟨B, 0, none⟩), .iface 148 (.agg #[a.val, .int .i64 (1 + a.size : Nat)])] w _
    obtain ⟨T1, x1, h1⟩ := Nd.val_if a
    rw [h1] at K1 ⊢
    clear h1
    generalize ((1 + a.size : Nat) : Int) = z0
    have q_zero := is_star_zero
    have q_one := is_star_one
    have q_test := is_star_test
    have q_act := is_star_act
    have q_not := is_star_not
    have q_sum := is_star_sum
    have q_dot := is_star_dot
    have q_star := is_star_star
    go_enter Tryd.func58, Tryd.ntmps58
    go_wp2_with fail
    refine (K1.out _ (h.alloc _)).mono ?_
    rintro e w1 ⟨rfl, hw1⟩
    go_wp2_with fail
    refine (K2.out _ hw1.bld).mono ?_
    rintro e w2 ⟨⟨z, rfl⟩, hw2⟩
    go_wp2_with fail
    go_end0
    exact ⟨rfl, ((hw1.behind h).trans hw2).to HE.out⟩
end Go.Proofs.YtojheipllpkgdaaDoor
