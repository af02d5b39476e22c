/- Assertions that a node is the one of zero. Closed facts. Contracts of impl.writeBoth, writeNode. Contracts of impl.writeSpot, impl.FlowText. How a law's row is closed: a law that answers true and changes nothing that was there. No walk. -/
import Derived.Test.YtmblgkpgfofceaaDoorFzb
import Derived.Test.YtmblgkpgfofceaaDoorNode
import Derived.Test.YtmblgkpgfofceaaDoorFill
import Derived.Test.YtmblgkpgfofceaaDoorFwD
import Derived.Test.YtmblgkpgfofceaaDoorSp
import Derived.Test.YtmblgkpgfofceaaDoorNodeOf
import Derived.Test.YtmblgkpgfofceaaDoorRows
import Derived.Test.YtmblgkpgfofceaaDoorFo
import Derived.Test.YtmblgkpgfofceaaDoorInts
import Derived.ProofKit
import Derived.OpenShut
import Derived.Below
import Derived.ChangeSame
import Derived.Lib.SmallJoins
import Derived.WideKeyArgs
import Derived.Deep.Slices
namespace Go.Proofs.YtmblgkpgfofceaaDoor
open Go.RowKit
theorem is_zero_zero (v : Value) (w : World) : (Instr.typeAssert (.iface 92 v) 80 92 true).run Tryd.prog w = .ok (.tuple #[v, .bool true]) w := by kernel_rfl
theorem is_one_zero (v : Value) (w : World) : (Instr.typeAssert (.iface 93 v) 80 92 true).run Tryd.prog w = .ok (.tuple #[.agg #[], .bool false]) w := by kernel_rfl
theorem is_test_zero (v : Value) (w : World) : (Instr.typeAssert (.iface 95 v) 80 92 true).run Tryd.prog w = .ok (.tuple #[.agg #[], .bool false]) w := by kernel_rfl
theorem is_act_zero (v : Value) (w : World) : (Instr.typeAssert (.iface 96 v) 80 92 true).run Tryd.prog w = .ok (.tuple #[.agg #[], .bool false]) w := by kernel_rfl
theorem is_not_zero (v : Value) (w : World) : (Instr.typeAssert (.iface 98 v) 80 92 true).run Tryd.prog w = .ok (.tuple #[.agg #[], .bool false]) w := by kernel_rfl
theorem is_sum_zero (v : Value) (w : World) : (Instr.typeAssert (.iface 100 v) 80 92 true).run Tryd.prog w = .ok (.tuple #[.agg #[], .bool false]) w := by kernel_rfl
theorem is_dot_zero (v : Value) (w : World) : (Instr.typeAssert (.iface 102 v) 80 92 true).run Tryd.prog w = .ok (.tuple #[.agg #[], .bool false]) w := by kernel_rfl
theorem is_star_zero (v : Value) (w : World) : (Instr.typeAssert (.iface 103 v) 80 92 true).run Tryd.prog w = .ok (.tuple #[.agg #[], .bool false]) w := by kernel_rfl
end Go.Proofs.YtmblgkpgfofceaaDoor

namespace Go.Proofs.YtmblgkpgfofceaaDoor
open Go.RowKit

set_option maxHeartbeats 2000000 in
theorem writeBoth_of {B : Nat} {l la lb m : List UInt8} {va vb : Value} {w : World} (KA : Hid (∀ W, Bld B (l ++ [40]) W → Calls Tryd.prog 33 #[.pointer (some ⟨B, 0, none⟩), va] W fun e w' => e = .returned (.tuple #[]) ∧ Wrote B (l ++ [40] ++ la) W w')) (KB : Hid (∀ W, Bld B (l ++ [40] ++ la ++ m) W → Calls Tryd.prog 33 #[.pointer (some ⟨B, 0, none⟩), vb] W fun e w' => e = .returned (.tuple #[]) ∧ Wrote B (l ++ [40] ++ la ++ m ++ lb) W w'))
    (h : Bld B l w) (hl : l.length + la.length + m.length + lb.length + 2 ≤ 1099511627776) :
    Calls Tryd.prog 45 #[.pointer (some ⟨B, 0, none⟩), va, str m, vb] w fun e w' => e = .returned (.tuple #[]) ∧ Wrote B (l ++ (40 :: (la ++ (m ++ (lb ++ [41]))))) w w' := by
  have K1 : Hid (Calls Tryd.prog 17 #[.pointer (some ⟨B, 0, none⟩), str [40]] w fun e w' => (∃ z, e = .returned (.tuple #[.int .i64 z, .nilIface])) ∧ Wrote B (l ++ [40]) w w') := write_any [40] h (by simp only [List.length_cons, List.length_nil]; omega)
  have K2 : Hid (∀ W, Bld B (l ++ [40] ++ la) W → Calls Tryd.prog 17 #[.pointer (some ⟨B, 0, none⟩), str m] W fun e w' => (∃ z, e = .returned (.tuple #[.int .i64 z, .nilIface])) ∧ Wrote B (l ++ [40] ++ la ++ m) W w') := fun W hW => write_any m hW (by simp only [List.length_append, List.length_cons, List.length_nil]; omega)
  have K3 : Hid (∀ W, Bld B (l ++ [40] ++ la ++ m ++ lb) W → Calls Tryd.prog 17 #[.pointer (some ⟨B, 0, none⟩), str [41]] W fun e w' => (∃ z, e = .returned (.tuple #[.int .i64 z, .nilIface])) ∧ Wrote B (l ++ [40] ++ la ++ m ++ lb ++ [41]) W w') := fun W hW => write_any [41] hW (by simp only [List.length_append, List.length_cons, List.length_nil]; omega)
  have HE : Hid (l ++ [40] ++ la ++ m ++ lb ++ [41] = l ++ (40 :: (la ++ (m ++ (lb ++ [41]))))) := by show _ = _; simp
  clear hl
  generalize str m = u at K2 ⊢
  go_enter Tryd.func45, Tryd.ntmps45
  go_wp2_with fail
  refine K1.out.mono ?_
  rintro e w1 ⟨⟨z, rfl⟩, hw1⟩
  go_wp2_with fail
  refine (KA.out _ hw1.bld).mono ?_
  rintro e w2 ⟨rfl, hw2⟩
  go_wp2_with fail
  refine (K2.out _ hw2.bld).mono ?_
  rintro e w3 ⟨⟨z, rfl⟩, hw3⟩
  go_wp2_with fail
  refine (KB.out _ hw3.bld).mono ?_
  rintro e w4 ⟨rfl, hw4⟩
  go_wp2_with fail
  refine (K3.out _ hw4.bld).mono ?_
  rintro e w5 ⟨⟨z, rfl⟩, hw5⟩
  go_wp2_with fail
  go_end0
  exact ⟨rfl, ((((hw1.trans hw2).trans hw3).trans hw4).trans hw5).to HE.out⟩

set_option maxRecDepth 100000 in
set_option maxHeartbeats 4000000 in
theorem writeNode_any : ∀ (d : Nd), d.okD → ∀ (B : Nat) (l : List UInt8) (w : World), l.length + 5 * d.size ≤ 1099511627776 → Bld B l w → Calls Tryd.prog 33 #[.pointer (some ⟨B, 0, none⟩), d.val] w fun e w' => e = .returned (.tuple #[]) ∧ Wrote B (l ++ d.tx) w w' := by
  intro d
  induction d with
  | zero =>
    intro _ B l w hl h
    have K1 : Hid (∀ W, Bld B l W → Calls Tryd.prog 17 #[.pointer (some ⟨B, 0, none⟩), str [48]] W fun e w' => (∃ z, e = .returned (.tuple #[.int .i64 z, .nilIface])) ∧ Wrote B (l ++ [48]) W w') := fun W hW => write_any _ hW (by simp only [List.length_cons, List.length_nil]; omega)
    clear hl
    show Calls Tryd.prog 33 #[.pointer (some ⟨B, 0, none⟩), .iface 92 (.agg #[])] w _
    have q_zero := is_zero_zero
    go_enter Tryd.func33, Tryd.ntmps33
    go_wp2_with fail
    refine (K1.out _ (by first | exact h | exact h.alloc _)).mono ?_
    rintro e w1 ⟨⟨z, rfl⟩, hw1⟩
    go_wp2_with fail
    go_end0
    exact ⟨rfl, by first | exact hw1 | exact hw1.behind h⟩
  | one =>
    intro _ B l w hl h
    have K1 : Hid (∀ W, Bld B l W → Calls Tryd.prog 17 #[.pointer (some ⟨B, 0, none⟩), str [49]] W fun e w' => (∃ z, e = .returned (.tuple #[.int .i64 z, .nilIface])) ∧ Wrote B (l ++ [49]) W w') := fun W hW => write_any _ hW (by simp only [List.length_cons, List.length_nil]; omega)
    clear hl
    show Calls Tryd.prog 33 #[.pointer (some ⟨B, 0, none⟩), .iface 93 (.agg #[])] w _
    have q_zero := is_one_zero
    have q_one := is_one_one
    go_enter Tryd.func33, Tryd.ntmps33
    go_wp2_with fail
    refine (K1.out _ (by first | exact h | exact h.alloc _)).mono ?_
    rintro e w1 ⟨⟨z, rfl⟩, hw1⟩
    go_wp2_with fail
    go_end0
    exact ⟨rfl, by first | exact hw1 | exact hw1.behind h⟩
  | test n =>
    intro hn B l w hl h
    have K1 : Hid (∀ W, Bld B l W → Calls Tryd.prog 16 #[.pointer (some ⟨B, 0, none⟩), str [116], .int .i64 n] W fun e w' => e = .returned (.tuple #[]) ∧ Wrote B (l ++ ([116] ++ Lib.decDigits n.toNat)) W w') := fun W hW => writeNumber_any [116] n hn.1 (by have := hn.2; omega) hW (by simp only [List.length_cons, List.length_nil]; omega)
    clear hl hn
    show Calls Tryd.prog 33 #[.pointer (some ⟨B, 0, none⟩), .iface 95 (.agg #[.int .i64 n])] w _
    have q_zero := is_test_zero
    have q_one := is_test_one
    have q_test := is_test_test
    go_enter Tryd.func33, Tryd.ntmps33
    go_wp2_with fail
    refine (K1.out _ (by first | exact h | exact h.alloc _)).mono ?_
    rintro e w1 ⟨rfl, hw1⟩
    go_wp2_with fail
    go_end0
    exact ⟨rfl, by first | exact hw1 | exact hw1.behind h⟩
  | act n =>
    intro hn B l w hl h
    have K1 : Hid (∀ W, Bld B l W → Calls Tryd.prog 16 #[.pointer (some ⟨B, 0, none⟩), str [97], .int .i64 n] W fun e w' => e = .returned (.tuple #[]) ∧ Wrote B (l ++ ([97] ++ Lib.decDigits n.toNat)) W w') := fun W hW => writeNumber_any [97] n hn.1 (by have := hn.2; omega) hW (by simp only [List.length_cons, List.length_nil]; omega)
    clear hl hn
    show Calls Tryd.prog 33 #[.pointer (some ⟨B, 0, none⟩), .iface 96 (.agg #[.int .i64 n])] w _
    have q_zero := is_act_zero
    have q_one := is_act_one
    have q_test := is_act_test
    have q_act := is_act_act
    go_enter Tryd.func33, Tryd.ntmps33
    go_wp2_with fail
    refine (K1.out _ (by first | exact h | exact h.alloc _)).mono ?_
    rintro e w1 ⟨rfl, hw1⟩
    go_wp2_with fail
    go_end0
    exact ⟨rfl, by first | exact hw1 | exact hw1.behind h⟩
  | not a ih =>
    intro hd B l w hl h
    have hl2 : l.length + 1 + 5 * a.size ≤ 1099511627776 := by simp only [Nd.size] at hl; omega
    have K1 : Hid (∀ W, Bld B l W → Calls Tryd.prog 17 #[.pointer (some ⟨B, 0, none⟩), str [126]] W fun e w' => (∃ z, e = .returned (.tuple #[.int .i64 z, .nilIface])) ∧ Wrote B (l ++ [126]) W w') := fun W hW => write_any _ hW (by simp only [List.length_cons, List.length_nil]; omega)
    have K2 : Hid (∀ W, Bld B (l ++ [126]) W → Calls Tryd.prog 33 #[.pointer (some ⟨B, 0, none⟩), a.val] W fun e w' => e = .returned (.tuple #[]) ∧ Wrote B (l ++ [126] ++ a.tx) W w') := fun W hW => ih hd B _ W (by simp only [List.length_append, List.length_cons, List.length_nil]; omega) hW
    have HE : Hid (l ++ [126] ++ a.tx = l ++ (Nd.not a).tx) := by show _ = _; simp [Nd.tx]
    clear ih hl hl2 hd
    show Calls Tryd.prog 33 #[.pointer (some ⟨B, 0, none⟩), .iface 98 (.agg #[a.val, .int .i64 (1 + a.size : Nat)])] w _
    obtain ⟨T1, x1, h1⟩ := Nd.val_if a
    rw [h1] at K2 ⊢
    clear h1
    generalize ((1 + a.size : Nat) : Int) = z0
    have q_zero := is_not_zero
    have q_one := is_not_one
    have q_test := is_not_test
    have q_act := is_not_act
    have q_not := is_not_not
    go_enter Tryd.func33, Tryd.ntmps33
    go_wp2_with fail
    have hbk : (w.alloc (.cells #[.iface T1 x1, .int .i64 z0] 98)).heap[w.heap.size]? = some (.cells #[.iface T1 x1, .int .i64 z0] 98 (0, 0)) := heap_new _ _ _ rfl
    refine (K1.out _ (h.alloc _)).mono ?_
    rintro e w1 ⟨⟨z, rfl⟩, hw1⟩
    have hb1 := hw1.one hbk (by decide) (Nat.ne_of_gt h.lt)
    have c0 := Fo.cell_of_block hb1 0
    go_wp2_with fail
    refine (K2.out _ hw1.bld).mono ?_
    rintro e w2 ⟨rfl, hw2⟩
    go_wp2_with fail
    go_end0
    exact ⟨rfl, ((hw1.behind h).trans hw2).to HE.out⟩
  | sum a b iha ihb =>
    intro hd B l w hl h
    have hta := Nd.tx_len hd.1
    have htb := Nd.tx_len hd.2
    have hl2 : l.length + 5 * a.size + 5 * b.size + 5 ≤ 1099511627776 := by simp only [Nd.size] at hl; omega
    have K1 : Hid (∀ W, Bld B l W → Calls Tryd.prog 45 #[.pointer (some ⟨B, 0, none⟩), a.val, str [32, 43, 32], b.val] W fun e w' => e = .returned (.tuple #[]) ∧ Wrote B (l ++ (40 :: (a.tx ++ ([32, 43, 32] ++ (b.tx ++ [41]))))) W w') := fun W hW => writeBoth_of (fun W h => iha hd.1 B _ W (by simp only [List.length_append, List.length_cons, List.length_nil]; omega) h) (fun W h => ihb hd.2 B _ W (by simp only [List.length_append, List.length_cons, List.length_nil]; omega) h) hW (by simp only [List.length_cons, List.length_nil]; omega)
    clear iha ihb hl hl2 hd hta htb
    show Calls Tryd.prog 33 #[.pointer (some ⟨B, 0, none⟩), .iface 100 (.agg #[a.val, b.val, .int .i64 (1 + a.size + b.size : Nat)])] w _
    show Calls _ _ _ _ fun e w' => e = .returned (.tuple #[]) ∧ Wrote B (l ++ (40 :: (a.tx ++ ([32, 43, 32] ++ (b.tx ++ [41]))))) w w'
    obtain ⟨T1, x1, h1⟩ := Nd.val_if a
    obtain ⟨T2, x2, h2⟩ := Nd.val_if b
    rw [h1, h2] at K1
    rw [h1, h2]
    clear h1 h2
    generalize ((1 + a.size + b.size : Nat) : Int) = z0
    generalize a.tx = la at K1 ⊢
    generalize b.tx = lb at K1 ⊢
    have q_zero := is_sum_zero
    have q_one := is_sum_one
    have q_test := is_sum_test
    have q_act := is_sum_act
    have q_not := is_sum_not
    have q_sum := is_sum_sum
    go_enter Tryd.func33, Tryd.ntmps33
    go_wp2_with fail
    refine (K1.out _ (h.alloc _)).mono ?_
    rintro e w1 ⟨rfl, hw1⟩
    go_wp2_with fail
    go_end0
    exact ⟨rfl, hw1.behind h⟩
  | dot a b iha ihb =>
    intro hd B l w hl h
    have hta := Nd.tx_len hd.1
    have htb := Nd.tx_len hd.2
    have hl2 : l.length + 5 * a.size + 5 * b.size + 5 ≤ 1099511627776 := by simp only [Nd.size] at hl; omega
    have K1 : Hid (∀ W, Bld B l W → Calls Tryd.prog 45 #[.pointer (some ⟨B, 0, none⟩), a.val, str [32], b.val] W fun e w' => e = .returned (.tuple #[]) ∧ Wrote B (l ++ (40 :: (a.tx ++ ([32] ++ (b.tx ++ [41]))))) W w') := fun W hW => writeBoth_of (fun W h => iha hd.1 B _ W (by simp only [List.length_append, List.length_cons, List.length_nil]; omega) h) (fun W h => ihb hd.2 B _ W (by simp only [List.length_append, List.length_cons, List.length_nil]; omega) h) hW (by simp only [List.length_cons, List.length_nil]; omega)
    clear iha ihb hl hl2 hd hta htb
    show Calls Tryd.prog 33 #[.pointer (some ⟨B, 0, none⟩), .iface 102 (.agg #[a.val, b.val, .int .i64 (1 + a.size + b.size : Nat)])] w _
    show Calls _ _ _ _ fun e w' => e = .returned (.tuple #[]) ∧ Wrote B (l ++ (40 :: (a.tx ++ ([32] ++ (b.tx ++ [41]))))) w w'
    obtain ⟨T1, x1, h1⟩ := Nd.val_if a
    obtain ⟨T2, x2, h2⟩ := Nd.val_if b
    rw [h1, h2] at K1
    rw [h1, h2]
    clear h1 h2
    generalize ((1 + a.size + b.size : Nat) : Int) = z0
    generalize a.tx = la at K1 ⊢
    generalize b.tx = lb at K1 ⊢
    have q_zero := is_dot_zero
    have q_one := is_dot_one
    have q_test := is_dot_test
    have q_act := is_dot_act
    have q_not := is_dot_not
    have q_sum := is_dot_sum
    have q_dot := is_dot_dot
    go_enter Tryd.func33, Tryd.ntmps33
    go_wp2_with fail
    refine (K1.out _ (h.alloc _)).mono ?_
    rintro e w1 ⟨rfl, hw1⟩
    go_wp2_with fail
    go_end0
    exact ⟨rfl, hw1.behind h⟩
  | star a ih =>
    intro hd B l w hl h
    have hta := Nd.tx_len hd
    have hl2 : l.length + 5 * a.size + 5 ≤ 1099511627776 := by simp only [Nd.size] at hl; omega
    have K1 : Hid (∀ W, Bld B l W → Calls Tryd.prog 33 #[.pointer (some ⟨B, 0, none⟩), a.val] W fun e w' => e = .returned (.tuple #[]) ∧ Wrote B (l ++ a.tx) W w') := fun W hW => ih hd B _ W (by omega) hW
    have K2 : Hid (∀ W, Bld B (l ++ a.tx) W → Calls Tryd.prog 17 #[.pointer (some ⟨B, 0, none⟩), str [42]] W fun e w' => (∃ z, e = .returned (.tuple #[.int .i64 z, .nilIface])) ∧ Wrote B (l ++ a.tx ++ [42]) W w') := fun W hW => write_any _ hW (by simp only [List.length_append, List.length_cons, List.length_nil]; simp only [Nd.tx, Nd.size, List.length_append, List.length_cons, List.length_nil] at hta; omega)
    have HE : Hid (l ++ a.tx ++ [42] = l ++ (Nd.star a).tx) := by show _ = _; simp [Nd.tx]
    clear ih hl hl2 hd hta
    show Calls Tryd.prog 33 #[.pointer (some ⟨B, 0, none⟩), .iface 103 (.agg #[a.val, .int .i64 (1 + a.size : Nat)])] w _
    obtain ⟨T1, x1, h1⟩ := Nd.val_if a
    rw [h1] at K1 ⊢
    clear h1
    generalize ((1 + a.size : Nat) : Int) = z0
    have q_zero := is_star_zero
    have q_one := is_star_one
    have q_test := is_star_test
    have q_act := is_star_act
    have q_not := is_star_not
    have q_sum := is_star_sum
    have q_dot := is_star_dot
    have q_star := is_star_star
    go_enter Tryd.func33, Tryd.ntmps33
    go_wp2_with fail
    refine (K1.out _ (h.alloc _)).mono ?_
    rintro e w1 ⟨rfl, hw1⟩
    go_wp2_with fail
    refine (K2.out _ hw1.bld).mono ?_
    rintro e w2 ⟨⟨z, rfl⟩, hw2⟩
    go_wp2_with fail
    go_end0
    exact ⟨rfl, ((hw1.behind h).trans hw2).to HE.out⟩
end Go.Proofs.YtmblgkpgfofceaaDoor

namespace Go.Proofs.YtmblgkpgfofceaaDoor
open Go.RowKit
set_option linter.unusedVariables false

theorem builder_below {T e : TypeId} {B b : Nat} {p : Value} {bs : List Value} {W W' : World} (h : Lib.BuilderAtF T e B b p bs W) (hb : Below W.heap.size W W') : Lib.BuilderAtF T e B b p bs W' := by
  obtain ⟨hB, v, hc, hown, hne⟩ := h
  have kk : ∀ (k : Nat) (o : Obj), W.heap[k]? = some o → W'.heap[k]? = some o := fun k o h => (hb.block k (Array.getElem?_eq_some_iff.1 h).1).trans h
  refine ⟨hB, v, kk _ _ hc, ⟨hown.1, ?_⟩, hne⟩
  rcases hown.2 with hn | ⟨g, cap, cur, fz, hv, hbg, hg, rest⟩
  · exact .inl hn
  · exact .inr ⟨g, cap, cur, fz, hv, hbg, kk _ _ hg, rest⟩
theorem Bld.below {B : Nat} {l : List UInt8} {W W' : World} (h : Bld B l W) (hb : Below W.heap.size W W') : Bld B l W' := by
  rcases h with h | h
  · exact Or.inl (builder_below h hb)
  · exact Or.inr (builder_below h hb)
theorem Wrote.then {B : Nat} {l : List UInt8} {a b c : World} (h : Wrote B l a b) (hb : Below b.heap.size b c) : Wrote B l a c :=
  ⟨h.bld.below hb, h.below.trans (hb.mono (Nat.le_of_lt h.bld.lt)), fun k o hk h1 h2 => (hb.block k (Array.getElem?_eq_some_iff.1 (h.kept k o hk h1 h2)).1).trans (h.kept k o hk h1 h2)⟩
theorem sp_cells {W : World} {b : Nat} {T : TypeId} {u0 u1 u2 u3 u4 u5 u6 : Value} (h : W.heap[b]? = some (.cells #[u0, u1, u2, u3, u4, u5, u6] T (0, 0))) :
    W.cell? ⟨b, 0, none⟩ = some u0 ∧ W.cell? ⟨b, 1, none⟩ = some u1 ∧ W.cell? ⟨b, 2, none⟩ = some u2 ∧ W.cell? ⟨b, 3, none⟩ = some u3 ∧ W.cell? ⟨b, 4, none⟩ = some u4 ∧ W.cell? ⟨b, 5, none⟩ = some u5 ∧ W.cell? ⟨b, 6, none⟩ = some u6 :=
  ⟨Fo.cell_of_block h 0, Fo.cell_of_block h 1, Fo.cell_of_block h 2, Fo.cell_of_block h 3, Fo.cell_of_block h 4, Fo.cell_of_block h 5, Fo.cell_of_block h 6⟩

set_option maxHeartbeats 2000000 in
set_option maxRecDepth 100000 in
theorem writeSpot_any {B : Nat} {l : List UInt8} (t a cnt : Int) (ht : t ≤ 3) (ha : a ≤ 4) (hc : cnt ≤ 60) (x : Sp) (hv : spB t a cnt x = true) (A : Option Addr) (C : Nat) {w0 w : World} (h : Bld B l w) (hL : x.cf.Lies w0 A) (hs : Sees w0 w) (hB : w0.heap.size ≤ B) (hT : l.length + (spotT x).length ≤ 1000000) :
    Calls Tryd.prog 18 #[.pointer (some ⟨B, 0, none⟩), .agg #[.int .i64 x.k, .int .i64 x.n, .int .i64 x.ck, .int .i64 x.cn, .slice A x.cf.len C, .int .i64 x.tg, .int .i64 x.el]] w fun e w' => e = .returned (.tuple #[]) ∧ Wrote B (l ++ spotT x) w w' := by
  have hp := sp_parts ht ha hc hv
  clear hv
  obtain ⟨k, n, ck, cn, cf, tg, el⟩ := x
  dsimp only at hp hL ⊢
  have HBX : Hid ((w.alloc (.cells #[.int .i64 k, .int .i64 n, .int .i64 ck, .int .i64 cn, .slice A cf.len C, .int .i64 tg, .int .i64 el] 45)).heap[w.heap.size]? = some (.cells #[.int .i64 k, .int .i64 n, .int .i64 ck, .int .i64 cn, .slice A cf.len C, .int .i64 tg, .int .i64 el] 45 (0, 0))) := heap_new _ _ _ rfl
  have hne : w.heap.size ≠ B := by have := h.lt; omega
  have HB := Lib.hid h
  have HLW : Hid (∀ W : World, Below B w W → cf.Lies W A) := fun W hb => hL.sees (Below.trans hs (hb.mono hB))
  have h0 : Bld B l (w.alloc (.cells #[.int .i64 k, .int .i64 n, .int .i64 ck, .int .i64 cn, .slice A cf.len C, .int .i64 tg, .int .i64 el] 45)) := h.alloc _
  have z0 : Below B w (w.alloc (.cells #[.int .i64 k, .int .i64 n, .int .i64 ck, .int .i64 cn, .slice A cf.len C, .int .i64 tg, .int .i64 el] 45)) := (Below.refl B w).alloc (Nat.le_of_lt h.lt) _
  have H0 := Lib.hid h0; have Z0 := Lib.hid z0
  clear hs hL h h0 z0
  rcases hp with ⟨hk, hn, htg⟩ | ⟨hk, hcv, hok, hnd, htg, hel⟩ | hk | hk
  · subst hk
    have e1 : spotT ⟨1, n, ck, cn, cf, tg, el⟩ = ([97] ++ Lib.decDigits n.toNat) ++ ([32] ++ Lib.decDigits tg.toNat) := rfl
    rw [e1] at hT ⊢
    obtain ⟨l1, hl1⟩ : ∃ l1, l1 = l ++ ([97] ++ Lib.decDigits n.toNat) := ⟨_, rfl⟩
    obtain ⟨l2, hl2⟩ : ∃ l2, l2 = l1 ++ ([32] ++ Lib.decDigits tg.toNat) := ⟨_, rfl⟩
    have e2 : l ++ (([97] ++ Lib.decDigits n.toNat) ++ ([32] ++ Lib.decDigits tg.toNat)) = l2 := by rw [hl2, hl1]; simp only [List.append_assoc]
    rw [e2]
    have hll : l1.length ≤ 1000000 := by rw [hl1]; simp only [List.length_append] at hT ⊢; omega
    have hl0 : l.length ≤ 1000000 := by omega
    have K1 : Hid (∀ W : World, Bld B l W → Calls Tryd.prog 16 #[.pointer (some ⟨B, 0, none⟩), .string ⟨#[97]⟩, .int .i64 n] W fun e w' => e = .returned (.tuple #[]) ∧ Wrote B l1 W w') := fun W hW => by rw [hl1]; exact writeNumber_any [97] n hn.1 hn.2 hW (by simp; omega)
    have K2 : Hid (∀ W : World, Bld B l1 W → Calls Tryd.prog 16 #[.pointer (some ⟨B, 0, none⟩), .string ⟨#[32]⟩, .int .i64 tg] W fun e w' => e = .returned (.tuple #[]) ∧ Wrote B l2 W w') := fun W hW => by rw [hl2]; exact writeNumber_any [32] tg htg.1 htg.2 hW (by simp; omega)
    clear hl1 hl2 e1 e2 hT hll hl0 hn htg HLW
    go_enter Tryd.func18, Tryd.ntmps18
    go_wp2_with fail
    refine (K1.out _ H0.out).mono ?_
    rintro e w1 ⟨rfl, hw⟩
    have HW1 := Lib.hid hw; have HB1 := Lib.hid (hw.one HBX.out (by decide) hne)
    clear hw
    obtain ⟨c0, c1, c2, c3, c4, c5, c6⟩ := sp_cells HB1.out
    go_wp2_with fail
    refine (K2.out _ HW1.out.bld).mono ?_
    rintro e w2 ⟨rfl, hw⟩
    have HW2 := Lib.hid (HW1.out.trans hw)
    clear hw
    go_wp2_with fail
    go_end0
    exact ⟨rfl, HW2.out.behind HB.out⟩
  · subst hk
    have e1 : spotT ⟨2, n, ck, cn, cf, tg, el⟩ = (([116, 101, 115, 116, 32] ++ (ndE cf ck cn).tx) ++ ([32] ++ Lib.decDigits tg.toNat)) ++ ([32] ++ Lib.decDigits el.toNat) := rfl
    rw [e1] at hT ⊢
    obtain ⟨l1, hl1⟩ : ∃ l1, l1 = l ++ [116, 101, 115, 116, 32] := ⟨_, rfl⟩
    obtain ⟨l2, hl2⟩ : ∃ l2, l2 = l1 ++ (ndE cf ck cn).tx := ⟨_, rfl⟩
    obtain ⟨l3, hl3⟩ : ∃ l3, l3 = l2 ++ ([32] ++ Lib.decDigits tg.toNat) := ⟨_, rfl⟩
    obtain ⟨l4, hl4⟩ : ∃ l4, l4 = l3 ++ ([32] ++ Lib.decDigits el.toNat) := ⟨_, rfl⟩
    have e2 : l ++ ((([116, 101, 115, 116, 32] ++ (ndE cf ck cn).tx) ++ ([32] ++ Lib.decDigits tg.toNat)) ++ ([32] ++ Lib.decDigits el.toNat)) = l4 := by rw [hl4, hl3, hl2, hl1]; simp only [List.append_assoc]
    rw [e2]
    have hlen : l4.length ≤ 1000000 := by rw [← e2, List.length_append]; exact hT
    have g3 : l3.length ≤ 1000000 := by rw [hl4, List.length_append] at hlen; omega
    have g2 : l2.length ≤ 1000000 := by rw [hl3, List.length_append] at g3; omega
    have g1 : l1.length ≤ 1000000 := by rw [hl2, List.length_append] at g2; omega
    have g0 : l.length ≤ 1000000 := by rw [hl1, List.length_append] at g1; omega
    have hsz := ndE_size cf ck cn
    obtain ⟨v1, hv1⟩ : ∃ v : Value, v = (ndE cf ck cn).val := ⟨_, rfl⟩
    have K1 : Hid (∀ W : World, Bld B l W → Calls Tryd.prog 17 #[.pointer (some ⟨B, 0, none⟩), .string ⟨#[116, 101, 115, 116, 32]⟩] W fun e w' => (∃ z, e = .returned (.tuple #[.int .i64 z, .nilIface])) ∧ Wrote B l1 W w') := fun W hW => by rw [hl1]; exact write_any [116, 101, 115, 116, 32] hW (by simp; omega)
    have K2 : Hid (∀ W : World, Below B w W → Calls Tryd.prog 34 #[.agg #[.int .i64 ck, .int .i64 cn, .slice A cf.len C]] W fun e w' => e = .returned v1 ∧ Below W.heap.size W w') := fun W hb => by
      rw [hv1]; exact nodeOf_any (cf.nodes + 1) cf (Nat.lt_succ_self _) (by omega) t a false ck cn A C W (HLW.out W hb) (condV_bd hcv).2
    have K3 : Hid (∀ W : World, Bld B l1 W → Calls Tryd.prog 33 #[.pointer (some ⟨B, 0, none⟩), v1] W fun e w' => e = .returned (.tuple #[]) ∧ Wrote B l2 W w') := fun W hW => by
      rw [hl2, hv1]; exact writeNode_any _ hok B l1 W (by omega) hW
    have K4 : Hid (∀ W : World, Bld B l2 W → Calls Tryd.prog 16 #[.pointer (some ⟨B, 0, none⟩), .string ⟨#[32]⟩, .int .i64 tg] W fun e w' => e = .returned (.tuple #[]) ∧ Wrote B l3 W w') := fun W hW => by rw [hl3]; exact writeNumber_any [32] tg htg.1 htg.2 hW (by simp; omega)
    have K5 : Hid (∀ W : World, Bld B l3 W → Calls Tryd.prog 16 #[.pointer (some ⟨B, 0, none⟩), .string ⟨#[32]⟩, .int .i64 el] W fun e w' => e = .returned (.tuple #[]) ∧ Wrote B l4 W w') := fun W hW => by rw [hl4]; exact writeNumber_any [32] el hel.1 hel.2 hW (by simp; omega)
    clear hl1 hl2 hl3 hl4 e1 e2 hT hlen g0 g1 g2 g3 hcv hok hnd htg hel HLW hsz hv1
    go_enter Tryd.func18, Tryd.ntmps18
    go_wp2_with fail
    refine (K1.out _ H0.out).mono ?_
    rintro e w1 ⟨⟨z1, rfl⟩, hw⟩
    have HW1 := Lib.hid hw; have HB1 := Lib.hid (hw.one HBX.out (by decide) hne)
    clear hw
    obtain ⟨c0, c1, c2, c3, c4, c5, c6⟩ := sp_cells HB1.out
    go_wp2_with fail
    refine (K2.out _ (Z0.out.trans HW1.out.below)).mono ?_
    rintro e w2 ⟨rfl, hb⟩
    have HW2 := Lib.hid (HW1.out.then hb)
    clear hb c0 c1 c2 c3 c4 c5 c6 HB1
    go_wp2_with fail
    refine (K3.out _ HW2.out.bld).mono ?_
    rintro e w3 ⟨rfl, hw⟩
    have HW3 := Lib.hid (HW2.out.trans hw)
    have HB3 := Lib.hid (HW3.out.one HBX.out (by decide) hne)
    clear hw
    obtain ⟨c0, c1, c2, c3, c4, c5, c6⟩ := sp_cells HB3.out
    go_wp2_with fail
    refine (K4.out _ HW3.out.bld).mono ?_
    rintro e w4 ⟨rfl, hw⟩
    have HW4 := Lib.hid (HW3.out.trans hw)
    have HB4 := Lib.hid (HW4.out.one HBX.out (by decide) hne)
    clear hw c0 c1 c2 c3 c4 c5 c6 HB3
    obtain ⟨c0, c1, c2, c3, c4, c5, c6⟩ := sp_cells HB4.out
    go_wp2_with fail
    refine (K5.out _ HW4.out.bld).mono ?_
    rintro e w5 ⟨rfl, hw⟩
    have HW5 := Lib.hid (HW4.out.trans hw)
    clear hw
    go_wp2_with fail
    go_end0
    exact ⟨rfl, HW5.out.behind HB.out⟩
  · subst hk
    have e1 : spotT ⟨3, n, ck, cn, cf, tg, el⟩ = [104, 97, 108, 116] := rfl
    rw [e1] at hT ⊢
    obtain ⟨l1, hl1⟩ : ∃ l1, l1 = l ++ [104, 97, 108, 116] := ⟨_, rfl⟩
    have K1 : Hid (∀ W : World, Bld B l W → Calls Tryd.prog 17 #[.pointer (some ⟨B, 0, none⟩), .string ⟨#[104, 97, 108, 116]⟩] W fun e w' => (∃ z, e = .returned (.tuple #[.int .i64 z, .nilIface])) ∧ Wrote B l1 W w') := fun W hW => by rw [hl1]; exact write_any [104, 97, 108, 116] hW (by simp at hT ⊢; omega)
    rw [← hl1]
    clear hl1 e1 hT HLW
    go_enter Tryd.func18, Tryd.ntmps18
    go_wp2_with fail
    refine (K1.out _ H0.out).mono ?_
    rintro e w1 ⟨⟨z1, rfl⟩, hw⟩
    have HW1 := Lib.hid hw
    clear hw
    go_wp2_with fail
    go_end0
    exact ⟨rfl, HW1.out.behind HB.out⟩
  · subst hk
    have e1 : spotT ⟨4, n, ck, cn, cf, tg, el⟩ = [102, 97, 105, 108] := rfl
    rw [e1] at hT ⊢
    obtain ⟨l1, hl1⟩ : ∃ l1, l1 = l ++ [102, 97, 105, 108] := ⟨_, rfl⟩
    have K1 : Hid (∀ W : World, Bld B l W → Calls Tryd.prog 17 #[.pointer (some ⟨B, 0, none⟩), .string ⟨#[102, 97, 105, 108]⟩] W fun e w' => (∃ z, e = .returned (.tuple #[.int .i64 z, .nilIface])) ∧ Wrote B l1 W w') := fun W hW => by rw [hl1]; exact write_any [102, 97, 105, 108] hW (by simp at hT ⊢; omega)
    rw [← hl1]
    clear hl1 e1 hT HLW
    go_enter Tryd.func18, Tryd.ntmps18
    go_wp2_with fail
    refine (K1.out _ H0.out).mono ?_
    rintro e w1 ⟨⟨z1, rfl⟩, hw⟩
    have HW1 := Lib.hid hw
    clear hw
    go_wp2_with fail
    go_end0
    exact ⟨rfl, HW1.out.behind HB.out⟩

set_option maxHeartbeats 4000000 in
set_option maxRecDepth 100000 in
theorem implFlowText_any (t a s : Int) (xs : List Sp) (hf : FitSp xs) (hm : tot Sp.cnt xs ≤ 1048576) (A : Option Addr) (C : Nat) (w : World) (hA : SpL w xs A) :
    Calls Tryd.prog 8 #[.agg #[.int .i64 t, .int .i64 a], .agg #[.int .i64 s, .slice A xs.length C]] w fun e w' => e = .returned (.string ⟨(flTx t a s xs).toArray⟩) ∧ Below w.heap.size w w' := by
  obtain ⟨q1, hq1⟩ : ∃ q : Bool, q = flowB t a s xs := ⟨_, rfl⟩
  have K1 : Hid (∀ W : World, Sees w W → Calls Tryd.prog 15 #[.agg #[.int .i64 t, .int .i64 a], .agg #[.int .i64 s, .slice A xs.length C]] W fun e w' => e = .returned (.bool q1) ∧ Below W.heap.size W w') := fun W h => by
    rw [hq1]; exact implValidFlow_any t a s xs hf hm A C W (hA.sees h)
  have HS0 : Hid (St w [(w.heap.size, 0, .int .i64 t), (w.heap.size, 1, .int .i64 a), (w.heap.size + 1, 0, .int .i64 s), (w.heap.size + 1, 1, .slice A xs.length C)] ((w.alloc (.cells #[.int .i64 t, .int .i64 a] 29)).alloc (.cells #[.int .i64 s, .slice A xs.length C] 33))) := ⟨(by unfold Sees; go_grown), (by simp [go_sem]), (by simp [go_sem]), (by simp [go_sem]), (by simp [go_sem]), trivial⟩
  cases q1
  · have HD : Hid (flTx t a s xs = []) := if_neg (by rw [← hq1]; decide)
    rw [HD.out]
    clear hq1 HD hf hm hA
    go_enter Tryd.func8, Tryd.ntmps8
    go_wp2_with fail
    refine (K1.out _ HS0.out.1).mono ?_
    rintro e w1 ⟨rfl, hb⟩
    have HF := Lib.hid (Sees.below HS0.out.1 hb)
    clear hb
    go_wp2_with fail
    go_ret
    exact ⟨rfl, HF.out⟩
  · obtain ⟨⟨ht0, ht1, ha0, ha1⟩, ⟨hl1, hl60⟩, ⟨hs0, hs1⟩, hTl, hall⟩ := flow_parts hq1.symm
    have HE : flTx t a s xs = flowT s xs := if_pos hq1.symm
    obtain ⟨T, hT⟩ : ∃ T, T = flowT s xs := ⟨_, rfl⟩
    rw [HE, ← hT]
    rw [← hT] at hTl
    have HTL := Lib.hid hTl; have HALL := Lib.hid hall; have HAA := Lib.hid hA
    have HQ := Lib.hid (And.intro ht1 (And.intro ha1 (And.intro hl60 hl1)))
    obtain ⟨l1, hl1e⟩ : ∃ l, l = [] ++ ([115, 116, 97, 114, 116, 32] ++ Lib.decDigits s.toNat) := ⟨_, rfl⟩
    obtain ⟨l2, hl2e⟩ : ∃ l, l = l1 ++ [10] := ⟨_, rfl⟩
    have h1 : T = l2 ++ spotsT (xs.drop 0) := by rw [hT, hl2e, hl1e, List.drop_zero]; unfold flowT; simp only [List.append_assoc, List.nil_append]
    have H1 := Lib.hid h1
    have hll : l2.length ≤ 1000000 := by rw [h1, List.length_append] at hTl; omega
    have hl0 : l1.length ≤ 1000000 := by rw [hl2e, List.length_append] at hll; omega
    have KN : Hid (∀ (Bq : Nat) (W : World), Bld Bq [] W → Calls Tryd.prog 16 #[.pointer (some ⟨Bq, 0, none⟩), .string ⟨#[115, 116, 97, 114, 116, 32]⟩, .int .i64 s] W fun e w' => e = .returned (.tuple #[]) ∧ Wrote Bq l1 W w') := fun Bq W hW => by rw [hl1e]; exact writeNumber_any [115, 116, 97, 114, 116, 32] s hs0 hs1 hW (by simp)
    have KW : Hid (∀ (Bq : Nat) (W : World), Bld Bq l1 W → Calls Tryd.prog 17 #[.pointer (some ⟨Bq, 0, none⟩), .string ⟨#[10]⟩] W fun e w' => (∃ z, e = .returned (.tuple #[.int .i64 z, .nilIface])) ∧ Wrote Bq l2 W w') := fun Bq W hW => by rw [hl2e]; exact write_any [10] hW (by simp; omega)
    clear hq1 HE hT hTl hall hl1e hl2e h1 hll hl0 hf hm hA ht0 ht1 ha0 ha1 hl1 hs0 hs1
    go_enter Tryd.func8, Tryd.ntmps8
    go_wp2_with fail
    refine (K1.out _ HS0.out.1).mono ?_
    rintro e w1 ⟨rfl, hb⟩
    have HS1 := Lib.hid (St.below HS0.out hb)
    clear hb K1 HS0
    obtain ⟨sS, s0, s1, s2, s3, _⟩ := HS1.out
    have k2 := ka (.cells #[.pointer none, .slice none 0 0] 53) s2
    go_wp2_with fail
    refine (KN.out _ _ (Bld.fresh w1)).mono ?_
    rintro e w2 ⟨rfl, hw⟩
    have hb1 : Below w1.heap.size w1 w2 := ((Below.refl _ _).alloc (Nat.le_refl _) _).trans hw.below
    have HS2 := Lib.hid (St.below HS1.out hb1)
    have HB2 := Lib.hid (And.intro hb1 hw.bld)
    clear hw hb1 sS s0 s1 s2 s3 k2
    obtain ⟨sS, s0, s1, s2, s3, _⟩ := HS2.out
    go_wp2_with fail
    refine (KW.out _ _ HB2.out.2).mono ?_
    rintro e w3 ⟨⟨z3, rfl⟩, hw⟩
    have hb1 : Below w1.heap.size w1 w3 := HB2.out.1.trans hw.below
    have HS3 := Lib.hid (St.below HS1.out hb1)
    have HB3 := Lib.hid (And.intro hb1 hw.bld)
    clear hw hb1 sS s0 s1 s2 s3 HS2 HB2 KN KW
    obtain ⟨sS, s0, s1, s2, s3, _⟩ := HS3.out
    go_wp2_with fail
    clear sS s0 s1 s2 s3
    go_loopw [19] (fun i wr => ∃ (j : Nat) (m : List UInt8), j ≤ xs.length ∧ i = .int .i64 j ∧ Hid (T = m ++ spotsT (xs.drop j)) ∧ Hid (Below w1.heap.size w1 wr ∧ Bld w1.heap.size m wr)) (fun i _ => xs.length - (intOf i).toNat)
    case atStart => exact ⟨0, l2, Nat.zero_le _, rfl, H1.out, HB3.out⟩
    case round =>
      obtain ⟨j, m, hj, rfl, hTm, hW⟩ := hrel
      clear HB3 HS3
      obtain ⟨wo, rfl⟩ : ∃ wo, wo = wr := ⟨_, rfl⟩
      by_cases hjl : j < xs.length
      · obtain ⟨c, p, rfl, hat⟩ := HAA.out (by rintro rfl; simp at hjl)
        obtain ⟨A1, C1, hx1, hQ⟩ := hat j xs[j] (List.getElem?_eq_getElem hjl)
        have hsp := HALL.out j hjl
        have hstep := spotsT_step hjl
        obtain ⟨x, hx⟩ : ∃ x, x = xs[j] := ⟨_, rfl⟩
        rw [← hx] at hx1 hQ hsp hstep
        obtain ⟨R, hR⟩ : ∃ R, R = spotsT (xs.drop (j + 1)) := ⟨_, rfl⟩
        rw [← hR] at hstep
        have hTe : T = ((m ++ spotT x) ++ [10]) ++ R := by rw [hTm.out, hstep]; simp only [List.append_assoc]
        have hlen := HTL.out
        rw [hTe] at hlen
        simp only [List.length_append, List.length_cons, List.length_nil] at hlen
        obtain ⟨m1, hm1⟩ : ∃ m1, m1 = m ++ spotT x := ⟨_, rfl⟩
        obtain ⟨m2, hm2⟩ : ∃ m2, m2 = m1 ++ [10] := ⟨_, rfl⟩
        rw [← hm1, ← hm2] at hTe
        have hm1l : m1.length ≤ 999999 := by rw [hm1, List.length_append]; omega
        have HTE : Hid (T = m2 ++ spotsT (xs.drop (j + 1))) := by show _ = _; rw [← hR]; exact hTe
        have hS1 : Sees w w1 := HS1.out.1
        have hbW : Below w1.heap.size w1 wo := hW.out.1
        have hsw : Sees w wo := Below.trans hS1 (hbW.mono (Below.size hS1))
        obtain ⟨c0, c1, c2, c3, c4, c5, c6⟩ := hx1.below hsw
        have zc := Below.size hsw
        have KS : Hid (∀ W : World, Bld w1.heap.size m W → Below w1.heap.size w1 W → Calls Tryd.prog 18 #[.pointer (some ⟨w1.heap.size, 0, none⟩), .agg #[.int .i64 x.k, .int .i64 x.n, .int .i64 x.ck, .int .i64 x.cn, .slice A1 x.cf.len C1, .int .i64 x.tg, .int .i64 x.el]] W fun e w' => e = .returned (.tuple #[]) ∧ Wrote w1.heap.size m1 W w') := fun W hB hb => by
          rw [hm1]
          exact writeSpot_any t a xs.length HQ.out.1 HQ.out.2.1 (by have := HQ.out.2.2.1; omega) x hsp A1 C1 (w0 := w) hB hQ (Below.trans hS1 (hb.mono (Below.size hS1))) (Below.size hS1) (by omega)
        have KW : Hid (∀ W : World, Bld w1.heap.size m1 W → Calls Tryd.prog 17 #[.pointer (some ⟨w1.heap.size, 0, none⟩), .string ⟨#[10]⟩] W fun e w' => (∃ z, e = .returned (.tuple #[.int .i64 z, .nilIface])) ∧ Wrote w1.heap.size m2 W w') := fun W hW => by rw [hm2]; exact write_any [10] hW (by simp; omega)
        have JL := Lib.hid hjl
        have j0 : (0 : Int) ≤ (j : Int) := Int.natCast_nonneg _
        have j1 : (j : Int) < (xs.length : Int) := by omega
        have hzw := hbW.size
        clear hstep hTe hlen hm1 hm2 hm1l hsp hx1 hQ hat hx hR hTm hS1 hbW hsw
        go_wp2_with fail
        refine (KS.out _ (hW.out.2.alloc _) (hW.out.1.alloc (by omega) _)).mono ?_
        rintro e w4 ⟨rfl, hw⟩
        have HB4 := Lib.hid (And.intro ((hW.out.1.alloc hzw _).trans hw.below) hw.bld)
        clear hw c0 c1 c2 c3 c4 c5 c6 hW KS
        go_wp2_with fail
        refine (KW.out _ HB4.out.2).mono ?_
        rintro e w5 ⟨⟨z5, rfl⟩, hw⟩
        have HB5 : Hid (Below w1.heap.size w1 w5 ∧ Bld w1.heap.size m2 w5) := ⟨HB4.out.1.trans hw.below, hw.bld⟩
        clear hw HB4 KW
        go_wp2_with fail
        go_roundw
        case rel => exact ⟨j + 1, m2, JL.out, by go_num, HTE.out, HB5.out⟩
        case measure => have := JL.out; simp [intOf]; omega
      · obtain rfl : j = xs.length := by omega
        have hTe : T = m := by rw [hTm.out, List.drop_length]; simp [spotsT]
        subst hTe
        have KZ : Hid (Calls Tryd.prog 19 #[.pointer (some ⟨w1.heap.size, 0, none⟩)] wo fun e w' => e = .returned (.string ⟨T.toArray⟩) ∧ Below w1.heap.size wo w') := string_any hW.out.2
        have HF : Hid (∀ W : World, Below w1.heap.size wo W → Below w.heap.size w W) := fun W h => Below.trans HS1.out.1 ((hW.out.1.trans h).mono (Below.size HS1.out.1))
        clear hTm hjl
        go_wp2_with fail
        refine KZ.out.mono ?_
        rintro e w6 ⟨rfl, hb⟩
        have HF6 := Lib.hid (HF.out _ hb)
        clear hb
        go_wp2_with fail
        go_ret
        exact ⟨rfl, HF6.out⟩
end Go.Proofs.YtmblgkpgfofceaaDoor

namespace Go.Proofs.YtmblgkpgfofceaaDoor
open Go.RowKit Go.WideShapes Go.ChangeShapes Go.ChangeAt Go.Deep Go.WideElems

theorem Tryd.own : ownKnob Tryd.prog.godebug = none := by kernel_rfl
theorem Tryd.laidOut : laidOutB Tryd.prog = true := by kernel_rfl
theorem Tryd.kids : Go.Kids Tryd.prog (· < Tryd.prog.types.size) := kids_rows (by kernel_rfl) (by kernel_rfl)
theorem Tryd.full : ∀ t e, t < Tryd.prog.types.size → Tryd.prog.underlying t = some (.slice e) → 0 < Tryd.prog.cellsOf e := slices_full_of Tryd.prog (by kernel_rfl)

section
variable {H : Type} {enc : TypeId × Value → H} {P : Program}

theorem post_of_below {f : Func} {s : ChangeSpec} {apart fresh handsOn again : Bool} {W W' : World} {args : Array Value} {v : Value} {ds gs : List (DataW H)} {before pa pv : List MemPlace}
    (hW : DataW.Whole enc P f.params.toList s.vars apart W args.toList ds gs before)
    (hres : ∀ (b : Nat) (sp : Nat → Bool) (hd : Bool), DataW.TrodAll enc P W' b sp hd f.resultTypes.toList (v.resultList f.resultTypes.size) (s.fn H (ds ++ gs)).results [])
    (hargs : ∀ sp : Nat → Bool, (∀ p ∈ before, sp p.block = true) → DataW.TrodAll enc P W' 0 sp true f.params.toList args.toList (s.fn H (ds ++ gs)).args pa)
    (hvars : ∀ sp : Nat → Bool, (∀ p ∈ before, sp p.block = true) → DataW.TrodVars enc P W' sp s.vars (s.fn H (ds ++ gs)).vars pv)
    (hps : before = pa ++ pv) (hb : Below W.heap.size W W')
    (hok : ∀ (j : Nat) (t : TypeId) (r : Value), f.resultTypes[j]? = some t → (v.resultList f.resultTypes.size)[j]? = some r → Value.okWide P W' .any 0 t r) :
    s.post enc P f apart fresh handsOn again W args v W' := by
  have hlt : ∀ p ∈ before, p.block < W.heap.size := fun p hp => hW.lt p hp
  have hold : ∀ p ∈ before, (fun b => decide (b < W.heap.size)) p.block = true := fun p hp => by simpa using hlt p hp
  refine ⟨ds, gs, before, [], pa, pv, hW, hres _ _ _, hargs _ hold, hvars _ hold, World.keptBut_mono (fun p hp => ⟨hp, ?_⟩) (hb.frame (· ∈ before)), fun _ => ?_⟩
  · rw [hps, List.mem_append] at hp
    exact Or.inr hp
  · obtain ⟨_, _, _, _, _, hz, hn⟩ := hW
    refine ⟨hok, _, _, ([] ++ pa) ++ pv, ⟨[] ++ pa, pv, trodAll_append (hargs _ (fun _ _ => rfl)) (hres _ _ _), hvars _ (fun _ _ => rfl), rfl, ?_, ?_⟩, ?_⟩
    · intro b off hp
      have hin : MemPlace.cell b off ∈ before := by rw [hps]; simpa using hp
      rw [hb.frozen (hlt _ hin)]
      exact hz b off hin
    · intro ha
      have := hn ha
      rw [hps] at this
      simpa using this
    · intro p hp _
      rw [hps]
      simpa using hp

/-- Arguments read behind the call as they did, where nothing that was there has changed. -/
theorem trodAll_stays (hl : laidOutB P = true) {W W' : World} {sp : Nat → Bool} (hb : Below W.heap.size W W') :
    ∀ {ts : List TypeId} {vs : List Value} {ds : List (DataW H)} {ps : List MemPlace}, (∀ t ∈ ts, P.readableRec t = true ∧ t < P.types.size) →
      DataW.TrodAll enc P W 0 (fun _ => true) true ts vs ds ps → (∀ x ∈ ps, x.block < W.heap.size) → (∀ x ∈ ps, sp x.block = true) → DataW.TrodAll enc P W' 0 sp true ts vs ds ps
  | [], [], [], _, _, h, _, _ => h
  | _ :: _, _ :: _, _ :: _, _, hT, ⟨p, q, h1, h2, e⟩, hlt, hs => ⟨p, q,
      WideElems.Trod_stays hl (hT _ (List.mem_cons.2 (Or.inl rfl))).1 (hT _ (List.mem_cons.2 (Or.inl rfl))).2 h1 (fun x hx => hb.same (hlt x (by rw [e]; exact List.mem_append_left _ hx))) (fun x hx => hs x (by rw [e]; exact List.mem_append_left _ hx)),
      trodAll_stays hl hb (fun t ht => hT t (List.mem_cons.2 (Or.inr ht))) h2 (fun x hx => hlt x (by rw [e]; exact List.mem_append_right _ hx)) (fun x hx => hs x (by rw [e]; exact List.mem_append_right _ hx)), e⟩

/-- A LAW's END: it answers true, and nothing that was there has changed. -/
theorem law_end {f : Func} {s : ChangeSpec} {W W' : World} {args : Array Value} {ds gs : List (DataW H)} {before : List MemPlace} {tb : TypeId}
    (hl : laidOutB P = true) (ub : P.underlying tb = some .bool) (hv : s.vars = []) (hr : f.resultTypes = #[tb]) (hp : ∀ t ∈ f.params.toList, P.readableRec t = true ∧ t < P.types.size)
    (hfn : (s.fn H (ds ++ gs)).results = [.lit (.bool true)]) (hfa : (s.fn H (ds ++ gs)).args = ds) (hfv : (s.fn H (ds ++ gs)).vars = [])
    (hW : DataW.Whole enc P f.params.toList s.vars false W args.toList ds gs before) (hb : Below W.heap.size W W') : s.post enc P f false true false false W args (.bool true) W' := by
  have hW' := hW
  obtain ⟨p, q, hA, hV, hpq, _, _⟩ := hW
  rw [hv] at hV
  obtain ⟨rfl, rfl⟩ := trodVars_none hV
  refine post_of_below (pa := p) (pv := []) hW' ?_ ?_ ?_ hpq hb ?_
  · intro b sp hd
    rw [hr, hfn]
    exact trodAll_mk1 (shut_bool ub _)
  · intro sp hsp
    rw [hfa]
    exact trodAll_stays hl hb hp hA (fun x hx => hW'.lt x (by rw [hpq]; exact List.mem_append_left _ hx)) (fun x hx => hsp x (by rw [hpq]; exact List.mem_append_left _ hx))
  · intro sp _
    rw [hv, hfv]
    exact rfl
  · exact ok_one hr rfl (okWide_bool_mk ub _)

/-- A signature handed by value: two integers. -/
theorem open_sig {W : World} {base : Nat} {t : TypeId} {v : Value} {d : DataW H} {p : List MemPlace} {f0 f1 : Field} (hs : P.underlying t = some (.struct #[f0, f1])) (hone : oneCellFields P #[f0, f1] = true) (hC : P.cellsOf t = 2)
    (u0 : P.underlying f0.type = some (.int .i64)) (u1 : P.underlying f1.type = some (.int .i64)) (hok : Value.okWide P W .any base t v) (h : DataW.Trod enc P W 0 (fun _ => true) true t v d p) :
    ∃ x y : Int, v = .agg #[.int .i64 x, .int .i64 y] ∧ (Lit.int .i64 x).wf = true ∧ (Lit.int .i64 y).wf = true := by
  obtain ⟨c0, c1, y0, y1, m, rfl, rfl, rfl, hy0, hy1⟩ := Joins.open_agg2 hs hone hC hok h
  obtain ⟨x, hx, _, wx⟩ := DataW.trod_int u0 hy0
  obtain ⟨y, hy, _, wy⟩ := DataW.trod_int u1 hy1
  simp at hx hy
  subst hx; subst hy
  exact ⟨x, y, rfl, wx, wy⟩
end

set_option maxRecDepth 100000 in
theorem lsig_open {H : Type} {enc : TypeId × Value → H} {W : World} {base : Nat} {v : Value} {d : DataW H} {p : List MemPlace} (hok : Value.okWide Tryd.prog W .any base 23 v) (h : DataW.Trod enc Tryd.prog W 0 (fun _ => true) true 23 v d p) :
    ∃ x y : Int, v = .agg #[.int .i64 x, .int .i64 y] ∧ (Lit.int .i64 x).wf = true ∧ (Lit.int .i64 y).wf = true :=
  open_sig Tryd.underlying23 (by kernel_rfl) (by kernel_rfl) Tryd.underlying2 Tryd.underlying2 hok h

theorem Tryd.cellsE : Tryd.prog.cellsOf 65 = 3 := by kernel_rfl

/-- A list of rows out of its rows, from the last one on. -/
theorem forest_of_rows {W : World} {b o len : Nat} {K N : Nat → Int} {S : Nat → Fo} {A : Nat → Option Addr} {C : Nat → Nat}
    (h : ∀ i, i < len → W.cell? ⟨b, o + i * 3, none⟩ = some (.int .i64 (K i)) ∧ W.cell? ⟨b, o + i * 3 + 1, none⟩ = some (.int .i64 (N i)) ∧ W.cell? ⟨b, o + i * 3 + 2, none⟩ = some (.slice (A i) (S i).len (C i)) ∧ (S i).Lies W (A i) ∧ (S i).len ≤ 9223372036854775807 ∧ (S i).Fits) :
    ∀ j, j ≤ len → ∃ f : Fo, f.len = j ∧ f.At W b (o + (len - j) * 3) ∧ f.Fits := by
  intro j
  induction j with
  | zero => intro _; exact ⟨.nil, rfl, trivial, trivial⟩
  | succ j ih =>
    intro hj
    obtain ⟨f, h1, h2, h3⟩ := ih (by omega)
    obtain ⟨g0, g1, g2, g3, g4, g5⟩ := h (len - (j + 1)) (by omega)
    refine ⟨.cons (K (len - (j + 1))) (N (len - (j + 1))) (S (len - (j + 1))) f, by simp [Fo.len, h1], ⟨g0, g1, ⟨A _, C _, g2, g3⟩, ?_⟩, g4, g5, h3⟩
    rw [show o + (len - (j + 1)) * 3 + 3 = o + (len - j) * 3 from by omega]
    exact h2

set_option maxRecDepth 100000 in
theorem lforest_open {H : Type} {enc : TypeId × Value → H} {W : World} : ∀ (fuel : Nat) (cs : List Value) (x : DataW H × List MemPlace),
    DataW.trod enc Tryd.prog W 0 (fun _ => true) true fuel 63 cs = some x → ∃ (f : Fo) (A : Option Addr) (C : Nat), cs = [.slice A f.len C] ∧ f.Lies W A ∧ f.len ≤ 9223372036854775807 ∧ f.Fits := by
  intro fuel
  induction fuel using Nat.strongRecOn with
  | _ fuel ih =>
    intro cs x h
    rcases DataW.trod_slice Tryd.underlying63 h with ⟨rfl, _⟩ | ⟨a, len, cap, elems, rest, n, hn, rfl, rfl, hb, hl, hm, hlen, hel, hsp, hns⟩
    · exact ⟨.nil, none, 0, rfl, fun h => absurd rfl h, Nat.zero_le _, trivial⟩
    · have one : ∀ i, i < len → ∃ z : Int × Int × Fo × Option Addr × Nat, W.cell? (a.add (i * 3)) = some (.int .i64 z.1) ∧ W.cell? (a.add (i * 3 + 1)) = some (.int .i64 z.2.1) ∧
          W.cell? (a.add (i * 3 + 2)) = some (.slice z.2.2.2.1 z.2.2.1.len z.2.2.2.2) ∧ z.2.2.1.Lies W z.2.2.2.1 ∧ z.2.2.1.len ≤ 9223372036854775807 ∧ z.2.2.1.Fits := by
        intro i hi
        have key := hel i hi
        rw [List.getElem?_eq_getElem (by omega), Tryd.cellsE] at key
        obtain ⟨cs', h1, h2⟩ := Option.bind_eq_some_iff.1 key
        obtain ⟨_, hl3, hc⟩ := World.cells?_some h1
        obtain ⟨xs, m, rfl, _, _, hxl, hf⟩ := DataW.trod_struct Tryd.underlying65 h2
        match xs, hxl, cs', hl3 with
        | [y0, y1, y2], _, [v0, v1, v2], _ =>
          have g0 : DataW.trod enc Tryd.prog W 0 (fun _ => true) true m 2 [v0] = some y0 := hf 0 _ rfl
          have g1 : DataW.trod enc Tryd.prog W 0 (fun _ => true) true m 2 [v1] = some y1 := hf 1 _ rfl
          have g2 : DataW.trod enc Tryd.prog W 0 (fun _ => true) true m 63 [v2] = some y2 := hf 2 _ rfl
          obtain ⟨k, hk, _, _⟩ := DataW.trod_int Tryd.underlying2 g0
          obtain ⟨nn, hnn, _, _⟩ := DataW.trod_int Tryd.underlying2 g1
          obtain ⟨f, A, C, hf2, l1, l2, l3⟩ := ih m (by omega) _ _ g2
          simp at hk hnn hf2
          subst hk; subst hnn; subst hf2
          have c0 := hc 0 (by omega)
          have c1 := hc 1 (by omega)
          have c2 := hc 2 (by omega)
          rw [add_add] at c0 c1 c2
          exact ⟨(k, nn, f, A, C), c0, c1, c2, l1, l2, l3⟩
      obtain ⟨b, o, spot⟩ := a
      by_cases h0 : len = 0
      · subst h0
        exact ⟨.nil, _, _, rfl, fun h => absurd rfl h, Nat.zero_le _, trivial⟩
      have : Inhabited (Option Addr × Nat) := ⟨(none, 0)⟩
      have : Inhabited (Int × Int × Fo × Option Addr × Nat) := ⟨(0, 0, .nil, none, 0)⟩
      obtain ⟨Z, hZ⟩ := choose_lt one
      have hspot : spot = none := by
        have := (hZ 0 (by omega)).1
        simpa [Addr.add] using World.cell?_spot this
      subst hspot
      obtain ⟨f, e1, e2, e3⟩ := forest_of_rows (W := W) (b := b) (o := o) (len := len) (K := fun i => (Z i).1) (N := fun i => (Z i).2.1) (S := fun i => (Z i).2.2.1) (A := fun i => (Z i).2.2.2.1) (C := fun i => (Z i).2.2.2.2)
        (fun i hi => by
          obtain ⟨q0, q1, q2, q3, q4, q5⟩ := hZ i hi
          rw [add_plain] at q0 q1 q2
          exact ⟨q0, q1, q2, q3, q4, q5⟩) len (Nat.le_refl _)
      rw [Nat.sub_self, Nat.zero_mul] at e2
      subst e1
      exact ⟨f, some ⟨b, o, none⟩, cap, rfl, fun _ => ⟨b, o, rfl, e2⟩, by unfold maxLen at hm; omega, e3⟩

set_option maxRecDepth 100000 in
/-- An expression handed by value. -/
theorem lexpr_open {H : Type} {enc : TypeId × Value → H} {W : World} {base : Nat} {v : Value} {d : DataW H} {p : List MemPlace} (hok : Value.okWide Tryd.prog W .any base 65 v) (h : DataW.Trod enc Tryd.prog W 0 (fun _ => true) true 65 v d p) :
    ∃ (k n : Int) (f : Fo) (A : Option Addr) (C : Nat), v = .agg #[.int .i64 k, .int .i64 n, .slice A f.len C] ∧ f.Lies W A ∧ f.len ≤ 9223372036854775807 ∧ f.Fits ∧ (Lit.int .i64 k).wf = true ∧ (Lit.int .i64 n).wf = true := by
  obtain ⟨c0, c1, c2, y0, y1, y2, m, rfl, _, _, g0, g1, g2⟩ := Joins.open_agg3 Tryd.underlying65 (by kernel_rfl) Tryd.cellsE hok h
  obtain ⟨k, hk, _, wk⟩ := DataW.trod_int Tryd.underlying2 g0
  obtain ⟨n, hn, _, wn⟩ := DataW.trod_int Tryd.underlying2 g1
  obtain ⟨f, A, C, hf, l1, l2, l3⟩ := lforest_open _ _ _ g2
  simp at hk hn hf
  subst hk; subst hn; subst hf
  exact ⟨k, n, f, A, C, rfl, l1, l2, l3, wk, wn⟩

end Go.Proofs.YtmblgkpgfofceaaDoor
