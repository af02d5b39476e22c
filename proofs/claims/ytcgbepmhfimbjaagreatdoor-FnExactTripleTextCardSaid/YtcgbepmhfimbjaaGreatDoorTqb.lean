/- The texts of nodes, as bytes. Plain facts, no walk. The texts of programs, as bytes. Plain facts, no walk. Contract of spec.Decimal; strings put together. Contract of spec.l01Text. Contract of spec.l06Text. Contract of spec.TripleText. -/
import Derived.Test.YtcgbepmhfimbjaaGreatDoorTqa
import Derived.Lib.ItoaNum
import Derived.Test.YtcgbepmhfimbjaaGreatDoorVpD
import Derived.Test.YtcgbepmhfimbjaaGreatDoorOk
import Derived.Test.YtcgbepmhfimbjaaGreatDoorSig
import Derived.Test.YtcgbepmhfimbjaaGreatDoorSep
import Derived.Lib.Hide
import Derived.Laws.IdiomStrings
import Derived.Deep.RegionWith
namespace Go.Proofs.YtcgbepmhfimbjaaGreatDoor
open Go.RowKit
namespace Nd
/-- The text of a node's expression. -/
def tx : Nd → List UInt8
  | zero => [48]
  | one => [49]
  | test n => 116 :: Lib.decDigits n.toNat
  | act n => 97 :: Lib.decDigits n.toNat
  | not a => 126 :: a.tx
  | sum a b => 40 :: (a.tx ++ ([32, 43, 32] ++ (b.tx ++ [41])))
  | dot a b => 40 :: (a.tx ++ ([32] ++ (b.tx ++ [41])))
  | star a => a.tx ++ [42]
/-- All numbers have one digit. -/
def okD : Nd → Prop
  | zero | one => True
  | test n | act n => 0 ≤ n ∧ n < 10
  | not a | star a => a.okD
  | sum a b | dot a b => a.okD ∧ b.okD
theorem dig_len {n : Int} (h : n < 10) : (Lib.decDigits n.toNat).length = 1 := by
  rw [Lib.decDigits_one (by omega)]; rfl
theorem tx_len {a : Nd} : a.okD → a.tx.length ≤ 5 * a.size := by
  induction a with
  | zero | one => intro _; decide
  | test n | act n => intro h; have := dig_len h.2; simp only [tx, size, List.length_cons]; omega
  | not a ih => intro h; have := ih h; simp only [tx, size, List.length_cons]; omega
  | star a ih => intro h; have := ih h; simp only [tx, size, List.length_append, List.length_cons, List.length_nil]; omega
  | sum a b iha ihb | dot a b iha ihb =>
    intro h
    have := iha h.1
    have := ihb h.2
    simp only [tx, size, List.length_append, List.length_cons, List.length_nil]
    omega
end Nd
/-- .. of the expressions of the table. -/
theorem ndE_okD (t a : Int) (ht : t ≤ 3) (ha : a ≤ 4) : ∀ (N : Nat) (f : Fo), f.nodes < N → ∀ (b : Bool) (k n : Int), treeE t a b k n f = true → (ndE f k n).okD := by
  intro N
  induction N with
  | zero => intro f hN; exact absurd hN (Nat.not_lt_zero _)
  | succ N ih =>
    intro f hN b k n h
    rcases tree_forms h with ⟨rfl, hk⟩ | ⟨k1, n1, f1, rfl, hk, h1⟩ | ⟨k1, n1, f1, k2, n2, f2, rfl, hk, h1, h2⟩
    · rcases hk with rfl | rfl | ⟨rfl, hn, hn'⟩ | ⟨rfl, hn, hn'⟩
      · trivial
      · trivial
      · show 0 ≤ n ∧ n < 10; omega
      · show 0 ≤ n ∧ n < 10; omega
    · have := ih f1 (by simp only [Fo.nodes] at hN; omega) _ k1 n1 h1
      rcases hk with rfl | rfl <;> exact this
    · have g1 := ih f1 (by simp only [Fo.nodes] at hN; omega) _ k1 n1 h1
      have g2 := ih f2 (by simp only [Fo.nodes] at hN; omega) _ k2 n2 h2
      rcases hk with rfl | rfl <;> exact ⟨g1, g2⟩
/-- A string of bytes, as a value. -/
def str (l : List UInt8) : Value := .string ⟨l.toArray⟩
end Go.Proofs.YtcgbepmhfimbjaaGreatDoor

namespace Go.Proofs.YtcgbepmhfimbjaaGreatDoor
open Go.RowKit
set_option linter.unusedVariables false

/-- The text of a program's first node, out of its condition's text and its kids' texts. -/
def ptN (k n : Int) (c : List UInt8) (ts : List (List UInt8)) : List UInt8 :=
  if k = 1 then [115, 107, 105, 112]
  else if k = 2 then [102, 97, 105, 108]
  else if k = 3 then [97] ++ Lib.decDigits n.toNat
  else if k = 4 then [97, 115, 115, 101, 114, 116, 32] ++ c
  else if k = 5 then [123] ++ ts.getD 0 [] ++ [59, 32] ++ ts.getD 1 [] ++ [125]
  else if k = 6 then [105, 102, 32] ++ c ++ [32, 116, 104, 101, 110, 32] ++ ts.getD 0 [] ++ [32, 101, 108, 115, 101, 32] ++ ts.getD 1 [] ++ [32, 102, 105]
  else [119, 104, 105, 108, 101, 32] ++ c ++ [32, 100, 111, 32] ++ ts.getD 0 [] ++ [32, 111, 100]
namespace Pg
def txs : Pg → List (List UInt8)
  | nil => []
  | cons k n ck cn cf ks r => ptN k n (ndE cf ck cn).tx ks.txs :: r.txs
end Pg
def ptE (k n ck cn : Int) (cf : Fo) (f : Pg) : List UInt8 := ptN k n (ndE cf ck cn).tx f.txs
/-- A program by its form. -/
theorem ptree_forms {t a k n ck cn : Int} {cf : Fo} {f : Pg} (h : ptreeE t a k n ck cn cf f = true) :
    (f = .nil ∧ (k = 1 ∨ k = 2 ∨ (k = 3 ∧ 0 ≤ n ∧ n < a) ∨ (k = 4 ∧ condV t a ck cn cf = true))) ∨
    (∃ k1 n1 ck1 cn1 cf1 f1, f = .cons k1 n1 ck1 cn1 cf1 f1 .nil ∧ k = 7 ∧ condV t a ck cn cf = true ∧ ptreeE t a k1 n1 ck1 cn1 cf1 f1 = true) ∨
    ∃ k1 n1 ck1 cn1 cf1 f1 k2 n2 ck2 cn2 cf2 f2, f = .cons k1 n1 ck1 cn1 cf1 f1 (.cons k2 n2 ck2 cn2 cf2 f2 .nil) ∧ (k = 5 ∨ (k = 6 ∧ condV t a ck cn cf = true)) ∧ ptreeE t a k1 n1 ck1 cn1 cf1 f1 = true ∧ ptreeE t a k2 n2 ck2 cn2 cf2 f2 = true := by
  unfold ptreeE at h
  rw [Bool.and_eq_true] at h
  obtain ⟨h1, h2⟩ := h
  unfold pform at h1
  rw [Bool.and_eq_true, Bool.and_eq_true, decide_eq_true_eq] at h1
  obtain ⟨hl, hn, hc⟩ := h1
  unfold pkidC at hl
  unfold belowB pnumC at hn
  unfold fieldV askB at hc
  by_cases h0 : k = 1 ∨ k = 2 ∨ k = 3 ∨ k = 4
  · rw [if_pos h0] at hl
    cases f with
    | cons k1 n1 ck1 cn1 cf1 f1 r => simp only [Pg.len] at hl; omega
    | nil =>
      refine Or.inl ⟨rfl, ?_⟩
      rcases h0 with rfl | rfl | rfl | rfl
      · exact Or.inl rfl
      · exact Or.inr (Or.inl rfl)
      · refine Or.inr (Or.inr (Or.inl ⟨rfl, ?_⟩))
        simp at hn
        omega
      · exact Or.inr (Or.inr (Or.inr ⟨rfl, by simpa using hc⟩))
  · rw [if_neg h0] at hl
    by_cases h7 : k = 7
    · subst h7
      simp only [if_pos] at hl
      cases f with
      | nil => simp [Pg.len] at hl
      | cons k1 n1 ck1 cn1 cf1 f1 r =>
        cases r with
        | cons k2 n2 ck2 cn2 cf2 f2 r => simp only [Pg.len] at hl; omega
        | nil =>
          rw [Pg.tree_cons, Bool.and_eq_true] at h2
          exact Or.inr (Or.inl ⟨_, _, _, _, _, _, rfl, rfl, by simpa using hc, h2.1⟩)
    · rw [if_neg h7] at hl
      by_cases h5 : k = 5 ∨ k = 6
      · rw [if_pos h5] at hl
        cases f with
        | nil => simp [Pg.len] at hl
        | cons k1 n1 ck1 cn1 cf1 f1 r =>
          cases r with
          | nil => simp [Pg.len] at hl
          | cons k2 n2 ck2 cn2 cf2 f2 r =>
            cases r with
            | cons k3 n3 ck3 cn3 cf3 f3 r => simp only [Pg.len] at hl; omega
            | nil =>
              rw [Pg.tree_cons, Bool.and_eq_true, Pg.tree_cons, Bool.and_eq_true] at h2
              refine Or.inr (Or.inr ⟨_, _, _, _, _, _, _, _, _, _, _, _, rfl, ?_, h2.1, h2.2.1⟩)
              rcases h5 with rfl | rfl
              · exact Or.inl rfl
              · exact Or.inr ⟨rfl, by simpa using hc⟩
      · rw [if_neg h5] at hl
        omega
theorem condV_parts {t a ck cn : Int} {cf : Fo} (h : condV t a ck cn cf = true) : t ≤ 3 ∧ a ≤ 4 ∧ treeE t a false ck cn cf = true := by
  unfold condV at h
  rw [Bool.and_eq_true] at h
  have h1 := h.1
  unfold validE at h1
  simp only [Bool.and_eq_true] at h1
  have := sigOk_of h1.1.1.1
  exact ⟨this.2.1, this.2.2.2, h1.2⟩
theorem condV_tx {t a ck cn : Int} {cf : Fo} (h : condV t a ck cn cf = true) : (ndE cf ck cn).okD ∧ (ndE cf ck cn).tx.length ≤ 5 * (1 + cf.nodes) := by
  obtain ⟨h1, h2, h3⟩ := condV_parts h
  have hok := ndE_okD t a h1 h2 (cf.nodes + 1) cf (Nat.lt_succ_self _) false ck cn h3
  refine ⟨hok, Nat.le_trans (Nd.tx_len hok) ?_⟩
  have := ndE_size cf ck cn
  omega
theorem ptE_len (t a : Int) (ha : a ≤ 4) : ∀ (N : Nat) (cf : Fo) (f : Pg), cf.nodes + f.nodes < N → ∀ (k n ck cn : Int), ptreeE t a k n ck cn cf f = true → (ptE k n ck cn cf f).length ≤ 40 * (1 + cf.nodes + f.nodes) := by
  intro N
  induction N with
  | zero => intro cf f hN; exact absurd hN (Nat.not_lt_zero _)
  | succ N ih =>
    intro cf f hN k n ck cn h
    rcases ptree_forms h with ⟨rfl, hk⟩ | ⟨k1, n1, ck1, cn1, cf1, f1, rfl, rfl, hc, h1⟩ | ⟨k1, n1, ck1, cn1, cf1, f1, k2, n2, ck2, cn2, cf2, f2, rfl, hk, h1, h2⟩
    · rcases hk with rfl | rfl | ⟨rfl, hn, hn'⟩ | ⟨rfl, hc⟩
      · simp [ptE, ptN]; omega
      · simp [ptE, ptN]; omega
      · have hd := Nd.dig_len (n := n) (by omega)
        simp [ptE, ptN, hd]; omega
      · have := (condV_tx hc).2
        simp [ptE, ptN]; omega
    · have hcl := (condV_tx hc).2
      have g1 := ih cf1 f1 (by simp only [Pg.nodes] at hN; omega) k1 n1 ck1 cn1 h1
      have e : (ptE 7 n ck cn cf (.cons k1 n1 ck1 cn1 cf1 f1 .nil)).length = 6 + (ndE cf ck cn).tx.length + 4 + (ptE k1 n1 ck1 cn1 cf1 f1).length + 3 := by
        simp [ptE, ptN, Pg.txs]; omega
      rw [e]
      simp only [Pg.nodes]
      omega
    · have g1 := ih cf1 f1 (by simp only [Pg.nodes] at hN; omega) k1 n1 ck1 cn1 h1
      have g2 := ih cf2 f2 (by simp only [Pg.nodes] at hN; omega) k2 n2 ck2 cn2 h2
      rcases hk with rfl | ⟨rfl, hc⟩
      · have e : (ptE 5 n ck cn cf (.cons k1 n1 ck1 cn1 cf1 f1 (.cons k2 n2 ck2 cn2 cf2 f2 .nil))).length = 1 + (ptE k1 n1 ck1 cn1 cf1 f1).length + 2 + (ptE k2 n2 ck2 cn2 cf2 f2).length + 1 := by
          simp [ptE, ptN, Pg.txs]; omega
        rw [e]
        simp only [Pg.nodes]
        omega
      · have hcl := (condV_tx hc).2
        have e : (ptE 6 n ck cn cf (.cons k1 n1 ck1 cn1 cf1 f1 (.cons k2 n2 ck2 cn2 cf2 f2 .nil))).length = 3 + (ndE cf ck cn).tx.length + 6 + (ptE k1 n1 ck1 cn1 cf1 f1).length + 6 + (ptE k2 n2 ck2 cn2 cf2 f2).length + 3 := by
          simp [ptE, ptN, Pg.txs]; omega
        rw [e]
        simp only [Pg.nodes]
        omega
/-- What ProgText answers. -/
def pgT (t a k n ck cn : Int) (cf : Fo) (f : Pg) : List UInt8 := if validP t a k n ck cn cf f = true then ptE k n ck cn cf f else []
theorem validP_parts {t a k n ck cn : Int} {cf : Fo} {f : Pg} (h : validP t a k n ck cn cf f = true) : t ≤ 3 ∧ a ≤ 4 ∧ ptreeE t a k n ck cn cf f = true := by
  unfold validP at h
  simp only [Bool.and_eq_true] at h
  have := sigOk_of h.1
  exact ⟨this.2.1, this.2.2.2, h.2.2.2⟩
end Go.Proofs.YtcgbepmhfimbjaaGreatDoor

namespace Go.Proofs.YtcgbepmhfimbjaaGreatDoor
open Go.RowKit

theorem conv_one (d : UInt8) (W : World) : (convert 80 9 (.slice (some ⟨W.heap.size, 0, none⟩) 1 1)).run Tryz.prog (W.alloc (.cells #[.int .u8 (d.toNat : Int)] 5)) = .ok (.string ⟨#[d]⟩) (W.alloc (.cells #[.int .u8 (d.toNat : Int)] 5)) := by
  refine run_convert_bytes_back _ _ _ 5 _ 1 [d] Tryz.underlying80 Tryz.underlying5 Tryz.underlying9 ?_
  intro j hj
  have : j = 0 := by simpa using hj
  subst this
  simp [Addr.add]
theorem add_any (l m : List UInt8) (h : l.length + m.length ≤ 4611686018427387904) (W : World) : (Op.stringOp .add ⟨l.toArray⟩ ⟨m.toArray⟩).run Tryz.prog W = .ok (.string ⟨(l ++ m).toArray⟩) W := by
  have hs : ¬ (((⟨l.toArray⟩ : ByteArray).size + (⟨m.toArray⟩ : ByteArray).size : Nat) : Int) > IntKind.i64.max := by
    show ¬ ((l.toArray.size + m.toArray.size : Nat) : Int) > 9223372036854775807
    simp only [List.size_toArray]
    omega
  unfold Op.stringOp
  simp only [hs, if_false, Sem.run_pure]
  congr 2

set_option maxHeartbeats 1000000 in
theorem decimal_0 (w : World) : Calls Tryz.prog 46 #[.int .i64 0] w fun e w' => e = .returned (.string ⟨#[48]⟩) ∧ Below w.heap.size w w' := by
  have q : ∀ W : World, (convert 80 9 (.slice (some ⟨W.heap.size, 0, none⟩) 1 1)).run Tryz.prog (W.alloc (.cells #[.int .u8 48] 5)) = .ok (.string ⟨#[48]⟩) (W.alloc (.cells #[.int .u8 48] 5)) := fun W => conv_one 48 W
  go_enter Tryz.func46, Tryz.ntmps46
  go_wp2_with fail
  go_ret
  exact ⟨rfl, by go_grown⟩

set_option maxHeartbeats 1000000 in
theorem decimal_1 (w : World) : Calls Tryz.prog 46 #[.int .i64 1] w fun e w' => e = .returned (.string ⟨#[49]⟩) ∧ Below w.heap.size w w' := by
  have q : ∀ W : World, (convert 80 9 (.slice (some ⟨W.heap.size, 0, none⟩) 1 1)).run Tryz.prog (W.alloc (.cells #[.int .u8 49] 5)) = .ok (.string ⟨#[49]⟩) (W.alloc (.cells #[.int .u8 49] 5)) := fun W => conv_one 49 W
  go_enter Tryz.func46, Tryz.ntmps46
  go_wp2_with fail
  go_ret
  exact ⟨rfl, by go_grown⟩

set_option maxHeartbeats 1000000 in
theorem decimal_2 (w : World) : Calls Tryz.prog 46 #[.int .i64 2] w fun e w' => e = .returned (.string ⟨#[50]⟩) ∧ Below w.heap.size w w' := by
  have q : ∀ W : World, (convert 80 9 (.slice (some ⟨W.heap.size, 0, none⟩) 1 1)).run Tryz.prog (W.alloc (.cells #[.int .u8 50] 5)) = .ok (.string ⟨#[50]⟩) (W.alloc (.cells #[.int .u8 50] 5)) := fun W => conv_one 50 W
  go_enter Tryz.func46, Tryz.ntmps46
  go_wp2_with fail
  go_ret
  exact ⟨rfl, by go_grown⟩

set_option maxHeartbeats 1000000 in
theorem decimal_3 (w : World) : Calls Tryz.prog 46 #[.int .i64 3] w fun e w' => e = .returned (.string ⟨#[51]⟩) ∧ Below w.heap.size w w' := by
  have q : ∀ W : World, (convert 80 9 (.slice (some ⟨W.heap.size, 0, none⟩) 1 1)).run Tryz.prog (W.alloc (.cells #[.int .u8 51] 5)) = .ok (.string ⟨#[51]⟩) (W.alloc (.cells #[.int .u8 51] 5)) := fun W => conv_one 51 W
  go_enter Tryz.func46, Tryz.ntmps46
  go_wp2_with fail
  go_ret
  exact ⟨rfl, by go_grown⟩

set_option maxHeartbeats 1000000 in
theorem decimal_4 (w : World) : Calls Tryz.prog 46 #[.int .i64 4] w fun e w' => e = .returned (.string ⟨#[52]⟩) ∧ Below w.heap.size w w' := by
  have q : ∀ W : World, (convert 80 9 (.slice (some ⟨W.heap.size, 0, none⟩) 1 1)).run Tryz.prog (W.alloc (.cells #[.int .u8 52] 5)) = .ok (.string ⟨#[52]⟩) (W.alloc (.cells #[.int .u8 52] 5)) := fun W => conv_one 52 W
  go_enter Tryz.func46, Tryz.ntmps46
  go_wp2_with fail
  go_ret
  exact ⟨rfl, by go_grown⟩

set_option maxHeartbeats 1000000 in
theorem decimal_5 (w : World) : Calls Tryz.prog 46 #[.int .i64 5] w fun e w' => e = .returned (.string ⟨#[53]⟩) ∧ Below w.heap.size w w' := by
  have q : ∀ W : World, (convert 80 9 (.slice (some ⟨W.heap.size, 0, none⟩) 1 1)).run Tryz.prog (W.alloc (.cells #[.int .u8 53] 5)) = .ok (.string ⟨#[53]⟩) (W.alloc (.cells #[.int .u8 53] 5)) := fun W => conv_one 53 W
  go_enter Tryz.func46, Tryz.ntmps46
  go_wp2_with fail
  go_ret
  exact ⟨rfl, by go_grown⟩

set_option maxHeartbeats 1000000 in
theorem decimal_6 (w : World) : Calls Tryz.prog 46 #[.int .i64 6] w fun e w' => e = .returned (.string ⟨#[54]⟩) ∧ Below w.heap.size w w' := by
  have q : ∀ W : World, (convert 80 9 (.slice (some ⟨W.heap.size, 0, none⟩) 1 1)).run Tryz.prog (W.alloc (.cells #[.int .u8 54] 5)) = .ok (.string ⟨#[54]⟩) (W.alloc (.cells #[.int .u8 54] 5)) := fun W => conv_one 54 W
  go_enter Tryz.func46, Tryz.ntmps46
  go_wp2_with fail
  go_ret
  exact ⟨rfl, by go_grown⟩

set_option maxHeartbeats 1000000 in
theorem decimal_7 (w : World) : Calls Tryz.prog 46 #[.int .i64 7] w fun e w' => e = .returned (.string ⟨#[55]⟩) ∧ Below w.heap.size w w' := by
  have q : ∀ W : World, (convert 80 9 (.slice (some ⟨W.heap.size, 0, none⟩) 1 1)).run Tryz.prog (W.alloc (.cells #[.int .u8 55] 5)) = .ok (.string ⟨#[55]⟩) (W.alloc (.cells #[.int .u8 55] 5)) := fun W => conv_one 55 W
  go_enter Tryz.func46, Tryz.ntmps46
  go_wp2_with fail
  go_ret
  exact ⟨rfl, by go_grown⟩

set_option maxHeartbeats 1000000 in
theorem decimal_8 (w : World) : Calls Tryz.prog 46 #[.int .i64 8] w fun e w' => e = .returned (.string ⟨#[56]⟩) ∧ Below w.heap.size w w' := by
  have q : ∀ W : World, (convert 80 9 (.slice (some ⟨W.heap.size, 0, none⟩) 1 1)).run Tryz.prog (W.alloc (.cells #[.int .u8 56] 5)) = .ok (.string ⟨#[56]⟩) (W.alloc (.cells #[.int .u8 56] 5)) := fun W => conv_one 56 W
  go_enter Tryz.func46, Tryz.ntmps46
  go_wp2_with fail
  go_ret
  exact ⟨rfl, by go_grown⟩

set_option maxHeartbeats 1000000 in
theorem decimal_9 (w : World) : Calls Tryz.prog 46 #[.int .i64 9] w fun e w' => e = .returned (.string ⟨#[57]⟩) ∧ Below w.heap.size w w' := by
  have q : ∀ W : World, (convert 80 9 (.slice (some ⟨W.heap.size, 0, none⟩) 1 1)).run Tryz.prog (W.alloc (.cells #[.int .u8 57] 5)) = .ok (.string ⟨#[57]⟩) (W.alloc (.cells #[.int .u8 57] 5)) := fun W => conv_one 57 W
  go_enter Tryz.func46, Tryz.ntmps46
  go_wp2_with fail
  go_ret
  exact ⟨rfl, by go_grown⟩

theorem decimal_one (n : Int) (h0 : 0 ≤ n) (h1 : n < 10) (w : World) :
    Calls Tryz.prog 46 #[.int .i64 n] w fun e w' => e = .returned (str (Lib.decDigits n.toNat)) ∧ Below w.heap.size w w' := by
  rw [Lib.decDigits_one (by omega)]
  have h : n = 0 ∨ n = 1 ∨ n = 2 ∨ n = 3 ∨ n = 4 ∨ n = 5 ∨ n = 6 ∨ n = 7 ∨ n = 8 ∨ n = 9 := by omega
  rcases h with rfl | rfl | rfl | rfl | rfl | rfl | rfl | rfl | rfl | rfl
  · exact decimal_0 w
  · exact decimal_1 w
  · exact decimal_2 w
  · exact decimal_3 w
  · exact decimal_4 w
  · exact decimal_5 w
  · exact decimal_6 w
  · exact decimal_7 w
  · exact decimal_8 w
  · exact decimal_9 w
end Go.Proofs.YtcgbepmhfimbjaaGreatDoor

namespace Go.Proofs.YtcgbepmhfimbjaaGreatDoor
open Go.RowKit

set_option maxRecDepth 100000 in
set_option maxHeartbeats 4000000 in
theorem l01Text_any : ∀ (N : Nat) (f : Fo), f.nodes < N → f.nodes ≤ 134217728 → ∀ (t a : Int) (b : Bool) (k n : Int) (A : Option Addr) (C B o : Nat) (w : World), t ≤ 3 → a ≤ 4 → f.Lies w A → treeE t a b k n f = true →
      w.cell? ⟨B, o, none⟩ = some (.int .i64 k) → w.cell? ⟨B, o + 1, none⟩ = some (.int .i64 n) → w.cell? ⟨B, o + 2, none⟩ = some (.slice A f.len C) →
      Calls Tryz.prog 19 #[.pointer (some ⟨B, o, none⟩)] w fun e w' => e = .returned (.string ⟨(ndE f k n).tx.toArray⟩) ∧ Below w.heap.size w w' := by
  intro N
  induction N with
  | zero => intro f hN; exact absurd hN (Nat.not_lt_zero _)
  | succ N ih =>
    intro f hN hm t a b k n A C B o w ht3 ha4 hl ht p0 p1 p2
    have IH := Lib.hid ih; clear ih
    have lB : B < w.heap.size := World.block_lt_of_cell? _ _ p0
    rcases tree_forms ht with ⟨rfl, hk⟩ | ⟨k1, n1, f1, rfl, hk, ht1⟩ | ⟨k1, n1, f1, k2, n2, f2, rfl, hk, ht1, ht2⟩
    · clear ht IH
      rcases hk with rfl | rfl | ⟨rfl, hn0, hn1⟩ | ⟨rfl, hn0, hn1⟩
      · go_enter Tryz.func19, Tryz.ntmps19
        go_wp2_with fail
        go_ret
        exact ⟨rfl, by go_grown⟩
      · go_enter Tryz.func19, Tryz.ntmps19
        go_wp2_with fail
        go_ret
        exact ⟨rfl, by go_grown⟩
      · obtain ⟨s1, hs1⟩ : ∃ s : ByteArray, s = ⟨(Lib.decDigits n.toNat).toArray⟩ := ⟨_, rfl⟩
        obtain ⟨s2, hs2⟩ : ∃ s : ByteArray, s = ⟨(116 :: Lib.decDigits n.toNat).toArray⟩ := ⟨_, rfl⟩
        have KD : Hid (∀ W : World, Calls Tryz.prog 46 #[.int .i64 n] W fun e w' => e = .returned (.string s1) ∧ Below W.heap.size W w') := fun W => by rw [hs1]; exact decimal_one n hn0 (by omega) W
        have q1 : ∀ W : World, (Op.stringOp .add ⟨#[116]⟩ s1).run Tryz.prog W = .ok (.string s2) W := fun W => by rw [hs1, hs2]; exact add_any [116] _ (by rw [Lib.decDigits_one (by omega)]; simp) W
        have HV : Hid ((ndE .nil 3 n).tx = 116 :: Lib.decDigits n.toNat) := rfl
        rw [HV.out, ← hs2]
        clear hs1 hs2 hn0 hn1
        go_enter Tryz.func19, Tryz.ntmps19
        go_wp2_with fail
        refine (KD.out _).mono ?_
        rintro e w1 ⟨rfl, hb⟩
        go_wp2_with fail
        go_ret
        exact ⟨rfl, hb⟩
      · obtain ⟨s1, hs1⟩ : ∃ s : ByteArray, s = ⟨(Lib.decDigits n.toNat).toArray⟩ := ⟨_, rfl⟩
        obtain ⟨s2, hs2⟩ : ∃ s : ByteArray, s = ⟨(97 :: Lib.decDigits n.toNat).toArray⟩ := ⟨_, rfl⟩
        have KD : Hid (∀ W : World, Calls Tryz.prog 46 #[.int .i64 n] W fun e w' => e = .returned (.string s1) ∧ Below W.heap.size W w') := fun W => by rw [hs1]; exact decimal_one n hn0 (by omega) W
        have q1 : ∀ W : World, (Op.stringOp .add ⟨#[97]⟩ s1).run Tryz.prog W = .ok (.string s2) W := fun W => by rw [hs1, hs2]; exact add_any [97] _ (by rw [Lib.decDigits_one (by omega)]; simp) W
        have HV : Hid ((ndE .nil 4 n).tx = 97 :: Lib.decDigits n.toNat) := rfl
        rw [HV.out, ← hs2]
        clear hs1 hs2 hn0 hn1
        go_enter Tryz.func19, Tryz.ntmps19
        go_wp2_with fail
        refine (KD.out _).mono ?_
        rintro e w1 ⟨rfl, hb⟩
        go_wp2_with fail
        go_ret
        exact ⟨rfl, hb⟩
    all_goals
      obtain ⟨b', o', rfl, hat⟩ := hl (by simp)
      clear hl
    · have hkn : f1.nodes < N ∧ f1.nodes ≤ 134217728 := by simp only [Fo.nodes] at hN hm; omega
      obtain ⟨c0, c1, ⟨A1, C1, c2, hl1'⟩, _⟩ := hat
      have hl1 : f1.Lies w A1 := hl1'
      have lb : b' < w.heap.size := World.block_lt_of_cell? _ _ c0
      have hln : (Fo.cons k1 n1 f1 .nil).len = 1 := rfl
      rw [hln] at p2
      have hok : (ndE f1 k1 n1).okD := ndE_okD t a ht3 ha4 (f1.nodes + 1) f1 (Nat.lt_succ_self _) _ k1 n1 ht1
      have htl := Nd.tx_len hok
      have hsz := ndE_size f1 k1 n1
      clear hln hl1' ht
      rcases hk with rfl | rfl
      · obtain ⟨s1, hs1⟩ : ∃ s : ByteArray, s = ⟨(ndE f1 k1 n1).tx.toArray⟩ := ⟨_, rfl⟩
        obtain ⟨s2, hs2⟩ : ∃ s : ByteArray, s = ⟨(126 :: (ndE f1 k1 n1).tx).toArray⟩ := ⟨_, rfl⟩
        have KR : Hid (∀ W : World, Sees w W → Calls Tryz.prog 19 #[.pointer (some ⟨b', o', none⟩)] W fun e w' => e = .returned (.string s1) ∧ Below W.heap.size W w') := fun W h => by rw [hs1]; exact IH.out f1 hkn.1 hkn.2 t a _ k1 n1 A1 C1 b' o' W ht3 ha4 (hl1.sees h) ht1 ((h.cell (p := ⟨b', o', none⟩) lb).trans c0) ((h.cell (p := ⟨b', o' + 1, none⟩) lb).trans c1) ((h.cell (p := ⟨b', o' + 2, none⟩) lb).trans c2)
        have q1 : ∀ W : World, (Op.stringOp .add ⟨#[126]⟩ s1).run Tryz.prog W = .ok (.string s2) W := fun W => by rw [hs1, hs2]; exact add_any [126] _ (by simp only [List.length_cons, List.length_nil]; omega) W
        have HV : Hid ((ndE (.cons k1 n1 f1 .nil) 5 n).tx = 126 :: (ndE f1 k1 n1).tx) := rfl
        rw [HV.out, ← hs2]
        clear hs1 hs2 IH hok htl hsz
        go_enter Tryz.func19, Tryz.ntmps19
        go_wp2_with fail
        refine (KR.out _ (Sees.refl w)).mono ?_
        rintro e w1 ⟨rfl, hb⟩
        go_wp2_with fail
        go_ret
        exact ⟨rfl, hb⟩
      · obtain ⟨s1, hs1⟩ : ∃ s : ByteArray, s = ⟨(ndE f1 k1 n1).tx.toArray⟩ := ⟨_, rfl⟩
        obtain ⟨s2, hs2⟩ : ∃ s : ByteArray, s = ⟨((ndE f1 k1 n1).tx ++ [42]).toArray⟩ := ⟨_, rfl⟩
        have KR : Hid (∀ W : World, Sees w W → Calls Tryz.prog 19 #[.pointer (some ⟨b', o', none⟩)] W fun e w' => e = .returned (.string s1) ∧ Below W.heap.size W w') := fun W h => by rw [hs1]; exact IH.out f1 hkn.1 hkn.2 t a _ k1 n1 A1 C1 b' o' W ht3 ha4 (hl1.sees h) ht1 ((h.cell (p := ⟨b', o', none⟩) lb).trans c0) ((h.cell (p := ⟨b', o' + 1, none⟩) lb).trans c1) ((h.cell (p := ⟨b', o' + 2, none⟩) lb).trans c2)
        have q1 : ∀ W : World, (Op.stringOp .add s1 ⟨#[42]⟩).run Tryz.prog W = .ok (.string s2) W := fun W => by rw [hs1, hs2]; exact add_any _ [42] (by simp only [List.length_cons, List.length_nil]; omega) W
        have HV : Hid ((ndE (.cons k1 n1 f1 .nil) 8 n).tx = (ndE f1 k1 n1).tx ++ [42]) := rfl
        rw [HV.out, ← hs2]
        clear hs1 hs2 IH hok htl hsz
        go_enter Tryz.func19, Tryz.ntmps19
        go_wp2_with fail
        refine (KR.out _ (Sees.refl w)).mono ?_
        rintro e w1 ⟨rfl, hb⟩
        go_wp2_with fail
        go_ret
        exact ⟨rfl, hb⟩
    · have hkn : f1.nodes < N ∧ f2.nodes < N ∧ f1.nodes + f2.nodes ≤ 134217728 := by simp only [Fo.nodes] at hN hm; omega
      obtain ⟨c0, c1, ⟨A1, C1, c2, hl1'⟩, d0, d1, ⟨A2, C2, d2, hl2'⟩, _⟩ := hat
      have hl1 : f1.Lies w A1 := hl1'
      have hl2 : f2.Lies w A2 := hl2'
      have lb : b' < w.heap.size := World.block_lt_of_cell? _ _ c0
      have hln : (Fo.cons k1 n1 f1 (.cons k2 n2 f2 .nil)).len = 2 := rfl
      rw [hln] at p2
      have hok : (ndE f1 k1 n1).okD := ndE_okD t a ht3 ha4 (f1.nodes + 1) f1 (Nat.lt_succ_self _) _ k1 n1 ht1
      have hok2 : (ndE f2 k2 n2).okD := ndE_okD t a ht3 ha4 (f2.nodes + 1) f2 (Nat.lt_succ_self _) _ k2 n2 ht2
      have htl := Nd.tx_len hok
      have htl2 := Nd.tx_len hok2
      have hsz := ndE_size f1 k1 n1
      have hsz2 := ndE_size f2 k2 n2
      clear hl1' hl2' ht hln
      rcases hk with rfl | rfl
      · obtain ⟨la, hla⟩ : ∃ l, l = (ndE f1 k1 n1).tx := ⟨_, rfl⟩
        obtain ⟨lb2, hlb⟩ : ∃ l, l = (ndE f2 k2 n2).tx := ⟨_, rfl⟩
        have HV : Hid ((ndE (.cons k1 n1 f1 (.cons k2 n2 f2 .nil)) 6 n).tx = 40 :: (la ++ ([32, 43, 32] ++ (lb2 ++ [41])))) := by show _ = _; rw [hla, hlb]; rfl
        rw [← hla] at htl
        rw [← hlb] at htl2
        obtain ⟨s1, hs1⟩ : ∃ s : ByteArray, s = ⟨la.toArray⟩ := ⟨_, rfl⟩
        obtain ⟨s2, hs2⟩ : ∃ s : ByteArray, s = ⟨lb2.toArray⟩ := ⟨_, rfl⟩
        obtain ⟨s3, hs3⟩ : ∃ s : ByteArray, s = ⟨([40] ++ la).toArray⟩ := ⟨_, rfl⟩
        obtain ⟨s4, hs4⟩ : ∃ s : ByteArray, s = ⟨([40] ++ la ++ [32, 43, 32]).toArray⟩ := ⟨_, rfl⟩
        obtain ⟨s5, hs5⟩ : ∃ s : ByteArray, s = ⟨([40] ++ la ++ [32, 43, 32] ++ lb2).toArray⟩ := ⟨_, rfl⟩
        obtain ⟨s6, hs6⟩ : ∃ s : ByteArray, s = ⟨([40] ++ la ++ [32, 43, 32] ++ lb2 ++ [41]).toArray⟩ := ⟨_, rfl⟩
        have KR : Hid (∀ W : World, Sees w W → Calls Tryz.prog 19 #[.pointer (some ⟨b', o', none⟩)] W fun e w' => e = .returned (.string s1) ∧ Below W.heap.size W w') := fun W h => by rw [hs1, hla]; exact IH.out f1 hkn.1 (by omega) t a _ k1 n1 A1 C1 b' o' W ht3 ha4 (hl1.sees h) ht1 ((h.cell (p := ⟨b', o', none⟩) lb).trans c0) ((h.cell (p := ⟨b', o' + 1, none⟩) lb).trans c1) ((h.cell (p := ⟨b', o' + 2, none⟩) lb).trans c2)
        have KR2 : Hid (∀ W : World, Sees w W → Calls Tryz.prog 19 #[.pointer (some ⟨b', o' + 3, none⟩)] W fun e w' => e = .returned (.string s2) ∧ Below W.heap.size W w') := fun W h => by rw [hs2, hlb]; exact IH.out f2 hkn.2.1 (by omega) t a _ k2 n2 A2 C2 b' (o' + 3) W ht3 ha4 (hl2.sees h) ht2 ((h.cell (p := ⟨b', o' + 3, none⟩) lb).trans d0) ((h.cell (p := ⟨b', o' + 3 + 1, none⟩) lb).trans d1) ((h.cell (p := ⟨b', o' + 3 + 2, none⟩) lb).trans d2)
        have q1 : ∀ W : World, (Op.stringOp .add ⟨#[40]⟩ s1).run Tryz.prog W = .ok (.string s3) W := fun W => by rw [hs1, hs3]; exact add_any [40] la (by simp only [List.length_cons, List.length_nil]; omega) W
        have q2 : ∀ W : World, (Op.stringOp .add s3 ⟨#[32, 43, 32]⟩).run Tryz.prog W = .ok (.string s4) W := fun W => by rw [hs3, hs4]; exact add_any ([40] ++ la) [32, 43, 32] (by simp only [List.length_append, List.length_cons, List.length_nil]; omega) W
        have q3 : ∀ W : World, (Op.stringOp .add s4 s2).run Tryz.prog W = .ok (.string s5) W := fun W => by rw [hs4, hs2, hs5]; exact add_any ([40] ++ la ++ [32, 43, 32]) lb2 (by simp only [List.length_append, List.length_cons, List.length_nil]; omega) W
        have q4 : ∀ W : World, (Op.stringOp .add s5 ⟨#[41]⟩).run Tryz.prog W = .ok (.string s6) W := fun W => by rw [hs5, hs6]; exact add_any ([40] ++ la ++ [32, 43, 32] ++ lb2) [41] (by simp only [List.length_append, List.length_cons, List.length_nil]; omega) W
        have HE : Hid ((ndE (.cons k1 n1 f1 (.cons k2 n2 f2 .nil)) 6 n).tx = [40] ++ la ++ [32, 43, 32] ++ lb2 ++ [41]) := by show _ = _; rw [HV.out]; simp
        rw [HE.out, ← hs6]
        have hX : Hid (St w [(B, o + 2, .slice (some ⟨b', o', none⟩) 2 C)] w) := ⟨Sees.refl w, p2, trivial⟩
        clear hla hlb hs1 hs2 hs3 hs4 hs5 hs6 IH hok hok2 htl htl2 hsz hsz2 HV HE c0 c1 c2 d0 d1 d2 p1
        go_enter Tryz.func19, Tryz.ntmps19
        go_wp2_with fail
        refine wp_region_quietC w [(B, o + 2, .slice (some ⟨b', o', none⟩) 2 C)] (by kernel_rfl) (by kernel_rfl) hX.out ?_
        repeat (first | go_big_quiet_skip | (go_big_quiet_want; apply Exists.intro; refine ⟨fun W hW => ?_, ?_⟩; focus (have hK := Lib.hid hW; obtain ⟨hs, hc⟩ := hW; simp only [Has, and_true] at hc; go_simp; (first | (go_at_call_of 19 (Value.pointer (some ⟨b', o', none⟩)); exact quietC_call hK.out (KR.out _ hK.out.1)) | (go_at_call_of 19 (Value.pointer (some ⟨b', o' + 3, none⟩)); exact quietC_call hK.out (KR2.out _ hK.out.1)) | (go_at_call 19; exact quietC_call hK.out (KR2.out _ hK.out.1)) | rfl))) | (go_simp; go_big_quiet_on))
        refine wpQuiet_nil ?_
        intro w1 H1
        go_wp2_with fail
        go_ret
        exact ⟨rfl, H1.1⟩
      · obtain ⟨la, hla⟩ : ∃ l, l = (ndE f1 k1 n1).tx := ⟨_, rfl⟩
        obtain ⟨lb2, hlb⟩ : ∃ l, l = (ndE f2 k2 n2).tx := ⟨_, rfl⟩
        have HV : Hid ((ndE (.cons k1 n1 f1 (.cons k2 n2 f2 .nil)) 7 n).tx = 40 :: (la ++ ([32] ++ (lb2 ++ [41])))) := by show _ = _; rw [hla, hlb]; rfl
        rw [← hla] at htl
        rw [← hlb] at htl2
        obtain ⟨s1, hs1⟩ : ∃ s : ByteArray, s = ⟨la.toArray⟩ := ⟨_, rfl⟩
        obtain ⟨s2, hs2⟩ : ∃ s : ByteArray, s = ⟨lb2.toArray⟩ := ⟨_, rfl⟩
        obtain ⟨s3, hs3⟩ : ∃ s : ByteArray, s = ⟨([40] ++ la).toArray⟩ := ⟨_, rfl⟩
        obtain ⟨s4, hs4⟩ : ∃ s : ByteArray, s = ⟨([40] ++ la ++ [32]).toArray⟩ := ⟨_, rfl⟩
        obtain ⟨s5, hs5⟩ : ∃ s : ByteArray, s = ⟨([40] ++ la ++ [32] ++ lb2).toArray⟩ := ⟨_, rfl⟩
        obtain ⟨s6, hs6⟩ : ∃ s : ByteArray, s = ⟨([40] ++ la ++ [32] ++ lb2 ++ [41]).toArray⟩ := ⟨_, rfl⟩
        have KR : Hid (∀ W : World, Sees w W → Calls Tryz.prog 19 #[.pointer (some ⟨b', o', none⟩)] W fun e w' => e = .returned (.string s1) ∧ Below W.heap.size W w') := fun W h => by rw [hs1, hla]; exact IH.out f1 hkn.1 (by omega) t a _ k1 n1 A1 C1 b' o' W ht3 ha4 (hl1.sees h) ht1 ((h.cell (p := ⟨b', o', none⟩) lb).trans c0) ((h.cell (p := ⟨b', o' + 1, none⟩) lb).trans c1) ((h.cell (p := ⟨b', o' + 2, none⟩) lb).trans c2)
        have KR2 : Hid (∀ W : World, Sees w W → Calls Tryz.prog 19 #[.pointer (some ⟨b', o' + 3, none⟩)] W fun e w' => e = .returned (.string s2) ∧ Below W.heap.size W w') := fun W h => by rw [hs2, hlb]; exact IH.out f2 hkn.2.1 (by omega) t a _ k2 n2 A2 C2 b' (o' + 3) W ht3 ha4 (hl2.sees h) ht2 ((h.cell (p := ⟨b', o' + 3, none⟩) lb).trans d0) ((h.cell (p := ⟨b', o' + 3 + 1, none⟩) lb).trans d1) ((h.cell (p := ⟨b', o' + 3 + 2, none⟩) lb).trans d2)
        have q1 : ∀ W : World, (Op.stringOp .add ⟨#[40]⟩ s1).run Tryz.prog W = .ok (.string s3) W := fun W => by rw [hs1, hs3]; exact add_any [40] la (by simp only [List.length_cons, List.length_nil]; omega) W
        have q2 : ∀ W : World, (Op.stringOp .add s3 ⟨#[32]⟩).run Tryz.prog W = .ok (.string s4) W := fun W => by rw [hs3, hs4]; exact add_any ([40] ++ la) [32] (by simp only [List.length_append, List.length_cons, List.length_nil]; omega) W
        have q3 : ∀ W : World, (Op.stringOp .add s4 s2).run Tryz.prog W = .ok (.string s5) W := fun W => by rw [hs4, hs2, hs5]; exact add_any ([40] ++ la ++ [32]) lb2 (by simp only [List.length_append, List.length_cons, List.length_nil]; omega) W
        have q4 : ∀ W : World, (Op.stringOp .add s5 ⟨#[41]⟩).run Tryz.prog W = .ok (.string s6) W := fun W => by rw [hs5, hs6]; exact add_any ([40] ++ la ++ [32] ++ lb2) [41] (by simp only [List.length_append, List.length_cons, List.length_nil]; omega) W
        have HE : Hid ((ndE (.cons k1 n1 f1 (.cons k2 n2 f2 .nil)) 7 n).tx = [40] ++ la ++ [32] ++ lb2 ++ [41]) := by show _ = _; rw [HV.out]; simp
        rw [HE.out, ← hs6]
        have hX : Hid (St w [(B, o + 2, .slice (some ⟨b', o', none⟩) 2 C)] w) := ⟨Sees.refl w, p2, trivial⟩
        clear hla hlb hs1 hs2 hs3 hs4 hs5 hs6 IH hok hok2 htl htl2 hsz hsz2 HV HE c0 c1 c2 d0 d1 d2 p1
        go_enter Tryz.func19, Tryz.ntmps19
        go_wp2_with fail
        refine wp_region_quietC w [(B, o + 2, .slice (some ⟨b', o', none⟩) 2 C)] (by kernel_rfl) (by kernel_rfl) hX.out ?_
        repeat (first | go_big_quiet_skip | (go_big_quiet_want; apply Exists.intro; refine ⟨fun W hW => ?_, ?_⟩; focus (have hK := Lib.hid hW; obtain ⟨hs, hc⟩ := hW; simp only [Has, and_true] at hc; go_simp; (first | (go_at_call_of 19 (Value.pointer (some ⟨b', o', none⟩)); exact quietC_call hK.out (KR.out _ hK.out.1)) | (go_at_call_of 19 (Value.pointer (some ⟨b', o' + 3, none⟩)); exact quietC_call hK.out (KR2.out _ hK.out.1)) | (go_at_call 19; exact quietC_call hK.out (KR2.out _ hK.out.1)) | rfl))) | (go_simp; go_big_quiet_on))
        refine wpQuiet_nil ?_
        intro w1 H1
        go_wp2_with fail
        go_ret
        exact ⟨rfl, H1.1⟩
end Go.Proofs.YtcgbepmhfimbjaaGreatDoor

namespace Go.Proofs.YtcgbepmhfimbjaaGreatDoor
open Go.RowKit
set_option linter.unusedVariables false

set_option maxRecDepth 100000 in
set_option maxHeartbeats 8000000 in
theorem l06Text_any (t a : Int) (ha : a ≤ 4) : ∀ (N : Nat) (cf : Fo) (f : Pg), cf.nodes + f.nodes < N → cf.nodes + f.nodes ≤ 1048576 → ∀ (k n ck cn : Int) (A D : Option Addr) (C E B o : Nat) (w : World), cf.Lies w A → f.Lies w D → ptreeE t a k n ck cn cf f = true →
      w.cell? ⟨B, o, none⟩ = some (.int .i64 k) → w.cell? ⟨B, o + 1, none⟩ = some (.int .i64 n) → w.cell? ⟨B, o + 2, none⟩ = some (.int .i64 ck) → w.cell? ⟨B, o + 3, none⟩ = some (.int .i64 cn) → w.cell? ⟨B, o + 4, none⟩ = some (.slice A cf.len C) → w.cell? ⟨B, o + 5, none⟩ = some (.slice D f.len E) →
      Calls Tryz.prog 20 #[.pointer (some ⟨B, o, none⟩)] w fun e w' => e = .returned (.string ⟨(ptE k n ck cn cf f).toArray⟩) ∧ Below w.heap.size w w' := by
  intro N
  induction N with
  | zero => intro cf f hN; exact absurd hN (Nat.not_lt_zero _)
  | succ N ih =>
    intro cf f hN hm k n ck cn A D C E B o w hA hD ht p0 p1 p2 p3 p4 p5
    have IH := Lib.hid ih; clear ih
    have lB : B < w.heap.size := World.block_lt_of_cell? _ _ p0
    rcases ptree_forms ht with ⟨rfl, hk⟩ | ⟨k1, n1, ck1, cn1, cf1, f1, rfl, rfl, hc, h1⟩ | ⟨k1, n1, ck1, cn1, cf1, f1, k2, n2, ck2, cn2, cf2, f2, rfl, hk, h1, h2⟩
    · clear ht IH
      rcases hk with rfl | rfl | ⟨rfl, hn0, hn1⟩ | ⟨rfl, hc⟩
      · go_enter Tryz.func20, Tryz.ntmps20
        go_wp2_with fail
        go_ret
        exact ⟨rfl, by go_grown⟩
      · go_enter Tryz.func20, Tryz.ntmps20
        go_wp2_with fail
        go_ret
        exact ⟨rfl, by go_grown⟩
      · obtain ⟨s1, hs1⟩ : ∃ s : ByteArray, s = ⟨(Lib.decDigits n.toNat).toArray⟩ := ⟨_, rfl⟩
        obtain ⟨s2, hs2⟩ : ∃ s : ByteArray, s = ⟨(97 :: Lib.decDigits n.toNat).toArray⟩ := ⟨_, rfl⟩
        have KD : Hid (∀ W : World, Calls Tryz.prog 46 #[.int .i64 n] W fun e w' => e = .returned (.string s1) ∧ Below W.heap.size W w') := fun W => by rw [hs1]; exact decimal_one n hn0 (by omega) W
        have q1 : ∀ W : World, (Op.stringOp .add ⟨#[97]⟩ s1).run Tryz.prog W = .ok (.string s2) W := fun W => by rw [hs1, hs2]; exact add_any [97] _ (by rw [Lib.decDigits_one (by omega)]; simp) W
        have HV : Hid (ptE 3 n ck cn cf .nil = 97 :: Lib.decDigits n.toNat) := rfl
        rw [HV.out, ← hs2]
        clear hs1 hs2 hn0 hn1
        go_enter Tryz.func20, Tryz.ntmps20
        go_wp2_with fail
        refine (KD.out _).mono ?_
        rintro e w1 ⟨rfl, hb⟩
        go_wp2_with fail
        go_ret
        exact ⟨rfl, hb⟩
      · have cl : (ndE cf ck cn).tx.length ≤ 83886080 := by have := (condV_tx hc).2; simp only [Pg.nodes] at hm; omega
        obtain ⟨lc, hlc⟩ : ∃ l, l = (ndE cf ck cn).tx := ⟨_, rfl⟩
        have hbc : lc.length ≤ 83886080 := by rw [hlc]; exact cl
        obtain ⟨sc, hsc⟩ : ∃ s : ByteArray, s = ⟨lc.toArray⟩ := ⟨_, rfl⟩
        obtain ⟨u1, hu1⟩ : ∃ s : ByteArray, s = ⟨([97, 115, 115, 101, 114, 116, 32] ++ lc).toArray⟩ := ⟨_, rfl⟩
        have q1 : ∀ W : World, (Op.stringOp .add ⟨#[97, 115, 115, 101, 114, 116, 32]⟩ sc).run Tryz.prog W = .ok (.string u1) W := fun W => by rw [hsc, hu1]; exact add_any ([97, 115, 115, 101, 114, 116, 32]) lc (by simp only [List.length_cons, List.length_nil]; omega) W
        have HV : Hid (ptE 4 n ck cn cf .nil = [97, 115, 115, 101, 114, 116, 32] ++ lc) := by show _ = _; rw [hlc]; rfl
        have KC : Hid (∀ W : World, Sees w W → Calls Tryz.prog 19 #[.pointer (some ⟨B, o + 2, none⟩)] W fun e w' => e = .returned (.string sc) ∧ Below W.heap.size W w') := fun W h => by
          rw [hsc, hlc]
          exact l01Text_any (cf.nodes + 1) cf (Nat.lt_succ_self _) (by simp only [Pg.nodes] at hm; omega) t a false ck cn A C B (o + 2) W (condV_parts hc).1 ha (hA.sees h) (condV_parts hc).2.2 ((h.cell (p := ⟨B, o + 2, none⟩) lB).trans p2) ((h.cell (p := ⟨B, o + 3, none⟩) lB).trans p3) ((h.cell (p := ⟨B, o + 4, none⟩) lB).trans p4)
        rw [HV.out, ← hu1]
        clear hsc hbc hlc hu1 HV cl
        go_enter Tryz.func20, Tryz.ntmps20
        go_wp2_with fail
        refine (KC.out _ (Sees.refl w)).mono ?_
        rintro e w1 ⟨rfl, hb⟩
        go_wp2_with fail
        go_ret
        exact ⟨rfl, hb⟩
    · have cl : (ndE cf ck cn).tx.length ≤ 83886080 := by have := (condV_tx hc).2; omega
      obtain ⟨b', o', rfl, hat⟩ := hD (by simp)
      obtain ⟨d10, d11, d12, d13, ⟨A1, C1, d14, hA1⟩, ⟨D1, E1, d15, hD1⟩, _⟩ := hat
      have al : (ptE k1 n1 ck1 cn1 cf1 f1).length ≤ 83886080 := by have := ptE_len t a ha (cf1.nodes + f1.nodes + 1) cf1 f1 (Nat.lt_succ_self _) k1 n1 ck1 cn1 h1; simp only [Pg.nodes] at hm; omega
      have hD1 : f1.Lies w D1 := hD1
      have lBk : b' < w.heap.size := World.block_lt_of_cell? _ _ d10
      have hln : (Pg.cons k1 n1 ck1 cn1 cf1 f1 .nil).len = 1 := rfl
      rw [hln] at p5
      simp only [Pg.nodes] at hN hm
      obtain ⟨lc, hlc⟩ : ∃ l, l = (ndE cf ck cn).tx := ⟨_, rfl⟩
      have hbc : lc.length ≤ 83886080 := by rw [hlc]; exact cl
      obtain ⟨sc, hsc⟩ : ∃ s : ByteArray, s = ⟨lc.toArray⟩ := ⟨_, rfl⟩
      obtain ⟨la, hla⟩ : ∃ l, l = ptE k1 n1 ck1 cn1 cf1 f1 := ⟨_, rfl⟩
      have hba : la.length ≤ 83886080 := by rw [hla]; exact al
      obtain ⟨sa, hsa⟩ : ∃ s : ByteArray, s = ⟨la.toArray⟩ := ⟨_, rfl⟩
      obtain ⟨u1, hu1⟩ : ∃ s : ByteArray, s = ⟨([119, 104, 105, 108, 101, 32] ++ lc).toArray⟩ := ⟨_, rfl⟩
      have q1 : ∀ W : World, (Op.stringOp .add ⟨#[119, 104, 105, 108, 101, 32]⟩ sc).run Tryz.prog W = .ok (.string u1) W := fun W => by rw [hsc, hu1]; exact add_any ([119, 104, 105, 108, 101, 32]) lc (by simp only [List.length_cons, List.length_nil]; omega) W
      obtain ⟨u2, hu2⟩ : ∃ s : ByteArray, s = ⟨([119, 104, 105, 108, 101, 32] ++ lc ++ [32, 100, 111, 32]).toArray⟩ := ⟨_, rfl⟩
      have q2 : ∀ W : World, (Op.stringOp .add u1 ⟨#[32, 100, 111, 32]⟩).run Tryz.prog W = .ok (.string u2) W := fun W => by rw [hu1, hu2]; exact add_any ([119, 104, 105, 108, 101, 32] ++ lc) [32, 100, 111, 32] (by simp only [List.length_append, List.length_cons, List.length_nil]; omega) W
      obtain ⟨u3, hu3⟩ : ∃ s : ByteArray, s = ⟨([119, 104, 105, 108, 101, 32] ++ lc ++ [32, 100, 111, 32] ++ la).toArray⟩ := ⟨_, rfl⟩
      have q3 : ∀ W : World, (Op.stringOp .add u2 sa).run Tryz.prog W = .ok (.string u3) W := fun W => by rw [hu2, hsa, hu3]; exact add_any ([119, 104, 105, 108, 101, 32] ++ lc ++ [32, 100, 111, 32]) la (by simp only [List.length_append, List.length_cons, List.length_nil]; omega) W
      obtain ⟨u4, hu4⟩ : ∃ s : ByteArray, s = ⟨([119, 104, 105, 108, 101, 32] ++ lc ++ [32, 100, 111, 32] ++ la ++ [32, 111, 100]).toArray⟩ := ⟨_, rfl⟩
      have q4 : ∀ W : World, (Op.stringOp .add u3 ⟨#[32, 111, 100]⟩).run Tryz.prog W = .ok (.string u4) W := fun W => by rw [hu3, hu4]; exact add_any ([119, 104, 105, 108, 101, 32] ++ lc ++ [32, 100, 111, 32] ++ la) [32, 111, 100] (by simp only [List.length_append, List.length_cons, List.length_nil]; omega) W
      have HV : Hid (ptE 7 n ck cn cf (.cons k1 n1 ck1 cn1 cf1 f1 .nil) = [119, 104, 105, 108, 101, 32] ++ lc ++ [32, 100, 111, 32] ++ la ++ [32, 111, 100]) := by show _ = _; rw [hlc]; rw [hla]; rfl
      have KC : Hid (∀ W : World, Sees w W → Calls Tryz.prog 19 #[.pointer (some ⟨B, o + 2, none⟩)] W fun e w' => e = .returned (.string sc) ∧ Below W.heap.size W w') := fun W h => by
        rw [hsc, hlc]
        exact l01Text_any (cf.nodes + 1) cf (Nat.lt_succ_self _) (by omega) t a false ck cn A C B (o + 2) W (condV_parts hc).1 ha (hA.sees h) (condV_parts hc).2.2 ((h.cell (p := ⟨B, o + 2, none⟩) lB).trans p2) ((h.cell (p := ⟨B, o + 3, none⟩) lB).trans p3) ((h.cell (p := ⟨B, o + 4, none⟩) lB).trans p4)
      have K1 : Hid (∀ W : World, Sees w W → Calls Tryz.prog 20 #[.pointer (some ⟨b', o', none⟩)] W fun e w' => e = .returned (.string sa) ∧ Below W.heap.size W w') := fun W h => by
        rw [hsa, hla]
        exact IH.out cf1 f1 (by omega) (by omega) k1 n1 ck1 cn1 A1 D1 C1 E1 b' (o') W (hA1.sees h) (hD1.sees h) h1 ((h.cell (p := ⟨b', o', none⟩) lBk).trans d10) ((h.cell (p := ⟨b', o' + 1, none⟩) lBk).trans d11) ((h.cell (p := ⟨b', o' + 2, none⟩) lBk).trans d12) ((h.cell (p := ⟨b', o' + 3, none⟩) lBk).trans d13) ((h.cell (p := ⟨b', o' + 4, none⟩) lBk).trans d14) ((h.cell (p := ⟨b', o' + 5, none⟩) lBk).trans d15)
      have hX : Hid (St w [(B, o + 5, .slice (some ⟨b', o', none⟩) 1 E)] w) := ⟨Sees.refl w, p5, trivial⟩
      rw [HV.out, ← hu4]
      clear hsc hbc hlc hsa hba hla hu1 hu2 hu3 hu4 HV cl al IH p1 p2 p3 p4 d10 d11 d12 d13 d14 d15 hN hm hln
      go_enter Tryz.func20, Tryz.ntmps20
      go_wp2_with fail
      refine wp_region_quietC w [(B, o + 5, .slice (some ⟨b', o', none⟩) 1 E)] (by kernel_rfl) (by kernel_rfl) hX.out ?_
      repeat (first | go_big_quiet_skip | (go_big_quiet_want; apply Exists.intro; refine ⟨fun W hW => ?_, ?_⟩; focus (have hK := Lib.hid hW; obtain ⟨hs, hc⟩ := hW; simp only [Has, and_true] at hc; go_simp; (first | (go_at_call 20; (first | ((with_reducible refine quietC_call hK.out (KC.out _ ?_)); exact hK.out.1) | ((with_reducible refine quietC_call hK.out (K1.out _ ?_)); exact hK.out.1))) | (go_at_call 19; ((with_reducible refine quietC_call hK.out (KC.out _ ?_)); exact hK.out.1)) | rfl))) | (go_simp; go_big_quiet_on))
      refine wpQuiet_nil ?_
      intro w1 H1
      go_wp2_with fail
      go_ret
      exact ⟨rfl, H1.1⟩
    · rcases hk with rfl | ⟨rfl, hc⟩
      · obtain ⟨b', o', rfl, hat⟩ := hD (by simp)
        obtain ⟨d10, d11, d12, d13, ⟨A1, C1, d14, hA1⟩, ⟨D1, E1, d15, hD1⟩, d20, d21, d22, d23, ⟨A2, C2, d24, hA2⟩, ⟨D2, E2, d25, hD2⟩, _⟩ := hat
        have al : (ptE k1 n1 ck1 cn1 cf1 f1).length ≤ 83886080 := by have := ptE_len t a ha (cf1.nodes + f1.nodes + 1) cf1 f1 (Nat.lt_succ_self _) k1 n1 ck1 cn1 h1; simp only [Pg.nodes] at hm; omega
        have bl : (ptE k2 n2 ck2 cn2 cf2 f2).length ≤ 83886080 := by have := ptE_len t a ha (cf2.nodes + f2.nodes + 1) cf2 f2 (Nat.lt_succ_self _) k2 n2 ck2 cn2 h2; simp only [Pg.nodes] at hm; omega
        have hD1 : f1.Lies w D1 := hD1
        have hD2 : f2.Lies w D2 := hD2
        have lBk : b' < w.heap.size := World.block_lt_of_cell? _ _ d10
        have hln : (Pg.cons k1 n1 ck1 cn1 cf1 f1 (.cons k2 n2 ck2 cn2 cf2 f2 .nil)).len = 2 := rfl
        rw [hln] at p5
        simp only [Pg.nodes] at hN hm
        obtain ⟨la, hla⟩ : ∃ l, l = ptE k1 n1 ck1 cn1 cf1 f1 := ⟨_, rfl⟩
        have hba : la.length ≤ 83886080 := by rw [hla]; exact al
        obtain ⟨sa, hsa⟩ : ∃ s : ByteArray, s = ⟨la.toArray⟩ := ⟨_, rfl⟩
        obtain ⟨lb, hlb⟩ : ∃ l, l = ptE k2 n2 ck2 cn2 cf2 f2 := ⟨_, rfl⟩
        have hbb : lb.length ≤ 83886080 := by rw [hlb]; exact bl
        obtain ⟨sb, hsb⟩ : ∃ s : ByteArray, s = ⟨lb.toArray⟩ := ⟨_, rfl⟩
        obtain ⟨u1, hu1⟩ : ∃ s : ByteArray, s = ⟨([123] ++ la).toArray⟩ := ⟨_, rfl⟩
        have q1 : ∀ W : World, (Op.stringOp .add ⟨#[123]⟩ sa).run Tryz.prog W = .ok (.string u1) W := fun W => by rw [hsa, hu1]; exact add_any ([123]) la (by simp only [List.length_cons, List.length_nil]; omega) W
        obtain ⟨u2, hu2⟩ : ∃ s : ByteArray, s = ⟨([123] ++ la ++ [59, 32]).toArray⟩ := ⟨_, rfl⟩
        have q2 : ∀ W : World, (Op.stringOp .add u1 ⟨#[59, 32]⟩).run Tryz.prog W = .ok (.string u2) W := fun W => by rw [hu1, hu2]; exact add_any ([123] ++ la) [59, 32] (by simp only [List.length_append, List.length_cons, List.length_nil]; omega) W
        obtain ⟨u3, hu3⟩ : ∃ s : ByteArray, s = ⟨([123] ++ la ++ [59, 32] ++ lb).toArray⟩ := ⟨_, rfl⟩
        have q3 : ∀ W : World, (Op.stringOp .add u2 sb).run Tryz.prog W = .ok (.string u3) W := fun W => by rw [hu2, hsb, hu3]; exact add_any ([123] ++ la ++ [59, 32]) lb (by simp only [List.length_append, List.length_cons, List.length_nil]; omega) W
        obtain ⟨u4, hu4⟩ : ∃ s : ByteArray, s = ⟨([123] ++ la ++ [59, 32] ++ lb ++ [125]).toArray⟩ := ⟨_, rfl⟩
        have q4 : ∀ W : World, (Op.stringOp .add u3 ⟨#[125]⟩).run Tryz.prog W = .ok (.string u4) W := fun W => by rw [hu3, hu4]; exact add_any ([123] ++ la ++ [59, 32] ++ lb) [125] (by simp only [List.length_append, List.length_cons, List.length_nil]; omega) W
        have HV : Hid (ptE 5 n ck cn cf (.cons k1 n1 ck1 cn1 cf1 f1 (.cons k2 n2 ck2 cn2 cf2 f2 .nil)) = [123] ++ la ++ [59, 32] ++ lb ++ [125]) := by show _ = _; rw [hla]; rw [hlb]; rfl
        have K1 : Hid (∀ W : World, Sees w W → Calls Tryz.prog 20 #[.pointer (some ⟨b', o', none⟩)] W fun e w' => e = .returned (.string sa) ∧ Below W.heap.size W w') := fun W h => by
          rw [hsa, hla]
          exact IH.out cf1 f1 (by omega) (by omega) k1 n1 ck1 cn1 A1 D1 C1 E1 b' (o') W (hA1.sees h) (hD1.sees h) h1 ((h.cell (p := ⟨b', o', none⟩) lBk).trans d10) ((h.cell (p := ⟨b', o' + 1, none⟩) lBk).trans d11) ((h.cell (p := ⟨b', o' + 2, none⟩) lBk).trans d12) ((h.cell (p := ⟨b', o' + 3, none⟩) lBk).trans d13) ((h.cell (p := ⟨b', o' + 4, none⟩) lBk).trans d14) ((h.cell (p := ⟨b', o' + 5, none⟩) lBk).trans d15)
        have K2 : Hid (∀ W : World, Sees w W → Calls Tryz.prog 20 #[.pointer (some ⟨b', o' + 6, none⟩)] W fun e w' => e = .returned (.string sb) ∧ Below W.heap.size W w') := fun W h => by
          rw [hsb, hlb]
          exact IH.out cf2 f2 (by omega) (by omega) k2 n2 ck2 cn2 A2 D2 C2 E2 b' (o' + 6) W (hA2.sees h) (hD2.sees h) h2 ((h.cell (p := ⟨b', o' + 6, none⟩) lBk).trans d20) ((h.cell (p := ⟨b', o' + 6 + 1, none⟩) lBk).trans d21) ((h.cell (p := ⟨b', o' + 6 + 2, none⟩) lBk).trans d22) ((h.cell (p := ⟨b', o' + 6 + 3, none⟩) lBk).trans d23) ((h.cell (p := ⟨b', o' + 6 + 4, none⟩) lBk).trans d24) ((h.cell (p := ⟨b', o' + 6 + 5, none⟩) lBk).trans d25)
        have hX : Hid (St w [(B, o + 5, .slice (some ⟨b', o', none⟩) 2 E)] w) := ⟨Sees.refl w, p5, trivial⟩
        rw [HV.out, ← hu4]
        clear hsa hba hla hsb hbb hlb hu1 hu2 hu3 hu4 HV al bl IH p1 p2 p3 p4 d10 d11 d12 d13 d14 d15 d20 d21 d22 d23 d24 d25 hN hm hln
        go_enter Tryz.func20, Tryz.ntmps20
        go_wp2_with fail
        refine wp_region_quietC w [(B, o + 5, .slice (some ⟨b', o', none⟩) 2 E)] (by kernel_rfl) (by kernel_rfl) hX.out ?_
        repeat (first | go_big_quiet_skip | (go_big_quiet_want; apply Exists.intro; refine ⟨fun W hW => ?_, ?_⟩; focus (have hK := Lib.hid hW; obtain ⟨hs, hc⟩ := hW; simp only [Has, and_true] at hc; go_simp; (first | (go_at_call 20; (first | ((with_reducible refine quietC_call hK.out (K1.out _ ?_)); exact hK.out.1) | ((with_reducible refine quietC_call hK.out (K2.out _ ?_)); exact hK.out.1))) | (go_at_call 19; ((with_reducible refine quietC_call hK.out (K1.out _ ?_)); exact hK.out.1)) | rfl))) | (go_simp; go_big_quiet_on))
        refine wpQuiet_nil ?_
        intro w1 H1
        go_wp2_with fail
        go_ret
        exact ⟨rfl, H1.1⟩
      · obtain ⟨b', o', rfl, hat⟩ := hD (by simp)
        obtain ⟨d10, d11, d12, d13, ⟨A1, C1, d14, hA1⟩, ⟨D1, E1, d15, hD1⟩, d20, d21, d22, d23, ⟨A2, C2, d24, hA2⟩, ⟨D2, E2, d25, hD2⟩, _⟩ := hat
        have al : (ptE k1 n1 ck1 cn1 cf1 f1).length ≤ 83886080 := by have := ptE_len t a ha (cf1.nodes + f1.nodes + 1) cf1 f1 (Nat.lt_succ_self _) k1 n1 ck1 cn1 h1; simp only [Pg.nodes] at hm; omega
        have bl : (ptE k2 n2 ck2 cn2 cf2 f2).length ≤ 83886080 := by have := ptE_len t a ha (cf2.nodes + f2.nodes + 1) cf2 f2 (Nat.lt_succ_self _) k2 n2 ck2 cn2 h2; simp only [Pg.nodes] at hm; omega
        have hD1 : f1.Lies w D1 := hD1
        have hD2 : f2.Lies w D2 := hD2
        have lBk : b' < w.heap.size := World.block_lt_of_cell? _ _ d10
        have hln : (Pg.cons k1 n1 ck1 cn1 cf1 f1 (.cons k2 n2 ck2 cn2 cf2 f2 .nil)).len = 2 := rfl
        rw [hln] at p5
        simp only [Pg.nodes] at hN hm
        have cl : (ndE cf ck cn).tx.length ≤ 83886080 := by have := (condV_tx hc).2; omega
        obtain ⟨lc, hlc⟩ : ∃ l, l = (ndE cf ck cn).tx := ⟨_, rfl⟩
        have hbc : lc.length ≤ 83886080 := by rw [hlc]; exact cl
        obtain ⟨sc, hsc⟩ : ∃ s : ByteArray, s = ⟨lc.toArray⟩ := ⟨_, rfl⟩
        obtain ⟨la, hla⟩ : ∃ l, l = ptE k1 n1 ck1 cn1 cf1 f1 := ⟨_, rfl⟩
        have hba : la.length ≤ 83886080 := by rw [hla]; exact al
        obtain ⟨sa, hsa⟩ : ∃ s : ByteArray, s = ⟨la.toArray⟩ := ⟨_, rfl⟩
        obtain ⟨lb, hlb⟩ : ∃ l, l = ptE k2 n2 ck2 cn2 cf2 f2 := ⟨_, rfl⟩
        have hbb : lb.length ≤ 83886080 := by rw [hlb]; exact bl
        obtain ⟨sb, hsb⟩ : ∃ s : ByteArray, s = ⟨lb.toArray⟩ := ⟨_, rfl⟩
        obtain ⟨u1, hu1⟩ : ∃ s : ByteArray, s = ⟨([105, 102, 32] ++ lc).toArray⟩ := ⟨_, rfl⟩
        have q1 : ∀ W : World, (Op.stringOp .add ⟨#[105, 102, 32]⟩ sc).run Tryz.prog W = .ok (.string u1) W := fun W => by rw [hsc, hu1]; exact add_any ([105, 102, 32]) lc (by simp only [List.length_cons, List.length_nil]; omega) W
        obtain ⟨u2, hu2⟩ : ∃ s : ByteArray, s = ⟨([105, 102, 32] ++ lc ++ [32, 116, 104, 101, 110, 32]).toArray⟩ := ⟨_, rfl⟩
        have q2 : ∀ W : World, (Op.stringOp .add u1 ⟨#[32, 116, 104, 101, 110, 32]⟩).run Tryz.prog W = .ok (.string u2) W := fun W => by rw [hu1, hu2]; exact add_any ([105, 102, 32] ++ lc) [32, 116, 104, 101, 110, 32] (by simp only [List.length_append, List.length_cons, List.length_nil]; omega) W
        obtain ⟨u3, hu3⟩ : ∃ s : ByteArray, s = ⟨([105, 102, 32] ++ lc ++ [32, 116, 104, 101, 110, 32] ++ la).toArray⟩ := ⟨_, rfl⟩
        have q3 : ∀ W : World, (Op.stringOp .add u2 sa).run Tryz.prog W = .ok (.string u3) W := fun W => by rw [hu2, hsa, hu3]; exact add_any ([105, 102, 32] ++ lc ++ [32, 116, 104, 101, 110, 32]) la (by simp only [List.length_append, List.length_cons, List.length_nil]; omega) W
        obtain ⟨u4, hu4⟩ : ∃ s : ByteArray, s = ⟨([105, 102, 32] ++ lc ++ [32, 116, 104, 101, 110, 32] ++ la ++ [32, 101, 108, 115, 101, 32]).toArray⟩ := ⟨_, rfl⟩
        have q4 : ∀ W : World, (Op.stringOp .add u3 ⟨#[32, 101, 108, 115, 101, 32]⟩).run Tryz.prog W = .ok (.string u4) W := fun W => by rw [hu3, hu4]; exact add_any ([105, 102, 32] ++ lc ++ [32, 116, 104, 101, 110, 32] ++ la) [32, 101, 108, 115, 101, 32] (by simp only [List.length_append, List.length_cons, List.length_nil]; omega) W
        obtain ⟨u5, hu5⟩ : ∃ s : ByteArray, s = ⟨([105, 102, 32] ++ lc ++ [32, 116, 104, 101, 110, 32] ++ la ++ [32, 101, 108, 115, 101, 32] ++ lb).toArray⟩ := ⟨_, rfl⟩
        have q5 : ∀ W : World, (Op.stringOp .add u4 sb).run Tryz.prog W = .ok (.string u5) W := fun W => by rw [hu4, hsb, hu5]; exact add_any ([105, 102, 32] ++ lc ++ [32, 116, 104, 101, 110, 32] ++ la ++ [32, 101, 108, 115, 101, 32]) lb (by simp only [List.length_append, List.length_cons, List.length_nil]; omega) W
        obtain ⟨u6, hu6⟩ : ∃ s : ByteArray, s = ⟨([105, 102, 32] ++ lc ++ [32, 116, 104, 101, 110, 32] ++ la ++ [32, 101, 108, 115, 101, 32] ++ lb ++ [32, 102, 105]).toArray⟩ := ⟨_, rfl⟩
        have q6 : ∀ W : World, (Op.stringOp .add u5 ⟨#[32, 102, 105]⟩).run Tryz.prog W = .ok (.string u6) W := fun W => by rw [hu5, hu6]; exact add_any ([105, 102, 32] ++ lc ++ [32, 116, 104, 101, 110, 32] ++ la ++ [32, 101, 108, 115, 101, 32] ++ lb) [32, 102, 105] (by simp only [List.length_append, List.length_cons, List.length_nil]; omega) W
        have HV : Hid (ptE 6 n ck cn cf (.cons k1 n1 ck1 cn1 cf1 f1 (.cons k2 n2 ck2 cn2 cf2 f2 .nil)) = [105, 102, 32] ++ lc ++ [32, 116, 104, 101, 110, 32] ++ la ++ [32, 101, 108, 115, 101, 32] ++ lb ++ [32, 102, 105]) := by show _ = _; rw [hlc]; rw [hla]; rw [hlb]; rfl
        have KC : Hid (∀ W : World, Sees w W → Calls Tryz.prog 19 #[.pointer (some ⟨B, o + 2, none⟩)] W fun e w' => e = .returned (.string sc) ∧ Below W.heap.size W w') := fun W h => by
          rw [hsc, hlc]
          exact l01Text_any (cf.nodes + 1) cf (Nat.lt_succ_self _) (by omega) t a false ck cn A C B (o + 2) W (condV_parts hc).1 ha (hA.sees h) (condV_parts hc).2.2 ((h.cell (p := ⟨B, o + 2, none⟩) lB).trans p2) ((h.cell (p := ⟨B, o + 3, none⟩) lB).trans p3) ((h.cell (p := ⟨B, o + 4, none⟩) lB).trans p4)
        have K1 : Hid (∀ W : World, Sees w W → Calls Tryz.prog 20 #[.pointer (some ⟨b', o', none⟩)] W fun e w' => e = .returned (.string sa) ∧ Below W.heap.size W w') := fun W h => by
          rw [hsa, hla]
          exact IH.out cf1 f1 (by omega) (by omega) k1 n1 ck1 cn1 A1 D1 C1 E1 b' (o') W (hA1.sees h) (hD1.sees h) h1 ((h.cell (p := ⟨b', o', none⟩) lBk).trans d10) ((h.cell (p := ⟨b', o' + 1, none⟩) lBk).trans d11) ((h.cell (p := ⟨b', o' + 2, none⟩) lBk).trans d12) ((h.cell (p := ⟨b', o' + 3, none⟩) lBk).trans d13) ((h.cell (p := ⟨b', o' + 4, none⟩) lBk).trans d14) ((h.cell (p := ⟨b', o' + 5, none⟩) lBk).trans d15)
        have K2 : Hid (∀ W : World, Sees w W → Calls Tryz.prog 20 #[.pointer (some ⟨b', o' + 6, none⟩)] W fun e w' => e = .returned (.string sb) ∧ Below W.heap.size W w') := fun W h => by
          rw [hsb, hlb]
          exact IH.out cf2 f2 (by omega) (by omega) k2 n2 ck2 cn2 A2 D2 C2 E2 b' (o' + 6) W (hA2.sees h) (hD2.sees h) h2 ((h.cell (p := ⟨b', o' + 6, none⟩) lBk).trans d20) ((h.cell (p := ⟨b', o' + 6 + 1, none⟩) lBk).trans d21) ((h.cell (p := ⟨b', o' + 6 + 2, none⟩) lBk).trans d22) ((h.cell (p := ⟨b', o' + 6 + 3, none⟩) lBk).trans d23) ((h.cell (p := ⟨b', o' + 6 + 4, none⟩) lBk).trans d24) ((h.cell (p := ⟨b', o' + 6 + 5, none⟩) lBk).trans d25)
        have hX : Hid (St w [(B, o + 5, .slice (some ⟨b', o', none⟩) 2 E)] w) := ⟨Sees.refl w, p5, trivial⟩
        rw [HV.out, ← hu6]
        clear hsc hbc hlc hsa hba hla hsb hbb hlb hu1 hu2 hu3 hu4 hu5 hu6 HV cl al bl IH p1 p2 p3 p4 d10 d11 d12 d13 d14 d15 d20 d21 d22 d23 d24 d25 hN hm hln
        go_enter Tryz.func20, Tryz.ntmps20
        go_wp2_with fail
        refine wp_region_quietC w [(B, o + 5, .slice (some ⟨b', o', none⟩) 2 E)] (by kernel_rfl) (by kernel_rfl) hX.out ?_
        repeat (first | go_big_quiet_skip | (go_big_quiet_want; apply Exists.intro; refine ⟨fun W hW => ?_, ?_⟩; focus (have hK := Lib.hid hW; obtain ⟨hs, hc⟩ := hW; simp only [Has, and_true] at hc; go_simp; (first | (go_at_call 20; (first | ((with_reducible refine quietC_call hK.out (KC.out _ ?_)); exact hK.out.1) | ((with_reducible refine quietC_call hK.out (K1.out _ ?_)); exact hK.out.1) | ((with_reducible refine quietC_call hK.out (K2.out _ ?_)); exact hK.out.1))) | (go_at_call 19; ((with_reducible refine quietC_call hK.out (KC.out _ ?_)); exact hK.out.1)) | rfl))) | (go_simp; go_big_quiet_on))
        refine wpQuiet_nil ?_
        intro w1 H1
        go_wp2_with fail
        go_ret
        exact ⟨rfl, H1.1⟩
end Go.Proofs.YtcgbepmhfimbjaaGreatDoor

namespace Go.Proofs.YtcgbepmhfimbjaaGreatDoor
open Go.RowKit
set_option linter.unusedVariables false

/-- What TripleText answers. -/
def tripX (t a pk pn : Int) (pf : Fo) (gk gn gck gcn : Int) (gcf : Fo) (gks : Pg) (qk qn : Int) (qf : Fo) : List UInt8 := if tripV t a pk pn pf gk gn gck gcn gcf gks qk qn qf = true then [91] ++ (ndE pf pk pn).tx ++ [93, 32] ++ ptE gk gn gck gcn gcf gks ++ [32, 91] ++ (ndE qf qk qn).tx ++ [93] else []
set_option maxHeartbeats 4000000 in
set_option maxRecDepth 100000 in
theorem specTripleText_any (t a pk pn : Int) (pf : Fo) (gk gn gck gcn : Int) (gcf : Fo) (gks : Pg) (qk qn : Int) (qf : Fo) (hsz : pf.nodes + gcf.nodes + gks.nodes + qf.nodes ≤ 1048576) (hpf : pf.Fits) (hgcf : gcf.Fits) (hgks : gks.Fits) (hqf : qf.Fits) (Ap Ac Ag Aq : Option Addr) (Cp Cc Cg Cq : Nat) (w : World) (hA : pf.Lies w Ap) (hB : gcf.Lies w Ac) (hC : gks.Lies w Ag) (hD : qf.Lies w Aq) :
    Calls Tryz.prog 6 #[.agg #[.int .i64 t, .int .i64 a], .agg #[.int .i64 pk, .int .i64 pn, .slice Ap pf.len Cp, .int .i64 gk, .int .i64 gn, .int .i64 gck, .int .i64 gcn, .slice Ac gcf.len Cc, .slice Ag gks.len Cg, .int .i64 qk, .int .i64 qn, .slice Aq qf.len Cq]] w fun e w' => e = .returned (.string ⟨(tripX t a pk pn pf gk gn gck gcn gcf gks qk qn qf).toArray⟩) ∧ Below w.heap.size w w' := by
  obtain ⟨q, hq⟩ : ∃ q : Bool, q = tripV t a pk pn pf gk gn gck gcn gcf gks qk qn qf := ⟨_, rfl⟩
  obtain ⟨w0, hw0⟩ : ∃ w0, w0 = (w.alloc (.cells #[.int .i64 t, .int .i64 a] 34)).alloc (.cells #[.int .i64 pk, .int .i64 pn, .slice Ap pf.len Cp, .int .i64 gk, .int .i64 gn, .int .i64 gck, .int .i64 gcn, .slice Ac gcf.len Cc, .slice Ag gks.len Cg, .int .i64 qk, .int .i64 qn, .slice Aq qf.len Cq] 43) := ⟨_, rfl⟩
  have B0 : Sees w w0 := by rw [hw0]; exact ((Sees.refl w).alloc _).alloc _
  have hg0 : w0.heap[w.heap.size]? = some (.cells #[.int .i64 t, .int .i64 a] 34 (0, 0)) := by rw [hw0]; exact (Below.heap_alloc _ _ _ (by simp)).trans (heap_new _ _ _ rfl)
  have ht0 : w0.heap[w.heap.size + 1]? = some (.cells #[.int .i64 pk, .int .i64 pn, .slice Ap pf.len Cp, .int .i64 gk, .int .i64 gn, .int .i64 gck, .int .i64 gcn, .slice Ac gcf.len Cc, .slice Ag gks.len Cg, .int .i64 qk, .int .i64 qn, .slice Aq qf.len Cq] 43 (0, 0)) := by rw [hw0]; exact heap_new _ _ _ (by simp)
  have HB0 := Lib.hid B0; have HG0 := Lib.hid hg0; have HT0 := Lib.hid ht0
  have CC : Hid (∀ W : World, Sees w0 W → W.heap[w.heap.size + 1]? = some (.cells #[.int .i64 pk, .int .i64 pn, .slice Ap pf.len Cp, .int .i64 gk, .int .i64 gn, .int .i64 gck, .int .i64 gcn, .slice Ac gcf.len Cc, .slice Ag gks.len Cg, .int .i64 qk, .int .i64 qn, .slice Aq qf.len Cq] 43 (0, 0))) := fun W h => (h.block _ (by rw [hw0]; simp)).trans ht0
  have KO : Hid (∀ W : World, Sees w0 W → Calls Tryz.prog 18 #[.agg #[.int .i64 t, .int .i64 a], .pointer (some ⟨w.heap.size + 1, 0, none⟩)] W fun e w' => e = .returned (.bool q) ∧ Below W.heap.size W w') := fun W h => by
    have c := CC.out W h
    rw [hq]
    exact l07Triple_any t a pk pn pf gk gn gck gcn gcf gks qk qn qf hsz hpf hgcf hgks hqf Ap Ac Ag Aq Cp Cc Cg Cq (w.heap.size + 1) 0 W (hA.sees (B0.below h)) (hB.sees (B0.below h)) (hC.sees (B0.below h)) (hD.sees (B0.below h)) (Fo.cell_of_block c 0) (Fo.cell_of_block c 1) (Fo.cell_of_block c 2) (Fo.cell_of_block c 3) (Fo.cell_of_block c 4) (Fo.cell_of_block c 5) (Fo.cell_of_block c 6) (Fo.cell_of_block c 7) (Fo.cell_of_block c 8) (Fo.cell_of_block c 9) (Fo.cell_of_block c 10) (Fo.cell_of_block c 11)
  cases q
  · have HV : Hid (tripX t a pk pn pf gk gn gck gcn gcf gks qk qn qf = []) := by show _ = _; unfold tripX; rw [← hq]; rfl
    rw [HV.out]
    have g0 := Fo.cell_of_block hg0 0; have g1 := Fo.cell_of_block hg0 1
    rw [hw0] at g0 g1
    clear hq HV hA hB hC hD hpf hgcf hgks hqf B0 hg0 ht0
    go_enter Tryz.func6, Tryz.ntmps6
    have HW0 := Lib.hid hw0
    clear hw0
    go_wp2_with fail
    rw [← HW0.out]
    refine (KO.out _ (Sees.refl _)).mono ?_
    rintro e w1 ⟨rfl, hb⟩
    have HB1 := Lib.hid (HB0.out.below hb)
    clear hb
    go_wp2_with fail
    go_ret
    exact ⟨rfl, HB1.out⟩
  · have hv := hq.symm
    have hvv := hv
    unfold tripV at hvv
    simp only [Bool.and_eq_true] at hvv
    have z1 : (ndE pf pk pn).tx.length ≤ 83886080 := by have := (condV_tx hvv.1).2; omega
    have z3 : (ndE qf qk qn).tx.length ≤ 83886080 := by have := (condV_tx hvv.2.1).2; omega
    have hvp := validP_parts hvv.2.2
    have z2 : (ptE gk gn gck gcn gcf gks).length ≤ 83886080 := by have := ptE_len t a hvp.2.1 (gcf.nodes + gks.nodes + 1) gcf gks (Nat.lt_succ_self _) gk gn gck gcn hvp.2.2; omega
    obtain ⟨l1, hl1⟩ : ∃ l, l = (ndE pf pk pn).tx := ⟨_, rfl⟩
    obtain ⟨s1, hs1⟩ : ∃ s : ByteArray, s = ⟨l1.toArray⟩ := ⟨_, rfl⟩
    have hb1 : l1.length ≤ 83886080 := by rw [hl1]; exact z1
    obtain ⟨l2, hl2⟩ : ∃ l, l = ptE gk gn gck gcn gcf gks := ⟨_, rfl⟩
    obtain ⟨s2, hs2⟩ : ∃ s : ByteArray, s = ⟨l2.toArray⟩ := ⟨_, rfl⟩
    have hb2 : l2.length ≤ 83886080 := by rw [hl2]; exact z2
    obtain ⟨l3, hl3⟩ : ∃ l, l = (ndE qf qk qn).tx := ⟨_, rfl⟩
    obtain ⟨s3, hs3⟩ : ∃ s : ByteArray, s = ⟨l3.toArray⟩ := ⟨_, rfl⟩
    have hb3 : l3.length ≤ 83886080 := by rw [hl3]; exact z3
    obtain ⟨u1, hu1⟩ : ∃ s : ByteArray, s = ⟨([91] ++ l1).toArray⟩ := ⟨_, rfl⟩
    have q1_ : ∀ W : World, (Op.stringOp .add ⟨#[91]⟩ s1).run Tryz.prog W = .ok (.string u1) W := fun W => by rw [hs1, hu1]; exact add_any ([91]) l1 (by simp only [List.length_cons, List.length_nil]; omega) W
    obtain ⟨u2, hu2⟩ : ∃ s : ByteArray, s = ⟨([91] ++ l1 ++ [93, 32]).toArray⟩ := ⟨_, rfl⟩
    have q2_ : ∀ W : World, (Op.stringOp .add u1 ⟨#[93, 32]⟩).run Tryz.prog W = .ok (.string u2) W := fun W => by rw [hu1, hu2]; exact add_any ([91] ++ l1) [93, 32] (by simp only [List.length_append, List.length_cons, List.length_nil]; omega) W
    obtain ⟨u3, hu3⟩ : ∃ s : ByteArray, s = ⟨([91] ++ l1 ++ [93, 32] ++ l2).toArray⟩ := ⟨_, rfl⟩
    have q3_ : ∀ W : World, (Op.stringOp .add u2 s2).run Tryz.prog W = .ok (.string u3) W := fun W => by rw [hu2, hs2, hu3]; exact add_any ([91] ++ l1 ++ [93, 32]) l2 (by simp only [List.length_append, List.length_cons, List.length_nil]; omega) W
    obtain ⟨u4, hu4⟩ : ∃ s : ByteArray, s = ⟨([91] ++ l1 ++ [93, 32] ++ l2 ++ [32, 91]).toArray⟩ := ⟨_, rfl⟩
    have q4_ : ∀ W : World, (Op.stringOp .add u3 ⟨#[32, 91]⟩).run Tryz.prog W = .ok (.string u4) W := fun W => by rw [hu3, hu4]; exact add_any ([91] ++ l1 ++ [93, 32] ++ l2) [32, 91] (by simp only [List.length_append, List.length_cons, List.length_nil]; omega) W
    obtain ⟨u5, hu5⟩ : ∃ s : ByteArray, s = ⟨([91] ++ l1 ++ [93, 32] ++ l2 ++ [32, 91] ++ l3).toArray⟩ := ⟨_, rfl⟩
    have q5_ : ∀ W : World, (Op.stringOp .add u4 s3).run Tryz.prog W = .ok (.string u5) W := fun W => by rw [hu4, hs3, hu5]; exact add_any ([91] ++ l1 ++ [93, 32] ++ l2 ++ [32, 91]) l3 (by simp only [List.length_append, List.length_cons, List.length_nil]; omega) W
    obtain ⟨u6, hu6⟩ : ∃ s : ByteArray, s = ⟨([91] ++ l1 ++ [93, 32] ++ l2 ++ [32, 91] ++ l3 ++ [93]).toArray⟩ := ⟨_, rfl⟩
    have q6_ : ∀ W : World, (Op.stringOp .add u5 ⟨#[93]⟩).run Tryz.prog W = .ok (.string u6) W := fun W => by rw [hu5, hu6]; exact add_any ([91] ++ l1 ++ [93, 32] ++ l2 ++ [32, 91] ++ l3) [93] (by simp only [List.length_append, List.length_cons, List.length_nil]; omega) W
    have HV : Hid (tripX t a pk pn pf gk gn gck gcn gcf gks qk qn qf = [91] ++ l1 ++ [93, 32] ++ l2 ++ [32, 91] ++ l3 ++ [93]) := by show _ = _; rw [hl1, hl2, hl3]; unfold tripX; rw [if_pos hv]
    have K1 : Hid (∀ W : World, Sees w0 W → Calls Tryz.prog 19 #[.pointer (some ⟨w.heap.size + 1, 0, none⟩)] W fun e w' => e = .returned (.string s1) ∧ Below W.heap.size W w') := fun W h => by
      have c := CC.out W h
      rw [hs1, hl1]
      exact l01Text_any (pf.nodes + 1) pf (Nat.lt_succ_self _) (by omega) t a false pk pn Ap Cp (w.heap.size + 1) 0 W hvp.1 hvp.2.1 (hA.sees (B0.below h)) (condV_parts hvv.1).2.2 (Fo.cell_of_block c 0) (Fo.cell_of_block c 1) (Fo.cell_of_block c 2)
    have K2 : Hid (∀ W : World, Sees w0 W → Calls Tryz.prog 20 #[.pointer (some ⟨w.heap.size + 1, 3, none⟩)] W fun e w' => e = .returned (.string s2) ∧ Below W.heap.size W w') := fun W h => by
      have c := CC.out W h
      rw [hs2, hl2]
      exact l06Text_any t a hvp.2.1 (gcf.nodes + gks.nodes + 1) gcf gks (Nat.lt_succ_self _) (by omega) gk gn gck gcn Ac Ag Cc Cg (w.heap.size + 1) 3 W (hB.sees (B0.below h)) (hC.sees (B0.below h)) hvp.2.2 (Fo.cell_of_block c 3) (Fo.cell_of_block c 4) (Fo.cell_of_block c 5) (Fo.cell_of_block c 6) (Fo.cell_of_block c 7) (Fo.cell_of_block c 8)
    have K3 : Hid (∀ W : World, Sees w0 W → Calls Tryz.prog 19 #[.pointer (some ⟨w.heap.size + 1, 9, none⟩)] W fun e w' => e = .returned (.string s3) ∧ Below W.heap.size W w') := fun W h => by
      have c := CC.out W h
      rw [hs3, hl3]
      exact l01Text_any (qf.nodes + 1) qf (Nat.lt_succ_self _) (by omega) t a false qk qn Aq Cq (w.heap.size + 1) 9 W hvp.1 hvp.2.1 (hD.sees (B0.below h)) (condV_parts hvv.2.1).2.2 (Fo.cell_of_block c 9) (Fo.cell_of_block c 10) (Fo.cell_of_block c 11)
    rw [HV.out, ← hu6]
    have g0 := Fo.cell_of_block hg0 0; have g1 := Fo.cell_of_block hg0 1
    rw [hw0] at g0 g1
    clear hq hv hvv hvp z1 z2 z3 HV hA hB hC hD hpf hgcf hgks hqf B0 hg0 ht0 hl1 hl2 hl3 hs1 hs2 hs3 hb1 hb2 hb3 hu1 hu2 hu3 hu4 hu5 hu6 hsz
    go_enter Tryz.func6, Tryz.ntmps6
    have HW0 := Lib.hid hw0
    clear hw0
    go_wp2_with fail
    rw [← HW0.out]
    refine (KO.out _ (Sees.refl _)).mono ?_
    rintro e w1 ⟨rfl, hb⟩
    have HB1 := Lib.hid (show Sees w0 w1 from hb)
    clear hb g0 g1
    go_wp2_with fail
    refine (K1.out _ HB1.out).mono ?_
    rintro e w2 ⟨rfl, hb⟩
    have HB2 := Lib.hid (HB1.out.below hb)
    clear hb
    go_wp2_with fail
    refine (K2.out _ HB2.out).mono ?_
    rintro e w3 ⟨rfl, hb⟩
    have HB3 := Lib.hid (HB2.out.below hb)
    clear hb
    go_wp2_with fail
    refine (K3.out _ HB3.out).mono ?_
    rintro e w4 ⟨rfl, hb⟩
    have HB4 := Lib.hid (HB0.out.below (HB3.out.below hb))
    clear hb
    go_wp2_with fail
    go_ret
    exact ⟨rfl, HB4.out⟩
end Go.Proofs.YtcgbepmhfimbjaaGreatDoor
