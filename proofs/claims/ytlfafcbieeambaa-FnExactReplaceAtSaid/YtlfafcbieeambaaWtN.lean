/- Contract of impl.withAt. -/
import Derived.Test.YtlfafcbieeambaaWtE
import Derived.Test.YtlfafcbieeambaaCatE
import Derived.Deep.RegionLaw
namespace Go.Proofs.Ytlfafcbieeambaa
open Go.RowKit

theorem inner_zero {t a : Int} {b : Bool} {k n : Int} {f : Fo} (h : treeE t a b k n f = true) (hf : f ≠ .nil) : n = 0 := by
  have h0 : 0 < f.len := by cases f with
    | nil => exact absurd rfl hf
    | cons k n ks r => simp only [Fo.len]; omega
  unfold treeE shapeB kidC numC at h
  simp only [Bool.and_eq_true, decide_eq_true_eq] at h
  obtain ⟨⟨⟨h1, h2, h3⟩, _⟩, _⟩ := h
  split at h1 <;> split at h3 <;> omega

theorem parts_any (k n : Int) (A : Option Addr) (l C : Nat) (w : World) : Calls Try.prog 211 #[.agg #[.int .i64 k, .int .i64 n, .slice A l C]] w fun e w' => e = .returned (.slice A l C) ∧ Below w.heap.size w w' := by
  go_enter Try.func211, Try.ntmps211
  go_wp2_with fail
  go_ret
  exact ⟨rfl, by go_grown⟩
theorem with_any (k n : Int) (A A2 : Option Addr) (l C l2 C2 : Nat) (w : World) : Calls Try.prog 212 #[.agg #[.int .i64 k, .int .i64 n, .slice A l C], .slice A2 l2 C2] w fun e w' => e = .returned (.agg #[.int .i64 k, .int .i64 n, .slice A2 l2 C2]) ∧ Below w.heap.size w w' := by
  go_enter Try.func212, Try.ntmps212
  go_wp2_with fail
  refine bodyPost_ret (v := .agg #[.int .i64 k, .int .i64 n, .slice A2 l2 C2]) (by simp [results, Try.results212, go_sem]) rfl ?_
  exact ⟨rfl, by go_grown⟩
theorem parts_method (k n : Int) (A : Option Addr) (l C : Nat) (w : World) : (method 362 31 (.agg #[.int .i64 k, .int .i64 n, .slice A l C]) "loop.example/g01101/impl.parts").run Try.prog w = .ok (211, .agg #[.int .i64 k, .int .i64 n, .slice A l C]) w := by kernel_rfl
theorem parts_call (x : Value) (w : World) : (callFunc 211 #[x]).run Try.prog w = .ok (.enter 211 #[x]) w := by kernel_rfl
theorem with_method (k n : Int) (A : Option Addr) (l C : Nat) (w : World) : (method 362 31 (.agg #[.int .i64 k, .int .i64 n, .slice A l C]) "loop.example/g01101/impl.with").run Try.prog w = .ok (212, .agg #[.int .i64 k, .int .i64 n, .slice A l C]) w := by kernel_rfl
theorem with_call (x y : Value) (w : World) : (callFunc 212 #[x, y]).run Try.prog w = .ok (.enter 212 #[x, y]) w := by kernel_rfl

/-- What is said of withAt at a path. -/
def WithSaid (t a j o : Int) (g : Fo) (s0 E : Nat) (xs : List Int) : Prop := xs.length ≤ 1048576 → ∀ (b q : Bool) (k n : Int) (f : Fo) (A B P : Option Addr) (C : Nat) (w : World), s0 ≤ w.heap.size → f.LiesP w (· < s0) A → g.LiesP w (· < s0) B → Ints w xs P → treeE t a b k n f = true → walkP xs k n f q ≠ none → f.nodes ≤ 1048576 →
    Calls Try.prog 110 #[.agg #[.int .i64 k, .int .i64 n, .slice A f.len C], .slice P xs.length xs.length, .agg #[.int .i64 j, .int .i64 o, .slice B g.len E]] w fun e w' => ∃ A' C', e = .returned (.agg #[.int .i64 (putP xs (j, o, g) k n f).1, .int .i64 (putP xs (j, o, g) k n f).2.1, .slice A' (putP xs (j, o, g) k n f).2.2.len C']) ∧
      (putP xs (j, o, g) k n f).2.2.LiesP w' (fun y => y < s0 ∨ w.heap.size ≤ y) A' ∧ Below w.heap.size w w'

set_option maxRecDepth 100000 in
set_option maxHeartbeats 4000000 in
theorem withAt_nil (t a j o : Int) (g : Fo) (s0 E : Nat) : WithSaid t a j o g s0 E [] := by
  intro hx b q k n f A B P C w hs hf hg hp ht hw hm
  have HG := Lib.hid hg
  clear hf hg hp ht hw
  show Calls _ _ _ _ (fun e w' => ∃ A' C', e = .returned (.agg #[.int .i64 j, .int .i64 o, .slice A' g.len C']) ∧ g.LiesP w' (fun y => y < s0 ∨ w.heap.size ≤ y) A' ∧ Below w.heap.size w w')
  go_enter Try.func110, Try.ntmps110
  go_wp2_with fail
  refine bodyPost_ret (v := .agg #[.int .i64 j, .int .i64 o, .slice B g.len E]) (by simp [results, Try.results110, go_sem]) rfl ?_
  refine ⟨B, E, rfl, ?_, ?_⟩
  · exact HG.out.agree (fun x hx => Below.block (B := w.heap.size) (by go_grown) x (by omega)) (fun x hx => Or.inl hx)
  · go_grown
end Go.Proofs.Ytlfafcbieeambaa
