/- Lists handed by value to a law: integers, expressions. No walk. -/
import Derived.Test.YtlpgkhdecccmlaaRLaw
namespace Go.Proofs.YtlpgkhdecccmlaaR
open Go.RowKit Go.WideShapes Go.ChangeShapes Go.ChangeAt Go.Deep Go.WideElems

set_option maxRecDepth 100000 in
theorem lints_open {H : Type} {enc : TypeId × Value → H} {W : World} {base : Nat} {v : Value} {d : DataW H} {p : List MemPlace} (hok : Value.okWide Try.prog W .any base 28 v) (h : DataW.Trod enc Try.prog W 0 (fun _ => true) true 28 v d p) :
    ∃ (xs : List Int) (A : Option Addr) (C : Nat), v = .slice A xs.length C ∧ Ints W xs A ∧ xs.length ≤ 9223372036854775807 ∧ ∀ v ∈ xs, (Lit.int .i64 v).wf = true := by
  obtain ⟨a, len, cap, rfl⟩ := okWide_slice Try.underlying28 hok
  obtain ⟨fuel, hf⟩ := h
  obtain ⟨xs, A, C, hx, l1, l2, l3⟩ := ints_open hf
  simp [Value.cells] at hx
  obtain ⟨rfl, rfl, rfl⟩ := hx
  exact ⟨xs, _, _, rfl, l1, l2, l3⟩

set_option maxRecDepth 100000 in
theorem llist_open {H : Type} {enc : TypeId × Value → H} {W : World} {base : Nat} {v : Value} {d : DataW H} {p : List MemPlace} (hok : Value.okWide Try.prog W .any base 24 v) (h : DataW.Trod enc Try.prog W 0 (fun _ => true) true 24 v d p) :
    ∃ (f : Fo) (A : Option Addr) (C : Nat), v = .slice A f.len C ∧ f.Lies W A ∧ f.len ≤ 9223372036854775807 ∧ f.Fits := by
  obtain ⟨a, len, cap, rfl⟩ := okWide_slice Try.underlying24 hok
  obtain ⟨fuel, hf⟩ := h
  obtain ⟨f, A, C, hx, l1, l2, l3⟩ := lforest_open _ _ _ hf
  simp [Value.cells] at hx
  obtain ⟨rfl, rfl, rfl⟩ := hx
  exact ⟨f, _, _, rfl, l1, l2, l3⟩
end Go.Proofs.YtlpgkhdecccmlaaR
