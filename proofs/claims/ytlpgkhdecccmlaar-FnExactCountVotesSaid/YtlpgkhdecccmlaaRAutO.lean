/- An automaton that is handed to a law, opened. -/
import Derived.Test.YtlpgkhdecccmlaaRAut
import Derived.Test.YtlpgkhdecccmlaaRLaw
namespace Go.Proofs.YtlpgkhdecccmlaaR
open Go.RowKit Go.WideShapes Go.ChangeShapes Go.ChangeAt Go.Deep Go.WideElems

theorem list_open {H : Type} {enc : TypeId × Value → H} {W : World} {t e : TypeId} (ht : Try.prog.underlying t = some (.slice e)) (hc : Try.prog.cellsOf e = 1) {α : Type} [Inhabited α] {Fit : α → Prop} {G : α → Value → Prop}
    (one : ∀ n v y, DataW.trod enc Try.prog W 0 (fun _ => true) true n e [v] = some y → ∃ x : α, G x v ∧ Fit x)
    {fuel : Nat} {cs : List Value} {x : DataW H × List MemPlace} (h : DataW.trod enc Try.prog W 0 (fun _ => true) true fuel t cs = some x) :
    ∃ (xs : List α) (A : Option Addr) (C : Nat), cs = [.slice A xs.length C] ∧ xs.length ≤ 9223372036854775807 ∧ (∀ x ∈ xs, Fit x) ∧ (xs ≠ [] → ∃ b o, A = some ⟨b, o, none⟩ ∧ ∀ i x, xs[i]? = some x → ∃ v, W.cell? ⟨b, o + i, none⟩ = some v ∧ G x v) := by
  rcases open_slice1 ht hc h with ⟨rfl, _⟩ | ⟨a, len, cap, m, n, V, D, Pl, rfl, hb, hl, hm, hmm, rfl, hx⟩
  · exact ⟨[], none, 0, rfl, Nat.zero_le _, fun x hx => absurd hx (by simp), fun h => absurd rfl h⟩
  · simp only [if_true] at hmm
    have each : ∀ i, i < len → ∃ z : α, G z (V i) ∧ Fit z := fun i hi => one n (V i) _ (hx i (by omega)).2
    obtain ⟨Z, hZ⟩ := choose_lt each
    refine ⟨(List.range len).map Z, some a, cap, by simp, by simp; unfold maxLen at hm; omega, ?_, ?_⟩
    · intro x hx
      obtain ⟨i, hi, rfl⟩ := List.mem_map.1 hx
      exact (hZ i (by simpa using hi)).2
    · intro hne
      have hpos : 0 < len := by
        rcases Nat.eq_zero_or_pos len with h0 | h0
        · subst h0; simp at hne
        · exact h0
      obtain ⟨b, o, spot⟩ := a
      have hspot : spot = none := by simpa [Addr.add] using World.cell?_spot (hx 0 (by omega)).1
      subst hspot
      refine ⟨b, o, rfl, fun i x hi => ?_⟩
      obtain ⟨hil, he⟩ := List.getElem?_eq_some_iff.1 hi
      have hi' : i < len := by simpa using hil
      have hz : Z i = x := by rw [← he]; simp
      have := (hx i (by omega)).1
      rw [add_plain] at this
      exact ⟨V i, this, by rw [← hz]; exact (hZ i hi').1⟩

section
variable {H : Type} {enc : TypeId × Value → H} {W : World} {fuel : Nat} {cs : List Value} {x : DataW H × List MemPlace}
theorem boolsL_open (h : DataW.trod enc Try.prog W 0 (fun _ => true) true fuel 46 cs = some x) : ∃ (xs : List Bool) (A : Option Addr) (C : Nat), cs = [.slice A xs.length C] ∧ BoolsL 0 W xs A ∧ xs.length ≤ 9223372036854775807 := by
  obtain ⟨xs, A, C, e, hl, _, hc⟩ := list_open (Fit := fun _ => True) (G := fun b v => v = .bool b) Try.underlying46 (by kernel_rfl) (fun n v y h => by
    obtain ⟨b, hb, _⟩ := DataW.trod_bool Try.underlying4 h
    simp at hb
    exact ⟨b, hb, trivial⟩) h
  exact ⟨xs, A, C, e, fun hn => let ⟨b, o, hA, hh⟩ := hc hn; ⟨b, o, Nat.zero_le _, hA, fun i x hi => let ⟨v, h1, h2⟩ := hh i x hi; by rw [← h2]; exact h1⟩, hl⟩
theorem intsL_open (h : DataW.trod enc Try.prog W 0 (fun _ => true) true fuel 28 cs = some x) : ∃ (xs : List Int) (A : Option Addr) (C : Nat), cs = [.slice A xs.length C] ∧ IntsL 0 W xs A ∧ xs.length ≤ 9223372036854775807 := by
  obtain ⟨xs, A, C, e, h1, h2, _⟩ := ints_open h
  exact ⟨xs, A, C, e, IntsL.of h1, h2⟩
theorem rows3_open {t e : TypeId} (ht : Try.prog.underlying t = some (.slice e)) (hc : Try.prog.cellsOf e = 1) {β : Type} {Q : Nat → World → List β → Option Addr → Prop} {Fit : List β → Prop}
    (one : ∀ n v y, DataW.trod enc Try.prog W 0 (fun _ => true) true n e [v] = some y → ∃ (xs : List β) (A : Option Addr) (C : Nat), [v] = [.slice A xs.length C] ∧ Q 0 W xs A ∧ Fit xs)
    (h : DataW.trod enc Try.prog W 0 (fun _ => true) true fuel t cs = some x) :
    ∃ (xs : List (List β)) (A : Option Addr) (C : Nat), cs = [.slice A xs.length C] ∧ Rows3 Q List.length 0 W xs A ∧ (xs.length ≤ 9223372036854775807 ∧ ∀ x ∈ xs, Fit x) := by
  obtain ⟨xs, A, C, e, hl, hf, hh⟩ := list_open (Fit := Fit) (G := fun (x : List β) v => ∃ B C, v = .slice B x.length C ∧ Q 0 W x B) ht hc (fun n v y h => by
    obtain ⟨xs, A, C, hv, hq, hf⟩ := one n v y h
    simp at hv
    exact ⟨xs, ⟨A, C, hv, hq⟩, hf⟩) h
  exact ⟨xs, A, C, e, fun hn => let ⟨b, o, hA, hk⟩ := hh hn; ⟨b, o, Nat.zero_le _, hA, fun i x hi => let ⟨v, h1, B, C, h2, h3⟩ := hk i x hi; ⟨B, C, by rw [← h2]; exact h1, h3⟩⟩, hl, hf⟩
end

end Go.Proofs.YtlpgkhdecccmlaaR
