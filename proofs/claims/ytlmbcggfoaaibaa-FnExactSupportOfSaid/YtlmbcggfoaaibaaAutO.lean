/- An automaton that is handed to a law, opened. -/
import Derived.Test.YtlmbcggfoaaibaaAut
import Derived.Test.YtlmbcggfoaaibaaLaw
namespace Go.Proofs.Ytlmbcggfoaaibaa
open Go.RowKit Go.WideShapes Go.ChangeShapes Go.ChangeAt Go.Deep Go.WideElems

theorem list_open {H : Type} {enc : TypeId × Value → H} {W : World} {t e : TypeId} (ht : Try.prog.underlying t = some (.slice e)) (hc : Try.prog.cellsOf e = 1) {α : Type} [Inhabited α] {Fit : α → Prop} {G : α → Value → Prop}
    (one : ∀ n v y, DataW.trod enc Try.prog W 0 (fun _ => true) true n e [v] = some y → ∃ x : α, G x v ∧ Fit x)
    {fuel : Nat} {cs : List Value} {x : DataW H × List MemPlace} (h : DataW.trod enc Try.prog W 0 (fun _ => true) true fuel t cs = some x) :
    ∃ (xs : List α) (A : Option Addr) (C : Nat), cs = [.slice A xs.length C] ∧ xs.length ≤ 9223372036854775807 ∧ (∀ x ∈ xs, Fit x) ∧ (xs ≠ [] → ∃ b o, A = some ⟨b, o, none⟩ ∧ ∀ i x, xs[i]? = some x → ∃ v, W.cell? ⟨b, o + i, none⟩ = some v ∧ G x v) := by
  rcases open_slice1 ht hc h with ⟨rfl, _⟩ | ⟨a, len, cap, m, n, V, D, Pl, rfl, hb, hl, hm, hmm, rfl, hx⟩
  · exact ⟨[], none, 0, rfl, Nat.zero_le _, fun x hx => absurd hx (by simp), fun h => absurd rfl h⟩
  · simp only [if_true] at hmm
    have each : ∀ i, i < len → ∃ z : α, G z (V i) ∧ Fit z := fun i hi => one n (V i) _ (hx i (by omega)).2
    obtain ⟨Z, hZ⟩ := choose_lt each
    refine ⟨(List.range len).map Z, some a, cap, by simp, by simp; unfold maxLen at hm; omega, ?_, ?_⟩
    · intro x hx
      obtain ⟨i, hi, rfl⟩ := List.mem_map.1 hx
      exact (hZ i (by simpa using hi)).2
    · intro hne
      have hpos : 0 < len := by
        rcases Nat.eq_zero_or_pos len with h0 | h0
        · subst h0; simp at hne
        · exact h0
      obtain ⟨b, o, spot⟩ := a
      have hspot : spot = none := by simpa [Addr.add] using World.cell?_spot (hx 0 (by omega)).1
      subst hspot
      refine ⟨b, o, rfl, fun i x hi => ?_⟩
      obtain ⟨hil, he⟩ := List.getElem?_eq_some_iff.1 hi
      have hi' : i < len := by simpa using hil
      have hz : Z i = x := by rw [← he]; simp
      have := (hx i (by omega)).1
      rw [add_plain] at this
      exact ⟨V i, this, by rw [← hz]; exact (hZ i hi').1⟩

section
variable {H : Type} {enc : TypeId × Value → H} {W : World} {fuel : Nat} {cs : List Value} {x : DataW H × List MemPlace}
theorem boolsL_open (h : DataW.trod enc Try.prog W 0 (fun _ => true) true fuel 112 cs = some x) : ∃ (xs : List Bool) (A : Option Addr) (C : Nat), cs = [.slice A xs.length C] ∧ BoolsL 0 W xs A ∧ xs.length ≤ 9223372036854775807 := by
  obtain ⟨xs, A, C, e, hl, _, hc⟩ := list_open (Fit := fun _ => True) (G := fun b v => v = .bool b) Try.underlying112 (by kernel_rfl) (fun n v y h => by
    obtain ⟨b, hb, _⟩ := DataW.trod_bool Try.underlying4 h
    simp at hb
    exact ⟨b, hb, trivial⟩) h
  exact ⟨xs, A, C, e, fun hn => let ⟨b, o, hA, hh⟩ := hc hn; ⟨b, o, Nat.zero_le _, hA, fun i x hi => let ⟨v, h1, h2⟩ := hh i x hi; by rw [← h2]; exact h1⟩, hl⟩
theorem intsL_open (h : DataW.trod enc Try.prog W 0 (fun _ => true) true fuel 62 cs = some x) : ∃ (xs : List Int) (A : Option Addr) (C : Nat), cs = [.slice A xs.length C] ∧ IntsL 0 W xs A ∧ xs.length ≤ 9223372036854775807 := by
  obtain ⟨xs, A, C, e, h1, h2, _⟩ := ints_open h
  exact ⟨xs, A, C, e, IntsL.of h1, h2⟩
theorem rows3_open {t e : TypeId} (ht : Try.prog.underlying t = some (.slice e)) (hc : Try.prog.cellsOf e = 1) {β : Type} {Q : Nat → World → List β → Option Addr → Prop} {Fit : List β → Prop}
    (one : ∀ n v y, DataW.trod enc Try.prog W 0 (fun _ => true) true n e [v] = some y → ∃ (xs : List β) (A : Option Addr) (C : Nat), [v] = [.slice A xs.length C] ∧ Q 0 W xs A ∧ Fit xs)
    (h : DataW.trod enc Try.prog W 0 (fun _ => true) true fuel t cs = some x) :
    ∃ (xs : List (List β)) (A : Option Addr) (C : Nat), cs = [.slice A xs.length C] ∧ Rows3 Q List.length 0 W xs A ∧ (xs.length ≤ 9223372036854775807 ∧ ∀ x ∈ xs, Fit x) := by
  obtain ⟨xs, A, C, e, hl, hf, hh⟩ := list_open (Fit := Fit) (G := fun (x : List β) v => ∃ B C, v = .slice B x.length C ∧ Q 0 W x B) ht hc (fun n v y h => by
    obtain ⟨xs, A, C, hv, hq, hf⟩ := one n v y h
    simp at hv
    exact ⟨xs, ⟨A, C, hv, hq⟩, hf⟩) h
  exact ⟨xs, A, C, e, fun hn => let ⟨b, o, hA, hk⟩ := hh hn; ⟨b, o, Nat.zero_le _, hA, fun i x hi => let ⟨v, h1, B, C, h2, h3⟩ := hk i x hi; ⟨B, C, by rw [← h2]; exact h1, h3⟩⟩, hl, hf⟩
theorem bb_open (h : DataW.trod enc Try.prog W 0 (fun _ => true) true fuel 24 cs = some x) : ∃ (xs : List (List Bool)) (A : Option Addr) (C : Nat), cs = [.slice A xs.length C] ∧ BB 0 W xs A ∧ (xs.length ≤ 9223372036854775807 ∧ ∀ x ∈ xs, x.length ≤ 9223372036854775807) :=
  rows3_open Try.underlying24 (by kernel_rfl) (fun _ _ _ h => boolsL_open h) h
theorem ii_open (h : DataW.trod enc Try.prog W 0 (fun _ => true) true fuel 113 cs = some x) : ∃ (xs : List (List Int)) (A : Option Addr) (C : Nat), cs = [.slice A xs.length C] ∧ II 0 W xs A ∧ (xs.length ≤ 9223372036854775807 ∧ ∀ x ∈ xs, x.length ≤ 9223372036854775807) :=
  rows3_open Try.underlying113 (by kernel_rfl) (fun _ _ _ h => intsL_open h) h
theorem iii_open (h : DataW.trod enc Try.prog W 0 (fun _ => true) true fuel 37 cs = some x) : ∃ (xs : List (List (List Int))) (A : Option Addr) (C : Nat), cs = [.slice A xs.length C] ∧ III 0 W xs A ∧ (xs.length ≤ 9223372036854775807 ∧ ∀ x ∈ xs, x.length ≤ 9223372036854775807 ∧ ∀ y ∈ x, y.length ≤ 9223372036854775807) :=
  rows3_open Try.underlying37 (by kernel_rfl) (fun _ _ _ h => ii_open h) h
end

set_option maxRecDepth 100000 in
theorem laut_open {H : Type} {enc : TypeId × Value → H} {W : World} {base : Nat} {v : Value} {d : DataW H} {p : List MemPlace} (hok : Value.okWide Try.prog W .any base 51 v) (h : DataW.Trod enc Try.prog W 0 (fun _ => true) true 51 v d p) :
    ∃ (t a : Int) (ac : List (List Bool)) (nx : List (List (List Int))) (A B : Option Addr) (C D : Nat), v = .agg #[.int .i64 t, .int .i64 a, .slice A ac.length C, .slice B nx.length D] ∧ BB 0 W ac A ∧ III 0 W nx B ∧ FitA ac nx ∧ (Lit.int .i64 t).wf = true ∧ (Lit.int .i64 a).wf = true := by
  obtain ⟨cs, rfl, hsz⟩ := okWide_struct Try.underlying51 hok
  obtain ⟨c0, c1, c2, c3, rfl⟩ := Joins.array4 (hsz.trans (by kernel_rfl : Try.prog.cellsOf 51 = 4))
  obtain ⟨fuel, hf⟩ := h
  obtain ⟨y0, y1, y2, n, _, _, h0, h1, h2⟩ := trod_struct3 Try.underlying51 hf
  have s0 : Try.prog.cellsOf 23 = 2 := by kernel_rfl
  have s1 : Try.prog.cellsOf 24 = 1 := by kernel_rfl
  have s2 : Try.prog.cellsOf 37 = 1 := by kernel_rfl
  simp only [Value.cells, s0, s1, s2] at h0 h1 h2
  simp at h0 h1 h2
  obtain ⟨u0, u1, n2, _, _, g0, g1⟩ := trod_struct2 Try.underlying23 h0
  have i1 : Try.prog.cellsOf 2 = 1 := by kernel_rfl
  simp only [i1] at g0 g1
  simp at g0 g1
  obtain ⟨t, ht, _, wt⟩ := DataW.trod_int Try.underlying2 g0
  obtain ⟨a, ha, _, wa⟩ := DataW.trod_int Try.underlying2 g1
  obtain ⟨ac, A, C, hac, l1, l2⟩ := bb_open h1
  obtain ⟨nx, B, D, hnx, m1, m2⟩ := iii_open h2
  simp at ht ha hac hnx
  subst ht; subst ha; subst hac; subst hnx
  exact ⟨t, a, ac, nx, A, B, C, D, rfl, l1, m1, ⟨l2.1, l2.2, m2.1, m2.2⟩, wt, wa⟩
end Go.Proofs.Ytlmbcggfoaaibaa
