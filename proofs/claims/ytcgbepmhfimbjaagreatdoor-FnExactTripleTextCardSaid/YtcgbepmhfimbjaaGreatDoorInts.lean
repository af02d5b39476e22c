/- Lists of integers: where they lie. Plain facts, no walk. -/
import Derived.Test.YtcgbepmhfimbjaaGreatDoorFill
namespace Go.Proofs.YtcgbepmhfimbjaaGreatDoor
open Go.RowKit

/-- The integer at a place. -/
def nth (xs : List Int) (i : Nat) : Int := xs.getD i 0

/-- A list of integers lies where a slice value's pointer leads. -/
def Ints (w : World) (xs : List Int) (A : Option Addr) : Prop := xs ≠ [] → ∃ b o, A = some ⟨b, o, none⟩ ∧ ∀ i, i < xs.length → w.cell? ⟨b, o + i, none⟩ = some (.int .i64 (nth xs i))
/-- .. in a block of its own, from lo on, below hi, which may be written. -/
def IntsIn (w : World) (xs : List Int) (lo hi : Nat) (A : Option Addr) : Prop := (xs = [] ∧ lo ≤ hi) ∨ ∃ b, A = some ⟨b, 0, none⟩ ∧ lo ≤ b ∧ b < hi ∧ (∀ i, w.frozen? ⟨b, i, none⟩ = false) ∧ ∀ i, i < xs.length → w.cell? ⟨b, i, none⟩ = some (.int .i64 (nth xs i))

theorem Ints.later {w w' : World} (hh : ∀ b o, b < w.heap.size → w'.cell? ⟨b, o, none⟩ = w.cell? ⟨b, o, none⟩) {xs : List Int} {A : Option Addr} (h : Ints w xs A) : Ints w' xs A :=
  fun hn => let ⟨b, o, ha, hc⟩ := h hn; ⟨b, o, ha, fun i hi => (hh b _ (World.block_lt_of_cell? _ _ (hc i hi))).trans (hc i hi)⟩
theorem Ints.below {w w' : World} {xs : List Int} {A : Option Addr} (h : Ints w xs A) (hb : Below w.heap.size w w') : Ints w' xs A := h.later fun b o hlt => hb.cell (p := ⟨b, o, none⟩) hlt
theorem Ints.drew {w : World} {xs : List Int} {A : Option Addr} (h : Ints w xs A) : Ints w.drew xs A := h.later (w := w) (w' := w.drew) (fun b o _ => (rfl : w.drew.cell? ⟨b, o, none⟩ = w.cell? ⟨b, o, none⟩))
theorem Ints.dbelow {w w' : World} {xs : List Int} {A : Option Addr} (h : Ints w xs A) (hb : Below w.drew.heap.size w.drew w') : Ints w' xs A := h.drew.below hb
theorem Ints.alloc {w : World} {xs : List Int} {A : Option Addr} (h : Ints w xs A) (x : Obj) : Ints (w.alloc x) xs A := h.later (fun _ _ h => World.cell?_alloc_lt _ _ _ h)
theorem Ints.sees {w W : World} {xs : List Int} {A : Option Addr} (h : Ints w xs A) (hs : Sees w W) : Ints W xs A := h.below hs

theorem IntsIn.le {w : World} {xs : List Int} {lo hi : Nat} {A : Option Addr} (h : IntsIn w xs lo hi A) : lo ≤ hi := by
  rcases h with ⟨_, h⟩ | ⟨b, _, h1, h2, _⟩ <;> omega
theorem IntsIn.ints {w : World} {xs : List Int} {lo hi : Nat} {A : Option Addr} (h : IntsIn w xs lo hi A) : Ints w xs A := by
  intro hn
  rcases h with ⟨h, _⟩ | ⟨b, hA, _, _, _, h⟩
  · exact absurd h hn
  · exact ⟨b, 0, hA, fun i hi => by rw [Nat.zero_add]; exact h i hi⟩
theorem IntsIn.agree {w w' : World} {xs : List Int} {lo hi : Nat} {A : Option Addr} (h : IntsIn w xs lo hi A) (ha : Fo.Agree w w' lo hi) : IntsIn w' xs lo hi A := by
  rcases h with h | ⟨b, hA, h1, h2, hf, h⟩
  · exact Or.inl h
  · exact Or.inr ⟨b, hA, h1, h2, fun i => (ha.frozen h1 h2 i).trans (hf i), fun i hi => (ha.cell h1 h2 i).trans (h i hi)⟩
theorem IntsIn.mono {w : World} {xs : List Int} {lo hi lo' hi' : Nat} {A : Option Addr} (h : IntsIn w xs lo hi A) (h1 : lo' ≤ lo) (h2 : hi ≤ hi') : IntsIn w xs lo' hi' A := by
  rcases h with ⟨h, hl⟩ | ⟨b, hA, h3, h4, hf, h⟩
  · exact Or.inl ⟨h, by omega⟩
  · exact Or.inr ⟨b, hA, by omega, by omega, hf, h⟩

/-- A word's two lists, in blocks of their own. -/
def WordIn (w : World) (p r : List Int) (lo hi : Nat) (A B : Option Addr) : Prop := ∃ m, IntsIn w p lo m A ∧ IntsIn w r m hi B
theorem WordIn.ints1 {w : World} {p r : List Int} {lo hi : Nat} {A B : Option Addr} (h : WordIn w p r lo hi A B) : Ints w p A := let ⟨_, h1, _⟩ := h; h1.ints
theorem WordIn.ints2 {w : World} {p r : List Int} {lo hi : Nat} {A B : Option Addr} (h : WordIn w p r lo hi A B) : Ints w r B := let ⟨_, _, h2⟩ := h; h2.ints

/-- Block B is a row of integers of type E, of which the first j are those of xs. -/
def IRow (E : TypeId) (xs : List Int) (B : Nat) (wr : World) (j : Nat) : Prop :=
  ∃ cs : Array Value, wr.heap[B]? = some (.cells cs E (0, 0)) ∧ cs.size = xs.length ∧ ∀ i, i < j → cs[i]? = some (.int .i64 (nth xs i))
theorem irow_start {E : TypeId} {xs : List Int} {w : World} {cs : Array Value} (hs : cs.size = xs.length) : IRow E xs w.heap.size (w.alloc (.cells cs E)) 0 :=
  ⟨cs, heap_new _ _ _ rfl, hs, fun _ hi => absurd hi (Nat.not_lt_zero _)⟩
theorem IRow.cell {E : TypeId} {xs : List Int} {B : Nat} {wr : World} {j : Nat} (h : IRow E xs B wr j) (hj : j < xs.length) : (∃ v, wr.cell? ⟨B, j, none⟩ = some v) ∧ wr.frozen? ⟨B, j, none⟩ = false := by
  obtain ⟨cs, hc, hs, _⟩ := h
  exact ⟨⟨cs[j]'(by omega), by rw [Fo.cell_of_block hc]; exact Array.getElem?_eq_getElem _⟩, Fo.unfrozen_of_block hc j⟩
theorem irow_step {E : TypeId} {xs : List Int} {B : Nat} {wr : World} {j : Nat} (h : IRow E xs B wr j) (hj : j < xs.length) : IRow E xs B (wr.setCell ⟨B, j, none⟩ (.int .i64 (nth xs j))) (j + 1) := by
  obtain ⟨cs, hc, hs, hi⟩ := h
  refine ⟨_, Fo.block_setCell hc _, by simp [hs], fun i hlt => ?_⟩
  simp only [Array.getElem?_setIfInBounds]
  by_cases hij : j = i
  · subst hij
    rw [if_pos rfl, if_pos (by omega)]
  · rw [if_neg hij]
    exact hi i (by omega)
theorem irow_end {E : TypeId} {xs : List Int} {B : Nat} {wr : World} {lo : Nat} (h : IRow E xs B wr xs.length) (hlo : lo ≤ B) : IntsIn wr xs lo wr.heap.size (some ⟨B, 0, none⟩) := by
  obtain ⟨cs, hc, hs, hi⟩ := h
  exact Or.inr ⟨B, rfl, hlo, (Array.getElem?_eq_some_iff.1 hc).1, fun i => Fo.unfrozen_of_block hc i, fun i hlt => by rw [Fo.cell_of_block hc]; exact hi i hlt⟩

theorem list_ext (xs ys : List Int) (hl : xs.length = ys.length) : (xs = ys) ↔ ∀ i, i < xs.length → nth xs i = nth ys i := by
  constructor
  · rintro rfl _ _; rfl
  · intro h
    apply List.ext_getElem hl
    intro i h1 h2
    have := h i h1
    simpa [nth, List.getD, h1, h2] using this

/-- The lists are the same from i on. -/
def sameFrom (xs ys : List Int) (i : Nat) : Bool := decide (xs.drop i = ys.drop i)
theorem sameFrom_zero (xs ys : List Int) : sameFrom xs ys 0 = decide (xs = ys) := by simp [sameFrom]
theorem drop_getD (xs : List Int) (i : Nat) (h : i < xs.length) : xs.drop i = nth xs i :: xs.drop (i + 1) := by
  rw [List.drop_eq_getElem_cons h]
  simp [nth, List.getD, h]
theorem sameFrom_step (xs ys : List Int) (i : Nat) (h1 : i < xs.length) (h2 : i < ys.length) : sameFrom xs ys i = (decide (nth xs i = nth ys i) && sameFrom xs ys (i + 1)) := by
  unfold sameFrom
  rw [drop_getD xs i h1, drop_getD ys i h2, Bool.eq_iff_iff]
  simp
theorem sameFrom_end (xs ys : List Int) (h : xs.length = ys.length) : sameFrom xs ys xs.length = true := by
  unfold sameFrom
  simp [h]

end Go.Proofs.YtcgbepmhfimbjaaGreatDoor
