/- Automata in the laws: the copy, the comparison. -/
import Derived.Test.YtojheipllpkgdaaAut
namespace Go.Proofs.Ytojheipllpkgdaa
open Go.RowKit

/-- Its lists are small. -/
def SmallA (ac : List (List Bool)) (nx : List (List (List Int))) : Prop :=
  ac.length ≤ 1048576 ∧ (∀ x ∈ ac, x.length ≤ 1048576) ∧ nx.length ≤ 1048576 ∧ ∀ x ∈ nx, x.length ≤ 1048576 ∧ ∀ y ∈ x, y.length ≤ 1048576
theorem sum_ge {α : Type} (f : α → Nat) : ∀ (xs : List α) (x : α), x ∈ xs → f x ≤ (xs.map f).sum
  | [], _, h => absurd h (by simp)
  | y :: ys, x, h => by
    simp only [List.map_cons, List.sum_cons]
    rcases List.mem_cons.1 h with rfl | h
    · omega
    · have := sum_ge f ys x h
      omega
theorem tot_ge {α : Type} {f : α → Nat} {xs : List α} {x : α} (h : x ∈ xs) : f x ≤ tot f xs := by
  have := sum_ge f xs x h
  unfold tot
  omega
theorem tot_len {α : Type} {f : α → Nat} {xs : List α} : xs.length ≤ tot f xs := by unfold tot; omega
theorem autN_small {ac : List (List Bool)} {nx : List (List (List Int))} (h : autN ac nx ≤ 1048576) : SmallA ac nx := by
  unfold autN at h
  refine ⟨?_, fun x hx => ?_, ?_, fun x hx => ⟨?_, fun y hy => ?_⟩⟩
  · have := tot_len (f := List.length) (xs := ac); omega
  · have := tot_ge (f := List.length) hx; omega
  · have := tot_len (f := tot List.length) (xs := nx); omega
  · have := tot_ge (f := tot List.length) hx
    have := tot_len (f := List.length) (xs := x)
    omega
  · have := tot_ge (f := tot List.length) hx
    have := tot_ge (f := List.length) hy
    omega

theorem box_other {W : World} {b b' i : Nat} {o : Obj} (k : W.heap[b']? = some o) (h : b' ≠ b) (v : Value) : (W.setCell ⟨b, i, none⟩ v).heap[b']? = some o :=
  ((Fo.Agree.setCell (Fo.Agree.refl W b' (b' + 1)) ⟨b, i, none⟩ (by show b < b' ∨ b' + 1 ≤ b; omega) v) b' (Nat.le_refl _) (Nat.lt_succ_self _)).trans k
theorem Sees.set {w W : World} (h : Sees w W) {b i : Nat} (hb : w.heap.size ≤ b) (v : Value) : Sees w (W.setCell ⟨b, i, none⟩ v) := Below.setCell h hb v
theorem LayOk.set {α : Type} {Q : Nat → World → α → Option Addr → Prop} (hQ : LayOk Q) {lo b i : Nat} {w : World} {x : α} {A : Option Addr} (h : Q lo w x A) (hb : b < lo) (v : Value) : Q lo (w.setCell ⟨b, i, none⟩ v) x A :=
  hQ.later h fun b' o hl _ => World.cell?_setCell_other (w := w) (a := ⟨b, i, none⟩) (b := ⟨b', o, none⟩) (v := v) (h := fun he => by have := congrArg Addr.block he; simp only at this; omega)
theorem four_facts {W : World} {b : Nat} {T : TypeId} {u0 u1 u2 u3 : Value} (h : W.heap[b]? = some (.cells #[u0, u1, u2, u3] T (0, 0))) :
    W.cell? ⟨b, 0, none⟩ = some u0 ∧ W.cell? ⟨b, 1, none⟩ = some u1 ∧ W.cell? ⟨b, 2, none⟩ = some u2 ∧ W.cell? ⟨b, 3, none⟩ = some u3 ∧ W.frozen? ⟨b, 0, none⟩ = false ∧ W.frozen? ⟨b, 1, none⟩ = false ∧ W.frozen? ⟨b, 2, none⟩ = false ∧ W.frozen? ⟨b, 3, none⟩ = false :=
  ⟨Fo.cell_of_block h 0, Fo.cell_of_block h 1, Fo.cell_of_block h 2, Fo.cell_of_block h 3, Fo.unfrozen_of_block h 0, Fo.unfrozen_of_block h 1, Fo.unfrozen_of_block h 2, Fo.unfrozen_of_block h 3⟩

theorem eqSig_same (t a : Int) (w : World) : Calls Try.prog 58 #[.agg #[.int .i64 t, .int .i64 a], .agg #[.int .i64 t, .int .i64 a]] w fun e w' => e = .returned (.bool true) ∧ Below w.heap.size w w' := by
  have n1 : (t != t) = false := by simp
  have n2 : (a != a) = false := by simp
  go_enter Try.func58, Try.ntmps58
  go_wp2_with fail
  go_ret
  exact ⟨rfl, by go_grown⟩

theorem BB.below {w w' : World} {x : List (List Bool)} {A : Option Addr} (h : BB 0 w x A) (hb : Below w.heap.size w w') : BB 0 w' x A := bb_ok.below h hb
theorem BB.drew {w : World} {x : List (List Bool)} {A : Option Addr} (h : BB 0 w x A) : BB 0 w.drew x A := bb_ok.drew h
theorem BB.dbelow {w w' : World} {x : List (List Bool)} {A : Option Addr} (h : BB 0 w x A) (hb : Below w.drew.heap.size w.drew w') : BB 0 w' x A := bb_ok.below (bb_ok.drew h) hb
theorem BB.alloc {w : World} {x : List (List Bool)} {A : Option Addr} (h : BB 0 w x A) (o : Obj) : BB 0 (w.alloc o) x A := bb_ok.alloc h o
theorem BB.sees {w W : World} {x : List (List Bool)} {A : Option Addr} (h : BB 0 w x A) (hs : Sees w W) : BB 0 W x A := bb_ok.below h hs

theorem III.below {w w' : World} {x : List (List (List Int))} {A : Option Addr} (h : III 0 w x A) (hb : Below w.heap.size w w') : III 0 w' x A := iii_ok.below h hb
theorem III.drew {w : World} {x : List (List (List Int))} {A : Option Addr} (h : III 0 w x A) : III 0 w.drew x A := iii_ok.drew h
theorem III.dbelow {w w' : World} {x : List (List (List Int))} {A : Option Addr} (h : III 0 w x A) (hb : Below w.drew.heap.size w.drew w') : III 0 w' x A := iii_ok.below (iii_ok.drew h) hb
theorem III.alloc {w : World} {x : List (List (List Int))} {A : Option Addr} (h : III 0 w x A) (o : Obj) : III 0 (w.alloc o) x A := iii_ok.alloc h o
theorem III.sees {w W : World} {x : List (List (List Int))} {A : Option Addr} (h : III 0 w x A) (hs : Sees w W) : III 0 W x A := iii_ok.below h hs
end Go.Proofs.Ytojheipllpkgdaa
