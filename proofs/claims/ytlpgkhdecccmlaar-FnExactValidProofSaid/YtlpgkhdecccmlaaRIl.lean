/- Lists of integers, in one form with the other lists; contracts of laws.szInt64S, toInt64S, eqInt64S. -/
import Derived.Test.YtlpgkhdecccmlaaRGt
import Derived.Test.YtlpgkhdecccmlaaRInts
import Derived.Test.YtlpgkhdecccmlaaRWordC
import Derived.Test.YtlpgkhdecccmlaaRLayE
namespace Go.Proofs.YtlpgkhdecccmlaaR
open Go.RowKit
set_option linter.unusedVariables false

structure Il where
  l : List Int
deriving DecidableEq, Inhabited
namespace Il
abbrev len (x : Il) : Nat := x.l.length
def nodes (x : Il) : Nat := x.l.length
def Fits (_ : Il) : Prop := True
def Lies (w : World) (x : Il) (A : Option Addr) : Prop := Ints w x.l A
def LiesIn (w : World) (x : Il) (lo hi : Nat) (A : Option Addr) : Prop := x.l ≠ [] → ∃ b o, A = some ⟨b, o, none⟩ ∧ lo ≤ b ∧ b < hi ∧ ∀ i, i < x.l.length → w.cell? ⟨b, o + i, none⟩ = some (.int .i64 (nth x.l i))
theorem Lies.later {w w' : World} (hh : ∀ b o, b < w.heap.size → w'.cell? ⟨b, o, none⟩ = w.cell? ⟨b, o, none⟩) {x : Il} {A : Option Addr} (h : x.Lies w A) : x.Lies w' A := Ints.later hh h
theorem Lies.below {w w' : World} (hb : Below w.heap.size w w') {x : Il} {A : Option Addr} (h : x.Lies w A) : x.Lies w' A := Ints.below h hb
theorem Lies.drew {w : World} {x : Il} {A : Option Addr} (h : x.Lies w A) : x.Lies w.drew A := Ints.drew h
theorem Lies.dbelow {w w' : World} {x : Il} {A : Option Addr} (h : x.Lies w A) (hb : Below w.drew.heap.size w.drew w') : x.Lies w' A := Ints.dbelow h hb
theorem Lies.alloc {w : World} {x : Il} {A : Option Addr} (h : x.Lies w A) (o : Obj) : x.Lies (w.alloc o) A := Ints.alloc h o
theorem Lies.sees {w W : World} {x : Il} {A : Option Addr} (h : x.Lies w A) (hs : Sees w W) : x.Lies W A := Ints.sees h hs
theorem LiesIn.lies {w : World} {x : Il} {lo hi : Nat} {A : Option Addr} (h : x.LiesIn w lo hi A) : x.Lies w A := fun hn => let ⟨b, o, ha, _, _, hc⟩ := h hn; ⟨b, o, ha, hc⟩
theorem LiesIn.agree {w w' : World} {x : Il} {lo hi : Nat} {A : Option Addr} (h : x.LiesIn w lo hi A) (ha : Fo.Agree w w' lo hi) : x.LiesIn w' lo hi A := fun hn => let ⟨b, o, e, h1, h2, hc⟩ := h hn; ⟨b, o, e, h1, h2, fun i hi => (ha.cell h1 h2 _).trans (hc i hi)⟩
theorem LiesIn.mono {w : World} {x : Il} {lo hi lo' hi' : Nat} {A : Option Addr} (h : x.LiesIn w lo hi A) (h1 : lo' ≤ lo) (h2 : hi ≤ hi') : x.LiesIn w lo' hi' A := fun hn => let ⟨b, o, e, h3, h4, hc⟩ := h hn; ⟨b, o, e, Nat.le_trans h1 h3, Nat.lt_of_lt_of_le h4 h2, hc⟩
theorem LiesIn.of {w : World} {xs : List Int} {lo hi : Nat} {A : Option Addr} (h : IntsIn w xs lo hi A) : (Il.mk xs).LiesIn w lo hi A := fun hn => by
  rcases h with ⟨h, _⟩ | ⟨b, hA, h1, h2, _, h⟩
  · exact absurd h hn
  · exact ⟨b, 0, hA, h1, h2, fun i hi => by rw [Nat.zero_add]; exact h i hi⟩
end Il
theorem szInt64S_u (x : Il) (hf : x.len ≤ 9223372036854775807 ∧ x.Fits) (l : Int) (A : Option Addr) (C : Nat) (w : World) (_ : x.Lies w A) (h1 : -1 ≤ l) (h2 : l ≤ 1048576) :
    Calls Try.prog 227 #[.slice A x.len C, .int .i64 l] w fun e w' => e = .returned (.int .i64 (szR x.nodes l)) ∧ Below w.heap.size w w' :=
  (szInt64S_any x.l.length l A C w hf.1 h1 h2).mono fun e w' ⟨he, hw⟩ => ⟨he, by rw [← hw]; exact Below.refl _ _⟩
theorem toInt64S_u (x : Il) (hm : x.nodes ≤ 1048576) (A : Option Addr) (C : Nat) (w : World) (hl : x.Lies w A) :
    Calls Try.prog 23 #[.slice A x.len C] w fun e w' => ∃ A', e = .returned (.slice A' x.len x.len) ∧ x.LiesIn w' w.heap.size w'.heap.size A' ∧ Below w.heap.size w w' :=
  (toInt64S_any x.l hm A C w hl).mono fun e w' ⟨Z, he, hi, hb⟩ => ⟨Z, he, Il.LiesIn.of hi, hb⟩
theorem eqInt64S_u (x : Il) (hf : x.len ≤ 9223372036854775807 ∧ x.Fits) (A A' : Option Addr) (C C' : Nat) (w : World) (hl : x.Lies w A) (hl' : x.Lies w A') :
    Calls Try.prog 17 #[.slice A x.len C, .slice A' x.len C'] w fun e w' => e = .returned (.bool true) ∧ Below w.heap.size w w' :=
  (eqInt64S_any x.l x.l hf.1 A A' C C' w hl hl').mono fun e w' ⟨he, m, hm⟩ => ⟨by rw [he]; simp, by rw [hm]; exact below_drewN _ _ _⟩
end Go.Proofs.YtlpgkhdecccmlaaR
