/- Worlds that differ in one block alone; the form of the table with a count of nodes. Plain facts, no walk. -/
import Derived.Test.YtcgbepmhfimbjaaGreatDoorTreeD
import Derived.Lib.SmallJoins
namespace Go.Proofs.YtcgbepmhfimbjaaGreatDoor
open Go.RowKit

/-- Below block number B the two worlds are the same, but for block s. -/
structure But (s B : Nat) (w w' : World) : Prop where
  os : w'.os = w.os
  tape : w'.tape = w.tape
  output : w'.output = w.output
  size : w.heap.size ≤ w'.heap.size
  block : ∀ k, k < B → k ≠ s → w'.heap[k]? = w.heap[k]?

theorem But.refl (s B : Nat) (w : World) : But s B w w := ⟨rfl, rfl, rfl, Nat.le_refl _, fun _ _ _ => rfl⟩
theorem But.trans {s B : Nat} {a b c : World} (h : But s B a b) (k : But s B b c) : But s B a c :=
  ⟨k.os.trans h.os, k.tape.trans h.tape, k.output.trans h.output, Nat.le_trans h.size k.size, fun i hi hn => (k.block i hi hn).trans (h.block i hi hn)⟩
theorem But.of_below {s B B' : Nat} {w w' : World} (h : Below B' w w') (hB : B ≤ B') : But s B w w' := ⟨h.os, h.tape, h.output, h.size, fun k hk _ => h.block k (by omega)⟩
theorem But.mono {s B B' : Nat} {w w' : World} (h : But s B' w w') (hB : B ≤ B') : But s B w w' := ⟨h.os, h.tape, h.output, h.size, fun k hk hn => h.block k (by omega) hn⟩
theorem But.drew {s B : Nat} {a w : World} (h : But s B a w) : But s B a w.drew := ⟨h.os, h.tape, h.output, h.size, h.block⟩
theorem But.drewN {s B : Nat} {a w : World} (h : But s B a w) (n : Nat) : But s B a (w.drewN n) := ⟨h.os, h.tape, h.output, h.size, h.block⟩
theorem But.alloc {s B : Nat} {a w : World} (h : But s B a w) (hB : B ≤ w.heap.size) (o : Obj) : But s B a (w.alloc o) :=
  h.trans ⟨rfl, rfl, rfl, by simp, fun k hk _ => Below.heap_alloc _ _ _ (by omega)⟩
theorem But.setCell {s B : Nat} {a w : World} (h : But s B a w) {p : Addr} (hp : p.block = s ∨ B ≤ p.block) (u : Value) : But s B a (w.setCell p u) :=
  h.trans ⟨rfl, rfl, rfl, by simp [World.setCell], fun k hk hn => Below.heap_setCell _ _ _ _ (by omega)⟩
theorem But.cell {s B : Nat} {w w' : World} (h : But s B w w') {b o : Nat} (hb : b < B) (hn : b ≠ s) : w'.cell? ⟨b, o, none⟩ = w.cell? ⟨b, o, none⟩ := World.cell?_of_block (a := ⟨b, o, none⟩) (h.block b hb hn)
/-- Seen from a world that ends before the block. -/
theorem But.below {s B : Nat} {w w' : World} (h : But s B w w') {B' : Nat} (h1 : B' ≤ B) (h2 : B' ≤ s) : Below B' w w' := ⟨h.os, h.tape, h.output, h.size, fun k hk => h.block k (by omega) (by omega)⟩

/-- With so many nodes left, of such a depth at most. -/
def okE (t a c d : Int) (b : Bool) (k n : Int) (f : Fo) : Bool := decide ((1 : Int) + f.nodes ≤ c) && decide ((1 : Int) + f.deep ≤ d) && treeE t a b k n f
def okL (t a c d : Int) (b : Bool) (f : Fo) : Bool := decide ((f.nodes : Int) ≤ c) && decide ((f.deep : Int) ≤ d) && f.tree t a b

theorem okL_cons (t a c d : Int) (b : Bool) (k n : Int) (ks r : Fo) : okL t a c d b (.cons k n ks r) = (okE t a c d b k n ks && okL t a (c - 1 - ks.nodes) d b r) := by
  unfold okL okE
  rw [Fo.tree_cons, Bool.eq_iff_iff]
  simp only [Bool.and_eq_true, decide_eq_true_eq]
  have e1 : (Fo.cons k n ks r).nodes = 1 + ks.nodes + r.nodes := rfl
  have e2 : (Fo.cons k n ks r).deep = max (1 + ks.deep) r.deep := rfl
  constructor
  · rintro ⟨⟨h1, h2⟩, h3, h4⟩
    exact ⟨⟨⟨by omega, by omega⟩, h3⟩, ⟨by omega, by omega⟩, h4⟩
  · rintro ⟨⟨⟨h1, h2⟩, h3⟩, ⟨h4, h5⟩, h6⟩
    exact ⟨⟨by omega, by omega⟩, h3, h6⟩

theorem okE_few {t a c d : Int} {b : Bool} {k n : Int} {f : Fo} (h : c < 1) : okE t a c d b k n f = false := by
  unfold okE; rw [decide_eq_false (by omega)]; rfl
theorem okE_flat {t a c d : Int} {b : Bool} {k n : Int} {f : Fo} (h : d < 1) : okE t a c d b k n f = false := by
  unfold okE; rw [decide_eq_false (p := (1 : Int) + f.deep ≤ d) (by omega)]; simp
theorem okE_len {t a c d : Int} {b : Bool} {k n : Int} {f : Fo} (h : (f.len : Int) ≠ kidC k) : okE t a c d b k n f = false := by
  unfold okE treeE; rw [shape_no h]; simp
theorem okE_num {t a c d : Int} {b : Bool} {k n : Int} {f : Fo} (h : ¬ (0 ≤ n ∧ n < numC t a k)) : okE t a c d b k n f = false := by
  unfold okE treeE shapeB; rw [decide_eq_false (p := (f.len : Int) = kidC k ∧ 0 ≤ n ∧ n < numC t a k) (fun h' => h h'.2)]; simp
theorem okE_not {t a c d : Int} {k n : Int} {f : Fo} (h : condK k = false) : okE t a c d true k n f = false := by
  unfold okE treeE; rw [h]; simp
theorem okE_kids {t a c d : Int} {b : Bool} {k n : Int} {f : Fo} (h3 : (f.len : Int) = kidC k) (h4 : (b && !condK k) = false) (h5 : 0 ≤ n ∧ n < numC t a k) :
    okE t a c d b k n f = okL t a (c - 1) (d - 1) (b || k == 5) f := by
  unfold okE okL treeE shapeB
  rw [decide_eq_true (p := (f.len : Int) = kidC k ∧ 0 ≤ n ∧ n < numC t a k) ⟨h3, h5⟩]
  have h6 : (!b || condK k) = true := by cases b <;> cases hc : condK k <;> simp_all
  rw [h6]
  rw [Bool.eq_iff_iff]
  simp only [Bool.and_eq_true, decide_eq_true_eq, Bool.true_and]
  constructor
  · rintro ⟨⟨h1, h2⟩, h3⟩; exact ⟨⟨by omega, by omega⟩, h3⟩
  · rintro ⟨⟨h1, h2⟩, h3⟩; exact ⟨⟨by omega, by omega⟩, h3⟩
theorem okE_true {t a c d : Int} {b : Bool} {k n : Int} {f : Fo} (h : okE t a c d b k n f = true) : (1 : Int) + f.nodes ≤ c := by
  unfold okE at h
  simp only [Bool.and_eq_true, decide_eq_true_eq] at h
  exact h.1.1
theorem validE_okE (t a k n : Int) (f : Fo) : validE t a k n f = (sigOk t a && okE t a 200 40 false k n f) := by
  unfold validE okE
  rw [Bool.eq_iff_iff]
  simp only [Bool.and_eq_true, decide_eq_true_eq]
  constructor
  · rintro ⟨⟨⟨h1, h2⟩, h3⟩, h4⟩; exact ⟨h1, ⟨by omega, by omega⟩, h4⟩
  · rintro ⟨h1, ⟨h2, h3⟩, h4⟩; exact ⟨⟨⟨h1, by omega⟩, by omega⟩, h4⟩

end Go.Proofs.YtcgbepmhfimbjaaGreatDoor
