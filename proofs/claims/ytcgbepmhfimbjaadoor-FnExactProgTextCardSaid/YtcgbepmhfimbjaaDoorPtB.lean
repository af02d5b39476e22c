/- A builder beside a box that is stored into. Plain facts. -/
import Derived.Test.YtcgbepmhfimbjaaDoorTxB
import Derived.Test.YtcgbepmhfimbjaaDoorFill
namespace Go.Proofs.YtcgbepmhfimbjaaDoor
open Go.RowKit
set_option linter.unusedVariables false

theorem Bld.store {B bw i : Nat} {l : List UInt8} {W : World} {cs : Array Value} {T : TypeId} {x : Value} (h : Bld B l W) (hk : W.heap[bw]? = some (.cells cs T (0, 0))) (hT : T ≠ 5) (hB : bw ≠ B) : Bld B l (W.setCell ⟨bw, i, none⟩ x) := by
  have ks : ∀ k, k ≠ bw → (W.setCell ⟨bw, i, none⟩ x).heap[k]? = W.heap[k]? := fun k hk => Below.heap_setCell _ _ _ _ hk
  have one : ∀ p, Lib.BuilderAtF 71 5 B B p (Lib.byteCells l) W → Lib.BuilderAtF 71 5 B B p (Lib.byteCells l) (W.setCell ⟨bw, i, none⟩ x) := fun p h => by
    obtain ⟨hB2, v, hb, hown, hne⟩ := h
    refine ⟨hB2, v, (ks B (Ne.symm hB)).trans hb, ⟨hown.1, ?_⟩, hne⟩
    rcases hown.2 with hn | ⟨g, cap, cur, fz, hv, hbg, hg, rest⟩
    · exact .inl hn
    · have hkg : g ≠ bw := by
        intro e1
        rw [e1, hk] at hg
        cases hg
        exact hT rfl
      exact .inr ⟨g, cap, cur, fz, hv, hbg, (ks g hkg).trans hg, rest⟩
  exact h.elim (fun x => .inl (one _ x)) (fun x => .inr (one _ x))
/-- What a call leaves that has written, and stored into the box bw. -/
structure WroteW (B bw : Nat) (l : List UInt8) (v : Value) (T : TypeId) (w w' : World) : Prop where
  bld : Bld B l w'
  below : Below B w w'
  kept : ∀ k o, w.heap[k]? = some o → k ≠ B → k ≠ bw → (∀ c fz, o ≠ .cells c 5 fz) → w'.heap[k]? = some o
  box : w'.heap[bw]? = some (.cells #[v] T (0, 0))
theorem WroteW.of {B bw : Nat} {l : List UInt8} {u v : Value} {T : TypeId} {w w1 : World} (h : Wrote B l w w1) (hk : w.heap[bw]? = some (.cells #[u] T (0, 0))) (hT : T ≠ 5) (hB : B < bw) : WroteW B bw l v T w (w1.setCell ⟨bw, 0, none⟩ v) := by
  have hk1 := h.one hk hT (by omega)
  have ks : ∀ k, k ≠ bw → (w1.setCell ⟨bw, 0, none⟩ v).heap[k]? = w1.heap[k]? := fun k hk => Below.heap_setCell _ _ _ _ hk
  exact ⟨h.bld.store hk1 hT (by omega), h.below.setCell (show B ≤ bw by omega) v, fun k o h1 h2 h3 h4 => (ks k h3).trans (h.kept k o h1 (fun he => h2 (Option.some.inj he)) h4), by rw [Fo.block_setCell hk1 _]; rfl⟩
theorem WroteW.one {B bw : Nat} {l : List UInt8} {v : Value} {T T2 : TypeId} {a b : World} (h : WroteW B bw l v T a b) {k : Nat} {cs : Array Value} (hc : a.heap[k]? = some (.cells cs T2 (0, 0))) (hT : T2 ≠ 5) (hk : k ≠ B) (hk2 : k ≠ bw) : b.heap[k]? = some (.cells cs T2 (0, 0)) :=
  h.kept k _ hc hk hk2 (fun c fz he => by cases he; exact hT rfl)
/-- .. seen from a world in which the box was not yet there. -/
theorem WroteW.after {B bw : Nat} {l0 l : List UInt8} {v : Value} {T : TypeId} {w a b : World} (h0 : Wrote B l0 w a) (h : WroteW B bw l v T a b) (hbw : w.heap.size ≤ bw) : Wrote B l w b :=
  ⟨h.bld, h0.below.trans h.below, fun k o h1 h2 h3 => h.kept k o (h0.kept k o h1 h2 h3) (fun he => h2 (congrArg some he)) (fun he => by have := (Array.getElem?_eq_some_iff.1 h1).1; omega) h3⟩
theorem Wrote.alloc {B : Nat} {l : List UInt8} {a b : World} (h : Wrote B l a b) (o : Obj) : Wrote B l a (b.alloc o) :=
  ⟨h.bld.alloc o, h.below.alloc (Nat.le_of_lt h.bld.lt) o, h.kept.alloc o⟩
theorem Wrote.start {B : Nat} {l : List UInt8} {w : World} (h : Bld B l w) : Wrote B l w w := ⟨h, Below.refl _ _, Lib.OthersKept.refl _ _ _⟩
end Go.Proofs.YtcgbepmhfimbjaaDoor
