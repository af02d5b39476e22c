/- A row of expressions that a loop fills from the first one on: what holds after j rounds. Plain facts, no walk. -/
import Derived.Test.YtcgbepmhfimbjaaGreatDoorSep
namespace Go.Proofs.YtcgbepmhfimbjaaGreatDoor
open Go.RowKit
namespace Fo

/-- Block B is a row of len expressions of type E, of which the first j are those of f, their kids in blocks from B + 1 on. -/
def Rows (E : TypeId) (f : Fo) (B : Nat) (wr : World) (j : Nat) : Prop :=
  (∃ cs : Array Value, wr.heap[B]? = some (.cells cs E (0, 0)) ∧ cs.size = f.len * 3) ∧ B < wr.heap.size ∧
  ∀ (w' : World) (hi : Nat), Agree wr w' (B + 1) wr.heap.size → (∀ o, o < j * 3 → w'.cell? ⟨B, o, none⟩ = wr.cell? ⟨B, o, none⟩) → (f.drop j).SepAt w' wr.heap.size hi B (j * 3) → f.SepAt w' (B + 1) hi B 0

theorem cell_of_block {w : World} {g : Nat} {cs : Array Value} {t : TypeId} {fr : Nat × Nat} (h : w.heap[g]? = some (.cells cs t fr)) (i : Nat) : w.cell? ⟨g, i, none⟩ = cs[i]? := by simp [World.cell?, h]
theorem unfrozen_of_block {w : World} {g : Nat} {cs : Array Value} {t : TypeId} (h : w.heap[g]? = some (.cells cs t (0, 0))) (i : Nat) : w.frozen? ⟨g, i, none⟩ = false := by simp [World.frozen?, h]
theorem block_setCell {w : World} {g i : Nat} {cs : Array Value} {t : TypeId} {fr : Nat × Nat} (h : w.heap[g]? = some (.cells cs t fr)) (v : Value) : (w.setCell ⟨g, i, none⟩ v).heap[g]? = some (.cells (cs.setIfInBounds i v) t fr) := by
  have := Array.getElem?_eq_some_iff.1 h
  obtain ⟨hlt, he⟩ := this
  simp [World.setCell, Array.getElem?_modify, h]

theorem rows_start {E : TypeId} {f : Fo} {w : World} {cs : Array Value} (hs : cs.size = f.len * 3) : Rows E f w.heap.size (w.alloc (.cells cs E)) 0 := by
  refine ⟨⟨cs, ?_, hs⟩, by simp, fun w' hi _ _ h => ?_⟩
  · show (w.heap.push _)[w.heap.size]? = _
    simp
  · simp only [World.size_alloc, drop, Nat.zero_mul] at h
    exact h

theorem Rows.cells {E : TypeId} {f : Fo} {B : Nat} {wr w1 : World} {j : Nat} (h : Rows E f B wr j) (hb : Below wr.heap.size wr w1) (hj : j < f.len) :
    (∃ v0, w1.cell? ⟨B, j * 3, none⟩ = some v0) ∧ (∃ v1, w1.cell? ⟨B, j * 3 + 1, none⟩ = some v1) ∧ (∃ v2, w1.cell? ⟨B, j * 3 + 2, none⟩ = some v2) ∧ (∀ i, w1.frozen? ⟨B, i, none⟩ = false) := by
  obtain ⟨⟨cs, hc, hs⟩, hlt, _⟩ := h
  have hc1 : w1.heap[B]? = some (.cells cs E (0, 0)) := (hb.block B hlt).trans hc
  refine ⟨⟨cs[j * 3]'(by omega), ?_⟩, ⟨cs[j * 3 + 1]'(by omega), ?_⟩, ⟨cs[j * 3 + 2]'(by omega), ?_⟩, fun i => unfrozen_of_block hc1 i⟩ <;>
  · rw [cell_of_block hc1]
    exact Array.getElem?_eq_getElem _

theorem rows_step {E : TypeId} {f ks r : Fo} {B : Nat} {wr w1 : World} {j : Nat} {k n : Int} {A' : Option Addr} (h : Rows E f B wr j) (hb : Below wr.heap.size wr w1) (e1 : f.drop j = cons k n ks r) (e2 : f.drop (j + 1) = r) (hj : j < f.len)
    {x : Nat} (hx : wr.heap.size ≤ x) (hs : ks.SepIn w1 x w1.heap.size A') :
    Rows E f B (((w1.setCell ⟨B, j * 3, none⟩ (.int .i64 k)).setCell ⟨B, j * 3 + 1, none⟩ (.int .i64 n)).setCell ⟨B, j * 3 + 2, none⟩ (.slice A' ks.len ks.len)) (j + 1) := by
  obtain ⟨⟨cs, hc, hsz⟩, hlt, hd⟩ := h
  have hc1 : w1.heap[B]? = some (.cells cs E (0, 0)) := (hb.block B hlt).trans hc
  have hz := hb.size
  have b1 := block_setCell (i := j * 3) hc1 (.int .i64 k)
  have b2 := block_setCell (i := j * 3 + 1) b1 (.int .i64 n)
  have b3 := block_setCell (i := j * 3 + 2) b2 (.slice A' ks.len ks.len)
  refine ⟨⟨_, b3, by simp [hsz]⟩, by simp only [World.size_setCell]; omega, fun w' hi ha hcl hr => ?_⟩
  simp only [World.size_setCell] at ha hr
  have a1 : Agree w1 w' (B + 1) w1.heap.size := by
    refine Agree.trans ?_ ha
    refine Agree.setCell (Agree.setCell (Agree.setCell (Agree.refl _ _ _) _ ?_ _) _ ?_ _) _ ?_ _ <;> (left; exact Nat.lt_succ_self _)
  refine hd w' hi (Agree.trans ((Agree.of_below hb).mono (Nat.zero_le _) (Nat.le_refl _)) (a1.mono (Nat.le_refl _) hz)) (fun o ho => ?_) ?_
  · rw [hcl o (by omega), cell_of_block b3, cell_of_block hc]
    simp only [Array.getElem?_setIfInBounds]
    rw [if_neg (by omega), if_neg (by omega), if_neg (by omega)]
  · rw [e1]
    refine ⟨w1.heap.size, A', ks.len, ?_, ?_, ?_, (hs.agree (a1.mono (by omega) (Nat.le_refl _))).mono hx (Nat.le_refl _), ?_⟩
    · rw [hcl _ (by omega), cell_of_block b3]
      simp only [Array.getElem?_setIfInBounds, Array.size_setIfInBounds]
      rw [if_neg (by omega), if_neg (by omega), if_pos trivial, if_pos (by omega)]
    · rw [hcl _ (by omega), cell_of_block b3]
      simp only [Array.getElem?_setIfInBounds, Array.size_setIfInBounds]
      rw [if_neg (by omega), if_pos trivial, if_pos (by omega)]
    · rw [hcl _ (by omega), cell_of_block b3]
      simp only [Array.getElem?_setIfInBounds, Array.size_setIfInBounds]
      rw [if_pos trivial, if_pos (by omega)]
    · rw [e2, show (j + 1) * 3 = j * 3 + 3 from by omega] at hr
      exact hr

theorem rows_end {E : TypeId} {f : Fo} {B : Nat} {wr : World} {lo : Nat} (h : Rows E f B wr f.len) (hlo : lo ≤ B) : f.SepIn wr lo wr.heap.size (some ⟨B, 0, none⟩) := by
  obtain ⟨⟨cs, hc, _⟩, hlt, hd⟩ := h
  refine Or.inr ⟨B, rfl, hlo, fun i => unfrozen_of_block hc i, hd wr wr.heap.size (Agree.refl _ _ _) (fun _ _ => rfl) ?_⟩
  rw [drop_len]
  exact Nat.le_refl _

end Fo
end Go.Proofs.YtcgbepmhfimbjaaGreatDoor
