/- How impl.withAt ends. Plain facts, no walk. -/
import Derived.Test.YtlfafcbieeambaaLiesP
namespace Go.Proofs.Ytlfafcbieeambaa
open Go.RowKit

theorem Fo.AtP.bound {w : World} {P : Nat → Prop} {f : Fo} : ∀ {b o : Nat}, f.AtP w P b o → f.AtP w (fun x => P x ∧ x < w.heap.size) b o := by
  induction f with
  | nil => intro b o _; trivial
  | cons k n ks r ihk ihr =>
    intro b o ⟨h0, h1, ⟨A, C, h2, h3⟩, h4⟩
    refine ⟨h0, h1, ⟨A, C, h2, fun hn => ?_⟩, ihr h4⟩
    obtain ⟨b', o', e, p, hat⟩ := h3 hn
    refine ⟨b', o', e, ⟨p, ?_⟩, ihk hat⟩
    cases ks with
    | nil => exact absurd rfl hn
    | cons k1 n1 ks1 r1 => exact World.block_lt_of_cell? _ _ hat.1
theorem Fo.LiesP.bound {w : World} {P : Nat → Prop} {f : Fo} {A : Option Addr} (h : f.LiesP w P A) : f.LiesP w (fun x => P x ∧ x < w.heap.size) A := fun hn => by
  obtain ⟨b, o, ha, p, hat⟩ := h hn
  refine ⟨b, o, ha, ⟨p, ?_⟩, hat.bound⟩
  cases f with
  | nil => exact absurd rfl hn
  | cons k1 n1 ks1 r1 => exact World.block_lt_of_cell? _ _ hat.1

theorem withAt_end2 {w w1 w2 w6 : World} {f rest ks : Fo} {i : Nat} {k k1 n1 : Int} {G s0 rb C' C2 : Nat} {F : Int → Int → Fo → Int × Int × Fo} {A2 : Option Addr} {a b c : Value} {T : TypeId} (hs : s0 ≤ w.heap.size) (hG2 : G < w1.heap.size) (hrb : w.heap.size ≤ rb) (hrG : rb < G) (h12 : Below w1.heap.size w1 w2) (S2 : Sees w w2)
    (hrow : f.AtP w1 (fun x => x < s0) G 0) (hd : f.drop i = .cons k1 n1 ks rest) (hl : (F k1 n1 ks).2.2.LiesP w2 (fun z => z < s0 ∨ w1.heap.size ≤ z) A2) (HBr : w2.heap[rb]? = some (.cells #[a, b, c] T (0, 0)))
    (h56 : Below w2.heap.size (((w2.setCell ⟨G, i * 3, none⟩ (.int .i64 (F k1 n1 ks).1)).setCell ⟨G, i * 3 + 1, none⟩ (.int .i64 (F k1 n1 ks).2.1)).setCell ⟨G, i * 3 + 2, none⟩ (.slice A2 (F k1 n1 ks).2.2.len C2)) w6) :
    (((w6.setCell ⟨rb, 0, none⟩ (.int .i64 k)).setCell ⟨rb, 1, none⟩ (.int .i64 0)).setCell ⟨rb, 2, none⟩ (.slice (some ⟨G, 0, none⟩) f.len C')).heap[rb]? = some (.cells #[.int .i64 k, .int .i64 0, .slice (some ⟨G, 0, none⟩) f.len C'] T (0, 0)) ∧
    (∃ A1 C1, Ending.returned (.agg #[.int .i64 k, .int .i64 0, .slice (some ⟨G, 0, none⟩) f.len C']) = .returned (.agg #[.int .i64 k, .int .i64 0, .slice A1 (f.upd i F).len C1]) ∧ (f.upd i F).LiesP (((w6.setCell ⟨rb, 0, none⟩ (.int .i64 k)).setCell ⟨rb, 1, none⟩ (.int .i64 0)).setCell ⟨rb, 2, none⟩ (.slice (some ⟨G, 0, none⟩) f.len C')) (fun z => z < s0 ∨ w.heap.size ≤ z) A1 ∧
      Below w.heap.size w (((w6.setCell ⟨rb, 0, none⟩ (.int .i64 k)).setCell ⟨rb, 1, none⟩ (.int .i64 0)).setCell ⟨rb, 2, none⟩ (.slice (some ⟨G, 0, none⟩) f.len C'))) := by
  obtain ⟨c0, c1, A1, C1, c2, _⟩ := hrow.row hd
  rw [show 0 + 3 * i = i * 3 from by omega] at c0 c1 c2
  obtain ⟨n0, n1', n2⟩ := put3_near (x := .int .i64 (F k1 n1 ks).1) (y := .int .i64 (F k1 n1 ks).2.1) (z := .slice A2 (F k1 n1 ks).2.2.len C2) (kc h12 c0) (kc h12 c1) (kc h12 c2)
  have hz12 := h12.size
  obtain ⟨W5, hW5⟩ : ∃ W5, W5 = (((w2.setCell ⟨G, i * 3, none⟩ (.int .i64 (F k1 n1 ks).1)).setCell ⟨G, i * 3 + 1, none⟩ (.int .i64 (F k1 n1 ks).2.1)).setCell ⟨G, i * 3 + 2, none⟩ (.slice A2 (F k1 n1 ks).2.2.len C2)) := ⟨_, rfl⟩
  have z5 : W5.heap.size = w2.heap.size := by rw [hW5]; simp
  have h5 : ∀ x, x ≠ G → W5.heap[x]? = w2.heap[x]? := fun x hx => by rw [hW5]; exact put3_heap x hx
  have f5 : ∀ c, (c < i * 3 ∨ i * 3 + 3 ≤ c) → W5.cell? ⟨G, c, none⟩ = w2.cell? ⟨G, c, none⟩ := fun c hc => by rw [hW5]; exact put3_far c hc
  rw [← hW5] at n0 n1' n2 h56
  have S5 : Sees w W5 := by rw [hW5]; exact Below.setCell (Below.setCell (Below.setCell S2 (by show w.heap.size ≤ G; omega) _) (by show w.heap.size ≤ G; omega) _) (by show w.heap.size ≤ G; omega) _
  clear hW5
  have S6' : Sees w w6 := S5.below (by rw [z5]; exact h56)
  have g6 : ∀ x, x < w2.heap.size → w6.heap[x]? = W5.heap[x]? := fun x hx => h56.block x hx
  obtain ⟨W6, hW6⟩ : ∃ W6, W6 = (((w6.setCell ⟨rb, 0, none⟩ (.int .i64 k)).setCell ⟨rb, 1, none⟩ (.int .i64 0)).setCell ⟨rb, 2, none⟩ (.slice (some ⟨G, 0, none⟩) f.len C')) := ⟨_, rfl⟩
  have h6 : ∀ x, x ≠ rb → x < w2.heap.size → W6.heap[x]? = W5.heap[x]? := fun x hx hlt => by rw [hW6]; exact (put3_heap (c := 0) x hx).trans (g6 x hlt)
  have hB6 : W6.heap[rb]? = some (.cells #[.int .i64 k, .int .i64 0, .slice (some ⟨G, 0, none⟩) f.len C'] T (0, 0)) := by
    rw [hW6, Fo.block_setCell (Fo.block_setCell (Fo.block_setCell ((g6 rb (by omega)).trans ((h5 rb (by omega)).trans HBr)) _) _) _]; rfl
  rw [← hW6]
  have S6 : Sees w W6 := by rw [hW6]; exact Below.setCell (Below.setCell (Below.setCell S6' hrb _) hrb _) hrb _
  clear hW6
  have s6 := Fo.cell_same (h6 G (by omega) (by omega))
  have hrow2 : f.AtP w2 (fun x => x < s0) G 0 := Fo.AtP.moved (fun x hx => h12.block x (by omega)) hrow (fun l _ => Fo.cell_same (h12.block G hG2) _)
  refine ⟨hB6, some ⟨G, 0, none⟩, C', by rw [Fo.upd_len], fun _ => ⟨G, 0, rfl, Or.inr (by omega), ?_⟩, S6⟩
  have hz2 := S2.size
  refine Fo.AtP.upd (w := w2) (P := fun x => x < s0) (A' := A2) (C' := C2) (fun x hx => (h6 x (by omega) (by omega)).trans (h5 x (by omega))) (fun x hx => Or.inl hx) hrow2 hd (fun c hc => (s6 c).trans (f5 c (by omega))) ?_ ?_ ?_ ?_
  · rw [show 0 + 3 * i = i * 3 from by omega]; exact (s6 _).trans n0
  · rw [show 0 + 3 * i = i * 3 from by omega]; exact (s6 _).trans n1'
  · rw [show 0 + 3 * i = i * 3 from by omega]; exact (s6 _).trans n2
  · exact hl.bound.agree (fun x hx => (h6 x (by rcases hx.1 with h | h <;> omega) hx.2).trans (h5 x (by rcases hx.1 with h | h <;> omega))) (fun x hx => by rcases hx.1 with h | h <;> omega)
end Go.Proofs.Ytlfafcbieeambaa
