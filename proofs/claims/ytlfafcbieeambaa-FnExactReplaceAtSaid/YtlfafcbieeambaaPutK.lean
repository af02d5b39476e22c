/- A store at the end of a path. Plain facts, no walk. -/
import Derived.Test.YtlfafcbieeambaaPutD
namespace Go.Proofs.Ytlfafcbieeambaa
open Go.RowKit

theorem AtPath.below {w w' : World} {B' o' : Nat} (hb : Below w.heap.size w w') : ∀ {xs : List Int} {B o : Nat} {f : Fo} {A : Option Addr}, AtPath w xs B o f A B' o' → AtPath w' xs B o f A B' o' := by
  intro xs
  induction xs with
  | nil => intro B o f A h; exact h
  | cons i r ih =>
    intro B o f A ⟨b1, o1, k, n, ks, rest, A1, C1, h0, h1, hA, hd, hc, hp⟩
    exact ⟨b1, o1, k, n, ks, rest, A1, C1, h0, h1, hA, hd, kc hb hc, ih hp⟩
theorem atPath_unfrozen {w : World} {B' o' : Nat} : ∀ (xs : List Int) (B o : Nat) (f : Fo) (A : Option Addr) (lo hi : Nat), xs ≠ [] → f.XIn w lo hi A → AtPath w xs B o f A B' o' → ∀ i, w.frozen? ⟨B', i, none⟩ = false := by
  intro xs
  induction xs with
  | nil => intro _ _ _ _ _ _ h; exact absurd rfl h
  | cons i r ih =>
    intro B o f A lo hi _ hx hp
    obtain ⟨b1, o1, k, n, ks, rest, A1, C1, h0, h1, hA, hd, hc, hp⟩ := hp
    rcases hx.2 with rfl | ⟨b2, hA2, q1, q2, hf, hat⟩
    · simp [Fo.len] at h1; omega
    · rw [hA] at hA2
      obtain ⟨rfl, rfl⟩ : b1 = b2 ∧ o1 = 0 := by injection hA2 with e; injection e with e1 e2; exact ⟨e1, e2⟩
      obtain ⟨l, m, A3, C3, f1, f2, f3, f4, f5, f6, f7, f8⟩ := hat.drop hd
      have e : (0 : Nat) + 3 * i.toNat + 2 = 0 + i.toNat * 3 + 2 := by omega
      rw [e, hc] at f7
      obtain rfl : A1 = A3 := by injection f7 with e; injection e
      cases r with
      | nil => obtain ⟨rfl, _⟩ := hp; exact hf
      | cons j r => exact ih b1 _ ks A1 l m (by simp) f8 hp

section
variable {w : World} {b c : Nat} {x y z x0 y0 z0 : Value}
theorem put3_heap (k : Nat) (h : k ≠ b) : (((w.setCell ⟨b, c, none⟩ x).setCell ⟨b, c + 1, none⟩ y).setCell ⟨b, c + 2, none⟩ z).heap[k]? = w.heap[k]? := by
  rw [Below.heap_setCell _ _ _ _ h, Below.heap_setCell _ _ _ _ h, Below.heap_setCell _ _ _ _ h]
theorem put3_far (i : Nat) (h : i < c ∨ c + 3 ≤ i) : (((w.setCell ⟨b, c, none⟩ x).setCell ⟨b, c + 1, none⟩ y).setCell ⟨b, c + 2, none⟩ z).cell? ⟨b, i, none⟩ = w.cell? ⟨b, i, none⟩ := by
  rw [World.cell?_setCell_other (a := ⟨b, c + 2, none⟩) (b := ⟨b, i, none⟩) (h := fun h => by cases h; omega), World.cell?_setCell_other (a := ⟨b, c + 1, none⟩) (b := ⟨b, i, none⟩) (h := fun h => by cases h; omega), World.cell?_setCell_other (a := ⟨b, c, none⟩) (b := ⟨b, i, none⟩) (h := fun h => by cases h; omega)]
theorem put3_near (h0 : w.cell? ⟨b, c, none⟩ = some x0) (h1 : w.cell? ⟨b, c + 1, none⟩ = some y0) (h2 : w.cell? ⟨b, c + 2, none⟩ = some z0) :
    (((w.setCell ⟨b, c, none⟩ x).setCell ⟨b, c + 1, none⟩ y).setCell ⟨b, c + 2, none⟩ z).cell? ⟨b, c, none⟩ = some x ∧ (((w.setCell ⟨b, c, none⟩ x).setCell ⟨b, c + 1, none⟩ y).setCell ⟨b, c + 2, none⟩ z).cell? ⟨b, c + 1, none⟩ = some y ∧ (((w.setCell ⟨b, c, none⟩ x).setCell ⟨b, c + 1, none⟩ y).setCell ⟨b, c + 2, none⟩ z).cell? ⟨b, c + 2, none⟩ = some z := by
  refine ⟨?_, ?_, ?_⟩
  · rw [World.cell?_setCell_other (a := ⟨b, c + 2, none⟩) (b := ⟨b, c, none⟩) (h := fun h => by cases h), World.cell?_setCell_other (a := ⟨b, c + 1, none⟩) (b := ⟨b, c, none⟩) (h := fun h => by cases h)]
    exact World.cell?_setCell_same (h := h0) ..
  · rw [World.cell?_setCell_other (a := ⟨b, c + 2, none⟩) (b := ⟨b, c + 1, none⟩) (h := fun h => by cases h)]
    exact World.cell?_setCell_same (h := (World.cell?_setCell_other (a := ⟨b, c, none⟩) (b := ⟨b, c + 1, none⟩) (h := fun h => by cases h) ..).trans h1) ..
  · exact World.cell?_setCell_same (h := (World.cell?_setCell_other (a := ⟨b, c + 1, none⟩) (b := ⟨b, c + 2, none⟩) (h := fun h => by cases h) ..).trans ((World.cell?_setCell_other (a := ⟨b, c, none⟩) (b := ⟨b, c + 2, none⟩) (h := fun h => by cases h) ..).trans h2)) ..
end

/-- The store at the end of a path makes the replacement. -/
theorem put_store {w : World} {k n j o k0 n0 : Int} {f g f0 : Fo} {xs : List Int} {X B' o' lo l3 : Nat} {A1 A4 A0 : Option Addr} {C1 C4 C0 : Nat} (hBx : w.heap[X]? = some (.cells #[.int .i64 k, .int .i64 n, .slice A1 f.len C1] 31 (0, 0)))
    (hf : f.XIn w lo X A1) (hg : g.XIn w l3 w.heap.size A4) (hl3 : X < l3) (hp : AtPath w xs X 0 f A1 B' o') (d0 : w.cell? ⟨B', o', none⟩ = some (.int .i64 k0)) (d1 : w.cell? ⟨B', o' + 1, none⟩ = some (.int .i64 n0)) (d2 : w.cell? ⟨B', o' + 2, none⟩ = some (.slice A0 f0.len C0)) :
    (lo ≤ B' ∧ B' ≤ X) ∧ (∀ i, w.frozen? ⟨B', i, none⟩ = false) ∧ ∃ A5 C5,
      (((w.setCell ⟨B', o', none⟩ (.int .i64 j)).setCell ⟨B', o' + 1, none⟩ (.int .i64 o)).setCell ⟨B', o' + 2, none⟩ (.slice A4 g.len C4)).heap[X]? = some (.cells #[.int .i64 (putP xs (j, o, g) k n f).1, .int .i64 (putP xs (j, o, g) k n f).2.1, .slice A5 (putP xs (j, o, g) k n f).2.2.len C5] 31 (0, 0)) ∧
      (putP xs (j, o, g) k n f).2.2.LiesIn (((w.setCell ⟨B', o', none⟩ (.int .i64 j)).setCell ⟨B', o' + 1, none⟩ (.int .i64 o)).setCell ⟨B', o' + 2, none⟩ (.slice A4 g.len C4)) lo w.heap.size A5 := by
  have hfl := hf.1
  have hgl := hg.1
  obtain ⟨n0, n1, n2⟩ := put3_near (x := .int .i64 j) (y := .int .i64 o) (z := .slice A4 g.len C4) d0 d1 d2
  cases xs with
  | nil =>
    obtain ⟨rfl, rfl⟩ := hp
    refine ⟨⟨hfl, Nat.le_refl _⟩, fun i => Fo.unfrozen_of_block hBx i, A4, C4, ?_, ?_⟩
    · rw [Fo.block_setCell (Fo.block_setCell (Fo.block_setCell hBx _) _) _]; rfl
    · exact (hg.agree (fun y a c => put3_heap y (by omega))).liesIn.mono (by omega) (Nat.le_refl _)
  | cons i r =>
    obtain ⟨t1, t2⟩ := atPath_in (i :: r) X 0 f A1 lo X (by simp) hf hp
    refine ⟨⟨t1, by omega⟩, atPath_unfrozen (i :: r) X 0 f A1 lo X (by simp) hf hp, A1, C1, ?_, ?_⟩
    · rw [put3_heap X (by omega), hBx]
      show _ = some (Obj.cells #[.int .i64 k, .int .i64 n, .slice A1 (f.upd i.toNat (putP r (j, o, g))).len C1] 31 (0, 0))
      rw [Fo.upd_len]
    · exact put_lies (x := (j, o, g)) (fun y hy => put3_heap y hy) (fun c hc => put3_far c hc) n0 n1 n2 ((hg.agree (fun y a c => put3_heap y (by omega))).liesIn.mono (by omega) (Nat.le_refl _)) r i X 0 f A1 lo X hf hp (Nat.le_refl _) (by omega)
end Go.Proofs.Ytlfafcbieeambaa
