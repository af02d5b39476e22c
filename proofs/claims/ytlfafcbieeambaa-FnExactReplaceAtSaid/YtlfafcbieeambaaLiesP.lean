/- Expressions whose lists lie in blocks of a kind; a fresh row in place of one. Plain facts, no walk. -/
import Derived.Test.YtlfafcbieeambaaPutK
namespace Go.Proofs.Ytlfafcbieeambaa
open Go.RowKit
namespace Fo
def AtP (w : World) (P : Nat → Prop) : Fo → Nat → Nat → Prop
  | nil, _, _ => True
  | cons k n ks r, b, o => w.cell? ⟨b, o, none⟩ = some (.int .i64 k) ∧ w.cell? ⟨b, o + 1, none⟩ = some (.int .i64 n) ∧
      (∃ (A : Option Addr) (C : Nat), w.cell? ⟨b, o + 2, none⟩ = some (.slice A ks.len C) ∧ (ks ≠ nil → ∃ b' o', A = some ⟨b', o', none⟩ ∧ P b' ∧ ks.AtP w P b' o')) ∧ r.AtP w P b (o + 3)
def LiesP (w : World) (f : Fo) (P : Nat → Prop) (A : Option Addr) : Prop := f ≠ nil → ∃ b o, A = some ⟨b, o, none⟩ ∧ P b ∧ f.AtP w P b o
theorem AtP.at {w : World} {P : Nat → Prop} {f : Fo} : ∀ {b o : Nat}, f.AtP w P b o → f.At w b o := by
  induction f with
  | nil => intro b o _; trivial
  | cons k n ks r ihk ihr =>
    intro b o ⟨h0, h1, ⟨A, C, h2, h3⟩, h4⟩
    exact ⟨h0, h1, ⟨A, C, h2, fun hn => let ⟨b', o', ha, _, hat⟩ := h3 hn; ⟨b', o', ha, ihk hat⟩⟩, ihr h4⟩
theorem LiesP.lies {w : World} {P : Nat → Prop} {f : Fo} {A : Option Addr} (h : f.LiesP w P A) : f.Lies w A :=
  fun hn => let ⟨b, o, ha, _, hat⟩ := h hn; ⟨b, o, ha, hat.at⟩
theorem LiesP.nil (w : World) (P : Nat → Prop) (A : Option Addr) : Fo.nil.LiesP w P A := fun h => absurd rfl h
theorem cell_same {w w' : World} {b : Nat} (h : w'.heap[b]? = w.heap[b]?) (c : Nat) : w'.cell? ⟨b, c, none⟩ = w.cell? ⟨b, c, none⟩ :=
  Agree.cell (lo := b) (hi := b + 1) (fun y a d => by rw [show y = b from by omega]; exact h) (Nat.le_refl _) (Nat.lt_succ_self _) c
theorem AtP.agree {w w' : World} {P P' : Nat → Prop} (ha : ∀ x, P x → w'.heap[x]? = w.heap[x]?) (hP : ∀ x, P x → P' x) {f : Fo} : ∀ {b o : Nat}, P b → f.AtP w P b o → f.AtP w' P' b o := by
  induction f with
  | nil => intro b o _ _; trivial
  | cons k n ks r ihk ihr =>
    intro b o hb ⟨h0, h1, ⟨A, C, h2, h3⟩, h4⟩
    have hs := cell_same (ha b hb)
    exact ⟨(hs _).trans h0, (hs _).trans h1, ⟨A, C, (hs _).trans h2, fun hn => let ⟨b', o', e, p, hat⟩ := h3 hn; ⟨b', o', e, hP _ p, ihk p hat⟩⟩, ihr hb h4⟩
theorem LiesP.agree {w w' : World} {P P' : Nat → Prop} {f : Fo} {A : Option Addr} (h : f.LiesP w P A) (ha : ∀ x, P x → w'.heap[x]? = w.heap[x]?) (hP : ∀ x, P x → P' x) : f.LiesP w' P' A :=
  fun hn => let ⟨b, o, e, p, hat⟩ := h hn; ⟨b, o, e, hP _ p, hat.agree ha hP p⟩
theorem At.atP {w : World} {f : Fo} : ∀ {b o : Nat}, f.At w b o → f.AtP w (fun x => x < w.heap.size) b o := by
  induction f with
  | nil => intro b o _; trivial
  | cons k n ks r ihk ihr =>
    intro b o ⟨h0, h1, ⟨A, C, h2, h3⟩, h4⟩
    refine ⟨h0, h1, ⟨A, C, h2, fun hn => ?_⟩, ihr h4⟩
    obtain ⟨b', o', ha, hat⟩ := h3 hn
    refine ⟨b', o', ha, ?_, ihk hat⟩
    cases ks with
    | nil => exact absurd rfl hn
    | cons k1 n1 ks1 r1 => exact World.block_lt_of_cell? _ _ hat.1
theorem Lies.liesP {w : World} {f : Fo} {A : Option Addr} (h : f.Lies w A) : f.LiesP w (fun x => x < w.heap.size) A := fun hn => by
  obtain ⟨b, o, ha, hat⟩ := h hn
  refine ⟨b, o, ha, ?_, hat.atP⟩
  cases f with
  | nil => exact absurd rfl hn
  | cons k1 n1 ks1 r1 => exact World.block_lt_of_cell? _ _ hat.1
/-- The same row in another block. -/
theorem AtP.moved {w w' : World} {P : Nat → Prop} (ha : ∀ x, P x → w'.heap[x]? = w.heap[x]?) {g b : Nat} {f : Fo} : ∀ {o o' : Nat}, f.AtP w P b o → (∀ i, i < f.len * 3 → w'.cell? ⟨g, o' + i, none⟩ = w.cell? ⟨b, o + i, none⟩) → f.AtP w' P g o' := by
  induction f with
  | nil => intro o o' _ _; trivial
  | cons k n ks r _ ihr =>
    intro o o' ⟨h0, h1, ⟨A, C, h2, h3⟩, h4⟩ hc
    simp only [len] at hc
    refine ⟨(hc 0 (by omega)).trans h0, (hc 1 (by omega)).trans h1, ⟨A, C, (hc 2 (by omega)).trans h2, fun hn => ?_⟩, ihr h4 (fun i hi => ?_)⟩
    · obtain ⟨b', o2, e, p, hat⟩ := h3 hn
      exact ⟨b', o2, e, p, hat.agree ha (fun _ h => h) p⟩
    · have := hc (i + 3) (by omega)
      rw [show o' + (i + 3) = o' + 3 + i from by omega, show o + (i + 3) = o + 3 + i from by omega] at this
      exact this
theorem AtP.row {w : World} {P : Nat → Prop} {b : Nat} {f : Fo} : ∀ {o i : Nat} {k n : Int} {ks rest : Fo}, f.AtP w P b o → f.drop i = .cons k n ks rest →
    w.cell? ⟨b, o + 3 * i, none⟩ = some (.int .i64 k) ∧ w.cell? ⟨b, o + 3 * i + 1, none⟩ = some (.int .i64 n) ∧ ∃ A C, w.cell? ⟨b, o + 3 * i + 2, none⟩ = some (.slice A ks.len C) ∧ ks.LiesP w P A := by
  induction f with
  | nil => intro o i k n ks rest _ h; cases i <;> cases h
  | cons k0 n0 ks0 r0 _ ihr =>
    intro o i k n ks rest ⟨h0, h1, ⟨A, C, h2, h3⟩, h4⟩ hd
    cases i with
    | zero => cases hd; exact ⟨h0, h1, A, C, h2, h3⟩
    | succ i =>
      rw [show o + 3 * (i + 1) = o + 3 + 3 * i from by omega]
      exact ihr h4 hd
/-- A store into a row in a block of its own. -/
theorem AtP.upd {w w' : World} {P P' : Nat → Prop} {b : Nat} {F : Int → Int → Fo → Int × Int × Fo} {A' : Option Addr} {C' : Nat} (ha : ∀ x, P x → w'.heap[x]? = w.heap[x]?) (hP : ∀ x, P x → P' x) {f : Fo} : ∀ {o i : Nat} {k n : Int} {ks rest : Fo}, f.AtP w P b o → f.drop i = .cons k n ks rest →
    (∀ c, (c < o + 3 * i ∨ o + 3 * i + 3 ≤ c) → w'.cell? ⟨b, c, none⟩ = w.cell? ⟨b, c, none⟩) → w'.cell? ⟨b, o + 3 * i, none⟩ = some (.int .i64 (F k n ks).1) → w'.cell? ⟨b, o + 3 * i + 1, none⟩ = some (.int .i64 (F k n ks).2.1) → w'.cell? ⟨b, o + 3 * i + 2, none⟩ = some (.slice A' (F k n ks).2.2.len C') → (F k n ks).2.2.LiesP w' P' A' →
    (f.upd i F).AtP w' P' b o := by
  have rest_ok : ∀ (r : Fo) (o : Nat), r.AtP w P b o → (∀ c, o ≤ c → w'.cell? ⟨b, c, none⟩ = w.cell? ⟨b, c, none⟩) → r.AtP w' P' b o := by
    intro r
    induction r with
    | nil => intro o _ _; trivial
    | cons k n ks r _ ihr =>
      intro o ⟨h0, h1, ⟨A, C, h2, h3⟩, h4⟩ hc
      refine ⟨(hc _ (by omega)).trans h0, (hc _ (by omega)).trans h1, ⟨A, C, (hc _ (by omega)).trans h2, fun hn => ?_⟩, ihr (o + 3) h4 (fun c h => hc c (by omega))⟩
      obtain ⟨b', o2, e, p, hat⟩ := h3 hn
      exact ⟨b', o2, e, hP _ p, hat.agree ha hP p⟩
  induction f with
  | nil => intro o i k n ks rest _ h; cases i <;> cases h
  | cons k0 n0 ks0 r0 _ ihr =>
    intro o i k n ks rest ⟨h0, h1, ⟨A, C, h2, h3⟩, h4⟩ hd hc c0 c1 c2 hl
    cases i with
    | zero => cases hd; exact ⟨c0, c1, ⟨A', C', c2, hl⟩, rest_ok _ _ h4 (fun c h => hc c (by omega))⟩
    | succ i =>
      have eo : o + 3 * (i + 1) = o + 3 + 3 * i := by omega
      rw [eo] at hc c0 c1 c2
      refine ⟨(hc _ (by omega)).trans h0, (hc _ (by omega)).trans h1, ⟨A, C, (hc _ (by omega)).trans h2, fun hn => ?_⟩, ihr h4 hd hc c0 c1 c2 hl⟩
      obtain ⟨b', o2, e, p, hat⟩ := h3 hn
      exact ⟨b', o2, e, hP _ p, hat.agree ha hP p⟩
end Fo
end Go.Proofs.Ytlfafcbieeambaa
