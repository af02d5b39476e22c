/- Dv: a list of Go's Derivation: what it holds; where it lies in memory; how a row is filled. Plain facts, no walk. -/
import Derived.Test.YtlpgkhdecccmlaaRGt
import Derived.Test.YtlpgkhdecccmlaaRPg
namespace Go.Proofs.YtlpgkhdecccmlaaR
open Go.RowKit
set_option linter.unusedVariables false

inductive Dv where
  | nil
  | cons (ru : Int) (pk : Int) (pn : Int) (pf : Fo) (gk : Int) (gn : Int) (gck : Int) (gcn : Int) (gcf : Fo) (gks : Pg) (qk : Int) (qn : Int) (qf : Fo) (ks : Dv) (rest : Dv)
deriving DecidableEq, Inhabited

namespace Dv
def len : Dv → Nat
  | nil => 0
  | cons _ _ _ _ _ _ _ _ _ _ _ _ _ _ r => r.len + 1
def nodes : Dv → Nat
  | nil => 0
  | cons ru pk pn pf gk gn gck gcn gcf gks qk qn qf ks r => 1 + pf.nodes + gcf.nodes + gks.nodes + qf.nodes + ks.nodes + r.nodes
def drop : Nat → Dv → Dv
  | 0, f => f
  | _ + 1, nil => nil
  | i + 1, cons _ _ _ _ _ _ _ _ _ _ _ _ _ _ r => r.drop i
/-- No list is longer than a length can be. -/
def Fits : Dv → Prop
  | nil => True
  | cons ru pk pn pf gk gn gck gcn gcf gks qk qn qf ks r => (pf.len ≤ 9223372036854775807 ∧ pf.Fits) ∧ (gcf.len ≤ 9223372036854775807 ∧ gcf.Fits) ∧ (gks.len ≤ 9223372036854775807 ∧ gks.Fits) ∧ (qf.len ≤ 9223372036854775807 ∧ qf.Fits) ∧ (ks.len ≤ 9223372036854775807 ∧ ks.Fits) ∧ r.Fits
/-- The rows of a list lie in block b from cell o on. -/
def At (w : World) : Dv → Nat → Nat → Prop
  | nil, _, _ => True
  | cons ru pk pn pf gk gn gck gcn gcf gks qk qn qf ks r, b, o => w.cell? ⟨b, o, none⟩ = some (.int .i64 ru) ∧ w.cell? ⟨b, o + 1, none⟩ = some (.int .i64 pk) ∧ w.cell? ⟨b, o + 2, none⟩ = some (.int .i64 pn) ∧ (∃ (A : Option Addr) (C : Nat), w.cell? ⟨b, o + 3, none⟩ = some (.slice A pf.len C) ∧ pf.Lies w A) ∧ w.cell? ⟨b, o + 4, none⟩ = some (.int .i64 gk) ∧ w.cell? ⟨b, o + 5, none⟩ = some (.int .i64 gn) ∧ w.cell? ⟨b, o + 6, none⟩ = some (.int .i64 gck) ∧ w.cell? ⟨b, o + 7, none⟩ = some (.int .i64 gcn) ∧ (∃ (A : Option Addr) (C : Nat), w.cell? ⟨b, o + 8, none⟩ = some (.slice A gcf.len C) ∧ gcf.Lies w A) ∧ (∃ (A : Option Addr) (C : Nat), w.cell? ⟨b, o + 9, none⟩ = some (.slice A gks.len C) ∧ gks.Lies w A) ∧ w.cell? ⟨b, o + 10, none⟩ = some (.int .i64 qk) ∧ w.cell? ⟨b, o + 11, none⟩ = some (.int .i64 qn) ∧ (∃ (A : Option Addr) (C : Nat), w.cell? ⟨b, o + 12, none⟩ = some (.slice A qf.len C) ∧ qf.Lies w A) ∧ (∃ (A : Option Addr) (C : Nat), w.cell? ⟨b, o + 13, none⟩ = some (.slice A ks.len C) ∧ (ks ≠ nil → ∃ b' o', A = some ⟨b', o', none⟩ ∧ ks.At w b' o')) ∧ r.At w b (o + 14)
/-- A list lies where a slice value's pointer leads. -/
def Lies (w : World) (f : Dv) (A : Option Addr) : Prop := f ≠ nil → ∃ b o, A = some ⟨b, o, none⟩ ∧ f.At w b o

theorem drop_lt (f : Dv) : ∀ i, i < f.len → ∃ ru pk pn pf gk gn gck gcn gcf gks qk qn qf ks r, f.drop i = cons ru pk pn pf gk gn gck gcn gcf gks qk qn qf ks r ∧ f.drop (i + 1) = r := by
  induction f with
  | nil => intro i h; simp [len] at h
  | cons ru pk pn pf gk gn gck gcn gcf gks qk qn qf ks r _ ih => intro i h; cases i with
    | zero => exact ⟨ru, pk, pn, pf, gk, gn, gck, gcn, gcf, gks, qk, qn, qf, ks, r, rfl, by cases r <;> rfl⟩
    | succ i => exact ih i (by simp [len] at h; omega)
theorem drop_len (f : Dv) : f.drop f.len = nil := by
  induction f with
  | nil => rfl
  | cons ru pk pn pf gk gn gck gcn gcf gks qk qn qf ks r _ ih => exact ih
theorem fits_drop {f : Dv} (h : f.Fits) : ∀ i, (f.drop i).Fits := by
  induction f with
  | nil => intro i; cases i <;> exact h
  | cons ru pk pn pf gk gn gck gcn gcf gks qk qn qf ks r _ ih => intro i; cases i with
    | zero => exact h
    | succ i => exact ih h.2.2.2.2.2 i
theorem at_drop {w : World} {f : Dv} : ∀ {b o : Nat}, f.At w b o → ∀ i, (f.drop i).At w b (o + i * 14) := by
  induction f with
  | nil => intro b o _ i; cases i <;> exact trivial
  | cons ru pk pn pf gk gn gck gcn gcf gks qk qn qf ks r _ ih => intro b o h i; cases i with
    | zero => exact h
    | succ i =>
      obtain ⟨h0, h1, h2, ⟨A3, C3, h3, g3⟩, h4, h5, h6, h7, ⟨A8, C8, h8, g8⟩, ⟨A9, C9, h9, g9⟩, h10, h11, ⟨A12, C12, h12, g12⟩, ⟨A13, C13, h13, g13⟩, hr⟩ := h
      have := ih hr i
      rw [show o + (i + 1) * 14 = o + 14 + i * 14 from by omega]
      exact this
theorem len_le_nodes (f : Dv) : f.len ≤ f.nodes := by
  induction f with
  | nil => exact Nat.le_refl _
  | cons ru pk pn pf gk gn gck gcn gcf gks qk qn qf ks r _ ih => simp only [len, nodes]; omega
theorem nodes_drop (f : Dv) : ∀ i, (f.drop i).nodes ≤ f.nodes := by
  induction f with
  | nil => intro i; cases i <;> exact Nat.le_refl _
  | cons ru pk pn pf gk gn gck gcn gcf gks qk qn qf ks r _ ih => intro i; cases i with
    | zero => exact Nat.le_refl _
    | succ i => have := ih i; simp only [drop, nodes]; omega
/-- What lies in a world lies in every later one. -/
theorem At.later {w w' : World} (hh : ∀ b o, b < w.heap.size → w'.cell? ⟨b, o, none⟩ = w.cell? ⟨b, o, none⟩) {f : Dv} : ∀ {b o : Nat}, f.At w b o → f.At w' b o := by
  induction f with
  | nil => intro b o _; trivial
  | cons ru pk pn pf gk gn gck gcn gcf gks qk qn qf ks r ihks ihr =>
    intro b o ⟨h0, h1, h2, ⟨A3, C3, h3, g3⟩, h4, h5, h6, h7, ⟨A8, C8, h8, g8⟩, ⟨A9, C9, h9, g9⟩, h10, h11, ⟨A12, C12, h12, g12⟩, ⟨A13, C13, h13, g13⟩, hr⟩
    have hlt : b < w.heap.size := World.block_lt_of_cell? _ _ h0
    exact ⟨(hh b o hlt).trans h0, (hh b _ hlt).trans h1, (hh b _ hlt).trans h2, ⟨A3, C3, (hh b _ hlt).trans h3, g3.later hh⟩, (hh b _ hlt).trans h4, (hh b _ hlt).trans h5, (hh b _ hlt).trans h6, (hh b _ hlt).trans h7, ⟨A8, C8, (hh b _ hlt).trans h8, g8.later hh⟩, ⟨A9, C9, (hh b _ hlt).trans h9, g9.later hh⟩, (hh b _ hlt).trans h10, (hh b _ hlt).trans h11, ⟨A12, C12, (hh b _ hlt).trans h12, g12.later hh⟩, ⟨A13, C13, (hh b _ hlt).trans h13, fun hn => let ⟨b', o', ha, hat⟩ := g13 hn; ⟨b', o', ha, ihks hat⟩⟩, ihr hr⟩
theorem Lies.later {w w' : World} (hh : ∀ b o, b < w.heap.size → w'.cell? ⟨b, o, none⟩ = w.cell? ⟨b, o, none⟩) {f : Dv} {A : Option Addr} (h : f.Lies w A) : f.Lies w' A :=
  fun hn => let ⟨b, o, ha, hat⟩ := h hn; ⟨b, o, ha, hat.later hh⟩
theorem Lies.below {w w' : World} (hb : Below w.heap.size w w') {f : Dv} {A : Option Addr} (h : f.Lies w A) : f.Lies w' A :=
  h.later fun b o hlt => hb.cell (p := ⟨b, o, none⟩) hlt
theorem Lies.drew {w : World} {f : Dv} {A : Option Addr} (h : f.Lies w A) : f.Lies w.drew A := h.later (w := w) (w' := w.drew) (fun b o _ => (rfl : w.drew.cell? ⟨b, o, none⟩ = w.cell? ⟨b, o, none⟩))
theorem Lies.dbelow {w w' : World} {f : Dv} {A : Option Addr} (h : f.Lies w A) (hb : Below w.drew.heap.size w.drew w') : f.Lies w' A := h.drew.below hb
theorem Lies.alloc {w : World} {f : Dv} {A : Option Addr} (h : f.Lies w A) (x : Obj) : f.Lies (w.alloc x) A := h.later (fun _ _ h => World.cell?_alloc_lt _ _ _ h)
theorem Lies.sees {w W : World} {f : Dv} {A : Option Addr} (h : f.Lies w A) (hs : Sees w W) : f.Lies W A := h.below hs
/-- The row of index i. -/
theorem Lies.row {w : World} {f : Dv} {b o : Nat} (h : f.At w b o) {i : Nat} (hi : i < f.len) :
    ∃ ru pk pn pf gk gn gck gcn gcf gks qk qn qf ks r Apf Cpf Agcf Cgcf Agks Cgks Aqf Cqf Aks Cks, Hid (f.drop i = cons ru pk pn pf gk gn gck gcn gcf gks qk qn qf ks r) ∧ Hid (f.drop (i + 1) = r) ∧ w.cell? ⟨b, o + i * 14, none⟩ = some (.int .i64 ru) ∧ w.cell? ⟨b, o + i * 14 + 1, none⟩ = some (.int .i64 pk) ∧ w.cell? ⟨b, o + i * 14 + 2, none⟩ = some (.int .i64 pn) ∧ w.cell? ⟨b, o + i * 14 + 3, none⟩ = some (.slice Apf pf.len Cpf) ∧ pf.Lies w Apf ∧ w.cell? ⟨b, o + i * 14 + 4, none⟩ = some (.int .i64 gk) ∧ w.cell? ⟨b, o + i * 14 + 5, none⟩ = some (.int .i64 gn) ∧ w.cell? ⟨b, o + i * 14 + 6, none⟩ = some (.int .i64 gck) ∧ w.cell? ⟨b, o + i * 14 + 7, none⟩ = some (.int .i64 gcn) ∧ w.cell? ⟨b, o + i * 14 + 8, none⟩ = some (.slice Agcf gcf.len Cgcf) ∧ gcf.Lies w Agcf ∧ w.cell? ⟨b, o + i * 14 + 9, none⟩ = some (.slice Agks gks.len Cgks) ∧ gks.Lies w Agks ∧ w.cell? ⟨b, o + i * 14 + 10, none⟩ = some (.int .i64 qk) ∧ w.cell? ⟨b, o + i * 14 + 11, none⟩ = some (.int .i64 qn) ∧ w.cell? ⟨b, o + i * 14 + 12, none⟩ = some (.slice Aqf qf.len Cqf) ∧ qf.Lies w Aqf ∧ w.cell? ⟨b, o + i * 14 + 13, none⟩ = some (.slice Aks ks.len Cks) ∧ ks.Lies w Aks := by
  obtain ⟨ru, pk, pn, pf, gk, gn, gck, gcn, gcf, gks, qk, qn, qf, ks, r, e1, e2⟩ := f.drop_lt i hi
  have h' := at_drop h i
  rw [e1] at h'
  obtain ⟨h0, h1, h2, ⟨A3, C3, h3, g3⟩, h4, h5, h6, h7, ⟨A8, C8, h8, g8⟩, ⟨A9, C9, h9, g9⟩, h10, h11, ⟨A12, C12, h12, g12⟩, ⟨A13, C13, h13, g13⟩, _⟩ := h'
  exact ⟨ru, pk, pn, pf, gk, gn, gck, gcn, gcf, gks, qk, qn, qf, ks, r, A3, C3, A8, C8, A9, C9, A12, C12, A13, C13, e1, e2, h0, h1, h2, h3, g3, h4, h5, h6, h7, h8, g8, h9, g9, h10, h11, h12, g12, h13, g13⟩
/-- The same, where all lists lie in blocks from lo on, below hi. -/
def AtIn (w : World) (lo hi : Nat) : Dv → Nat → Nat → Prop
  | nil, _, _ => True
  | cons ru pk pn pf gk gn gck gcn gcf gks qk qn qf ks r, b, o => w.cell? ⟨b, o, none⟩ = some (.int .i64 ru) ∧ w.cell? ⟨b, o + 1, none⟩ = some (.int .i64 pk) ∧ w.cell? ⟨b, o + 2, none⟩ = some (.int .i64 pn) ∧ (∃ (A : Option Addr) (C : Nat), w.cell? ⟨b, o + 3, none⟩ = some (.slice A pf.len C) ∧ pf.LiesIn w lo hi A) ∧ w.cell? ⟨b, o + 4, none⟩ = some (.int .i64 gk) ∧ w.cell? ⟨b, o + 5, none⟩ = some (.int .i64 gn) ∧ w.cell? ⟨b, o + 6, none⟩ = some (.int .i64 gck) ∧ w.cell? ⟨b, o + 7, none⟩ = some (.int .i64 gcn) ∧ (∃ (A : Option Addr) (C : Nat), w.cell? ⟨b, o + 8, none⟩ = some (.slice A gcf.len C) ∧ gcf.LiesIn w lo hi A) ∧ (∃ (A : Option Addr) (C : Nat), w.cell? ⟨b, o + 9, none⟩ = some (.slice A gks.len C) ∧ gks.LiesIn w lo hi A) ∧ w.cell? ⟨b, o + 10, none⟩ = some (.int .i64 qk) ∧ w.cell? ⟨b, o + 11, none⟩ = some (.int .i64 qn) ∧ (∃ (A : Option Addr) (C : Nat), w.cell? ⟨b, o + 12, none⟩ = some (.slice A qf.len C) ∧ qf.LiesIn w lo hi A) ∧ (∃ (A : Option Addr) (C : Nat), w.cell? ⟨b, o + 13, none⟩ = some (.slice A ks.len C) ∧ (ks ≠ nil → ∃ b' o', A = some ⟨b', o', none⟩ ∧ lo ≤ b' ∧ b' < hi ∧ ks.AtIn w lo hi b' o')) ∧ r.AtIn w lo hi b (o + 14)
def LiesIn (w : World) (f : Dv) (lo hi : Nat) (A : Option Addr) : Prop := f ≠ nil → ∃ b o, A = some ⟨b, o, none⟩ ∧ lo ≤ b ∧ b < hi ∧ f.AtIn w lo hi b o
theorem AtIn.at {w : World} {lo hi : Nat} {f : Dv} : ∀ {b o : Nat}, f.AtIn w lo hi b o → f.At w b o := by
  induction f with
  | nil => intro b o _; trivial
  | cons ru pk pn pf gk gn gck gcn gcf gks qk qn qf ks r ihks ihr =>
    intro b o ⟨h0, h1, h2, ⟨A3, C3, h3, g3⟩, h4, h5, h6, h7, ⟨A8, C8, h8, g8⟩, ⟨A9, C9, h9, g9⟩, h10, h11, ⟨A12, C12, h12, g12⟩, ⟨A13, C13, h13, g13⟩, hr⟩
    exact ⟨h0, h1, h2, ⟨A3, C3, h3, g3.lies⟩, h4, h5, h6, h7, ⟨A8, C8, h8, g8.lies⟩, ⟨A9, C9, h9, g9.lies⟩, h10, h11, ⟨A12, C12, h12, g12.lies⟩, ⟨A13, C13, h13, fun hn => let ⟨b', o', ha, _, _, hat⟩ := g13 hn; ⟨b', o', ha, ihks hat⟩⟩, ihr hr⟩
theorem LiesIn.lies {w : World} {f : Dv} {lo hi : Nat} {A : Option Addr} (h : f.LiesIn w lo hi A) : f.Lies w A :=
  fun hn => let ⟨b, o, ha, _, _, hat⟩ := h hn; ⟨b, o, ha, hat.at⟩
theorem AtIn.agree {w w' : World} {lo hi : Nat} (ha : Fo.Agree w w' lo hi) {f : Dv} : ∀ {b o : Nat}, lo ≤ b → b < hi → f.AtIn w lo hi b o → f.AtIn w' lo hi b o := by
  induction f with
  | nil => intro b o _ _ _; trivial
  | cons ru pk pn pf gk gn gck gcn gcf gks qk qn qf ks r ihks ihr =>
    intro b o hb hb2 ⟨h0, h1, h2, ⟨A3, C3, h3, g3⟩, h4, h5, h6, h7, ⟨A8, C8, h8, g8⟩, ⟨A9, C9, h9, g9⟩, h10, h11, ⟨A12, C12, h12, g12⟩, ⟨A13, C13, h13, g13⟩, hr⟩
    have hs := fun o => ha.cell hb hb2 o
    exact ⟨(hs _).trans h0, (hs _).trans h1, (hs _).trans h2, ⟨A3, C3, (hs _).trans h3, g3.agree ha⟩, (hs _).trans h4, (hs _).trans h5, (hs _).trans h6, (hs _).trans h7, ⟨A8, C8, (hs _).trans h8, g8.agree ha⟩, ⟨A9, C9, (hs _).trans h9, g9.agree ha⟩, (hs _).trans h10, (hs _).trans h11, ⟨A12, C12, (hs _).trans h12, g12.agree ha⟩, ⟨A13, C13, (hs _).trans h13, fun hn => let ⟨b', o', e, p, p', hat⟩ := g13 hn; ⟨b', o', e, p, p', ihks p p' hat⟩⟩, ihr hb hb2 hr⟩
theorem LiesIn.agree {w w' : World} {f : Dv} {lo hi : Nat} {A : Option Addr} (h : f.LiesIn w lo hi A) (ha : Fo.Agree w w' lo hi) : f.LiesIn w' lo hi A :=
  fun hn => let ⟨b, o, e, p, p', hat⟩ := h hn; ⟨b, o, e, p, p', hat.agree ha p p'⟩
theorem AtIn.mono {w : World} {lo hi lo' hi' : Nat} (h1x : lo' ≤ lo) (h2x : hi ≤ hi') {f : Dv} : ∀ {b o : Nat}, f.AtIn w lo hi b o → f.AtIn w lo' hi' b o := by
  induction f with
  | nil => intro b o _; trivial
  | cons ru pk pn pf gk gn gck gcn gcf gks qk qn qf ks r ihks ihr =>
    intro b o ⟨h0, h1, h2, ⟨A3, C3, h3, g3⟩, h4, h5, h6, h7, ⟨A8, C8, h8, g8⟩, ⟨A9, C9, h9, g9⟩, h10, h11, ⟨A12, C12, h12, g12⟩, ⟨A13, C13, h13, g13⟩, hr⟩
    exact ⟨h0, h1, h2, ⟨A3, C3, h3, g3.mono h1x h2x⟩, h4, h5, h6, h7, ⟨A8, C8, h8, g8.mono h1x h2x⟩, ⟨A9, C9, h9, g9.mono h1x h2x⟩, h10, h11, ⟨A12, C12, h12, g12.mono h1x h2x⟩, ⟨A13, C13, h13, fun hn => let ⟨b', o', e, p, p', hat⟩ := g13 hn; ⟨b', o', e, Nat.le_trans h1x p, Nat.lt_of_lt_of_le p' h2x, ihks hat⟩⟩, ihr hr⟩
theorem LiesIn.mono {w : World} {f : Dv} {lo hi lo' hi' : Nat} {A : Option Addr} (h : f.LiesIn w lo hi A) (h1 : lo' ≤ lo) (h2 : hi ≤ hi') : f.LiesIn w lo' hi' A :=
  fun hn => let ⟨b, o, e, p, p', hat⟩ := h hn; ⟨b, o, e, Nat.le_trans h1 p, Nat.lt_of_lt_of_le p' h2, hat.mono h1 h2⟩

/-- Block B is a row of so many of them of type E, of which the first j are those of f, what belongs to them in blocks from B + 1 on. -/
def Rows (E : TypeId) (f : Dv) (B : Nat) (wr : World) (j : Nat) : Prop :=
  (∃ cs : Array Value, wr.heap[B]? = some (.cells cs E (0, 0)) ∧ cs.size = f.len * 14) ∧ B < wr.heap.size ∧
  ∀ (w' : World) (hi : Nat), wr.heap.size ≤ hi → Fo.Agree wr w' (B + 1) wr.heap.size → (∀ o, o < j * 14 → w'.cell? ⟨B, o, none⟩ = wr.cell? ⟨B, o, none⟩) → (f.drop j).AtIn w' (B + 1) hi B (j * 14) → f.AtIn w' (B + 1) hi B 0
theorem rows_start {E : TypeId} {f : Dv} {w : World} {cs : Array Value} (hs : cs.size = f.len * 14) : Rows E f w.heap.size (w.alloc (.cells cs E)) 0 := by
  refine ⟨⟨cs, heap_new _ _ _ rfl, hs⟩, by simp, fun w' hi _ _ _ h => ?_⟩
  simp only [drop, Nat.zero_mul] at h
  exact h
theorem Rows.below {E : TypeId} {f : Dv} {B : Nat} {wr w1 : World} {j : Nat} (h : Rows E f B wr j) (hb : Below wr.heap.size wr w1) : Rows E f B w1 j := by
  obtain ⟨⟨cs, hc, hs⟩, hlt, hd⟩ := h
  have hz := hb.size
  refine ⟨⟨cs, (hb.block B hlt).trans hc, hs⟩, by omega, fun w' hi hh h1 h2 h3 => hd w' hi (by omega) ?_ (fun o ho => ?_) h3⟩
  · exact Fo.Agree.trans ((Fo.Agree.of_below hb).mono (Nat.zero_le _) (Nat.le_refl _)) (h1.mono (Nat.le_refl _) hz)
  · exact (h2 o ho).trans (hb.cell (p := ⟨B, o, none⟩) hlt)
theorem Rows.cells {E : TypeId} {f : Dv} {B : Nat} {wr : World} {j : Nat} (h : Rows E f B wr j) (hj : j < f.len) :
    (∃ v, wr.cell? ⟨B, j * 14, none⟩ = some v) ∧ (∃ v, wr.cell? ⟨B, j * 14 + 1, none⟩ = some v) ∧ (∃ v, wr.cell? ⟨B, j * 14 + 2, none⟩ = some v) ∧ (∃ v, wr.cell? ⟨B, j * 14 + 3, none⟩ = some v) ∧ (∃ v, wr.cell? ⟨B, j * 14 + 4, none⟩ = some v) ∧ (∃ v, wr.cell? ⟨B, j * 14 + 5, none⟩ = some v) ∧ (∃ v, wr.cell? ⟨B, j * 14 + 6, none⟩ = some v) ∧ (∃ v, wr.cell? ⟨B, j * 14 + 7, none⟩ = some v) ∧ (∃ v, wr.cell? ⟨B, j * 14 + 8, none⟩ = some v) ∧ (∃ v, wr.cell? ⟨B, j * 14 + 9, none⟩ = some v) ∧ (∃ v, wr.cell? ⟨B, j * 14 + 10, none⟩ = some v) ∧ (∃ v, wr.cell? ⟨B, j * 14 + 11, none⟩ = some v) ∧ (∃ v, wr.cell? ⟨B, j * 14 + 12, none⟩ = some v) ∧ (∃ v, wr.cell? ⟨B, j * 14 + 13, none⟩ = some v) ∧ (∀ i, wr.frozen? ⟨B, i, none⟩ = false) := by
  obtain ⟨⟨cs, hc, hs⟩, _, _⟩ := h
  refine ⟨⟨cs[j * 14]'(by omega), ?_⟩, ⟨cs[j * 14 + 1]'(by omega), ?_⟩, ⟨cs[j * 14 + 2]'(by omega), ?_⟩, ⟨cs[j * 14 + 3]'(by omega), ?_⟩, ⟨cs[j * 14 + 4]'(by omega), ?_⟩, ⟨cs[j * 14 + 5]'(by omega), ?_⟩, ⟨cs[j * 14 + 6]'(by omega), ?_⟩, ⟨cs[j * 14 + 7]'(by omega), ?_⟩, ⟨cs[j * 14 + 8]'(by omega), ?_⟩, ⟨cs[j * 14 + 9]'(by omega), ?_⟩, ⟨cs[j * 14 + 10]'(by omega), ?_⟩, ⟨cs[j * 14 + 11]'(by omega), ?_⟩, ⟨cs[j * 14 + 12]'(by omega), ?_⟩, ⟨cs[j * 14 + 13]'(by omega), ?_⟩, fun i => Fo.unfrozen_of_block hc i⟩ <;>
  · rw [Fo.cell_of_block hc]
    exact Array.getElem?_eq_getElem _
/-- The cells of a row are stored. -/
def put (w : World) (B o : Nat) (v0 v1 v2 v3 v4 v5 v6 v7 v8 v9 v10 v11 v12 v13 : Value) : World := ((((((((((((((w.setCell ⟨B, o, none⟩ v0).setCell ⟨B, o + 1, none⟩ v1).setCell ⟨B, o + 2, none⟩ v2).setCell ⟨B, o + 3, none⟩ v3).setCell ⟨B, o + 4, none⟩ v4).setCell ⟨B, o + 5, none⟩ v5).setCell ⟨B, o + 6, none⟩ v6).setCell ⟨B, o + 7, none⟩ v7).setCell ⟨B, o + 8, none⟩ v8).setCell ⟨B, o + 9, none⟩ v9).setCell ⟨B, o + 10, none⟩ v10).setCell ⟨B, o + 11, none⟩ v11).setCell ⟨B, o + 12, none⟩ v12).setCell ⟨B, o + 13, none⟩ v13)
theorem put_block {w : World} {B o : Nat} {cs : Array Value} {T : TypeId} (h : w.heap[B]? = some (.cells cs T (0, 0))) (v0 v1 v2 v3 v4 v5 v6 v7 v8 v9 v10 v11 v12 v13 : Value) :
    (put w B o v0 v1 v2 v3 v4 v5 v6 v7 v8 v9 v10 v11 v12 v13).heap[B]? = some (.cells ((((((((((((((cs.setIfInBounds (o) v0).setIfInBounds (o + 1) v1).setIfInBounds (o + 2) v2).setIfInBounds (o + 3) v3).setIfInBounds (o + 4) v4).setIfInBounds (o + 5) v5).setIfInBounds (o + 6) v6).setIfInBounds (o + 7) v7).setIfInBounds (o + 8) v8).setIfInBounds (o + 9) v9).setIfInBounds (o + 10) v10).setIfInBounds (o + 11) v11).setIfInBounds (o + 12) v12).setIfInBounds (o + 13) v13) T (0, 0)) := (Fo.block_setCell (Fo.block_setCell (Fo.block_setCell (Fo.block_setCell (Fo.block_setCell (Fo.block_setCell (Fo.block_setCell (Fo.block_setCell (Fo.block_setCell (Fo.block_setCell (Fo.block_setCell (Fo.block_setCell (Fo.block_setCell (Fo.block_setCell h v0) v1) v2) v3) v4) v5) v6) v7) v8) v9) v10) v11) v12) v13)
theorem put_size (w : World) (B o : Nat) (v0 v1 v2 v3 v4 v5 v6 v7 v8 v9 v10 v11 v12 v13 : Value) : (put w B o v0 v1 v2 v3 v4 v5 v6 v7 v8 v9 v10 v11 v12 v13).heap.size = w.heap.size := by simp [put]
theorem put_agree {w : World} {B o : Nat} (v0 v1 v2 v3 v4 v5 v6 v7 v8 v9 v10 v11 v12 v13 : Value) {lo hi : Nat} (h : B < lo) : Fo.Agree w (put w B o v0 v1 v2 v3 v4 v5 v6 v7 v8 v9 v10 v11 v12 v13) lo hi := by
  unfold put
  refine Fo.Agree.setCell (Fo.Agree.setCell (Fo.Agree.setCell (Fo.Agree.setCell (Fo.Agree.setCell (Fo.Agree.setCell (Fo.Agree.setCell (Fo.Agree.setCell (Fo.Agree.setCell (Fo.Agree.setCell (Fo.Agree.setCell (Fo.Agree.setCell (Fo.Agree.setCell (Fo.Agree.setCell (Fo.Agree.refl _ _ _) _ ?_ _) _ ?_ _) _ ?_ _) _ ?_ _) _ ?_ _) _ ?_ _) _ ?_ _) _ ?_ _) _ ?_ _) _ ?_ _) _ ?_ _) _ ?_ _) _ ?_ _) _ ?_ _ <;> exact Or.inl h
theorem rows_step {E : TypeId} {f r : Dv} {ru : Int} {pk : Int} {pn : Int} {pf : Fo} {gk : Int} {gn : Int} {gck : Int} {gcn : Int} {gcf : Fo} {gks : Pg} {qk : Int} {qn : Int} {qf : Fo} {ks : Dv} {B : Nat} {w1 : World} {j : Nat} {Apf Agcf Agks Aqf Aks : Option Addr} (h : Rows E f B w1 j) (e1 : f.drop j = cons ru pk pn pf gk gn gck gcn gcf gks qk qn qf ks r) (e2 : f.drop (j + 1) = r) (hj : j < f.len)
    {x : Nat} (hx : B < x) (hApf : pf.LiesIn w1 x w1.heap.size Apf) (hAgcf : gcf.LiesIn w1 x w1.heap.size Agcf) (hAgks : gks.LiesIn w1 x w1.heap.size Agks) (hAqf : qf.LiesIn w1 x w1.heap.size Aqf) (hAks : ks.LiesIn w1 x w1.heap.size Aks) :
    Rows E f B (put w1 B (j * 14) (.int .i64 ru) (.int .i64 pk) (.int .i64 pn) (.slice Apf pf.len pf.len) (.int .i64 gk) (.int .i64 gn) (.int .i64 gck) (.int .i64 gcn) (.slice Agcf gcf.len gcf.len) (.slice Agks gks.len gks.len) (.int .i64 qk) (.int .i64 qn) (.slice Aqf qf.len qf.len) (.slice Aks ks.len ks.len)) (j + 1) := by
  obtain ⟨⟨cs, hc, hsz⟩, hlt, hd⟩ := h
  obtain ⟨v0, hv0, v1, hv1, v2, hv2, v3, hv3, v4, hv4, v5, hv5, v6, hv6, v7, hv7, v8, hv8, v9, hv9, v10, hv10, v11, hv11, v12, hv12, v13, hv13⟩ : ∃ v0 : Value, v0 = (.int .i64 ru) ∧ ∃ v1 : Value, v1 = (.int .i64 pk) ∧ ∃ v2 : Value, v2 = (.int .i64 pn) ∧ ∃ v3 : Value, v3 = (.slice Apf pf.len pf.len) ∧ ∃ v4 : Value, v4 = (.int .i64 gk) ∧ ∃ v5 : Value, v5 = (.int .i64 gn) ∧ ∃ v6 : Value, v6 = (.int .i64 gck) ∧ ∃ v7 : Value, v7 = (.int .i64 gcn) ∧ ∃ v8 : Value, v8 = (.slice Agcf gcf.len gcf.len) ∧ ∃ v9 : Value, v9 = (.slice Agks gks.len gks.len) ∧ ∃ v10 : Value, v10 = (.int .i64 qk) ∧ ∃ v11 : Value, v11 = (.int .i64 qn) ∧ ∃ v12 : Value, v12 = (.slice Aqf qf.len qf.len) ∧ ∃ v13 : Value, v13 = (.slice Aks ks.len ks.len) := ⟨_, rfl, _, rfl, _, rfl, _, rfl, _, rfl, _, rfl, _, rfl, _, rfl, _, rfl, _, rfl, _, rfl, _, rfl, _, rfl, _, rfl⟩
  rw [← hv0, ← hv1, ← hv2, ← hv3, ← hv4, ← hv5, ← hv6, ← hv7, ← hv8, ← hv9, ← hv10, ← hv11, ← hv12, ← hv13]
  have b := put_block (o := j * 14) hc v0 v1 v2 v3 v4 v5 v6 v7 v8 v9 v10 v11 v12 v13
  have a1 : Fo.Agree w1 (put w1 B (j * 14) v0 v1 v2 v3 v4 v5 v6 v7 v8 v9 v10 v11 v12 v13) (B + 1) w1.heap.size := put_agree v0 v1 v2 v3 v4 v5 v6 v7 v8 v9 v10 v11 v12 v13 (Nat.lt_succ_self _)
  have z := put_size w1 B (j * 14) v0 v1 v2 v3 v4 v5 v6 v7 v8 v9 v10 v11 v12 v13
  obtain ⟨W, hW⟩ : ∃ W, W = put w1 B (j * 14) v0 v1 v2 v3 v4 v5 v6 v7 v8 v9 v10 v11 v12 v13 := ⟨_, rfl⟩
  rw [← hW] at b a1 z ⊢
  have hcell : ∀ o, W.cell? ⟨B, o, none⟩ = _ := fun o => Fo.cell_of_block b o
  refine ⟨⟨_, b, by simp [hsz]⟩, by omega, fun w' hi hh ha hcl hr => ?_⟩
  rw [z] at ha hh
  have a2 : Fo.Agree w1 w' (B + 1) w1.heap.size := Fo.Agree.trans a1 ha
  refine hd w' hi hh a2 (fun o ho => ?_) ?_
  · rw [hcl o (by omega), hcell, Fo.cell_of_block hc]
    simp only [Array.getElem?_setIfInBounds]
    rw [if_neg (by omega), if_neg (by omega), if_neg (by omega), if_neg (by omega), if_neg (by omega), if_neg (by omega), if_neg (by omega), if_neg (by omega), if_neg (by omega), if_neg (by omega), if_neg (by omega), if_neg (by omega), if_neg (by omega), if_neg (by omega)]
  · rw [e1]
    have a3 : Fo.Agree w1 w' x w1.heap.size := a2.mono (by omega) (Nat.le_refl _)
    have n0 : W.cell? ⟨B, j * 14, none⟩ = some v0 := by rw [hcell]; simp only [Array.getElem?_setIfInBounds, Array.size_setIfInBounds]; rw [if_neg (by omega), if_neg (by omega), if_neg (by omega), if_neg (by omega), if_neg (by omega), if_neg (by omega), if_neg (by omega), if_neg (by omega), if_neg (by omega), if_neg (by omega), if_neg (by omega), if_neg (by omega), if_neg (by omega), if_pos trivial, if_pos (by omega)]
    have n1 : W.cell? ⟨B, j * 14 + 1, none⟩ = some v1 := by rw [hcell]; simp only [Array.getElem?_setIfInBounds, Array.size_setIfInBounds]; rw [if_neg (by omega), if_neg (by omega), if_neg (by omega), if_neg (by omega), if_neg (by omega), if_neg (by omega), if_neg (by omega), if_neg (by omega), if_neg (by omega), if_neg (by omega), if_neg (by omega), if_neg (by omega), if_pos trivial, if_pos (by omega)]
    have n2 : W.cell? ⟨B, j * 14 + 2, none⟩ = some v2 := by rw [hcell]; simp only [Array.getElem?_setIfInBounds, Array.size_setIfInBounds]; rw [if_neg (by omega), if_neg (by omega), if_neg (by omega), if_neg (by omega), if_neg (by omega), if_neg (by omega), if_neg (by omega), if_neg (by omega), if_neg (by omega), if_neg (by omega), if_neg (by omega), if_pos trivial, if_pos (by omega)]
    have n3 : W.cell? ⟨B, j * 14 + 3, none⟩ = some v3 := by rw [hcell]; simp only [Array.getElem?_setIfInBounds, Array.size_setIfInBounds]; rw [if_neg (by omega), if_neg (by omega), if_neg (by omega), if_neg (by omega), if_neg (by omega), if_neg (by omega), if_neg (by omega), if_neg (by omega), if_neg (by omega), if_neg (by omega), if_pos trivial, if_pos (by omega)]
    have n4 : W.cell? ⟨B, j * 14 + 4, none⟩ = some v4 := by rw [hcell]; simp only [Array.getElem?_setIfInBounds, Array.size_setIfInBounds]; rw [if_neg (by omega), if_neg (by omega), if_neg (by omega), if_neg (by omega), if_neg (by omega), if_neg (by omega), if_neg (by omega), if_neg (by omega), if_neg (by omega), if_pos trivial, if_pos (by omega)]
    have n5 : W.cell? ⟨B, j * 14 + 5, none⟩ = some v5 := by rw [hcell]; simp only [Array.getElem?_setIfInBounds, Array.size_setIfInBounds]; rw [if_neg (by omega), if_neg (by omega), if_neg (by omega), if_neg (by omega), if_neg (by omega), if_neg (by omega), if_neg (by omega), if_neg (by omega), if_pos trivial, if_pos (by omega)]
    have n6 : W.cell? ⟨B, j * 14 + 6, none⟩ = some v6 := by rw [hcell]; simp only [Array.getElem?_setIfInBounds, Array.size_setIfInBounds]; rw [if_neg (by omega), if_neg (by omega), if_neg (by omega), if_neg (by omega), if_neg (by omega), if_neg (by omega), if_neg (by omega), if_pos trivial, if_pos (by omega)]
    have n7 : W.cell? ⟨B, j * 14 + 7, none⟩ = some v7 := by rw [hcell]; simp only [Array.getElem?_setIfInBounds, Array.size_setIfInBounds]; rw [if_neg (by omega), if_neg (by omega), if_neg (by omega), if_neg (by omega), if_neg (by omega), if_neg (by omega), if_pos trivial, if_pos (by omega)]
    have n8 : W.cell? ⟨B, j * 14 + 8, none⟩ = some v8 := by rw [hcell]; simp only [Array.getElem?_setIfInBounds, Array.size_setIfInBounds]; rw [if_neg (by omega), if_neg (by omega), if_neg (by omega), if_neg (by omega), if_neg (by omega), if_pos trivial, if_pos (by omega)]
    have n9 : W.cell? ⟨B, j * 14 + 9, none⟩ = some v9 := by rw [hcell]; simp only [Array.getElem?_setIfInBounds, Array.size_setIfInBounds]; rw [if_neg (by omega), if_neg (by omega), if_neg (by omega), if_neg (by omega), if_pos trivial, if_pos (by omega)]
    have n10 : W.cell? ⟨B, j * 14 + 10, none⟩ = some v10 := by rw [hcell]; simp only [Array.getElem?_setIfInBounds, Array.size_setIfInBounds]; rw [if_neg (by omega), if_neg (by omega), if_neg (by omega), if_pos trivial, if_pos (by omega)]
    have n11 : W.cell? ⟨B, j * 14 + 11, none⟩ = some v11 := by rw [hcell]; simp only [Array.getElem?_setIfInBounds, Array.size_setIfInBounds]; rw [if_neg (by omega), if_neg (by omega), if_pos trivial, if_pos (by omega)]
    have n12 : W.cell? ⟨B, j * 14 + 12, none⟩ = some v12 := by rw [hcell]; simp only [Array.getElem?_setIfInBounds, Array.size_setIfInBounds]; rw [if_neg (by omega), if_pos trivial, if_pos (by omega)]
    have n13 : W.cell? ⟨B, j * 14 + 13, none⟩ = some v13 := by rw [hcell]; simp only [Array.getElem?_setIfInBounds, Array.size_setIfInBounds]; rw [if_pos trivial, if_pos (by omega)]
    rw [hv0] at n0; rw [hv1] at n1; rw [hv2] at n2; rw [hv3] at n3; rw [hv4] at n4; rw [hv5] at n5; rw [hv6] at n6; rw [hv7] at n7; rw [hv8] at n8; rw [hv9] at n9; rw [hv10] at n10; rw [hv11] at n11; rw [hv12] at n12; rw [hv13] at n13
    refine ⟨(hcl _ (by omega)).trans n0, (hcl _ (by omega)).trans n1, (hcl _ (by omega)).trans n2, ⟨Apf, pf.len, (hcl _ (by omega)).trans n3, (hApf.agree a3).mono (by omega) hh⟩, (hcl _ (by omega)).trans n4, (hcl _ (by omega)).trans n5, (hcl _ (by omega)).trans n6, (hcl _ (by omega)).trans n7, ⟨Agcf, gcf.len, (hcl _ (by omega)).trans n8, (hAgcf.agree a3).mono (by omega) hh⟩, ⟨Agks, gks.len, (hcl _ (by omega)).trans n9, (hAgks.agree a3).mono (by omega) hh⟩, (hcl _ (by omega)).trans n10, (hcl _ (by omega)).trans n11, ⟨Aqf, qf.len, (hcl _ (by omega)).trans n12, (hAqf.agree a3).mono (by omega) hh⟩, ⟨Aks, ks.len, (hcl _ (by omega)).trans n13, (hAks.agree a3).mono (by omega) hh⟩, ?_⟩
    rw [e2, show (j + 1) * 14 = j * 14 + 14 from by omega] at hr
    exact hr
theorem rows_end {E : TypeId} {f : Dv} {B : Nat} {wr : World} {lo : Nat} (h : Rows E f B wr f.len) (hlo : lo ≤ B) : f.LiesIn wr lo wr.heap.size (some ⟨B, 0, none⟩) := by
  obtain ⟨_, hlt, hd⟩ := h
  refine fun _ => ⟨B, 0, rfl, hlo, hlt, AtIn.mono (by omega) (Nat.le_refl _) (hd wr wr.heap.size (Nat.le_refl _) (Fo.Agree.refl _ _ _) (fun _ _ => rfl) ?_)⟩
  rw [drop_len]
  trivial
end Dv
end Go.Proofs.YtlpgkhdecccmlaaR
