/- A range over an iterator that ranges over another one itself: what the caller keeps of it, and the loop. -/
import Derived.Test.YtojheipllpkgdaaDoorProg
import Derived.RangeFuncNested
import Derived.RangeFuncBox
import Derived.RangeFuncLeaves
import Derived.Shelf.Abstract
import Derived.WalkKit
import Derived.OwnWalkIn
import Derived.TacticsInMore
import Derived.LoopNIn
import Derived.LoopIn
namespace Go.Proofs.YtojheipllpkgdaaDoor
open Go.RowKit Go.Shelf
set_option linter.unusedVariables false

/-- Cells stay, but in the blocks of a set. -/
structure KC (E : Nat → Prop) (W W' : World) : Prop where
  size : W.heap.size ≤ W'.heap.size
  same : ∀ (k : Nat) (o : Obj), ¬ E k → W.heap[k]? = some o → o.isCells = true → W'.heap[k]? = some o
theorem KC.refl (E : Nat → Prop) (W : World) : KC E W W := ⟨Nat.le_refl _, fun _ _ _ h _ => h⟩
theorem KC.trans {E : Nat → Prop} {X Y Z : World} (h : KC E X Y) (k : KC E Y Z) : KC E X Z := ⟨Nat.le_trans h.size k.size, fun i o hE hi ho => k.same i o hE (h.same i o hE hi ho) ho⟩
theorem KC.grown {E : Nat → Prop} {W W' : World} {row : Option Nat} (hg : W.grownBy W' row) (hr : ∀ r, row = some r → E r ∨ ∃ o, W.heap[r]? = some o ∧ o.isCells = false) : KC E W W' :=
  ⟨hg.size, fun k o hE hk ho => (hg.block k (Array.getElem?_eq_some_iff.1 hk).1 (fun e => by
    rcases hr k e.symm with h | ⟨o', h1, h2⟩
    · exact hE h
    · rw [hk] at h1; cases h1; rw [ho] at h2; cases h2)).trans hk⟩
theorem KC.put {E : Nat → Prop} {W : World} {l : Nat} {o : Obj} (o' : Obj) (h : W.heap[l]? = some o) (ho : o.isCells = false) : KC E W (W.putObj l o') :=
  KC.grown (grownBy_putObj' W l o') (fun r e => by cases e; exact .inr ⟨o, h, ho⟩)
theorem KC.of_below {E : Nat → Prop} {W W' : World} (h : Below W.heap.size W W') : KC E W W' := ⟨h.size, fun k o _ hk _ => (h.block k (Array.getElem?_eq_some_iff.1 hk).1).trans hk⟩
theorem kf_put {B l : Nat} {W : World} (o' : Obj) (h : l < B) : KeepsFrom B W (W.putObj l o') := KeepsFrom.of_grownBy (grownBy_putObj' W l o') (fun j e => by cases e; exact h)
theorem kf_below {B : Nat} {W W' : World} (h : Below W.heap.size W W') : KeepsFrom B W W' := ⟨h.size, fun k o _ hk _ => (h.block k (Array.getElem?_eq_some_iff.1 hk).1).trans hk⟩

/-- The iterator's word to a caller whose own state minds no block that is no cells and was made since. -/
def SeqM {α : Type} (F : Fence) (n : Nat) (P : Program) (g : Nat) (lb : Array Value) (encs : α → Array Value) (E : Nat → Prop) (S Sp : List α → Prop) (N : Nat) (w : World) : Prop :=
  ∀ (l : Nat) (J Jx : List α → World → Prop) (W : World), Below w.heap.size w W → OwnFrom W.heap.size J → OwnFrom W.heap.size Jx →
    (∀ pre x W1, J pre W1 → pre.length < N → YieldAt F (n - 1) P l (encs x) W1 fun e W' =>
      (e = .returned (.bool true) ∧ J (pre ++ [x]) W' ∧ KeepsFrom W.heap.size W1 W' ∧ KC E W1 W') ∨ (e = .returned (.bool false) ∧ Jx (pre ++ [x]) W' ∧ KeepsFrom W.heap.size W1 W' ∧ KC E W1 W')) →
    J [] W →
    CallsIn F n P g (#[.func (.yield l) #[] #[]] ++ lb) W fun e W' => (∃ v, e = .returned v) ∧ ((∃ xs, S xs ∧ J xs W') ∨ (∃ pre, Sp pre ∧ Jx pre W'))

/-- How a round may be left: it goes on, or it returns. -/
def postM {α : Type} (B : Nat) (E : Nat → Prop) (I Ix : List α → World → Prop) (xs : List α) (W : World) : Exit → Act → World → Prop
  | .normal, _, W' => KeepsFrom B W W' ∧ KC E W W' ∧ I xs W'
  | .ret, _, W' => KeepsFrom B W W' ∧ KC E W W' ∧ Ix xs W'
  | _, _, _ => False

theorem range_seqM {F : Fence} {n : Nat} {P : Program} {α : Type} {g : Operand} {ps : Array Tmp} {assign body : Code} {Q : Exit → Act → World → Prop} {a : Act} {w : World}
    (hro : F.round = none) (h1 : 1 ≤ n) {gf : Nat} {lb : Array Value} (hg : a.eval g = .func (.func gf) #[] lb) (hFg : F.fn gf) (eg : ∀ args w, (callFunc gf args).run P w = .ok (.enter gf args) w)
    {encs : α → Array Value} {E : Nat → Prop} {S Sp : List α → Prop} {N : Nat} {w0 : World} (hseq : SeqM F (n - 1) P gf lb encs E S Sp N w0) (hb0 : Below w0.heap.size w0 w) (hps : ∀ x, (encs x).size = ps.size)
    (I Ix : List α → World → Prop) (hI : OwnFrom w.heap.size I) (hIx : OwnFrom w.heap.size Ix) (h0 : I [] w) (Ax : α → Act → World → Prop) (hAx : ∀ x a', OwnFrom w.heap.size (fun (_ : Unit) W => Ax x a' W))
    (hassign : ∀ (l : Nat) (pre : List α) (x : α) (W : World) (K : Act → World → Prop), I pre W → (∀ a' W', KeepsFrom w.heap.size W W' → KC E W W' → I pre W' → Ax x a' W' → K a' W') → assign.wpIn (F.inRound l) (n - 1 - 1) P (Exit.then K (fun _ _ _ => False)) { tmps := (ps.zip (encs x)).foldl (fun t (p, v) => t.setIfInBounds p v) a.tmps, defers := [] } W)
    (hbody : ∀ (l : Nat) (pre : List α) (x : α) (a' : Act) (W : World), I pre W → Ax x a' W → pre.length < N → body.wpIn (F.inRound l) (n - 1 - 1) P (postM w.heap.size E I Ix (pre ++ [x]) W) a' W)
    (hdone : ∀ (D : Nat) (xs : List α) (W : World), w.heap.size ≤ D → S xs → I xs W → W.heap[D]? = some (.deferred (some [])) → Q .normal { a with defers := { target := .collected D, args := #[] } :: a.defers } W)
    (hstop : ∀ (D : Nat) (pre : List α) (W : World), w.heap.size ≤ D → Sp pre → Ix pre W → W.heap[D]? = some (.deferred (some [])) → Code.ret.wpIn F n P Q { a with defers := { target := .collected D, args := #[] } :: a.defers } W) :
    (Code.rangeFunc g ps assign body).wpIn F n P Q a w := by
  refine wpIn_rangeFunc fun fn hfn => ?_
  rw [hro]
  let d0 : Nat := w.heap.size
  obtain ⟨rc, hrc⟩ : ∃ rc : LoopState → Option Code → Loop, rc = fun s j => { state := s, pending := j, fn := fn, tmps := a.tmps, params := ps, assign := assign, body := body, defers := w.heap.size } := ⟨_, rfl⟩
  have hst : ∀ s j, (rc s j).state = s ∧ (rc s j).fn = fn ∧ (rc s j).tmps = a.tmps ∧ (rc s j).params = ps ∧ (rc s j).assign = assign ∧ (rc s j).body = body ∧ (rc s j).pending = j := fun s j => by rw [hrc]; exact ⟨rfl, rfl, rfl, rfl, rfl, rfl, rfl⟩
  obtain ⟨V, hV⟩ : ∃ V, V = (w.alloc (.deferred (some []))).alloc (.loop (rc .ready none)) := ⟨_, rfl⟩
  have zV : V.heap.size = w.heap.size + 2 := by rw [hV]; simp
  have vL : V.heap[w.heap.size + 1]? = some (.loop (rc .ready none)) := by
    have := World.alloc_heap_new (w.alloc (.deferred (some []))) (.loop (rc .ready none))
    rw [World.size_alloc] at this
    rw [hV]; exact this
  have vD : V.heap[w.heap.size]? = some (.deferred (some [])) := by
    rw [hV]; exact (Below.heap_alloc _ _ _ (by simp)).trans (World.alloc_heap_new w _)
  have vI : I [] V := by rw [hV]; exact hI.alloc _ (hI.alloc _ h0)
  have vB : Below w0.heap.size w0 V := by
    rw [hV]; exact hb0.trans ((((Below.refl _ w).alloc (Nat.le_refl _) _).alloc (by simp) _).mono hb0.size)
  have begins : (Instr.enterLoop fn a.tmps ps assign body none).run P w = .ok (w.heap.size + 1, [{ target := .collected w.heap.size, args := #[] }]) V := by
    rw [hV, hrc]; exact run_enterLoop_outer _ _ _ _ _
  refine ⟨_, _, V, { target := .fn (.func gf) lb, args := #[.func (.yield (w.heap.size + 1)) #[] #[]] }, V, gf, #[.func (.yield (w.heap.size + 1)) #[] #[]] ++ lb, V, begins, ?_, ?_, ?_, fun _ => h1, ?_⟩
  · simp only [resolve, hg]
    simp [go_sem]
  · intro f' hf'
    simp [Target.leads] at hf'
    subst hf'
    exact hFg
  · simp [invoke, go_sem, eg]
  have far : ∀ {A A' : World} {row : Option Nat}, A.grownBy A' row → (∀ r, row = some r → V.heap.size ≤ r ∧ ∃ o : Obj, A.heap[r]? = some o ∧ o.isCells = false) → ∀ (k : Nat) (o : Obj), k < V.heap.size → A.heap[k]? = some o → A'.heap[k]? = some o := fun hgr hr k o hk hA =>
    (hgr.block k (Array.getElem?_eq_some_iff.1 hA).1 (fun e => by have := (hr k e.symm).1; omega)).trans hA
  have low : ∀ {A : World} {row : Option Nat}, (∀ r, row = some r → V.heap.size ≤ r ∧ ∃ o : Obj, A.heap[r]? = some o ∧ o.isCells = false) → ∀ r, row = some r → w.heap.size ≤ r ∧ ∃ o : Obj, A.heap[r]? = some o ∧ o.isCells = false := fun hr r e => ⟨by have := (hr r e).1; omega, (hr r e).2⟩
  refine (hseq (w.heap.size + 1) (fun pre A => I pre A ∧ A.heap[w.heap.size + 1]? = some (.loop (rc .ready none)) ∧ A.heap[w.heap.size]? = some (.deferred (some [])))
    (fun pre A => Ix pre A ∧ A.heap[w.heap.size + 1]? = some (.loop (rc .done (some .ret))) ∧ A.heap[w.heap.size]? = some (.deferred (some []))) V vB
    (fun s A A' row hs hgr hr => ⟨hI s A A' row hs.1 hgr (low hr), far hgr hr _ _ (by omega) hs.2.1, far hgr hr _ _ (by omega) hs.2.2⟩)
    (fun s A A' row hs hgr hr => ⟨hIx s A A' row hs.1 hgr (low hr), far hgr hr _ _ (by omega) hs.2.1, far hgr hr _ _ (by omega) hs.2.2⟩) ?_ ⟨vI, vL, vD⟩).mono ?_
  · rintro pre x A ⟨hi, hl, hd⟩ hlen
    have ey := run_yield (P := P) (args := encs x) hl (by rw [(hst _ _).2.2.2.1]; exact hps x)
    obtain ⟨_, e1, e2, e3, e4, e5, _⟩ := hst .ready none
    rw [e1, e2, e3, e4, e5] at ey
    refine ⟨fn, _, assign, body, ey, roundIn_of_wpIn hfn (hassign _ pre x A _ hi ?_)⟩
    clear ey e1 e2 e3 e4 e5
    intro a' A0 k0 c0 i0 hax
    replace hl := k0.same _ _ (by omega) hl rfl
    replace hd := k0.same _ _ (Nat.le_refl _) hd rfl
    clear hi
    have hi := i0
    clear i0
    have K0 : KeepsFrom V.heap.size A A0 := ⟨k0.size, fun k o h2 h3 h4 => k0.same k o (by omega) h3 h4⟩
    clear k0
    revert K0 c0
    generalize A = Ab
    intro c0 K0
    obtain ⟨A, rfl⟩ : ∃ A, A = A0 := ⟨_, rfl⟩
    obtain ⟨A1, hA1⟩ : ∃ A1, A1 = A.putObj (w.heap.size + 1) (.loop { rc .ready none with state := .busy }) := ⟨_, rfl⟩
    have lt1 : w.heap.size + 1 < A.heap.size := (Array.getElem?_eq_some_iff.1 hl).1
    have l1 : A1.heap[w.heap.size + 1]? = some (.loop { rc .ready none with state := .busy }) := by rw [hA1]; exact World.putObj_heap_same lt1
    have d1 : A1.heap[w.heap.size]? = some (.deferred (some [])) := by rw [hA1]; exact (World.putObj_heap_other (by omega)).trans hd
    have i1 : I pre A1 := by rw [hA1]; exact hI.putObj _ hi (by omega) hl rfl
    have f1 : KeepsFrom V.heap.size A A1 := by rw [hA1]; exact kf_put _ (by omega)
    have c1 : KC E A A1 := by rw [hA1]; exact KC.put _ hl rfl
    refine ⟨A1, by rw [hA1]; exact run_beginRound hl (hst _ _).1, ?_⟩
    have x1 : Ax x a' A1 := by rw [hA1]; exact (hAx x a').putObj (s := ()) _ hax (by omega) hl rfl
    refine wpIn_mono (hbody _ pre x a' A1 i1 x1 hlen) ?_
    have ends : ∀ (j : Option Code) (A3 : World), KeepsFrom w.heap.size A1 A3 → KC E A1 A3 →
        ∃ A4, (Instr.endRound (w.heap.size + 1) j).run P A3 = .ok (.bool j.isNone) A4 ∧ A4 = A3.putObj (w.heap.size + 1) (.loop (rc (if j.isNone then .ready else .done) j)) ∧ A3.heap[w.heap.size + 1]? = some (.loop { rc .ready none with state := .busy }) ∧
          A4.heap[w.heap.size + 1]? = some (.loop (rc (if j.isNone then .ready else .done) j)) ∧ A4.heap[w.heap.size]? = some (.deferred (some [])) ∧ KeepsFrom V.heap.size Ab A4 ∧ KC E Ab A4 := fun j A3 hk hc => by
      have l3 := hk.same _ _ (by omega) l1 rfl
      have d3 := hk.same _ _ (Nat.le_refl _) d1 rfl
      have er := run_endRound (P := P) j l3
      refine ⟨A3.putObj (w.heap.size + 1) (.loop (rc (if j.isNone then .ready else .done) j)), by rw [er, hrc], rfl, l3, World.putObj_heap_same (Array.getElem?_eq_some_iff.1 l3).1, (World.putObj_heap_other (by omega)).trans d3, ?_, ((c0.trans c1).trans hc).trans (KC.put _ l3 rfl)⟩
      exact ((K0.trans f1).trans ⟨hk.size, fun k o h2 h3 h4 => hk.same k o (by omega) h3 h4⟩).trans (kf_put _ (by omega))
    rintro e a3 A3 hp
    cases e with
    | normal =>
      obtain ⟨hk, hc, h3⟩ := hp
      obtain ⟨A4, hr, hA4, l3, l4, d4, k4, c4⟩ := ends none A3 hk hc
      refine ⟨_, _, hr, .inl ⟨rfl, ⟨?_, l4, d4⟩, k4, c4⟩⟩
      rw [hA4]; exact hI.putObj _ h3 (by omega) l3 rfl
    | ret =>
      obtain ⟨hk, hc, h3⟩ := hp
      obtain ⟨A4, hr, hA4, l3, l4, d4, k4, c4⟩ := ends (some .ret) A3 hk hc
      refine ⟨_, _, hr, .inr ⟨rfl, ⟨?_, l4, d4⟩, k4, c4⟩⟩
      rw [hA4]; exact hIx.putObj _ h3 (by omega) l3 rfl
    | exit id => exact hp.elim
    | goto t => exact hp.elim
    | panic ch => exact hp.elim
    | outgrown => exact hp.elim
  · rintro e A ⟨⟨v, rfl⟩, h⟩
    rcases h with ⟨xs, hS, hi, hl, hd⟩ | ⟨pre, hS, hi, hl, hd⟩
    · have er := run_endLoop (P := P) hl (by rw [(hst _ _).1]; simp)
      rw [(hst _ _).2.2.2.2.2.2] at er
      exact ⟨none, _, er, hdone _ xs _ (Nat.le_refl _) hS (hI.putObj _ hi (by omega) hl rfl) ((World.putObj_heap_other (by omega)).trans hd)⟩
    · have er := run_endLoop (P := P) hl (by rw [(hst _ _).1]; simp)
      rw [(hst _ _).2.2.2.2.2.2] at er
      exact ⟨some .ret, _, er, hstop _ pre _ (Nat.le_refl _) hS (hIx.putObj _ hi (by omega) hl rfl) ((World.putObj_heap_other (by omega)).trans hd)⟩
end Go.Proofs.YtojheipllpkgdaaDoor
