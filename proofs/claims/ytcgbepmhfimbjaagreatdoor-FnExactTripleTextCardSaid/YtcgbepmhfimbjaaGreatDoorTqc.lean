/- A range over an iterator that ranges over another one itself: what the caller keeps of it, and the loop. Rows of integers that a call owns: append onto them; contracts of spec.l00Own, spec.l01Back. Contracts of slices.Grow at a nil slice, and slices.Concat, at []int64. The nodes of a program, one after the other: what impl.visit tells its caller's rounds. impl.places, impl.nodesIn: iterators over the nodes of a program. Contract of impl.Prog.hasForm. -/
import Derived.Test.YtcgbepmhfimbjaaGreatDoorProg
import Derived.RangeFuncNested
import Derived.RangeFuncBox
import Derived.RangeFuncLeaves
import Derived.Shelf.Abstract
import Derived.WalkKit
import Derived.OwnWalkIn
import Derived.TacticsInMore
import Derived.LoopNIn
import Derived.LoopIn
import Derived.Test.YtcgbepmhfimbjaaGreatDoorWordC
import Derived.Maps.AppendAt
import Derived.Deep.AppendLies
import Derived.RegionTactic
import Derived.OwnWalk
import Derived.Lib.AppendZeros
import Derived.Test.YtcgbepmhfimbjaaGreatDoorVpD
import Derived.RegionIn
import Derived.Stop.RegionWithIn
import Derived.Shelf.RegionOpen
import Derived.RangeFuncBound
import Derived.Test.YtcgbepmhfimbjaaGreatDoorTqa
namespace Go.Proofs.YtcgbepmhfimbjaaGreatDoor
open Go.RowKit Go.Shelf
set_option linter.unusedVariables false

/-- Cells stay, but in the blocks of a set. -/
structure KC (E : Nat → Prop) (W W' : World) : Prop where
  size : W.heap.size ≤ W'.heap.size
  same : ∀ (k : Nat) (o : Obj), ¬ E k → W.heap[k]? = some o → o.isCells = true → W'.heap[k]? = some o
theorem KC.refl (E : Nat → Prop) (W : World) : KC E W W := ⟨Nat.le_refl _, fun _ _ _ h _ => h⟩
theorem KC.trans {E : Nat → Prop} {X Y Z : World} (h : KC E X Y) (k : KC E Y Z) : KC E X Z := ⟨Nat.le_trans h.size k.size, fun i o hE hi ho => k.same i o hE (h.same i o hE hi ho) ho⟩
theorem KC.grown {E : Nat → Prop} {W W' : World} {row : Option Nat} (hg : W.grownBy W' row) (hr : ∀ r, row = some r → E r ∨ ∃ o, W.heap[r]? = some o ∧ o.isCells = false) : KC E W W' :=
  ⟨hg.size, fun k o hE hk ho => (hg.block k (Array.getElem?_eq_some_iff.1 hk).1 (fun e => by
    rcases hr k e.symm with h | ⟨o', h1, h2⟩
    · exact hE h
    · rw [hk] at h1; cases h1; rw [ho] at h2; cases h2)).trans hk⟩
theorem KC.put {E : Nat → Prop} {W : World} {l : Nat} {o : Obj} (o' : Obj) (h : W.heap[l]? = some o) (ho : o.isCells = false) : KC E W (W.putObj l o') :=
  KC.grown (grownBy_putObj' W l o') (fun r e => by cases e; exact .inr ⟨o, h, ho⟩)
theorem KC.of_below {E : Nat → Prop} {W W' : World} (h : Below W.heap.size W W') : KC E W W' := ⟨h.size, fun k o _ hk _ => (h.block k (Array.getElem?_eq_some_iff.1 hk).1).trans hk⟩
theorem kf_put {B l : Nat} {W : World} (o' : Obj) (h : l < B) : KeepsFrom B W (W.putObj l o') := KeepsFrom.of_grownBy (grownBy_putObj' W l o') (fun j e => by cases e; exact h)
theorem kf_below {B : Nat} {W W' : World} (h : Below W.heap.size W W') : KeepsFrom B W W' := ⟨h.size, fun k o _ hk _ => (h.block k (Array.getElem?_eq_some_iff.1 hk).1).trans hk⟩

/-- The iterator's word to a caller whose own state minds no block that is no cells and was made since. -/
def SeqM {α : Type} (F : Fence) (n : Nat) (P : Program) (g : Nat) (lb : Array Value) (encs : α → Array Value) (E : Nat → Prop) (S Sp : List α → Prop) (N : Nat) (w : World) : Prop :=
  ∀ (l : Nat) (J Jx : List α → World → Prop) (W : World), Below w.heap.size w W → OwnFrom W.heap.size J → OwnFrom W.heap.size Jx →
    (∀ pre x W1, J pre W1 → pre.length < N → YieldAt F (n - 1) P l (encs x) W1 fun e W' =>
      (e = .returned (.bool true) ∧ J (pre ++ [x]) W' ∧ KeepsFrom W.heap.size W1 W' ∧ KC E W1 W') ∨ (e = .returned (.bool false) ∧ Jx (pre ++ [x]) W' ∧ KeepsFrom W.heap.size W1 W' ∧ KC E W1 W')) →
    J [] W →
    CallsIn F n P g (#[.func (.yield l) #[] #[]] ++ lb) W fun e W' => (∃ v, e = .returned v) ∧ ((∃ xs, S xs ∧ J xs W') ∨ (∃ pre, Sp pre ∧ Jx pre W'))

/-- How a round may be left: it goes on, or it returns. -/
def postM {α : Type} (B : Nat) (E : Nat → Prop) (I Ix : List α → World → Prop) (xs : List α) (W : World) : Exit → Act → World → Prop
  | .normal, _, W' => KeepsFrom B W W' ∧ KC E W W' ∧ I xs W'
  | .ret, _, W' => KeepsFrom B W W' ∧ KC E W W' ∧ Ix xs W'
  | _, _, _ => False

theorem range_seqM {F : Fence} {n : Nat} {P : Program} {α : Type} {g : Operand} {ps : Array Tmp} {assign body : Code} {Q : Exit → Act → World → Prop} {a : Act} {w : World}
    (hro : F.round = none) (h1 : 1 ≤ n) {gf : Nat} {lb : Array Value} (hg : a.eval g = .func (.func gf) #[] lb) (hFg : F.fn gf) (eg : ∀ args w, (callFunc gf args).run P w = .ok (.enter gf args) w)
    {encs : α → Array Value} {E : Nat → Prop} {S Sp : List α → Prop} {N : Nat} {w0 : World} (hseq : SeqM F (n - 1) P gf lb encs E S Sp N w0) (hb0 : Below w0.heap.size w0 w) (hps : ∀ x, (encs x).size = ps.size)
    (I Ix : List α → World → Prop) (hI : OwnFrom w.heap.size I) (hIx : OwnFrom w.heap.size Ix) (h0 : I [] w) (Ax : α → Act → World → Prop) (hAx : ∀ x a', OwnFrom w.heap.size (fun (_ : Unit) W => Ax x a' W))
    (hassign : ∀ (l : Nat) (pre : List α) (x : α) (W : World) (K : Act → World → Prop), I pre W → (∀ a' W', KeepsFrom w.heap.size W W' → KC E W W' → I pre W' → Ax x a' W' → K a' W') → assign.wpIn (F.inRound l) (n - 1 - 1) P (Exit.then K (fun _ _ _ => False)) { tmps := (ps.zip (encs x)).foldl (fun t (p, v) => t.setIfInBounds p v) a.tmps, defers := [] } W)
    (hbody : ∀ (l : Nat) (pre : List α) (x : α) (a' : Act) (W : World), I pre W → Ax x a' W → pre.length < N → body.wpIn (F.inRound l) (n - 1 - 1) P (postM w.heap.size E I Ix (pre ++ [x]) W) a' W)
    (hdone : ∀ (D : Nat) (xs : List α) (W : World), w.heap.size ≤ D → S xs → I xs W → W.heap[D]? = some (.deferred (some [])) → Q .normal { a with defers := { target := .collected D, args := #[] } :: a.defers } W)
    (hstop : ∀ (D : Nat) (pre : List α) (W : World), w.heap.size ≤ D → Sp pre → Ix pre W → W.heap[D]? = some (.deferred (some [])) → Code.ret.wpIn F n P Q { a with defers := { target := .collected D, args := #[] } :: a.defers } W) :
    (Code.rangeFunc g ps assign body).wpIn F n P Q a w := by
  refine wpIn_rangeFunc fun fn hfn => ?_
  rw [hro]
  let d0 : Nat := w.heap.size
  obtain ⟨rc, hrc⟩ : ∃ rc : LoopState → Option Code → Loop, rc = fun s j => { state := s, pending := j, fn := fn, tmps := a.tmps, params := ps, assign := assign, body := body, defers := w.heap.size } := ⟨_, rfl⟩
  have hst : ∀ s j, (rc s j).state = s ∧ (rc s j).fn = fn ∧ (rc s j).tmps = a.tmps ∧ (rc s j).params = ps ∧ (rc s j).assign = assign ∧ (rc s j).body = body ∧ (rc s j).pending = j := fun s j => by rw [hrc]; exact ⟨rfl, rfl, rfl, rfl, rfl, rfl, rfl⟩
  obtain ⟨V, hV⟩ : ∃ V, V = (w.alloc (.deferred (some []))).alloc (.loop (rc .ready none)) := ⟨_, rfl⟩
  have zV : V.heap.size = w.heap.size + 2 := by rw [hV]; simp
  have vL : V.heap[w.heap.size + 1]? = some (.loop (rc .ready none)) := by
    have := World.alloc_heap_new (w.alloc (.deferred (some []))) (.loop (rc .ready none))
    rw [World.size_alloc] at this
    rw [hV]; exact this
  have vD : V.heap[w.heap.size]? = some (.deferred (some [])) := by
    rw [hV]; exact (Below.heap_alloc _ _ _ (by simp)).trans (World.alloc_heap_new w _)
  have vI : I [] V := by rw [hV]; exact hI.alloc _ (hI.alloc _ h0)
  have vB : Below w0.heap.size w0 V := by
    rw [hV]; exact hb0.trans ((((Below.refl _ w).alloc (Nat.le_refl _) _).alloc (by simp) _).mono hb0.size)
  have begins : (Instr.enterLoop fn a.tmps ps assign body none).run P w = .ok (w.heap.size + 1, [{ target := .collected w.heap.size, args := #[] }]) V := by
    rw [hV, hrc]; exact run_enterLoop_outer _ _ _ _ _
  refine ⟨_, _, V, { target := .fn (.func gf) lb, args := #[.func (.yield (w.heap.size + 1)) #[] #[]] }, V, gf, #[.func (.yield (w.heap.size + 1)) #[] #[]] ++ lb, V, begins, ?_, ?_, ?_, fun _ => h1, ?_⟩
  · simp only [resolve, hg]
    simp [go_sem]
  · intro f' hf'
    simp [Target.leads] at hf'
    subst hf'
    exact hFg
  · simp [invoke, go_sem, eg]
  have far : ∀ {A A' : World} {row : Option Nat}, A.grownBy A' row → (∀ r, row = some r → V.heap.size ≤ r ∧ ∃ o : Obj, A.heap[r]? = some o ∧ o.isCells = false) → ∀ (k : Nat) (o : Obj), k < V.heap.size → A.heap[k]? = some o → A'.heap[k]? = some o := fun hgr hr k o hk hA =>
    (hgr.block k (Array.getElem?_eq_some_iff.1 hA).1 (fun e => by have := (hr k e.symm).1; omega)).trans hA
  have low : ∀ {A : World} {row : Option Nat}, (∀ r, row = some r → V.heap.size ≤ r ∧ ∃ o : Obj, A.heap[r]? = some o ∧ o.isCells = false) → ∀ r, row = some r → w.heap.size ≤ r ∧ ∃ o : Obj, A.heap[r]? = some o ∧ o.isCells = false := fun hr r e => ⟨by have := (hr r e).1; omega, (hr r e).2⟩
  refine (hseq (w.heap.size + 1) (fun pre A => I pre A ∧ A.heap[w.heap.size + 1]? = some (.loop (rc .ready none)) ∧ A.heap[w.heap.size]? = some (.deferred (some [])))
    (fun pre A => Ix pre A ∧ A.heap[w.heap.size + 1]? = some (.loop (rc .done (some .ret))) ∧ A.heap[w.heap.size]? = some (.deferred (some []))) V vB
    (fun s A A' row hs hgr hr => ⟨hI s A A' row hs.1 hgr (low hr), far hgr hr _ _ (by omega) hs.2.1, far hgr hr _ _ (by omega) hs.2.2⟩)
    (fun s A A' row hs hgr hr => ⟨hIx s A A' row hs.1 hgr (low hr), far hgr hr _ _ (by omega) hs.2.1, far hgr hr _ _ (by omega) hs.2.2⟩) ?_ ⟨vI, vL, vD⟩).mono ?_
  · rintro pre x A ⟨hi, hl, hd⟩ hlen
    have ey := run_yield (P := P) (args := encs x) hl (by rw [(hst _ _).2.2.2.1]; exact hps x)
    obtain ⟨_, e1, e2, e3, e4, e5, _⟩ := hst .ready none
    rw [e1, e2, e3, e4, e5] at ey
    refine ⟨fn, _, assign, body, ey, roundIn_of_wpIn hfn (hassign _ pre x A _ hi ?_)⟩
    clear ey e1 e2 e3 e4 e5
    intro a' A0 k0 c0 i0 hax
    replace hl := k0.same _ _ (by omega) hl rfl
    replace hd := k0.same _ _ (Nat.le_refl _) hd rfl
    clear hi
    have hi := i0
    clear i0
    have K0 : KeepsFrom V.heap.size A A0 := ⟨k0.size, fun k o h2 h3 h4 => k0.same k o (by omega) h3 h4⟩
    clear k0
    revert K0 c0
    generalize A = Ab
    intro c0 K0
    obtain ⟨A, rfl⟩ : ∃ A, A = A0 := ⟨_, rfl⟩
    obtain ⟨A1, hA1⟩ : ∃ A1, A1 = A.putObj (w.heap.size + 1) (.loop { rc .ready none with state := .busy }) := ⟨_, rfl⟩
    have lt1 : w.heap.size + 1 < A.heap.size := (Array.getElem?_eq_some_iff.1 hl).1
    have l1 : A1.heap[w.heap.size + 1]? = some (.loop { rc .ready none with state := .busy }) := by rw [hA1]; exact World.putObj_heap_same lt1
    have d1 : A1.heap[w.heap.size]? = some (.deferred (some [])) := by rw [hA1]; exact (World.putObj_heap_other (by omega)).trans hd
    have i1 : I pre A1 := by rw [hA1]; exact hI.putObj _ hi (by omega) hl rfl
    have f1 : KeepsFrom V.heap.size A A1 := by rw [hA1]; exact kf_put _ (by omega)
    have c1 : KC E A A1 := by rw [hA1]; exact KC.put _ hl rfl
    refine ⟨A1, by rw [hA1]; exact run_beginRound hl (hst _ _).1, ?_⟩
    have x1 : Ax x a' A1 := by rw [hA1]; exact (hAx x a').putObj (s := ()) _ hax (by omega) hl rfl
    refine wpIn_mono (hbody _ pre x a' A1 i1 x1 hlen) ?_
    have ends : ∀ (j : Option Code) (A3 : World), KeepsFrom w.heap.size A1 A3 → KC E A1 A3 →
        ∃ A4, (Instr.endRound (w.heap.size + 1) j).run P A3 = .ok (.bool j.isNone) A4 ∧ A4 = A3.putObj (w.heap.size + 1) (.loop (rc (if j.isNone then .ready else .done) j)) ∧ A3.heap[w.heap.size + 1]? = some (.loop { rc .ready none with state := .busy }) ∧
          A4.heap[w.heap.size + 1]? = some (.loop (rc (if j.isNone then .ready else .done) j)) ∧ A4.heap[w.heap.size]? = some (.deferred (some [])) ∧ KeepsFrom V.heap.size Ab A4 ∧ KC E Ab A4 := fun j A3 hk hc => by
      have l3 := hk.same _ _ (by omega) l1 rfl
      have d3 := hk.same _ _ (Nat.le_refl _) d1 rfl
      have er := run_endRound (P := P) j l3
      refine ⟨A3.putObj (w.heap.size + 1) (.loop (rc (if j.isNone then .ready else .done) j)), by rw [er, hrc], rfl, l3, World.putObj_heap_same (Array.getElem?_eq_some_iff.1 l3).1, (World.putObj_heap_other (by omega)).trans d3, ?_, ((c0.trans c1).trans hc).trans (KC.put _ l3 rfl)⟩
      exact ((K0.trans f1).trans ⟨hk.size, fun k o h2 h3 h4 => hk.same k o (by omega) h3 h4⟩).trans (kf_put _ (by omega))
    rintro e a3 A3 hp
    cases e with
    | normal =>
      obtain ⟨hk, hc, h3⟩ := hp
      obtain ⟨A4, hr, hA4, l3, l4, d4, k4, c4⟩ := ends none A3 hk hc
      refine ⟨_, _, hr, .inl ⟨rfl, ⟨?_, l4, d4⟩, k4, c4⟩⟩
      rw [hA4]; exact hI.putObj _ h3 (by omega) l3 rfl
    | ret =>
      obtain ⟨hk, hc, h3⟩ := hp
      obtain ⟨A4, hr, hA4, l3, l4, d4, k4, c4⟩ := ends (some .ret) A3 hk hc
      refine ⟨_, _, hr, .inr ⟨rfl, ⟨?_, l4, d4⟩, k4, c4⟩⟩
      rw [hA4]; exact hIx.putObj _ h3 (by omega) l3 rfl
    | exit id => exact hp.elim
    | goto t => exact hp.elim
    | panic ch => exact hp.elim
    | outgrown => exact hp.elim
  · rintro e A ⟨⟨v, rfl⟩, h⟩
    rcases h with ⟨xs, hS, hi, hl, hd⟩ | ⟨pre, hS, hi, hl, hd⟩
    · have er := run_endLoop (P := P) hl (by rw [(hst _ _).1]; simp)
      rw [(hst _ _).2.2.2.2.2.2] at er
      exact ⟨none, _, er, hdone _ xs _ (Nat.le_refl _) hS (hI.putObj _ hi (by omega) hl rfl) ((World.putObj_heap_other (by omega)).trans hd)⟩
    · have er := run_endLoop (P := P) hl (by rw [(hst _ _).1]; simp)
      rw [(hst _ _).2.2.2.2.2.2] at er
      exact ⟨some .ret, _, er, hstop _ pre _ (Nat.le_refl _) hS (hIx.putObj _ hi (by omega) hl rfl) ((World.putObj_heap_other (by omega)).trans hd)⟩
end Go.Proofs.YtcgbepmhfimbjaaGreatDoor

namespace Go.Proofs.YtcgbepmhfimbjaaGreatDoor
open Go.RowKit

def encs (xs : List Int) : List Value := xs.map (Value.int .i64)
theorem encs_len (xs : List Int) : (encs xs).length = xs.length := by simp [encs]
theorem encs_one (xs : List Int) : ∀ u ∈ encs xs, u.oneCell' = true := by
  intro u hu
  obtain ⟨z, _, rfl⟩ := List.mem_map.1 hu
  rfl
theorem encs_app (xs ys : List Int) : encs xs ++ encs ys = encs (xs ++ ys) := by simp [encs]
theorem encs_get {xs : List Int} {j : Nat} {u : Value} (h : (encs xs)[j]? = some u) : j < xs.length ∧ u = .int .i64 (nth xs j) := by
  obtain ⟨hj, he⟩ := List.getElem?_eq_some_iff.1 h
  rw [encs_len] at hj
  refine ⟨hj, ?_⟩
  rw [← he]
  simp [encs, nth, List.getD, hj]

/-- A row that is owned, as a list in a block of its own. -/
theorem own_ints {w : World} {base n : Nat} {v : Value} {xs : List Int} (h : w.ownsRow base 2 1 v n (encs xs)) (hb : base ≤ w.heap.size) :
    ∃ A C, v = .slice A xs.length C ∧ IntsIn w xs base w.heap.size A := by
  obtain ⟨h1, h2⟩ := h
  rw [encs_len, Nat.mul_one] at h1
  rcases h2 with ⟨rfl, h0⟩ | ⟨g, cap, cur, rfl, hg, hh, hn, _, hs, ht⟩
  · have hx : xs = [] := List.eq_nil_of_length_eq_zero (by omega)
    subst hx
    exact ⟨none, 0, rfl, Or.inl ⟨rfl, hb⟩⟩
  · refine ⟨some ⟨g, 0, none⟩, cap, by rw [h1], Or.inr ⟨g, rfl, hg, (Array.getElem?_eq_some_iff.1 hh).1, fun i => Fo.unfrozen_of_block hh i, fun i hi => ?_⟩⟩
    rw [Fo.cell_of_block hh, ← Array.getElem?_toList]
    have h3 : (cur.toList.take (n * 1))[i]? = (encs xs)[i]? := by rw [ht]
    rw [List.getElem?_take, if_pos (by omega)] at h3
    rw [h3]
    simp [encs, nth, List.getD, hi]

/-- append of a list that lies anywhere, a nil one too. -/
theorem run_append_ints (w : World) (base n m c : Nat) (v : Value) (xs ys : List Int) (A : Option Addr) (ty : TypeId) (hown : w.ownsRow base 2 1 v n (encs xs)) (hy : Ints w ys A) (hm : m = ys.length) (h63 : n + m ≤ 4194304) (hbase : base ≤ w.heap.size) :
    ∃ v' w', (Builtin.append_ #[129, 129] ty #[v, .slice A m c]).run Tryz.prog w = .ok v' w' ∧ w'.ownsRow base 2 1 v' (n + m) (encs (xs ++ ys)) ∧ w.grownBy w' v.ownBlock ∧ (v'.ownBlock = v.ownBlock ∨ v'.ownBlock = some w.heap.size) := by
  obtain ⟨i, hi, hz, hs, hb⟩ := info_parts Tryz.infoI
  have key : ∀ ad : Addr, A = some ad → ∃ v' w', (Builtin.append_ #[129, 129] ty #[v, .slice A m c]).run Tryz.prog w = .ok v' w' ∧ w'.ownsRow base 2 1 v' (n + m) (encs (xs ++ ys)) ∧ w.grownBy w' v.ownBlock ∧ (v'.ownBlock = v.ownBlock ∨ v'.ownBlock = some w.heap.size) := by
    intro ad hA
    have hc : ∀ j u, (encs ys)[j]? = some u → w.cell? (ad.add j) = some u := by
      intro j u hu
      obtain ⟨hj, rfl⟩ := encs_get hu
      obtain ⟨b, o, hA', hat⟩ := hy (by intro h; rw [h] at hj; exact absurd hj (Nat.not_lt_zero _))
      have e : ad = ⟨b, o, none⟩ := Option.some.inj (hA.symm.trans hA')
      rw [e]
      have := hat j hj
      unfold Addr.add
      split
      · rename_i h0; subst h0; simpa using this
      · exact this
    obtain ⟨v', w', hrun, h2, h3, _, h5⟩ := run_append_own_at (P := Tryz.prog) w base 129 ty 2 i _ 1 8 Tryz.underlying129 hi hz hs hb rfl (by omega) v n (encs xs) hown ad m c (encs ys) (by rw [encs_len]; omega) hc (encs_one ys) (by simp only [maxLen]; omega) (by omega) hbase
    rw [encs_app] at h2
    exact ⟨v', w', by rw [hA]; exact hrun, h2, h3, h5⟩
  rcases A with _ | ad
  · have hy0 : ys = [] := by
      cases ys with
      | nil => rfl
      | cons y ys => obtain ⟨b, o, hA, _⟩ := hy (by simp); cases hA
    subst hy0
    have hm0 : m = 0 := hm
    subst hm0
    refine ⟨v, w, ?_, by simpa using hown, World.grownBy.refl w _, .inl rfl⟩
    rcases hown.2 with ⟨rfl, rfl⟩ | ⟨g, cap, cur, rfl, _, _, hnc, _⟩
    · simp [Builtin.append_, run_underlying Tryz.underlying129, sizeOf, typeInfo, hi, Builtin.lenOf, Builtin.firstCells]
    · simp [Builtin.append_, run_underlying Tryz.underlying129, sizeOf, typeInfo, hi, Builtin.lenOf, Builtin.firstCells, hnc, storeCells]
  · exact key ad rfl

theorem wp_append_ints {o : Oper} {a : Act} {K : Act → World → Prop} {Q : Exit → Act → World → Prop} (w : World) (s x : Operand)
    (ho : o.op = .call { callee := .builtin .append, args := #[s, x], argTypes := #[129, 129] })
    (base n m c : Nat) (v : Value) (xs ys : List Int) (A : Option Addr) (hs : a.eval s = v) (hx : a.eval x = .slice A m c) (hown : w.ownsRow base 2 1 v n (encs xs)) (hy : Ints w ys A) (hm : m = ys.length) (h63 : n + m ≤ 4194304) (hbase : base ≤ w.heap.size)
    (h : ∀ v' w', w'.ownsRow base 2 1 v' (n + m) (encs (xs ++ ys)) → w.grownBy w' v.ownBlock → (v'.ownBlock = v.ownBlock ∨ v'.ownBlock = some w.heap.size) → K (a.put o.dst v') w') : o.wp Tryz.prog a w K Q := by
  obtain ⟨v', w', hrun, h2, h3, h4⟩ := run_append_ints w base n m c v xs ys A o.type hown hy hm h63 hbase
  unfold Oper.wp execOp
  simp only [ho, resolve, invoke, builtin, Sem.run_bind, Sem.run_pure, Result.andThen_ok, List.map_toArray, List.map_cons, List.map_nil, hs, hx, hrun]
  exact h v' w' h2 h3 h4

theorem wpList_append_ints {ops : Array Oper} {rest : List Oper} {o : Oper} {a : Act} {Q : Exit → Act → World → Prop} (w : World) (hgd : o.guard = none) (s x : Operand)
    (ho : o.op = .call { callee := .builtin .append, args := #[s, x], argTypes := #[129, 129] })
    (base n m c : Nat) (v : Value) (xs ys : List Int) (A : Option Addr) (hs : a.eval s = v) (hx : a.eval x = .slice A m c) (hown : w.ownsRow base 2 1 v n (encs xs)) (hy : Ints w ys A) (hm : m = ys.length) (h63 : n + m ≤ 4194304) (hbase : base ≤ w.heap.size)
    (h : ∀ v' w', w'.ownsRow base 2 1 v' (n + m) (encs (xs ++ ys)) → w.grownBy w' v.ownBlock → (v'.ownBlock = v.ownBlock ∨ v'.ownBlock = some w.heap.size) → wpList Tryz.prog ops Q rest (a.put o.dst v') w') : wpList Tryz.prog ops Q (o :: rest) a w :=
  wpList_plain hgd fun _ hK => wp_append_ints w s x ho base n m c v xs ys A hs hx hown hy hm h63 hbase fun v' w' h2 h3 h4 => hK _ _ (h v' w' h2 h3 h4)

theorem step_append_ints {ops : Array Oper} {o : Oper} {a : Act} {K : Act → World → Prop} {Q : Exit → Act → World → Prop} {E : Prop} (w : World) (hgd : o.guard = none) (s x : Operand)
    (ho : o.op = .call { callee := .builtin .append, args := #[s, x], argTypes := #[129, 129] })
    (base n m c : Nat) (v : Value) (xs ys : List Int) (A : Option Addr) (hs : a.eval s = v) (hx : a.eval x = .slice A m c) (hown : w.ownsRow base 2 1 v n (encs xs)) (hy : Ints w ys A) (hm : m = ys.length) (h63 : n + m ≤ 4194304) (hbase : base ≤ w.heap.size)
    (h : ∀ v' w', w'.ownsRow base 2 1 v' (n + m) (encs (xs ++ ys)) → w.grownBy w' v.ownBlock → (v'.ownBlock = v.ownBlock ∨ v'.ownBlock = some w.heap.size) → K (a.put o.dst v') w') :
    if Region.wanted o (yielded ops a.tmps) = true then Oper.wp Tryz.prog o a w K Q else E := by
  have hw : Region.wanted o (yielded ops a.tmps) = true := by simp [Region.wanted, hgd]
  rw [if_pos hw]
  exact wp_append_ints w s x ho base n m c v xs ys A hs hx hown hy hm h63 hbase h

/-- Behind an append onto a row of the call's own: what existed ahead of the call is as it was. -/
theorem below_grown {w wr w' : World} {v : Value} {n : Nat} {xs : List Value} {E : TypeId} (hb : Below w.heap.size w wr) (hg : wr.grownBy w' v.ownBlock) (hown : wr.ownsRow w.heap.size E 1 v n xs) : Below w.heap.size w w' :=
  hb.grown hg hb.size (fun k hk => (hown.lt k hk).1)

theorem rev_step (xs : List Int) (j : Nat) (h : j < xs.length) : xs.reverse.take (xs.length - j) = xs.reverse.take (xs.length - (j + 1)) ++ [nth xs j] := by
  have e : xs.length - j = xs.length - (j + 1) + 1 := by omega
  rw [e, List.take_succ_eq_append_getElem (by simp; omega), List.getElem_reverse]
  have : xs.length - 1 - (xs.length - (j + 1)) = j := by omega
  simp [this, nth, List.getD, h]

end Go.Proofs.YtcgbepmhfimbjaaGreatDoor

namespace Go.Proofs.YtcgbepmhfimbjaaGreatDoor
open Go.RowKit

set_option maxHeartbeats 1000000 in
theorem grow_any (n : Nat) (hn : n ≤ 4194304) (w : World) :
    Calls Tryz.prog 162 #[.slice none 0 0, .int .i64 n] w fun e w' => ∃ v, e = .returned v ∧ w'.ownsRow w.heap.size 2 1 v 0 (encs []) ∧ Below w.heap.size w w' := by
  by_cases h0 : n = 0
  · subst h0
    go_enter Tryz.func162, Tryz.ntmps162
    go_wp2_with fail
    go_ret
    exact ⟨_, rfl, World.ownsRow_nil _ _ _ _, Below.refl _ _⟩
  · have hp : (0 : Int) < (n : Int) := by omega
    have hb : (n : Int) ≤ 4194304 := by omega
    obtain ⟨i, hi, hz, hs, hby⟩ := info_parts Tryz.infoI
    have hrun : Hid (∀ ty : TypeId, (Builtin.append_ #[129, 3] ty #[.slice none 0 0, .int .i64 n]).run Tryz.prog w = .ok (.slice (some ⟨w.heap.size, 0, none⟩) n (grownCap w n 0 2)) (w.drew.alloc (.cells (Builtin.zeroCells (Value.int .i64 0).cells n ++ Builtin.zeroCells (Value.int .i64 0).cells (grownCap w n 0 2 - n)) 2))) :=
      fun ty => Lib.run_append_nil_zeros w 129 3 ty 2 i _ .i64 .i64 Tryz.underlying129 Tryz.underlying3 hi hz n (by omega) (by rw [hs]; omega) (by omega) (by rw [hby]; omega)
    have hge := grownCap_ge w n 0 2
    have hle := grownCap_le_maxLen w n 0 2 (by unfold maxLen; omega)
    obtain ⟨cap, hcap⟩ : ∃ cap, cap = grownCap w n 0 2 := ⟨_, rfl⟩
    obtain ⟨cs, hcs⟩ : ∃ cs, cs = Builtin.zeroCells (Value.int .i64 0).cells n ++ Builtin.zeroCells (Value.int .i64 0).cells (cap - n) := ⟨_, rfl⟩
    rw [← hcap] at hrun hge hle
    rw [← hcs] at hrun
    have hsz : cs.size = cap * 1 := by
      rw [hcs]
      simp [Builtin.zeroCells, Value.cells]
      omega
    have HZ := Lib.hid hsz
    have HC : Hid ((w.drew.alloc (.cells cs 2)).ownsRow w.heap.size 2 1 (.slice (some ⟨w.heap.size, 0, none⟩) 0 cap) 0 (encs [])) := World.ownsRow_made w.drew cs cap (Nat.le_refl _) hle HZ.out
    clear hcs hcap hsz hle h0 hi hz hs hby
    have hge' : (0 : Int) ≤ (cap : Int) := by omega
    go_enter Tryz.func162, Tryz.ntmps162
    go_wp2_with (at_builtin; refine Lib.wpList_append_run _ rfl _ _ _ _ rfl _ _ rfl rfl _ _ (hrun.out _) ?_)
    go_ret
    exact ⟨_, rfl, HC.out, ((Below.refl _ _).drew).alloc (Nat.le_refl _) _⟩

/-- Slices of integers, in a row. -/
def Rows2 (w : World) (Xs : List (List Int)) (b : Nat) : Prop := ∀ i (h : i < Xs.length), ∃ A C, w.cell? ⟨b, i, none⟩ = some (.slice A (Xs[i]).length C) ∧ Ints w Xs[i] A
theorem Rows2.below {w w' : World} {Xs : List (List Int)} {b : Nat} (h : Rows2 w Xs b) (hb : Below w.heap.size w w') : Rows2 w' Xs b := fun i hi => by
  obtain ⟨A, C, h1, h2⟩ := h i hi
  exact ⟨A, C, kc hb h1, h2.below hb⟩
def sumTo (Xs : List (List Int)) (j : Nat) : Nat := ((Xs.take j).flatten).length
theorem flat_step (Xs : List (List Int)) (j : Nat) (h : j < Xs.length) : (Xs.take (j + 1)).flatten = (Xs.take j).flatten ++ Xs[j] := by
  rw [List.take_succ_eq_append_getElem h, List.flatten_append, List.flatten_cons, List.flatten_nil, List.append_nil]
theorem sum_step (Xs : List (List Int)) (j : Nat) (h : j < Xs.length) : sumTo Xs (j + 1) = sumTo Xs j + (Xs[j]).length := by
  unfold sumTo; rw [flat_step Xs j h]; simp
theorem sum_le (Xs : List (List Int)) (j : Nat) : sumTo Xs j ≤ Xs.flatten.length := by
  have h := List.take_append_drop j Xs
  have : Xs.flatten = (Xs.take j).flatten ++ (Xs.drop j).flatten := by rw [← List.flatten_append, h]
  unfold sumTo; rw [this]; simp
theorem sum_all (Xs : List (List Int)) : sumTo Xs Xs.length = Xs.flatten.length := by simp [sumTo]

set_option maxHeartbeats 2000000 in
theorem concat_any (Xs : List (List Int)) (hF : Xs.flatten.length ≤ 2097152) (hX : Xs.length ≤ 1048576) (b C : Nat) (w : World) (hR : Rows2 w Xs b) :
    Calls Tryz.prog 153 #[.slice (some ⟨b, 0, none⟩) Xs.length C] w fun e w' => ∃ A C', e = .returned (.slice A Xs.flatten.length C') ∧ IntsIn w' Xs.flatten w.heap.size w'.heap.size A ∧ Below w.heap.size w w' := by
  have HR := Lib.hid hR; clear hR
  obtain ⟨tot, ht, htl⟩ : ∃ tot : Nat, Hid (tot = Xs.flatten.length) ∧ tot ≤ 2097152 := ⟨_, rfl, hF⟩
  have HS0 : Hid (sumTo Xs 0 = 0) := by show _ = _; simp [sumTo]
  have HSL : ∀ j, sumTo Xs j ≤ tot := fun j => by rw [ht.out]; exact sum_le Xs j
  have HSA : Hid (sumTo Xs Xs.length = tot) := by show _ = _; rw [ht.out]; exact sum_all Xs
  have KG : Hid (∀ W : World, Calls Tryz.prog 162 #[.slice none 0 0, .int .i64 tot] W fun e w' => ∃ v, e = .returned v ∧ w'.ownsRow W.heap.size 2 1 v 0 (encs []) ∧ Below W.heap.size W w') := fun W => grow_any tot (by omega) W
  clear hF
  go_enter Tryz.func153, Tryz.ntmps153
  go_wp2_with fail
  go_loopw [3, 11] (fun x i wr => ∃ (j : Nat) (s : Nat), j ≤ Xs.length ∧ i = .int .i64 j ∧ x = .int .i64 s ∧ Hid (s = sumTo Xs j) ∧ s ≤ tot ∧ Below w.heap.size w wr) (fun _ i _ => Xs.length - (intOf i).toNat)
  case atStart => exact ⟨0, 0, Nat.zero_le _, rfl, rfl, HS0.out.symm, Nat.zero_le _, Below.refl _ _⟩
  case round =>
    obtain ⟨j, s, hj, rfl, rfl, hs, hst, hb⟩ := hrel
    by_cases hjl : j < Xs.length
    · obtain ⟨A, D, hc, _⟩ := HR.out j hjl
      have c0 := kc hb hc
      have hstep : Hid (sumTo Xs (j + 1) = s + (Xs[j]).length) := by show _ = _; rw [sum_step Xs j hjl, hs.out]
      have hle := HSL (j + 1)
      rw [hstep.out] at hle
      generalize (Xs[j]).length = m at c0 hstep hle
      clear hc
      have hm0 : (0 : Int) ≤ (m : Int) := Int.natCast_nonneg _
      have hs0 : (0 : Int) ≤ (s : Int) := Int.natCast_nonneg _
      have hsm : (s : Int) + (m : Int) ≤ 2097152 := by omega
      go_wp2_with fail
      go_roundw
      case rel => exact ⟨j + 1, s + m, by omega, by go_num, by go_num, hstep.out.symm, hle, hb⟩
      case measure => simp [intOf]; omega
    · obtain rfl : j = Xs.length := by omega
      have hse : s = tot := by rw [hs.out, HSA.out]
      subst hse
      clear hs HSA hst
      go_wp2_with fail
      refine (KG.out _).mono ?_
      rintro e w1 ⟨v0, rfl, hown0, hb1⟩
      have hB1 : Below w.heap.size w w1 := hb.trans (hb1.mono hb.size)
      have hO1 : Hid (w1.ownsRow w.heap.size 2 1 v0 0 (encs [])) := by
        refine ⟨hown0.1, ?_⟩
        rcases hown0.2 with h | ⟨g, cap, cur, h1, h2, h3⟩
        · exact Or.inl h
        · exact Or.inr ⟨g, cap, cur, h1, Nat.le_trans hb.size h2, h3⟩
      clear hb hb1 hown0 KG
      go_wp2_with fail
      go_loopw [6, 27] (fun v i wr => ∃ j : Nat, j ≤ Xs.length ∧ i = .int .i64 j ∧ Hid (wr.ownsRow w.heap.size 2 1 v (sumTo Xs j) (encs (Xs.take j).flatten)) ∧ Below w.heap.size w wr) (fun _ i _ => Xs.length - (intOf i).toNat)
      case atStart => exact ⟨0, Nat.zero_le _, rfl, by simpa [sumTo] using hO1, hB1⟩
      case round =>
        obtain ⟨j, hj, rfl, hown, hb⟩ := hrel
        by_cases hjl : j < Xs.length
        · obtain ⟨A, D, hc, hints⟩ := HR.out j hjl
          have c0 := kc hb hc
          have hI : Hid (Ints _ Xs[j] A) := hints.below hb
          have hle := HSL (j + 1)
          rw [sum_step Xs j hjl] at hle
          obtain ⟨m, hm⟩ : ∃ m, Hid (m = (Xs[j]).length) := ⟨(Xs[j]).length, rfl⟩
          have hle2 : sumTo Xs j + m ≤ 4194304 := by rw [hm.out]; omega
          rw [← hm.out] at c0
          clear hc hints hle
          go_wp2_with (at_builtin; refine wpList_append_ints _ rfl _ _ rfl w.heap.size (sumTo Xs j) m D _ (Xs.take j).flatten Xs[j] A rfl rfl hown.out hI.out hm.out hle2 hb.size ?_)
          intro v' w2 hown2 hg _
          have hB2 : Below w.heap.size w w2 := below_grown hb hg hown.out
          have hO2 : Hid (w2.ownsRow w.heap.size 2 1 v' (sumTo Xs (j + 1)) (encs (Xs.take (j + 1)).flatten)) := by
            show World.ownsRow _ _ _ _ _ _ _
            rw [sum_step Xs j hjl, flat_step Xs j hjl, ← hm.out]
            exact hown2
          clear hown2 hg c0
          go_wp2_with fail
          go_roundw
          case rel => exact ⟨j + 1, by omega, by go_num, hO2, hB2⟩
          case measure => simp [intOf]; omega
        · obtain rfl : j = Xs.length := by omega
          have hO := hown.out
          rw [List.take_length] at hO
          obtain ⟨A', C', rfl, hin⟩ := own_ints hO hb.size
          have HIN := Lib.hid hin
          clear hin hO hown
          go_wp2_with fail
          go_ret
          exact ⟨A', C', rfl, HIN.out, hb⟩
end Go.Proofs.YtcgbepmhfimbjaaGreatDoor

namespace Go.Proofs.YtcgbepmhfimbjaaGreatDoor
open Go.RowKit Go.Shelf
attribute [local go_sem] Oper.semAt_some
set_option linter.unusedVariables false

theorem cell_obj {W : World} {b o : Nat} {v : Value} (h : W.cell? ⟨b, o, none⟩ = some v) : ∃ x, W.heap[b]? = some x ∧ x.isCells = true := by
  unfold World.cell? at h
  cases hx : W.heap[b]? with
  | none => rw [hx] at h; cases h
  | some x => rw [hx] at h; cases x <;> first | (cases h; done) | exact ⟨_, rfl, rfl⟩
theorem KC.cell {E : Nat → Prop} {W W' : World} (h : KC E W W') {b o : Nat} {v : Value} (hE : ¬ E b) (hc : W.cell? ⟨b, o, none⟩ = some v) : W'.cell? ⟨b, o, none⟩ = some v := by
  obtain ⟨x, hx, hk⟩ := cell_obj hc
  exact (World.cell?_of_block (a := ⟨b, o, none⟩) ((h.same b x hE hx hk).trans hx.symm)).trans hc
/-- The cells of an older world are as they were. -/
def CS (w0 W : World) : Prop := ∀ (b o : Nat) (v : Value), w0.cell? ⟨b, o, none⟩ = some v → W.cell? ⟨b, o, none⟩ = some v
theorem CS.of {w0 W : World} (h : Below w0.heap.size w0 W) : CS w0 W := fun b o v hc => (h.cell (p := ⟨b, o, none⟩) (World.block_lt_of_cell? _ _ hc)).trans hc
theorem CS.kc {w0 W W' : World} {E : Nat → Prop} (h : CS w0 W) (hE : ∀ k, E k → w0.heap.size ≤ k) (k : KC E W W') : CS w0 W' := fun b o v hc => k.cell (fun he => by have := hE b he; have := World.block_lt_of_cell? _ _ hc; simp at this; omega) (h b o v hc)
theorem CS.below {w0 W W' : World} (h : CS w0 W) (k : Below W.heap.size W W') : CS w0 W' := fun b o v hc => (k.cell (p := ⟨b, o, none⟩) (World.block_lt_of_cell? _ _ (h b o v hc))).trans (h b o v hc)
/-- A path, in a block from n1 on. -/
def PthIn (W : World) (xs : List Int) (n1 : Nat) (A : Option Addr) : Prop := xs ≠ [] → ∃ b o, A = some ⟨b, o, none⟩ ∧ n1 ≤ b ∧ ∀ i, i < xs.length → W.cell? ⟨b, o + i, none⟩ = some (.int .i64 (nth xs i))
theorem PthIn.kc {W W' : World} {xs : List Int} {n1 : Nat} {A : Option Addr} {E : Nat → Prop} (h : PthIn W xs n1 A) (hE : ∀ k, E k → k < n1) (k : KC E W W') : PthIn W' xs n1 A := fun hn =>
  let ⟨b, o, ha, hb, hc⟩ := h hn; ⟨b, o, ha, hb, fun i hi => k.cell (fun he => by have := hE b he; omega) (hc i hi)⟩
theorem PthIn.ints {W : World} {xs : List Int} {n1 : Nat} {A : Option Addr} (h : PthIn W xs n1 A) : Ints W xs A := fun hn => let ⟨b, o, ha, _, hc⟩ := h hn; ⟨b, o, ha, hc⟩
theorem PthIn.of {W : World} {xs : List Int} {n1 lo hi : Nat} {A : Option Addr} (h : IntsIn W xs lo hi A) (hl : n1 ≤ lo) : PthIn W xs n1 A := fun hn => by
  rcases h with ⟨h, _⟩ | ⟨b, ha, h1, h2, _, hc⟩
  · exact absurd h hn
  · exact ⟨b, 0, ha, by omega, fun i hi => by rw [Nat.zero_add]; exact hc i hi⟩

/-- A node of a program that lies in a world, and a path to it. -/
structure PV (w0 : World) where
  d : Nat
  PA : Option Addr
  PC : Nat
  k : Int
  n : Int
  ck : Int
  cn : Int
  cf : Fo
  A : Option Addr
  C : Nat
  ks : Pg
  B : Option Addr
  D : Nat
  hA : cf.Lies w0 A
  hm : cf.nodes ≤ 1048576
  hf : cf.Fits
  hB : ks.Lies w0 B
  hks : ks.nodes ≤ 1048576 ∧ ks.Fits
  hd : d ≤ 1048576
def PV.row {w0 : World} (x : PV w0) : PRow := ⟨x.d + 1, x.k, x.n, x.ck, x.cn, x.cf, x.ks⟩
def PV.agg {w0 : World} (x : PV w0) : Value := .agg #[.int .i64 x.k, .int .i64 x.n, .int .i64 x.ck, .int .i64 x.cn, .slice x.A x.cf.len x.C, .slice x.B x.ks.len x.D]
def PV.enc2 {w0 : World} (x : PV w0) : Array Value := #[.slice x.PA x.d x.PC, .agg #[.int .i64 x.k, .int .i64 x.n, .int .i64 x.ck, .int .i64 x.cn, .slice x.A x.cf.len x.C, .slice x.B x.ks.len x.D]]

theorem pparts_any (k n ck cn : Int) (A B : Option Addr) (l C m D : Nat) (w : World) : Calls Tryz.prog 181 #[.agg #[.int .i64 k, .int .i64 n, .int .i64 ck, .int .i64 cn, .slice A l C, .slice B m D]] w fun e w' => e = .returned (.slice B m D) ∧ Below w.heap.size w w' := by
  go_enter Tryz.func181, Tryz.ntmps181
  go_wp2_with fail
  go_ret
  exact ⟨rfl, by go_grown⟩
theorem pparts_method (k n ck cn : Int) (A B : Option Addr) (l C m D : Nat) (w : World) : (method 371 41 (.agg #[.int .i64 k, .int .i64 n, .int .i64 ck, .int .i64 cn, .slice A l C, .slice B m D]) "loop.example/g01101/impl.parts").run Tryz.prog w = .ok (181, .agg #[.int .i64 k, .int .i64 n, .int .i64 ck, .int .i64 cn, .slice A l C, .slice B m D]) w := by kernel_rfl
theorem pparts_call (x : Value) (w : World) : (callFunc 181 #[x]).run Tryz.prog w = .ok (.enter 181 #[x]) w := by kernel_rfl
theorem yieldAny {m : Nat} (m' : Nat) {P : Program} {l : Nat} {args : Array Value} {W : World} {R : Ending → World → Prop} (h : YieldAt Fence.wide m P l args W R) : YieldAt Fence.wide m' P l args W R := by
  obtain ⟨fn, tmps, assign, body, hy, h1, h2⟩ := h
  exact ⟨fn, tmps, assign, body, hy, h1, fun c cs hr => h2 c cs (fun d hd => by cases hd)⟩
theorem grown_none {A A' : World} (h : Below A.heap.size A A') : A.grownBy A' none := ⟨h.os, h.tape, h.output, h.size, fun k hk _ => h.block k hk⟩
theorem concat_path {W : World} {xs : List Int} {j : Nat} {n1 b bb C : Nat} {PA : Option Addr} {PC : Nat} (hl : xs.length ≤ 1048576) (hn : n1 ≤ W.heap.size) (h0 : W.cell? ⟨b, 0, none⟩ = some (.slice PA xs.length PC)) (h1 : W.cell? ⟨b, 1, none⟩ = some (.slice (some ⟨bb, 0, none⟩) 1 1)) (h2 : W.cell? ⟨bb, 0, none⟩ = some (.int .i64 (j : Int))) (hp : Ints W xs PA) :
    Calls Tryz.prog 153 #[.slice (some ⟨b, 0, none⟩) 2 C] W fun e w' => ∃ Z C', e = .returned (.slice Z (xs ++ [(j : Int)]).length C') ∧ PthIn w' (xs ++ [(j : Int)]) n1 Z ∧ Below W.heap.size W w' := by
  have hfl : ([xs, [(j : Int)]] : List (List Int)).flatten = xs ++ [(j : Int)] := by simp
  refine (concat_any [xs, [(j : Int)]] (by rw [hfl]; simp; omega) (by simp) b C W (fun i hi => ?_)).mono ?_
  · rcases i with _ | _ | i
    · exact ⟨PA, PC, h0, hp⟩
    · exact ⟨_, 1, h1, fun _ => ⟨bb, 0, rfl, fun i hi => by
        have : i = 0 := by simp at hi; omega
        subst this
        exact h2⟩⟩
    · simp at hi; omega
  · rintro e w' ⟨A, C', he, hi, hb⟩
    rw [hfl] at he hi
    exact ⟨A, C', he, PthIn.of hi hn, hb⟩
theorem six_cells {W : World} {b : Nat} {T : TypeId} {u0 u1 u2 u3 u4 u5 : Value} (h : W.heap[b]? = some (.cells #[u0, u1, u2, u3, u4, u5] T (0, 0))) : W.cell? ⟨b, 0, none⟩ = some u0 ∧ W.cell? ⟨b, 1, none⟩ = some u1 ∧ W.cell? ⟨b, 2, none⟩ = some u2 ∧ W.cell? ⟨b, 3, none⟩ = some u3 ∧ W.cell? ⟨b, 4, none⟩ = some u4 ∧ W.cell? ⟨b, 5, none⟩ = some u5 :=
  ⟨Fo.cell_of_block h 0, Fo.cell_of_block h 1, Fo.cell_of_block h 2, Fo.cell_of_block h 3, Fo.cell_of_block h 4, Fo.cell_of_block h 5⟩

theorem twoA {n : Nat} {W0 W : World} (h : Below n W0 W) (hn : n ≤ W.heap.size) (x y : Obj) : Below n W0 ((W.alloc x).alloc y).drew := ((h.alloc hn _).alloc (by simp; omega) _).drew
theorem twoB {n : Nat} {W0 W : World} (h : Below n W0 W) (hn : n ≤ W.heap.size) (x y : Obj) : Below n W0 ((W.drew.alloc x).alloc y) := ((h.drew.alloc hn _).alloc (by simp; omega) _)
theorem first_of {n : Nat} {W0 W w' : World} {x y : Obj} (h : Below n W0 W) (hn : n ≤ W.heap.size) (hb : Below ((W.alloc x).alloc y).drew.heap.size ((W.alloc x).alloc y).drew w') : Below n W0 w' := (twoA h hn x y).trans (hb.mono (by simp; omega))
/-- How visit ends. -/
def VEnd {w0 : World} (E : Nat → Prop) (J Jx : List (PV w0) → World → Prop) (full : List PRow) (pre : List (PV w0)) (W : World) (e : Ending) (W' : World) : Prop :=
  (e = .returned (.bool true) ∧ ∃ xs : List (PV w0), xs.map PV.row = full ∧ J (pre ++ xs) W' ∧ KC E W W') ∨ (e = .returned (.bool false) ∧ ∃ xs : List (PV w0), xs.map PV.row <+: full ∧ Jx (pre ++ xs) W')

set_option maxHeartbeats 8000000 in
set_option maxRecDepth 100000 in
theorem visit_any (E : Nat → Prop) (w0 : World) (n1 : Nat) (hE : ∀ k, E k → w0.heap.size ≤ k ∧ k < n1) (l N : Nat) (J Jx : List (PV w0) → World → Prop) (hJ : ∀ s A A', J s A → Below A.heap.size A A' → J s A')
    (hY : ∀ pre (x : PV w0) W, J pre W → pre.length < N → YieldAt Fence.wide 0 Tryz.prog l x.enc2 W fun e W' => (e = .returned (.bool true) ∧ J (pre ++ [x]) W' ∧ KC E W W') ∨ (e = .returned (.bool false) ∧ Jx (pre ++ [x]) W')) :
    ∀ (M : Nat) (ks : Pg), ks.nodes < M → ks.Fits → ∀ (k n ck cn : Int) (cf : Fo) (A B : Option Addr) (C D : Nat), cf.Lies w0 A → cf.nodes ≤ 1048576 → cf.Fits → ks.Lies w0 B → ∀ (pth : List Int) (PA : Option Addr) (PC m : Nat) (pre : List (PV w0)) (W : World), pth.length + ks.nodes ≤ 1048576 → n1 ≤ W.heap.size → CS w0 W → PthIn W pth n1 PA → J pre W → pre.length + (1 + ks.cnt) ≤ N →
      CallsIn Fence.wide m Tryz.prog 137 #[.agg #[.int .i64 k, .int .i64 n, .int .i64 ck, .int .i64 cn, .slice A cf.len C, .slice B ks.len D], .slice PA pth.length PC, .func (.yield l) #[] #[]] W (VEnd E J Jx ((Pg.cons k n ck cn cf ks .nil).pre (pth.length + 1)) pre W) := by
  intro M
  induction M with
  | zero => intro ks h; exact absurd h (Nat.not_lt_zero _)
  | succ M ih =>
    intro ks hM hks k n ck cn cf A B C D hA hcm hcf hB pth PA PC m pre W hsz hn1 hCS hP hj hN
    have hm : ks.nodes ≤ 1048576 := by omega
    obtain ⟨x0, hx0⟩ : ∃ x0 : PV w0, x0 = ⟨pth.length, PA, PC, k, n, ck, cn, cf, A, C, ks, B, D, hA, hcm, hcf, hB, ⟨hm, hks⟩, by omega⟩ := ⟨_, rfl⟩
    have hrow : x0.row = ⟨pth.length + 1, k, n, ck, cn, cf, ks⟩ := by rw [hx0]; rfl
    have henc : x0.enc2 = #[.slice PA pth.length PC, .agg #[.int .i64 k, .int .i64 n, .int .i64 ck, .int .i64 cn, .slice A cf.len C, .slice B ks.len D]] := by rw [hx0]; rfl
    have hfull : (Pg.cons k n ck cn cf ks .nil).pre (pth.length + 1) = ⟨pth.length + 1, k, n, ck, cn, cf, ks⟩ :: (ks.pre (pth.length + 1 + 1) ++ []) := rfl
    obtain ⟨full, hfu⟩ : ∃ full, full = (Pg.cons k n ck cn cf ks .nil).pre (pth.length + 1) := ⟨_, rfl⟩
    rw [← hfu] at hfull ⊢
    have hflen : full.length = 1 + ks.cnt := by rw [hfu, Pg.pre_len]; simp [Pg.cnt]
    obtain ⟨W1, hW1⟩ : ∃ W1, W1 = W.alloc (.cells #[.int .i64 k, .int .i64 n, .int .i64 ck, .int .i64 cn, .slice A cf.len C, .slice B ks.len D] 41) := ⟨_, rfl⟩
    have B1 : Below W.heap.size W W1 := by rw [hW1]; exact (Below.refl _ _).alloc (Nat.le_refl _) _
    have hb1 : W1.heap[W.heap.size]? = some (.cells #[.int .i64 k, .int .i64 n, .int .i64 ck, .int .i64 cn, .slice A cf.len C, .slice B ks.len D] 41 (0, 0)) := by rw [hW1]; exact heap_new _ _ _ rfl
    have hnE : ¬ E W.heap.size := fun h => by have := (hE _ h).2; omega
    obtain ⟨p0, p1, p2, p3, p4, p5⟩ := six_cells hb1
    have hYY := (hY pre x0 W1 (hJ _ _ _ hj B1) (by omega)).mono (R' := fun e W2 =>
      (e = .returned (.bool true) ∧ Hid (J (pre ++ [x0]) W2 ∧ KC E W W2) ∧ W2.cell? ⟨W.heap.size, 0, none⟩ = some (.int .i64 k) ∧ W2.cell? ⟨W.heap.size, 1, none⟩ = some (.int .i64 n) ∧ W2.cell? ⟨W.heap.size, 2, none⟩ = some (.int .i64 ck) ∧ W2.cell? ⟨W.heap.size, 3, none⟩ = some (.int .i64 cn) ∧ W2.cell? ⟨W.heap.size, 4, none⟩ = some (.slice A cf.len C) ∧ W2.cell? ⟨W.heap.size, 5, none⟩ = some (.slice B ks.len D)) ∨ (e = .returned (.bool false) ∧ Hid (Jx (pre ++ [x0]) W2)))
      (fun e W2 h => h.elim (fun ⟨he, hj2, hk2⟩ => .inl ⟨he, ⟨hj2, (KC.of_below B1).trans hk2⟩, hk2.cell hnE p0, hk2.cell hnE p1, hk2.cell hnE p2, hk2.cell hnE p3, hk2.cell hnE p4, hk2.cell hnE p5⟩) (fun ⟨he, hx⟩ => .inr ⟨he, hx⟩))
    rw [henc] at hYY
    have HFIN : Hid ([x0].map PV.row ++ (ks.drop 0).pre (pth.length + 1 + 1) = full) := by
      show _ = _
      rw [hfull, List.map_cons, hrow]
      simp [Pg.drop]
    have HPRE : Hid ([x0].map PV.row <+: full) := ⟨ks.pre (pth.length + 1 + 1), by rw [hfull, List.map_cons, hrow]; simp⟩
    have IH := Lib.hid ih; have HE := Lib.hid hE; have HJ := Lib.hid hJ; have HCS := Lib.hid hCS; have HP := Lib.hid hP; have HB := Lib.hid hB; have HF := Lib.hid hks; have HN := Lib.hid hN; have HNE := Lib.hid hnE
    have HFL := Lib.hid hflen
    have hdd : ∀ k : Nat, (Fence.wide.depth.isSome = true → 1 ≤ k) := fun k h => by cases h
    obtain ⟨fn, tmps, assign, body, hy, hR⟩ := yieldAny (m - 1) hYY
    have HR := Lib.hid hR
    have pm := pparts_method k n ck cn A B cf.len C ks.len D
    have pc := pparts_call (.agg #[.int .i64 k, .int .i64 n, .int .i64 ck, .int .i64 cn, .slice A cf.len C, .slice B ks.len D])
    rw [hW1] at hy HR
    have HW1 := Lib.hid hW1
    clear ih hE hJ hY hCS hP hB hks hN hnE hflen hYY hR hfu hfull hrow henc hx0 hA hcm hcf hj B1 hb1 p0 p1 p2 p3 p4 p5 hW1
    refine callsIn_of_wp Tryz.func137 rfl trivial ?_ rfl
    simp only [Tryz.ntmps137, List.size_toArray, List.length_cons, List.length_nil, Nat.reduceAdd, Nat.reduceSub, Array.replicate_succ, Array.replicate_zero, List.push_toArray, List.append_toArray, List.nil_append, List.cons_append]
    gi_wp2_with (first
      | ((try refine ⟨hdd _, ?_⟩); refine HR.out.mono ?_; clear HR; rintro e W2 (⟨rfl, HJ2, r0, r1, r2, r3, r4, r5⟩ | ⟨rfl, HX2⟩))
      | (refine ⟨trivial, hdd _, ?_⟩; gi_at_call 181; refine (callsIn_wide.2 (pparts_any k n ck cn A B cf.len C ks.len D W2)).mono ?_; rintro e W3 ⟨rfl, hb3⟩))
    rotate_left
    · go_ret
      exact Or.inr ⟨rfl, [x0], HPRE.out, HX2.out⟩
    have HJ3 : Hid (J (pre ++ [x0]) W3 ∧ KC E W W3) := ⟨HJ.out _ _ _ HJ2.out.1 hb3, HJ2.out.2.trans (KC.of_below hb3)⟩
    clear HJ2 hb3 r0 r1 r2 r3 r4 r5 pm pc hy HPRE
    gi_loopw [18] (fun i wr => ∃ (j : Nat) (xs : List (PV w0)), j ≤ ks.len ∧ i = .int .i64 j ∧ Hid (xs.map PV.row ++ (ks.drop j).pre (pth.length + 1 + 1) = full) ∧ Hid (J (pre ++ xs) wr ∧ KC E W wr)) (fun i _ => ks.len - (intOf i).toNat)
    case atStart => exact ⟨0, [x0], Nat.zero_le _, rfl, HFIN.out, HJ3.out⟩
    case round =>
      obtain ⟨j, xs, hj, rfl, HQ, HJr⟩ := hrel
      clear HJ3 HFIN
      by_cases hjl : j < ks.len
      · have JL := Lib.hid hjl
        have hsr : CS w0 wr := HCS.out.kc (fun k hk => (HE.out k hk).1) HJr.out.2
        have hpr : PthIn wr pth n1 PA := HP.out.kc (fun k hk => (HE.out k hk).2) HJr.out.2
        have hnr : n1 ≤ wr.heap.size := Nat.le_trans hn1 HJr.out.2.size
        obtain ⟨b', o', rfl, hat⟩ := HB.out (by rintro rfl; simp [Pg.len] at hjl)
        obtain ⟨k', n', ck', cn', cf', ks', r', A1, C1, B1, D1, e1, e2, c0, c1, c2, c3, c4, hl1, c5, hl2⟩ := Pg.Lies.row hat hjl
        have hfd := Pg.fits_drop HF.out j
        have hnd := ks.nodes_drop j
        have hqq := HQ.out
        rw [e1.out] at hfd hnd hqq
        simp only [Pg.nodes] at hnd
        have hlen : xs.length + (1 + ks'.cnt) ≤ 1 + ks.cnt := by
          have h1 := congrArg List.length hqq
          rw [HFL.out, List.length_append, List.length_map, Pg.pre_len] at h1
          simp only [Pg.cnt] at h1
          omega
        have hq2 : xs.map PV.row ++ ((Pg.cons k' n' ck' cn' cf' ks' .nil).pre (pth.length + 1 + 1) ++ (ks.drop (j + 1)).pre (pth.length + 1 + 1)) = full := by
          rw [e2.out, ← hqq]
          simp [Pg.pre]
        obtain ⟨kid, hkid⟩ : ∃ g, g = (Pg.cons k' n' ck' cn' cf' ks' .nil).pre (pth.length + 1 + 1) := ⟨_, rfl⟩
        rw [← hkid] at hq2
        have d0 := hsr _ _ _ c0; have d1 := hsr _ _ _ c1; have d2 := hsr _ _ _ c2; have d3 := hsr _ _ _ c3; have d4 := hsr _ _ _ c4; have d5 := hsr _ _ _ c5
        obtain ⟨W4, hW4⟩ : ∃ W4, W4 = wr.alloc (.cells #[.int .i64 k', .int .i64 n', .int .i64 ck', .int .i64 cn', .slice A1 cf'.len C1, .slice B1 ks'.len D1] 41) := ⟨_, rfl⟩
        obtain ⟨bk, hbk⟩ : ∃ bk, bk = wr.heap.size := ⟨_, rfl⟩
        have hb4 : Below wr.heap.size wr W4 := by rw [hW4]; exact (Below.refl _ _).alloc (Nat.le_refl _) _
        have hk4 : W4.heap[bk]? = some (.cells #[.int .i64 k', .int .i64 n', .int .i64 ck', .int .i64 cn', .slice A1 cf'.len C1, .slice B1 ks'.len D1] 41 (0, 0)) := by rw [hW4]; exact heap_new _ _ _ hbk
        have lk4 : bk < W4.heap.size := by rw [hW4, hbk]; simp
        have hl2' : ks'.nodes < M := by omega
        have KV : Hid (∀ (W : World) (Z : Option Addr) (C' m' : Nat), Below wr.heap.size wr W → PthIn W (pth ++ [(j : Int)]) n1 Z → CallsIn Fence.wide m' Tryz.prog 137 #[.agg #[.int .i64 k', .int .i64 n', .int .i64 ck', .int .i64 cn', .slice A1 cf'.len C1, .slice B1 ks'.len D1], .slice Z (pth.length + 1) C', .func (.yield l) #[] #[]] W fun e W' => ∃ q : Bool, e = .returned (.bool q) ∧ Hid ((q = true ∧ ∃ ys : List (PV w0), ys.map PV.row = kid ∧ J (pre ++ xs ++ ys) W' ∧ KC E W W') ∨ (q = false ∧ ∃ ys : List (PV w0), ys.map PV.row <+: kid ∧ Jx (pre ++ xs ++ ys) W'))) := fun W Z C' m' hbw hpw => by
          have h := IH.out ks' hl2' hfd.2.2.1 k' n' ck' cn' cf' A1 B1 C1 D1 hl1 (by omega) hfd.1.2 hl2 (pth ++ [(j : Int)]) Z C' m' (pre ++ xs) W (by simp; omega) (Nat.le_trans hnr hbw.size) (hsr.below hbw) hpw (HJ.out _ _ _ HJr.out.1 hbw) (by have := HN.out; simp; omega)
          rw [show (pth ++ [(j : Int)]).length = pth.length + 1 by simp, ← hkid] at h
          exact h.mono fun e W' h => h.elim (fun ⟨he, h⟩ => ⟨true, he, Or.inl ⟨rfl, h⟩⟩) (fun ⟨he, h⟩ => ⟨false, he, Or.inr ⟨rfl, h⟩⟩)
        have KT : Hid (∀ (W : World) (b bb : Nat), Below wr.heap.size wr W → W.cell? ⟨b, 0, none⟩ = some (.slice PA pth.length PC) → W.cell? ⟨b, 1, none⟩ = some (.slice (some ⟨bb, 0, none⟩) 1 1) → W.cell? ⟨bb, 0, none⟩ = some (.int .i64 (j : Int)) → Calls Tryz.prog 153 #[.slice (some ⟨b, 0, none⟩) 2 2] W fun e w' => ∃ Z C', e = .returned (.slice Z (pth.length + 1) C') ∧ PthIn w' (pth ++ [(j : Int)]) n1 Z ∧ Below W.heap.size W w') := fun W b bb hbw h0 h1 h2 => by
          have h := concat_path (C := 2) (by omega) (Nat.le_trans hnr hbw.size) h0 h1 h2 (hpr.ints.below hbw)
          rw [show (pth ++ [(j : Int)]).length = pth.length + 1 by simp] at h
          exact h
        have HQ2 := Lib.hid hq2; have HB4 := Lib.hid hb4; have HW4 := Lib.hid hW4; have HK4 := Lib.hid hk4; have HBK := Lib.hid hbk
        have j0 : (0 : Int) ≤ (j : Int) := Int.natCast_nonneg _
        have j1 : (j : Int) < (ks.len : Int) := by omega
        have j9 : j < 1048576 := by have := ks.len_le_nodes; omega
        clear hsr hpr hnr hat e1 e2 c0 c1 c2 c3 c4 c5 hl1 hl2 hfd hnd hqq hlen hq2 hkid hb4 hk4 hl2' hjl HQ hbk
        gi_wp2
        rw [← hW4, ← HBK.out]
        clear hW4 d0 d1 d2 d3 d4 d5
        obtain ⟨t0, t1, t2, t3, t4, t5⟩ := six_cells HK4.out
        gi_region_with (first
          | (refine ⟨trivial, hdd _, ?_⟩; gi_at_call 153; refine (callsIn_wide.2 (KT.out _ _ W4.heap.size ?_ ?_ ?_ ?_)).mono ?_; (exact twoA HB4.out HB4.out.size _ _); (simp [go_sem]); (simp [go_sem]); (simp [go_sem]); rintro e W5 ⟨Z, C', rfl, hz, hb5⟩; have S5 : Below wr.heap.size wr W5 := (first_of HB4.out HB4.out.size hb5); have S45 := first_of (Below.refl W4.heap.size W4) (Nat.le_refl _) hb5; have v0 := (S45.cell (p := ⟨bk, 0, none⟩) lk4).trans t0; have v1 := (S45.cell (p := ⟨bk, 1, none⟩) lk4).trans t1; have v2 := (S45.cell (p := ⟨bk, 2, none⟩) lk4).trans t2; have v3 := (S45.cell (p := ⟨bk, 3, none⟩) lk4).trans t3; have v4 := (S45.cell (p := ⟨bk, 4, none⟩) lk4).trans t4; have v5 := (S45.cell (p := ⟨bk, 5, none⟩) lk4).trans t5; clear hb5 S45)
          | (refine ⟨trivial, hdd _, ?_⟩; gi_at_call 137; refine (KV.out _ _ _ _ S5 hz).mono ?_; rintro e W6 ⟨q6, rfl, H6⟩))
        all_goals
          rcases H6.out with ⟨rfl, ys, hys, hj6, hk6⟩ | ⟨rfl, ys, hys, hx6⟩
          · have HK6 : Hid (KC E W W6) := HJr.out.2.trans ((KC.of_below S5).trans hk6)
            have HQ6 : Hid ((xs ++ ys).map PV.row ++ (ks.drop (j + 1)).pre (pth.length + 1 + 1) = full) := by show _ = _; rw [List.map_append, hys, List.append_assoc]; exact HQ2.out
            have HJ6 : Hid (J (pre ++ (xs ++ ys)) W6) := by show J _ _; rw [← List.append_assoc]; exact hj6
            clear H6 hys hj6 hk6 v0 v1 v2 v3 v4 v5 t0 t1 t2 t3 t4 t5
            gi_wp2
            go_roundw
            case rel => exact ⟨j + 1, xs ++ ys, JL.out, by go_num, HQ6.out, HJ6.out, HK6.out⟩
            case measure => have := JL.out; simp [intOf]; omega
          · have HQ6 : Hid ((xs ++ ys).map PV.row <+: full) := by
              obtain ⟨r, hr⟩ := hys
              refine ⟨r ++ (ks.drop (j + 1)).pre (pth.length + 1 + 1), ?_⟩
              rw [← HQ2.out, List.map_append, ← hr]
              simp
            have HJ6 : Hid (Jx (pre ++ (xs ++ ys)) W6) := by show Jx _ _; rw [← List.append_assoc]; exact hx6
            clear H6 hys hx6 v0 v1 v2 v3 v4 v5 t0 t1 t2 t3 t4 t5
            gi_wp2
            go_ret
            exact Or.inr ⟨rfl, xs ++ ys, HQ6.out, HJ6.out⟩
      · have hje : j = ks.len := by omega
        have hall : xs.map PV.row = full := by
          have := HQ.out
          rw [hje, Pg.drop_len] at this
          simpa [Pg.pre] using this
        gi_wp2
        go_ret
        exact Or.inl ⟨rfl, xs, hall, HJr.out.1, HJr.out.2⟩
end Go.Proofs.YtcgbepmhfimbjaaGreatDoor

namespace Go.Proofs.YtcgbepmhfimbjaaGreatDoor
open Go.RowKit Go.Shelf
attribute [local go_sem] Oper.semAt_some
set_option linter.unusedVariables false

theorem places_any (k n ck cn : Int) (A B : Option Addr) (l C m D : Nat) (w : World) :
    Calls Tryz.prog 114 #[.agg #[.int .i64 k, .int .i64 n, .int .i64 ck, .int .i64 cn, .slice A l C, .slice B m D]] w fun e w' => e = .returned (.func (.func 136) #[] #[.pointer (some ⟨w.heap.size, 0, none⟩)]) ∧ w' = w.alloc (.cells #[.int .i64 k, .int .i64 n, .int .i64 ck, .int .i64 cn, .slice A l C, .slice B m D] 41) := by
  refine (callsIn_wide (n := 4)).1 ?_
  refine callsIn_of_wp Tryz.func114 rfl trivial ?_ rfl
  simp only [Tryz.ntmps114, List.size_toArray, List.length_cons, List.length_nil, Nat.reduceAdd, Nat.reduceSub, Array.replicate_succ, Array.replicate_zero, List.push_toArray, List.append_toArray, List.nil_append, List.cons_append]
  gi_wp2
  go_ret
  exact ⟨rfl, rfl⟩
theorem nodesIn_any (k n ck cn : Int) (A B : Option Addr) (l C m D : Nat) (w : World) :
    Calls Tryz.prog 78 #[.agg #[.int .i64 k, .int .i64 n, .int .i64 ck, .int .i64 cn, .slice A l C, .slice B m D]] w fun e w' => e = .returned (.func (.func 113) #[] #[.pointer (some ⟨w.heap.size, 0, none⟩)]) ∧ w' = w.alloc (.cells #[.int .i64 k, .int .i64 n, .int .i64 ck, .int .i64 cn, .slice A l C, .slice B m D] 41) := by
  refine (callsIn_wide (n := 4)).1 ?_
  refine callsIn_of_wp Tryz.func78 rfl trivial ?_ rfl
  simp only [Tryz.ntmps78, List.size_toArray, List.length_cons, List.length_nil, Nat.reduceAdd, Nat.reduceSub, Array.replicate_succ, Array.replicate_zero, List.push_toArray, List.append_toArray, List.nil_append, List.cons_append]
  gi_wp2
  go_ret
  exact ⟨rfl, rfl⟩

set_option maxHeartbeats 4000000 in
set_option maxRecDepth 100000 in
theorem places_stops (E : Nat → Prop) (w0 : World) (n1 : Nat) (hE : ∀ k, E k → w0.heap.size ≤ k ∧ k < n1) (k n ck cn : Int) (cf : Fo) (A B : Option Addr) (C D : Nat) (ks : Pg) (hA : cf.Lies w0 A) (hcm : cf.nodes ≤ 1048576) (hcf : cf.Fits) (hB : ks.Lies w0 B) (hks : ks.Fits) (hsz : ks.nodes ≤ 1048576) (m Bs : Nat) (w : World) (hn1 : n1 ≤ w.heap.size) (hcs : CS w0 w)
    (hbs : w.heap[Bs]? = some (.cells #[.int .i64 k, .int .i64 n, .int .i64 ck, .int .i64 cn, .slice A cf.len C, .slice B ks.len D] 41 (0, 0))) :
    SeqStopsK Fence.wide m Tryz.prog 136 #[.pointer (some ⟨Bs, 0, none⟩)] (PV.enc2 (w0 := w0)) (KC E) (fun xs => xs.map PV.row = (Pg.cons k n ck cn cf ks .nil).pre 1) (fun xs => xs.map PV.row <+: (Pg.cons k n ck cn cf ks .nil).pre 1) (1 + ks.cnt) w := fun l J Jx W hW hJ hJx hY h0 => by
  have hdd : ∀ k : Nat, (Fence.wide.depth.isSome = true → 1 ≤ k) := fun k h => by cases h
  have hb := (hW.block Bs (Array.getElem?_eq_some_iff.1 hbs).1).trans hbs
  have hV := visit_any E w0 n1 hE l (1 + ks.cnt) J Jx (fun s X Y hs hxy => hJ s X Y none hs (grown_none hxy) (fun r e => by cases e)) (fun pre x W1 hj hl => yieldAny 0 (hY pre x W1 hj hl)) (ks.nodes + 1) ks (Nat.lt_succ_self _) hks k n ck cn cf A B C D hA hcm hcf hB [] none 0 (m - 1) [] W (by simp; omega) (Nat.le_trans hn1 hW.size) (hcs.below hW) (fun h => absurd rfl h) h0 (by simp)
  obtain ⟨c0, c1, c2, c3, c4, c5⟩ := six_cells hb
  have HV := Lib.hid hV
  clear hV hb hY h0 hJ hJx
  refine callsIn_of_wp Tryz.func136 rfl trivial ?_ rfl
  simp only [Tryz.ntmps136, List.size_toArray, List.length_cons, List.length_nil, Nat.reduceAdd, Nat.reduceSub, Array.replicate_succ, Array.replicate_zero, List.push_toArray, List.append_toArray, List.nil_append, List.cons_append]
  gi_wp2_with (refine ⟨trivial, hdd _, ?_⟩; refine HV.out.mono ?_; rintro e W1 (⟨rfl, xs, hxs, hj, hk⟩ | ⟨rfl, xs, hxs, hx⟩))
  · go_end0
    exact ⟨⟨_, rfl⟩, Or.inl ⟨xs, hxs, by simpa using hj⟩⟩
  · go_end0
    exact ⟨⟨_, rfl⟩, Or.inr ⟨xs, hxs, by simpa using hx⟩⟩

def PV.enc1 {w0 : World} (x : PV w0) : Array Value := #[.agg #[.slice x.PA x.d x.PC, .int .i64 x.k, .int .i64 x.n, .int .i64 x.ck, .int .i64 x.cn, .slice x.A x.cf.len x.C, .slice x.B x.ks.len x.D]]
theorem ownUp {β : Type} {B B' : Nat} {I : β → World → Prop} (h : OwnFrom B I) (hB : B ≤ B') : OwnFrom B' I := fun s X Y row hs hg hr => h s X Y row hs hg fun r e => ⟨Nat.le_trans hB (hr r e).1, (hr r e).2⟩
theorem kfUp {B B' : Nat} {W W' : World} (h : KeepsFrom B W W') (hB : B ≤ B') : KeepsFrom B' W W' := ⟨h.size, fun k o h2 h3 h4 => h.same k o (Nat.le_trans hB h2) h3 h4⟩

set_option maxHeartbeats 8000000 in
set_option maxRecDepth 100000 in
theorem nodes_seq (E : Nat → Prop) (w0 : World) (n1 : Nat) (hE : ∀ k, E k → w0.heap.size ≤ k ∧ k < n1) (k n ck cn : Int) (cf : Fo) (A B : Option Addr) (C D : Nat) (ks : Pg) (hA : cf.Lies w0 A) (hcm : cf.nodes ≤ 1048576) (hcf : cf.Fits) (hB : ks.Lies w0 B) (hks : ks.Fits) (hsz : ks.nodes ≤ 1048576) (m Bs : Nat) (hm : 4 ≤ m) (w : World) (hn1 : n1 ≤ w.heap.size) (hcs : CS w0 w)
    (hbs : w.heap[Bs]? = some (.cells #[.int .i64 k, .int .i64 n, .int .i64 ck, .int .i64 cn, .slice A cf.len C, .slice B ks.len D] 41 (0, 0))) :
    SeqM Fence.wide m Tryz.prog 113 #[.pointer (some ⟨Bs, 0, none⟩)] (PV.enc1 (w0 := w0)) E (fun xs => xs.map PV.row = (Pg.cons k n ck cn cf ks .nil).pre 1) (fun xs => xs.map PV.row <+: (Pg.cons k n ck cn cf ks .nil).pre 1) (1 + ks.cnt) w := fun l J Jx W hW hJ hJx hY h0 => by
  have hdd : ∀ k : Nat, (Fence.wide.depth.isSome = true → 1 ≤ k) := fun k h => by cases h
  have h1 : 1 ≤ m := by omega
  have hb := (hW.block Bs (Array.getElem?_eq_some_iff.1 hbs).1).trans hbs
  have lbs : Bs < W.heap.size := (Array.getElem?_eq_some_iff.1 hb).1
  obtain ⟨W1, hW1⟩ : ∃ W1, W1 = W.alloc (.cells #[.func (.yield l) #[] #[]] 194) := ⟨_, rfl⟩
  obtain ⟨W2, hW2⟩ : ∃ W2, W2 = W1.alloc (.cells #[.int .i64 k, .int .i64 n, .int .i64 ck, .int .i64 cn, .slice A cf.len C, .slice B ks.len D] 41) := ⟨_, rfl⟩
  have B1 : Below W.heap.size W W1 := by rw [hW1]; exact (Below.refl _ _).alloc (Nat.le_refl _) _
  have B2 : Below W1.heap.size W1 W2 := by rw [hW2]; exact (Below.refl _ _).alloc (Nat.le_refl _) _
  have B12 : Below W.heap.size W W2 := B1.trans (B2.mono B1.size)
  obtain ⟨c0, c1, c2, c3, c4, c5⟩ := six_cells ((B1.block Bs lbs).trans hb)
  have hy1 : W1.heap[W.heap.size]? = some (.cells #[.func (.yield l) #[] #[]] 194 (0, 0)) := by rw [hW1]; exact heap_new _ _ _ rfl
  have ly1 : W.heap.size < W1.heap.size := by rw [hW1]; simp
  have hy2 := (B2.block _ ly1).trans hy1
  have hp2 : W2.heap[W1.heap.size]? = some (.cells #[.int .i64 k, .int .i64 n, .int .i64 ck, .int .i64 cn, .slice A cf.len C, .slice B ks.len D] 41 (0, 0)) := by rw [hW2]; exact heap_new _ _ _ rfl
  have hST := places_stops E w0 n1 hE k n ck cn cf A B C D ks hA hcm hcf hB hks hsz (m - 1) W1.heap.size W2 (by have := hW.size; have := B12.size; omega) ((hcs.below hW).below B12) hp2
  have hJ2 : J [] W2 := hJ _ _ _ none h0 (grown_none B12) (fun r e => by cases e)
  have hnE : ¬ E W.heap.size := fun h => by have := (hE _ h).2; have := hW.size; omega
  rw [hW1] at c0 c1 c2 c3 c4 c5
  refine callsIn_of_wp_marks Tryz.func113 rfl trivial ?_ rfl
  simp only [Tryz.ntmps113, List.size_toArray, List.length_cons, List.length_nil, Nat.reduceAdd, Nat.reduceSub, Array.replicate_succ, Array.replicate_zero, List.push_toArray, List.append_toArray, List.nil_append, List.cons_append]
  gi_wp2_with ((first | refine ⟨trivial, hdd _, ?_⟩ | refine ⟨trivial, ?_⟩); gi_at_call 114; refine (callsIn_wide.2 (places_any k n ck cn A B cf.len C ks.len D _)).mono ?_; rintro e w2 ⟨rfl, rfl⟩)
  rw [← hW1, ← hW2]
  have hz1 : W1.heap.size = W.heap.size + 1 := by rw [hW1]; simp
  have hz2 : W2.heap.size = W.heap.size + 2 := by rw [hW2]; simp [hz1]
  rw [hz1] at hST
  have cy2 := Fo.cell_of_block hy2 0
  clear hbs hb hW1 hW2 B1 B2 hy1 hp2 c0 c1 c2 c3 c4 c5
  refine wpIn_rangeFunc_ownH rfl h1 (gf := 136) (lb := #[.pointer (some ⟨W.heap.size + 1, 0, none⟩)]) rfl trivial (enters_of Tryz.func136 (by kernel_rfl) rfl) hST (fun h h' => KC.trans h h') (fun X l' o o' _ h ho _ => KC.put _ h ho) (Below.refl _ _) (fun _ => rfl)
    (fun pre X => J pre X ∧ X.cell? ⟨W.heap.size, 0, none⟩ = some (.func (.yield l) #[] #[]))
    (fun c pre X => c = .ret ∧ Jx pre X)
    ((ownUp hJ (by omega)).and (Own.from (fun s X Y row hs hg hr => cell_kept hs hg hr) _))
    (fun c => (ownFrom_pure _ (fun _ => c = .ret)).and (ownUp hJx (by omega)))
    ⟨hJ2, cy2⟩
    (fun x a' X => ∃ Bx, X.heap[Bx]? = some (.cells #[.int .i64 x.k, .int .i64 x.n, .int .i64 x.ck, .int .i64 x.cn, .slice x.A x.cf.len x.C, .slice x.B x.ks.len x.D] 41 (0, 0)) ∧ a' = { tmps := #[.func (.yield l) #[] #[], .pointer (some ⟨Bs, 0, none⟩), .pointer (some ⟨W.heap.size, 0, none⟩), .slice x.PA x.d x.PC, .pointer (some ⟨Bx, 0, none⟩), .agg #[.int .i64 k, .int .i64 n, .int .i64 ck, .int .i64 cn, .slice A cf.len C, .slice B ks.len D], .func (.func 136) #[] #[.pointer (some ⟨W.heap.size + 1, 0, none⟩)], .slice x.PA x.d x.PC, .agg #[.int .i64 x.k, .int .i64 x.n, .int .i64 x.ck, .int .i64 x.cn, .slice x.A x.cf.len x.C, .slice x.B x.ks.len x.D], undef, undef, undef, undef, undef, undef, undef], defers := [] })
    (fun x a' s X Y row hs hg hr => by
      obtain ⟨Bx, h1, h2⟩ := hs
      exact ⟨Bx, (hg.block Bx (Array.getElem?_eq_some_iff.1 h1).1 (fun e => by obtain ⟨_, o, ho, hc⟩ := hr Bx e.symm; rw [h1] at ho; cases ho; cases hc)).trans h1, h2⟩) ?assign ?body ?done ?stop
  case assign =>
    rintro l' pre x X K ⟨hi, hc⟩ hK
    simp only [PV.enc2]
    gi_wp2
    have hb' : Below X.heap.size X (X.alloc (.cells #[.int .i64 x.k, .int .i64 x.n, .int .i64 x.ck, .int .i64 x.cn, .slice x.A x.cf.len x.C, .slice x.B x.ks.len x.D] 41)) := (Below.refl _ _).alloc (Nat.le_refl _) _
    exact hK _ _ (kf_below hb') (KC.of_below hb') ⟨hJ _ _ _ none hi (grown_none hb') (fun r e => by cases e), kc hb' hc⟩ ⟨X.heap.size, heap_new _ _ _ rfl, rfl⟩
  case body =>
    rintro l' pre x a' X hl' hr' ⟨hi, hc⟩ ⟨Bx, hbx, rfl⟩ hlt
    have hYY := hY pre x X hi hlt
    obtain ⟨fn, tmps, assign, body, hy, hR⟩ := yieldAny (m - 1 - 1 - 1) hYY
    have HR : Hid (RoundIn (Fence.wide.inRound l') (m - 1 - 1 - 1) Tryz.prog l fn tmps assign body X fun e X' => (e = .returned (.bool true) ∧ J (pre ++ [x]) X' ∧ KeepsFrom W.heap.size X X' ∧ KC E X X') ∨ (e = .returned (.bool false) ∧ Jx (pre ++ [x]) X' ∧ KeepsFrom W.heap.size X X' ∧ KC E X X')) := hR
    simp only [PV.enc1] at hy
    obtain ⟨b0, b1, b2, b3, b4, b5⟩ := six_cells hbx
    have HC := Lib.hid hc
    clear hR hYY hbx hi
    have hmm : 1 ≤ m - 1 - 1 := by omega
    gi_wp2_with ((try first | refine ⟨hdd _, ?_⟩); refine HR.out.mono ?_; clear HR; rintro e X' (⟨rfl, hj, hkf, hkc⟩ | ⟨rfl, hj, hkf, hkc⟩))
    · exact ⟨kfUp hkf (by omega), hkc, hj, hkc.cell hnE HC.out⟩
    · exact ⟨kfUp hkf (by omega), rfl, hj⟩
  case done =>
    rintro D' ys X hD hS ⟨hj, _⟩ hK
    gi_wp2
    refine ⟨by simp, .inl ⟨_, _, rfl, run_takeDeferred hK, ?_⟩⟩
    exact ⟨_, results_none rfl _ _ _, ⟨_, rfl⟩, Or.inl ⟨ys, hS, OwnFrom.putObj hJ _ hj (by omega) hK rfl⟩⟩
  case stop =>
    rintro D' c pre X hD hS ⟨rfl, hj⟩ hK
    gi_wp2
    refine ⟨by simp, .inl ⟨_, _, rfl, run_takeDeferred hK, ?_⟩⟩
    exact ⟨_, results_none rfl _ _ _, ⟨_, rfl⟩, Or.inr ⟨pre, hS, OwnFrom.putObj hJx _ hj (by omega) hK rfl⟩⟩
end Go.Proofs.YtcgbepmhfimbjaaGreatDoor

namespace Go.Proofs.YtcgbepmhfimbjaaGreatDoor
open Go.RowKit
set_option linter.unusedVariables false

/-- What the table of forms holds at a kind, its words aside. -/
def FormAt (w : World) (i : Nat) (hn hc : Bool) (kids : Int) : Prop :=
  ∃ (A : Option Addr) (l C : Nat), w.cell? ⟨0, 4 * i, none⟩ = some (.slice A l C) ∧ w.cell? ⟨0, 4 * i + 1, none⟩ = some (.bool hn) ∧ w.cell? ⟨0, 4 * i + 2, none⟩ = some (.bool hc) ∧ w.cell? ⟨0, 4 * i + 3, none⟩ = some (.int .i64 kids)
structure Forms (w : World) : Prop where
  f1 : FormAt w 1 false false 0
  f2 : FormAt w 2 false false 0
  f3 : FormAt w 3 true false 0
  f4 : FormAt w 4 false true 0
  f5 : FormAt w 5 false false 2
  f6 : FormAt w 6 false true 2
  f7 : FormAt w 7 false true 1
theorem FormAt.sees {w w' : World} {i : Nat} {hn hc : Bool} {kids : Int} (h : FormAt w i hn hc kids) (hs : Sees w w') : FormAt w' i hn hc kids := by
  obtain ⟨A, l, C, h1, h2, h3, h4⟩ := h
  exact ⟨A, l, C, kc hs h1, kc hs h2, kc hs h3, kc hs h4⟩
theorem Forms.sees {w w' : World} (h : Forms w) (hs : Sees w w') : Forms w' := ⟨h.f1.sees hs, h.f2.sees hs, h.f3.sees hs, h.f4.sees hs, h.f5.sees hs, h.f6.sees hs, h.f7.sees hs⟩

set_option maxHeartbeats 2000000 in
set_option maxRecDepth 100000 in
theorem phasForm_1 (t a n ck cn : Int) (cf : Fo) (f : Pg) (hm : cf.nodes ≤ 1048576) (hcf : cf.Fits) (hln : f.len ≤ 1048576) (A B : Option Addr) (C D : Nat) (w : World) (hA : cf.Lies w A) (hF : FormAt w 1 false false 0) :
    Calls Tryz.prog 80 #[.agg #[.int .i64 1, .int .i64 n, .int .i64 ck, .int .i64 cn, .slice A cf.len C, .slice B f.len D], .agg #[.int .i64 t, .int .i64 a]] w fun e w' => e = .returned (.bool (pform t a 1 n ck cn cf f.len)) ∧ Below w.heap.size w w' := by
  obtain ⟨Wd, lw, Cw, d0, d1, d2, d3⟩ := hF
  obtain ⟨w0, hw0⟩ : ∃ w0, w0 = (w.alloc (.cells #[.int .i64 1, .int .i64 n, .int .i64 ck, .int .i64 cn, .slice A cf.len C, .slice B f.len D] 41)).alloc (.cells #[.int .i64 t, .int .i64 a] 34) := ⟨_, rfl⟩
  have B0 : Sees w w0 := by rw [hw0]; exact ((Sees.refl w).alloc _).alloc _
  have hp0 : w0.heap[w.heap.size]? = some (.cells #[.int .i64 1, .int .i64 n, .int .i64 ck, .int .i64 cn, .slice A cf.len C, .slice B f.len D] 41 (0, 0)) := by rw [hw0]; exact (Below.heap_alloc _ _ _ (by simp)).trans (heap_new _ _ _ rfl)
  have hg0 : w0.heap[w.heap.size + 1]? = some (.cells #[.int .i64 t, .int .i64 a] 34 (0, 0)) := by rw [hw0]; exact heap_new _ _ _ (by simp)
  obtain ⟨q0, hq0⟩ : ∃ q : Bool, q = belowB n 1 := ⟨_, rfl⟩
  have K0 : Hid (∀ W : World, Calls Tryz.prog 95 #[.int .i64 n, .int .i64 1] W fun e w' => e = .returned (.bool q0) ∧ W = w') := fun W => by rw [hq0]; exact below_any n 1 W
  obtain ⟨q1, hq1⟩ : ∃ q : Bool, q = fieldV t a ck cn cf false := ⟨_, rfl⟩
  have K1 : Hid (∀ W : World, Sees w W → Calls Tryz.prog 115 #[.agg #[.int .i64 t, .int .i64 a], .agg #[.int .i64 ck, .int .i64 cn, .slice A cf.len C], .bool false] W fun e w' => e = .returned (.bool q1) ∧ Below W.heap.size W w') := fun W h => by rw [hq1]; exact isCondField_any t a ck cn cf hm hcf false A C W (hA.sees h)
  have HS : Hid (pform t a 1 n ck cn cf f.len = (decide ((f.len : Int) = 0) && (q0 && q1))) := by
    show _ = _
    unfold pform
    rw [hq0, hq1]
    rfl
  have FIN : Hid (∀ W : World, Below w0.heap.size w0 W → Below w.heap.size w W) := fun W h => B0.below h
  have e0 : w0.cell? ⟨0, 4, none⟩ = some (.slice Wd lw Cw) := kc B0 d0
  have e1 : w0.cell? ⟨0, 5, none⟩ = some (.bool false) := kc B0 d1
  have e2 : w0.cell? ⟨0, 6, none⟩ = some (.bool false) := kc B0 d2
  have e3 : w0.cell? ⟨0, 7, none⟩ = some (.int .i64 0) := kc B0 d3
  have a0 := Fo.cell_of_block hp0 0; have a1 := Fo.cell_of_block hp0 1; have a2 := Fo.cell_of_block hp0 2; have a3 := Fo.cell_of_block hp0 3; have a4 := Fo.cell_of_block hp0 4; have a5 := Fo.cell_of_block hp0 5
  have s0 := Fo.cell_of_block hg0 0; have s1 := Fo.cell_of_block hg0 1
  have l0 : w.heap.size + 1 < w0.heap.size := by rw [hw0]; simp
  have lg : 0 < w0.heap.size := World.block_lt_of_cell? _ _ e0
  obtain ⟨w1, hw1⟩ : ∃ w1, w1 = w0.alloc (.cells #[.slice Wd lw Cw, .bool false, .bool false, .int .i64 0] 172) := ⟨_, rfl⟩
  have B1 : Sees w0 w1 := by rw [hw1]; exact (Sees.refl _).alloc _
  have hf1 : w1.heap[w0.heap.size]? = some (.cells #[.slice Wd lw Cw, .bool false, .bool false, .int .i64 0] 172 (0, 0)) := by rw [hw1]; exact heap_new _ _ _ rfl
  have A0 := kc B1 a0; have A1 := kc B1 a1; have A2 := kc B1 a2; have A3 := kc B1 a3; have A4 := kc B1 a4; have A5 := kc B1 a5; have S0 := kc B1 s0; have S1 := kc B1 s1
  have F0 := Fo.cell_of_block hf1 0; have F1 := Fo.cell_of_block hf1 1; have F2 := Fo.cell_of_block hf1 2; have F3 := Fo.cell_of_block hf1 3
  have HB0 := Lib.hid B0; have HB1 := Lib.hid B1
  rw [hw1] at A0 A1 A2 A3 A4 A5 S0 S1 F0 F1 F2 F3
  rw [hw0] at A0 A1 A2 A3 A4 A5 S0 S1 F0 F1 F2 F3 e0 e1 e2 e3 a0 a1 a2 a3 a4 a5 s0 s1
  have HW0 := Lib.hid hw0; have HW1 := Lib.hid hw1
  clear hw0 hw1
  clear hq0 hq1 hm hcf hA B0 B1 d0 d1 d2 d3 hp0 hg0 hf1
  by_cases hl : (f.len : Int) = 0
  · have tl : ((f.len : Int) == 0) = true := by simp [hl]
    have HD : Hid (pform t a 1 n ck cn cf f.len = (q0 && q1)) := by show _ = _; rw [HS.out, decide_eq_true hl]; rfl
    clear hl HS
    cases q0
    · go_enter Tryz.func80, Tryz.ntmps80
      go_wp2_with fail
      refine (K0.out _).mono ?_
      rintro e w' ⟨rfl, rfl⟩
      go_wp2_with fail
      go_ret
      exact ⟨ret_bool HD.out.symm, by rw [← HW0.out, ← HW1.out]; exact FIN.out _ HB1.out⟩
    · go_enter Tryz.func80, Tryz.ntmps80
      go_wp2_with fail
      refine (K0.out _).mono ?_
      rintro e w' ⟨rfl, rfl⟩
      go_wp2_with fail
      rw [← HW0.out, ← HW1.out]
      refine (K1.out _ (HB0.out.below HB1.out)).mono ?_
      rintro e w2 ⟨rfl, hb⟩
      have B2 := Lib.hid (FIN.out _ (Below.trans HB1.out (hb.mono HB1.out.size)))
      clear hb
      go_wp2_with fail
      go_ret
      exact ⟨ret_bool HD.out.symm, B2.out⟩
  · have tl : ((f.len : Int) == 0) = false := by rw [beq_eq_false_iff_ne]; exact hl
    have HD : Hid (pform t a 1 n ck cn cf f.len = false) := by show _ = _; rw [HS.out, decide_eq_false hl]; rfl
    clear hl HS
    go_enter Tryz.func80, Tryz.ntmps80
    go_wp2_with fail
    go_ret
    exact ⟨ret_bool HD.out.symm, by rw [← HW0.out, ← HW1.out]; exact FIN.out _ HB1.out⟩
set_option maxHeartbeats 2000000 in
set_option maxRecDepth 100000 in
theorem phasForm_2 (t a n ck cn : Int) (cf : Fo) (f : Pg) (hm : cf.nodes ≤ 1048576) (hcf : cf.Fits) (hln : f.len ≤ 1048576) (A B : Option Addr) (C D : Nat) (w : World) (hA : cf.Lies w A) (hF : FormAt w 2 false false 0) :
    Calls Tryz.prog 80 #[.agg #[.int .i64 2, .int .i64 n, .int .i64 ck, .int .i64 cn, .slice A cf.len C, .slice B f.len D], .agg #[.int .i64 t, .int .i64 a]] w fun e w' => e = .returned (.bool (pform t a 2 n ck cn cf f.len)) ∧ Below w.heap.size w w' := by
  obtain ⟨Wd, lw, Cw, d0, d1, d2, d3⟩ := hF
  obtain ⟨w0, hw0⟩ : ∃ w0, w0 = (w.alloc (.cells #[.int .i64 2, .int .i64 n, .int .i64 ck, .int .i64 cn, .slice A cf.len C, .slice B f.len D] 41)).alloc (.cells #[.int .i64 t, .int .i64 a] 34) := ⟨_, rfl⟩
  have B0 : Sees w w0 := by rw [hw0]; exact ((Sees.refl w).alloc _).alloc _
  have hp0 : w0.heap[w.heap.size]? = some (.cells #[.int .i64 2, .int .i64 n, .int .i64 ck, .int .i64 cn, .slice A cf.len C, .slice B f.len D] 41 (0, 0)) := by rw [hw0]; exact (Below.heap_alloc _ _ _ (by simp)).trans (heap_new _ _ _ rfl)
  have hg0 : w0.heap[w.heap.size + 1]? = some (.cells #[.int .i64 t, .int .i64 a] 34 (0, 0)) := by rw [hw0]; exact heap_new _ _ _ (by simp)
  obtain ⟨q0, hq0⟩ : ∃ q : Bool, q = belowB n 1 := ⟨_, rfl⟩
  have K0 : Hid (∀ W : World, Calls Tryz.prog 95 #[.int .i64 n, .int .i64 1] W fun e w' => e = .returned (.bool q0) ∧ W = w') := fun W => by rw [hq0]; exact below_any n 1 W
  obtain ⟨q1, hq1⟩ : ∃ q : Bool, q = fieldV t a ck cn cf false := ⟨_, rfl⟩
  have K1 : Hid (∀ W : World, Sees w W → Calls Tryz.prog 115 #[.agg #[.int .i64 t, .int .i64 a], .agg #[.int .i64 ck, .int .i64 cn, .slice A cf.len C], .bool false] W fun e w' => e = .returned (.bool q1) ∧ Below W.heap.size W w') := fun W h => by rw [hq1]; exact isCondField_any t a ck cn cf hm hcf false A C W (hA.sees h)
  have HS : Hid (pform t a 2 n ck cn cf f.len = (decide ((f.len : Int) = 0) && (q0 && q1))) := by
    show _ = _
    unfold pform
    rw [hq0, hq1]
    rfl
  have FIN : Hid (∀ W : World, Below w0.heap.size w0 W → Below w.heap.size w W) := fun W h => B0.below h
  have e0 : w0.cell? ⟨0, 8, none⟩ = some (.slice Wd lw Cw) := kc B0 d0
  have e1 : w0.cell? ⟨0, 9, none⟩ = some (.bool false) := kc B0 d1
  have e2 : w0.cell? ⟨0, 10, none⟩ = some (.bool false) := kc B0 d2
  have e3 : w0.cell? ⟨0, 11, none⟩ = some (.int .i64 0) := kc B0 d3
  have a0 := Fo.cell_of_block hp0 0; have a1 := Fo.cell_of_block hp0 1; have a2 := Fo.cell_of_block hp0 2; have a3 := Fo.cell_of_block hp0 3; have a4 := Fo.cell_of_block hp0 4; have a5 := Fo.cell_of_block hp0 5
  have s0 := Fo.cell_of_block hg0 0; have s1 := Fo.cell_of_block hg0 1
  have l0 : w.heap.size + 1 < w0.heap.size := by rw [hw0]; simp
  have lg : 0 < w0.heap.size := World.block_lt_of_cell? _ _ e0
  obtain ⟨w1, hw1⟩ : ∃ w1, w1 = w0.alloc (.cells #[.slice Wd lw Cw, .bool false, .bool false, .int .i64 0] 172) := ⟨_, rfl⟩
  have B1 : Sees w0 w1 := by rw [hw1]; exact (Sees.refl _).alloc _
  have hf1 : w1.heap[w0.heap.size]? = some (.cells #[.slice Wd lw Cw, .bool false, .bool false, .int .i64 0] 172 (0, 0)) := by rw [hw1]; exact heap_new _ _ _ rfl
  have A0 := kc B1 a0; have A1 := kc B1 a1; have A2 := kc B1 a2; have A3 := kc B1 a3; have A4 := kc B1 a4; have A5 := kc B1 a5; have S0 := kc B1 s0; have S1 := kc B1 s1
  have F0 := Fo.cell_of_block hf1 0; have F1 := Fo.cell_of_block hf1 1; have F2 := Fo.cell_of_block hf1 2; have F3 := Fo.cell_of_block hf1 3
  have HB0 := Lib.hid B0; have HB1 := Lib.hid B1
  rw [hw1] at A0 A1 A2 A3 A4 A5 S0 S1 F0 F1 F2 F3
  rw [hw0] at A0 A1 A2 A3 A4 A5 S0 S1 F0 F1 F2 F3 e0 e1 e2 e3 a0 a1 a2 a3 a4 a5 s0 s1
  have HW0 := Lib.hid hw0; have HW1 := Lib.hid hw1
  clear hw0 hw1
  clear hq0 hq1 hm hcf hA B0 B1 d0 d1 d2 d3 hp0 hg0 hf1
  by_cases hl : (f.len : Int) = 0
  · have tl : ((f.len : Int) == 0) = true := by simp [hl]
    have HD : Hid (pform t a 2 n ck cn cf f.len = (q0 && q1)) := by show _ = _; rw [HS.out, decide_eq_true hl]; rfl
    clear hl HS
    cases q0
    · go_enter Tryz.func80, Tryz.ntmps80
      go_wp2_with fail
      refine (K0.out _).mono ?_
      rintro e w' ⟨rfl, rfl⟩
      go_wp2_with fail
      go_ret
      exact ⟨ret_bool HD.out.symm, by rw [← HW0.out, ← HW1.out]; exact FIN.out _ HB1.out⟩
    · go_enter Tryz.func80, Tryz.ntmps80
      go_wp2_with fail
      refine (K0.out _).mono ?_
      rintro e w' ⟨rfl, rfl⟩
      go_wp2_with fail
      rw [← HW0.out, ← HW1.out]
      refine (K1.out _ (HB0.out.below HB1.out)).mono ?_
      rintro e w2 ⟨rfl, hb⟩
      have B2 := Lib.hid (FIN.out _ (Below.trans HB1.out (hb.mono HB1.out.size)))
      clear hb
      go_wp2_with fail
      go_ret
      exact ⟨ret_bool HD.out.symm, B2.out⟩
  · have tl : ((f.len : Int) == 0) = false := by rw [beq_eq_false_iff_ne]; exact hl
    have HD : Hid (pform t a 2 n ck cn cf f.len = false) := by show _ = _; rw [HS.out, decide_eq_false hl]; rfl
    clear hl HS
    go_enter Tryz.func80, Tryz.ntmps80
    go_wp2_with fail
    go_ret
    exact ⟨ret_bool HD.out.symm, by rw [← HW0.out, ← HW1.out]; exact FIN.out _ HB1.out⟩
set_option maxHeartbeats 2000000 in
set_option maxRecDepth 100000 in
theorem phasForm_3 (t a n ck cn : Int) (cf : Fo) (f : Pg) (hm : cf.nodes ≤ 1048576) (hcf : cf.Fits) (hln : f.len ≤ 1048576) (A B : Option Addr) (C D : Nat) (w : World) (hA : cf.Lies w A) (hF : FormAt w 3 true false 0) :
    Calls Tryz.prog 80 #[.agg #[.int .i64 3, .int .i64 n, .int .i64 ck, .int .i64 cn, .slice A cf.len C, .slice B f.len D], .agg #[.int .i64 t, .int .i64 a]] w fun e w' => e = .returned (.bool (pform t a 3 n ck cn cf f.len)) ∧ Below w.heap.size w w' := by
  obtain ⟨Wd, lw, Cw, d0, d1, d2, d3⟩ := hF
  obtain ⟨w0, hw0⟩ : ∃ w0, w0 = (w.alloc (.cells #[.int .i64 3, .int .i64 n, .int .i64 ck, .int .i64 cn, .slice A cf.len C, .slice B f.len D] 41)).alloc (.cells #[.int .i64 t, .int .i64 a] 34) := ⟨_, rfl⟩
  have B0 : Sees w w0 := by rw [hw0]; exact ((Sees.refl w).alloc _).alloc _
  have hp0 : w0.heap[w.heap.size]? = some (.cells #[.int .i64 3, .int .i64 n, .int .i64 ck, .int .i64 cn, .slice A cf.len C, .slice B f.len D] 41 (0, 0)) := by rw [hw0]; exact (Below.heap_alloc _ _ _ (by simp)).trans (heap_new _ _ _ rfl)
  have hg0 : w0.heap[w.heap.size + 1]? = some (.cells #[.int .i64 t, .int .i64 a] 34 (0, 0)) := by rw [hw0]; exact heap_new _ _ _ (by simp)
  obtain ⟨q0, hq0⟩ : ∃ q : Bool, q = belowB n a := ⟨_, rfl⟩
  have K0 : Hid (∀ W : World, Calls Tryz.prog 95 #[.int .i64 n, .int .i64 a] W fun e w' => e = .returned (.bool q0) ∧ W = w') := fun W => by rw [hq0]; exact below_any n a W
  obtain ⟨q1, hq1⟩ : ∃ q : Bool, q = fieldV t a ck cn cf false := ⟨_, rfl⟩
  have K1 : Hid (∀ W : World, Sees w W → Calls Tryz.prog 115 #[.agg #[.int .i64 t, .int .i64 a], .agg #[.int .i64 ck, .int .i64 cn, .slice A cf.len C], .bool false] W fun e w' => e = .returned (.bool q1) ∧ Below W.heap.size W w') := fun W h => by rw [hq1]; exact isCondField_any t a ck cn cf hm hcf false A C W (hA.sees h)
  have HS : Hid (pform t a 3 n ck cn cf f.len = (decide ((f.len : Int) = 0) && (q0 && q1))) := by
    show _ = _
    unfold pform
    rw [hq0, hq1]
    rfl
  have FIN : Hid (∀ W : World, Below w0.heap.size w0 W → Below w.heap.size w W) := fun W h => B0.below h
  have e0 : w0.cell? ⟨0, 12, none⟩ = some (.slice Wd lw Cw) := kc B0 d0
  have e1 : w0.cell? ⟨0, 13, none⟩ = some (.bool true) := kc B0 d1
  have e2 : w0.cell? ⟨0, 14, none⟩ = some (.bool false) := kc B0 d2
  have e3 : w0.cell? ⟨0, 15, none⟩ = some (.int .i64 0) := kc B0 d3
  have a0 := Fo.cell_of_block hp0 0; have a1 := Fo.cell_of_block hp0 1; have a2 := Fo.cell_of_block hp0 2; have a3 := Fo.cell_of_block hp0 3; have a4 := Fo.cell_of_block hp0 4; have a5 := Fo.cell_of_block hp0 5
  have s0 := Fo.cell_of_block hg0 0; have s1 := Fo.cell_of_block hg0 1
  have l0 : w.heap.size + 1 < w0.heap.size := by rw [hw0]; simp
  have lg : 0 < w0.heap.size := World.block_lt_of_cell? _ _ e0
  obtain ⟨w1, hw1⟩ : ∃ w1, w1 = w0.alloc (.cells #[.slice Wd lw Cw, .bool true, .bool false, .int .i64 0] 172) := ⟨_, rfl⟩
  have B1 : Sees w0 w1 := by rw [hw1]; exact (Sees.refl _).alloc _
  have hf1 : w1.heap[w0.heap.size]? = some (.cells #[.slice Wd lw Cw, .bool true, .bool false, .int .i64 0] 172 (0, 0)) := by rw [hw1]; exact heap_new _ _ _ rfl
  have A0 := kc B1 a0; have A1 := kc B1 a1; have A2 := kc B1 a2; have A3 := kc B1 a3; have A4 := kc B1 a4; have A5 := kc B1 a5; have S0 := kc B1 s0; have S1 := kc B1 s1
  have F0 := Fo.cell_of_block hf1 0; have F1 := Fo.cell_of_block hf1 1; have F2 := Fo.cell_of_block hf1 2; have F3 := Fo.cell_of_block hf1 3
  have HB0 := Lib.hid B0; have HB1 := Lib.hid B1
  rw [hw1] at A0 A1 A2 A3 A4 A5 S0 S1 F0 F1 F2 F3
  rw [hw0] at A0 A1 A2 A3 A4 A5 S0 S1 F0 F1 F2 F3 e0 e1 e2 e3 a0 a1 a2 a3 a4 a5 s0 s1
  have HW0 := Lib.hid hw0; have HW1 := Lib.hid hw1
  clear hw0 hw1
  clear hq0 hq1 hm hcf hA B0 B1 d0 d1 d2 d3 hp0 hg0 hf1
  by_cases hl : (f.len : Int) = 0
  · have tl : ((f.len : Int) == 0) = true := by simp [hl]
    have HD : Hid (pform t a 3 n ck cn cf f.len = (q0 && q1)) := by show _ = _; rw [HS.out, decide_eq_true hl]; rfl
    clear hl HS
    cases q0
    · go_enter Tryz.func80, Tryz.ntmps80
      go_wp2_with fail
      refine (K0.out _).mono ?_
      rintro e w' ⟨rfl, rfl⟩
      go_wp2_with fail
      go_ret
      exact ⟨ret_bool HD.out.symm, by rw [← HW0.out, ← HW1.out]; exact FIN.out _ HB1.out⟩
    · go_enter Tryz.func80, Tryz.ntmps80
      go_wp2_with fail
      refine (K0.out _).mono ?_
      rintro e w' ⟨rfl, rfl⟩
      go_wp2_with fail
      rw [← HW0.out, ← HW1.out]
      refine (K1.out _ (HB0.out.below HB1.out)).mono ?_
      rintro e w2 ⟨rfl, hb⟩
      have B2 := Lib.hid (FIN.out _ (Below.trans HB1.out (hb.mono HB1.out.size)))
      clear hb
      go_wp2_with fail
      go_ret
      exact ⟨ret_bool HD.out.symm, B2.out⟩
  · have tl : ((f.len : Int) == 0) = false := by rw [beq_eq_false_iff_ne]; exact hl
    have HD : Hid (pform t a 3 n ck cn cf f.len = false) := by show _ = _; rw [HS.out, decide_eq_false hl]; rfl
    clear hl HS
    go_enter Tryz.func80, Tryz.ntmps80
    go_wp2_with fail
    go_ret
    exact ⟨ret_bool HD.out.symm, by rw [← HW0.out, ← HW1.out]; exact FIN.out _ HB1.out⟩
set_option maxHeartbeats 2000000 in
set_option maxRecDepth 100000 in
theorem phasForm_4 (t a n ck cn : Int) (cf : Fo) (f : Pg) (hm : cf.nodes ≤ 1048576) (hcf : cf.Fits) (hln : f.len ≤ 1048576) (A B : Option Addr) (C D : Nat) (w : World) (hA : cf.Lies w A) (hF : FormAt w 4 false true 0) :
    Calls Tryz.prog 80 #[.agg #[.int .i64 4, .int .i64 n, .int .i64 ck, .int .i64 cn, .slice A cf.len C, .slice B f.len D], .agg #[.int .i64 t, .int .i64 a]] w fun e w' => e = .returned (.bool (pform t a 4 n ck cn cf f.len)) ∧ Below w.heap.size w w' := by
  obtain ⟨Wd, lw, Cw, d0, d1, d2, d3⟩ := hF
  obtain ⟨w0, hw0⟩ : ∃ w0, w0 = (w.alloc (.cells #[.int .i64 4, .int .i64 n, .int .i64 ck, .int .i64 cn, .slice A cf.len C, .slice B f.len D] 41)).alloc (.cells #[.int .i64 t, .int .i64 a] 34) := ⟨_, rfl⟩
  have B0 : Sees w w0 := by rw [hw0]; exact ((Sees.refl w).alloc _).alloc _
  have hp0 : w0.heap[w.heap.size]? = some (.cells #[.int .i64 4, .int .i64 n, .int .i64 ck, .int .i64 cn, .slice A cf.len C, .slice B f.len D] 41 (0, 0)) := by rw [hw0]; exact (Below.heap_alloc _ _ _ (by simp)).trans (heap_new _ _ _ rfl)
  have hg0 : w0.heap[w.heap.size + 1]? = some (.cells #[.int .i64 t, .int .i64 a] 34 (0, 0)) := by rw [hw0]; exact heap_new _ _ _ (by simp)
  obtain ⟨q0, hq0⟩ : ∃ q : Bool, q = belowB n 1 := ⟨_, rfl⟩
  have K0 : Hid (∀ W : World, Calls Tryz.prog 95 #[.int .i64 n, .int .i64 1] W fun e w' => e = .returned (.bool q0) ∧ W = w') := fun W => by rw [hq0]; exact below_any n 1 W
  obtain ⟨q1, hq1⟩ : ∃ q : Bool, q = fieldV t a ck cn cf true := ⟨_, rfl⟩
  have K1 : Hid (∀ W : World, Sees w W → Calls Tryz.prog 115 #[.agg #[.int .i64 t, .int .i64 a], .agg #[.int .i64 ck, .int .i64 cn, .slice A cf.len C], .bool true] W fun e w' => e = .returned (.bool q1) ∧ Below W.heap.size W w') := fun W h => by rw [hq1]; exact isCondField_any t a ck cn cf hm hcf true A C W (hA.sees h)
  have HS : Hid (pform t a 4 n ck cn cf f.len = (decide ((f.len : Int) = 0) && (q0 && q1))) := by
    show _ = _
    unfold pform
    rw [hq0, hq1]
    rfl
  have FIN : Hid (∀ W : World, Below w0.heap.size w0 W → Below w.heap.size w W) := fun W h => B0.below h
  have e0 : w0.cell? ⟨0, 16, none⟩ = some (.slice Wd lw Cw) := kc B0 d0
  have e1 : w0.cell? ⟨0, 17, none⟩ = some (.bool false) := kc B0 d1
  have e2 : w0.cell? ⟨0, 18, none⟩ = some (.bool true) := kc B0 d2
  have e3 : w0.cell? ⟨0, 19, none⟩ = some (.int .i64 0) := kc B0 d3
  have a0 := Fo.cell_of_block hp0 0; have a1 := Fo.cell_of_block hp0 1; have a2 := Fo.cell_of_block hp0 2; have a3 := Fo.cell_of_block hp0 3; have a4 := Fo.cell_of_block hp0 4; have a5 := Fo.cell_of_block hp0 5
  have s0 := Fo.cell_of_block hg0 0; have s1 := Fo.cell_of_block hg0 1
  have l0 : w.heap.size + 1 < w0.heap.size := by rw [hw0]; simp
  have lg : 0 < w0.heap.size := World.block_lt_of_cell? _ _ e0
  obtain ⟨w1, hw1⟩ : ∃ w1, w1 = w0.alloc (.cells #[.slice Wd lw Cw, .bool false, .bool true, .int .i64 0] 172) := ⟨_, rfl⟩
  have B1 : Sees w0 w1 := by rw [hw1]; exact (Sees.refl _).alloc _
  have hf1 : w1.heap[w0.heap.size]? = some (.cells #[.slice Wd lw Cw, .bool false, .bool true, .int .i64 0] 172 (0, 0)) := by rw [hw1]; exact heap_new _ _ _ rfl
  have A0 := kc B1 a0; have A1 := kc B1 a1; have A2 := kc B1 a2; have A3 := kc B1 a3; have A4 := kc B1 a4; have A5 := kc B1 a5; have S0 := kc B1 s0; have S1 := kc B1 s1
  have F0 := Fo.cell_of_block hf1 0; have F1 := Fo.cell_of_block hf1 1; have F2 := Fo.cell_of_block hf1 2; have F3 := Fo.cell_of_block hf1 3
  have HB0 := Lib.hid B0; have HB1 := Lib.hid B1
  rw [hw1] at A0 A1 A2 A3 A4 A5 S0 S1 F0 F1 F2 F3
  rw [hw0] at A0 A1 A2 A3 A4 A5 S0 S1 F0 F1 F2 F3 e0 e1 e2 e3 a0 a1 a2 a3 a4 a5 s0 s1
  have HW0 := Lib.hid hw0; have HW1 := Lib.hid hw1
  clear hw0 hw1
  clear hq0 hq1 hm hcf hA B0 B1 d0 d1 d2 d3 hp0 hg0 hf1
  by_cases hl : (f.len : Int) = 0
  · have tl : ((f.len : Int) == 0) = true := by simp [hl]
    have HD : Hid (pform t a 4 n ck cn cf f.len = (q0 && q1)) := by show _ = _; rw [HS.out, decide_eq_true hl]; rfl
    clear hl HS
    cases q0
    · go_enter Tryz.func80, Tryz.ntmps80
      go_wp2_with fail
      refine (K0.out _).mono ?_
      rintro e w' ⟨rfl, rfl⟩
      go_wp2_with fail
      go_ret
      exact ⟨ret_bool HD.out.symm, by rw [← HW0.out, ← HW1.out]; exact FIN.out _ HB1.out⟩
    · go_enter Tryz.func80, Tryz.ntmps80
      go_wp2_with fail
      refine (K0.out _).mono ?_
      rintro e w' ⟨rfl, rfl⟩
      go_wp2_with fail
      rw [← HW0.out, ← HW1.out]
      refine (K1.out _ (HB0.out.below HB1.out)).mono ?_
      rintro e w2 ⟨rfl, hb⟩
      have B2 := Lib.hid (FIN.out _ (Below.trans HB1.out (hb.mono HB1.out.size)))
      clear hb
      go_wp2_with fail
      go_ret
      exact ⟨ret_bool HD.out.symm, B2.out⟩
  · have tl : ((f.len : Int) == 0) = false := by rw [beq_eq_false_iff_ne]; exact hl
    have HD : Hid (pform t a 4 n ck cn cf f.len = false) := by show _ = _; rw [HS.out, decide_eq_false hl]; rfl
    clear hl HS
    go_enter Tryz.func80, Tryz.ntmps80
    go_wp2_with fail
    go_ret
    exact ⟨ret_bool HD.out.symm, by rw [← HW0.out, ← HW1.out]; exact FIN.out _ HB1.out⟩
set_option maxHeartbeats 2000000 in
set_option maxRecDepth 100000 in
theorem phasForm_5 (t a n ck cn : Int) (cf : Fo) (f : Pg) (hm : cf.nodes ≤ 1048576) (hcf : cf.Fits) (hln : f.len ≤ 1048576) (A B : Option Addr) (C D : Nat) (w : World) (hA : cf.Lies w A) (hF : FormAt w 5 false false 2) :
    Calls Tryz.prog 80 #[.agg #[.int .i64 5, .int .i64 n, .int .i64 ck, .int .i64 cn, .slice A cf.len C, .slice B f.len D], .agg #[.int .i64 t, .int .i64 a]] w fun e w' => e = .returned (.bool (pform t a 5 n ck cn cf f.len)) ∧ Below w.heap.size w w' := by
  obtain ⟨Wd, lw, Cw, d0, d1, d2, d3⟩ := hF
  obtain ⟨w0, hw0⟩ : ∃ w0, w0 = (w.alloc (.cells #[.int .i64 5, .int .i64 n, .int .i64 ck, .int .i64 cn, .slice A cf.len C, .slice B f.len D] 41)).alloc (.cells #[.int .i64 t, .int .i64 a] 34) := ⟨_, rfl⟩
  have B0 : Sees w w0 := by rw [hw0]; exact ((Sees.refl w).alloc _).alloc _
  have hp0 : w0.heap[w.heap.size]? = some (.cells #[.int .i64 5, .int .i64 n, .int .i64 ck, .int .i64 cn, .slice A cf.len C, .slice B f.len D] 41 (0, 0)) := by rw [hw0]; exact (Below.heap_alloc _ _ _ (by simp)).trans (heap_new _ _ _ rfl)
  have hg0 : w0.heap[w.heap.size + 1]? = some (.cells #[.int .i64 t, .int .i64 a] 34 (0, 0)) := by rw [hw0]; exact heap_new _ _ _ (by simp)
  obtain ⟨q0, hq0⟩ : ∃ q : Bool, q = belowB n 1 := ⟨_, rfl⟩
  have K0 : Hid (∀ W : World, Calls Tryz.prog 95 #[.int .i64 n, .int .i64 1] W fun e w' => e = .returned (.bool q0) ∧ W = w') := fun W => by rw [hq0]; exact below_any n 1 W
  obtain ⟨q1, hq1⟩ : ∃ q : Bool, q = fieldV t a ck cn cf false := ⟨_, rfl⟩
  have K1 : Hid (∀ W : World, Sees w W → Calls Tryz.prog 115 #[.agg #[.int .i64 t, .int .i64 a], .agg #[.int .i64 ck, .int .i64 cn, .slice A cf.len C], .bool false] W fun e w' => e = .returned (.bool q1) ∧ Below W.heap.size W w') := fun W h => by rw [hq1]; exact isCondField_any t a ck cn cf hm hcf false A C W (hA.sees h)
  have HS : Hid (pform t a 5 n ck cn cf f.len = (decide ((f.len : Int) = 2) && (q0 && q1))) := by
    show _ = _
    unfold pform
    rw [hq0, hq1]
    rfl
  have FIN : Hid (∀ W : World, Below w0.heap.size w0 W → Below w.heap.size w W) := fun W h => B0.below h
  have e0 : w0.cell? ⟨0, 20, none⟩ = some (.slice Wd lw Cw) := kc B0 d0
  have e1 : w0.cell? ⟨0, 21, none⟩ = some (.bool false) := kc B0 d1
  have e2 : w0.cell? ⟨0, 22, none⟩ = some (.bool false) := kc B0 d2
  have e3 : w0.cell? ⟨0, 23, none⟩ = some (.int .i64 2) := kc B0 d3
  have a0 := Fo.cell_of_block hp0 0; have a1 := Fo.cell_of_block hp0 1; have a2 := Fo.cell_of_block hp0 2; have a3 := Fo.cell_of_block hp0 3; have a4 := Fo.cell_of_block hp0 4; have a5 := Fo.cell_of_block hp0 5
  have s0 := Fo.cell_of_block hg0 0; have s1 := Fo.cell_of_block hg0 1
  have l0 : w.heap.size + 1 < w0.heap.size := by rw [hw0]; simp
  have lg : 0 < w0.heap.size := World.block_lt_of_cell? _ _ e0
  obtain ⟨w1, hw1⟩ : ∃ w1, w1 = w0.alloc (.cells #[.slice Wd lw Cw, .bool false, .bool false, .int .i64 2] 172) := ⟨_, rfl⟩
  have B1 : Sees w0 w1 := by rw [hw1]; exact (Sees.refl _).alloc _
  have hf1 : w1.heap[w0.heap.size]? = some (.cells #[.slice Wd lw Cw, .bool false, .bool false, .int .i64 2] 172 (0, 0)) := by rw [hw1]; exact heap_new _ _ _ rfl
  have A0 := kc B1 a0; have A1 := kc B1 a1; have A2 := kc B1 a2; have A3 := kc B1 a3; have A4 := kc B1 a4; have A5 := kc B1 a5; have S0 := kc B1 s0; have S1 := kc B1 s1
  have F0 := Fo.cell_of_block hf1 0; have F1 := Fo.cell_of_block hf1 1; have F2 := Fo.cell_of_block hf1 2; have F3 := Fo.cell_of_block hf1 3
  have HB0 := Lib.hid B0; have HB1 := Lib.hid B1
  rw [hw1] at A0 A1 A2 A3 A4 A5 S0 S1 F0 F1 F2 F3
  rw [hw0] at A0 A1 A2 A3 A4 A5 S0 S1 F0 F1 F2 F3 e0 e1 e2 e3 a0 a1 a2 a3 a4 a5 s0 s1
  have HW0 := Lib.hid hw0; have HW1 := Lib.hid hw1
  clear hw0 hw1
  clear hq0 hq1 hm hcf hA B0 B1 d0 d1 d2 d3 hp0 hg0 hf1
  by_cases hl : (f.len : Int) = 2
  · have tl : ((f.len : Int) == 2) = true := by simp [hl]
    have HD : Hid (pform t a 5 n ck cn cf f.len = (q0 && q1)) := by show _ = _; rw [HS.out, decide_eq_true hl]; rfl
    clear hl HS
    cases q0
    · go_enter Tryz.func80, Tryz.ntmps80
      go_wp2_with fail
      refine (K0.out _).mono ?_
      rintro e w' ⟨rfl, rfl⟩
      go_wp2_with fail
      go_ret
      exact ⟨ret_bool HD.out.symm, by rw [← HW0.out, ← HW1.out]; exact FIN.out _ HB1.out⟩
    · go_enter Tryz.func80, Tryz.ntmps80
      go_wp2_with fail
      refine (K0.out _).mono ?_
      rintro e w' ⟨rfl, rfl⟩
      go_wp2_with fail
      rw [← HW0.out, ← HW1.out]
      refine (K1.out _ (HB0.out.below HB1.out)).mono ?_
      rintro e w2 ⟨rfl, hb⟩
      have B2 := Lib.hid (FIN.out _ (Below.trans HB1.out (hb.mono HB1.out.size)))
      clear hb
      go_wp2_with fail
      go_ret
      exact ⟨ret_bool HD.out.symm, B2.out⟩
  · have tl : ((f.len : Int) == 2) = false := by rw [beq_eq_false_iff_ne]; exact hl
    have HD : Hid (pform t a 5 n ck cn cf f.len = false) := by show _ = _; rw [HS.out, decide_eq_false hl]; rfl
    clear hl HS
    go_enter Tryz.func80, Tryz.ntmps80
    go_wp2_with fail
    go_ret
    exact ⟨ret_bool HD.out.symm, by rw [← HW0.out, ← HW1.out]; exact FIN.out _ HB1.out⟩
set_option maxHeartbeats 2000000 in
set_option maxRecDepth 100000 in
theorem phasForm_6 (t a n ck cn : Int) (cf : Fo) (f : Pg) (hm : cf.nodes ≤ 1048576) (hcf : cf.Fits) (hln : f.len ≤ 1048576) (A B : Option Addr) (C D : Nat) (w : World) (hA : cf.Lies w A) (hF : FormAt w 6 false true 2) :
    Calls Tryz.prog 80 #[.agg #[.int .i64 6, .int .i64 n, .int .i64 ck, .int .i64 cn, .slice A cf.len C, .slice B f.len D], .agg #[.int .i64 t, .int .i64 a]] w fun e w' => e = .returned (.bool (pform t a 6 n ck cn cf f.len)) ∧ Below w.heap.size w w' := by
  obtain ⟨Wd, lw, Cw, d0, d1, d2, d3⟩ := hF
  obtain ⟨w0, hw0⟩ : ∃ w0, w0 = (w.alloc (.cells #[.int .i64 6, .int .i64 n, .int .i64 ck, .int .i64 cn, .slice A cf.len C, .slice B f.len D] 41)).alloc (.cells #[.int .i64 t, .int .i64 a] 34) := ⟨_, rfl⟩
  have B0 : Sees w w0 := by rw [hw0]; exact ((Sees.refl w).alloc _).alloc _
  have hp0 : w0.heap[w.heap.size]? = some (.cells #[.int .i64 6, .int .i64 n, .int .i64 ck, .int .i64 cn, .slice A cf.len C, .slice B f.len D] 41 (0, 0)) := by rw [hw0]; exact (Below.heap_alloc _ _ _ (by simp)).trans (heap_new _ _ _ rfl)
  have hg0 : w0.heap[w.heap.size + 1]? = some (.cells #[.int .i64 t, .int .i64 a] 34 (0, 0)) := by rw [hw0]; exact heap_new _ _ _ (by simp)
  obtain ⟨q0, hq0⟩ : ∃ q : Bool, q = belowB n 1 := ⟨_, rfl⟩
  have K0 : Hid (∀ W : World, Calls Tryz.prog 95 #[.int .i64 n, .int .i64 1] W fun e w' => e = .returned (.bool q0) ∧ W = w') := fun W => by rw [hq0]; exact below_any n 1 W
  obtain ⟨q1, hq1⟩ : ∃ q : Bool, q = fieldV t a ck cn cf true := ⟨_, rfl⟩
  have K1 : Hid (∀ W : World, Sees w W → Calls Tryz.prog 115 #[.agg #[.int .i64 t, .int .i64 a], .agg #[.int .i64 ck, .int .i64 cn, .slice A cf.len C], .bool true] W fun e w' => e = .returned (.bool q1) ∧ Below W.heap.size W w') := fun W h => by rw [hq1]; exact isCondField_any t a ck cn cf hm hcf true A C W (hA.sees h)
  have HS : Hid (pform t a 6 n ck cn cf f.len = (decide ((f.len : Int) = 2) && (q0 && q1))) := by
    show _ = _
    unfold pform
    rw [hq0, hq1]
    rfl
  have FIN : Hid (∀ W : World, Below w0.heap.size w0 W → Below w.heap.size w W) := fun W h => B0.below h
  have e0 : w0.cell? ⟨0, 24, none⟩ = some (.slice Wd lw Cw) := kc B0 d0
  have e1 : w0.cell? ⟨0, 25, none⟩ = some (.bool false) := kc B0 d1
  have e2 : w0.cell? ⟨0, 26, none⟩ = some (.bool true) := kc B0 d2
  have e3 : w0.cell? ⟨0, 27, none⟩ = some (.int .i64 2) := kc B0 d3
  have a0 := Fo.cell_of_block hp0 0; have a1 := Fo.cell_of_block hp0 1; have a2 := Fo.cell_of_block hp0 2; have a3 := Fo.cell_of_block hp0 3; have a4 := Fo.cell_of_block hp0 4; have a5 := Fo.cell_of_block hp0 5
  have s0 := Fo.cell_of_block hg0 0; have s1 := Fo.cell_of_block hg0 1
  have l0 : w.heap.size + 1 < w0.heap.size := by rw [hw0]; simp
  have lg : 0 < w0.heap.size := World.block_lt_of_cell? _ _ e0
  obtain ⟨w1, hw1⟩ : ∃ w1, w1 = w0.alloc (.cells #[.slice Wd lw Cw, .bool false, .bool true, .int .i64 2] 172) := ⟨_, rfl⟩
  have B1 : Sees w0 w1 := by rw [hw1]; exact (Sees.refl _).alloc _
  have hf1 : w1.heap[w0.heap.size]? = some (.cells #[.slice Wd lw Cw, .bool false, .bool true, .int .i64 2] 172 (0, 0)) := by rw [hw1]; exact heap_new _ _ _ rfl
  have A0 := kc B1 a0; have A1 := kc B1 a1; have A2 := kc B1 a2; have A3 := kc B1 a3; have A4 := kc B1 a4; have A5 := kc B1 a5; have S0 := kc B1 s0; have S1 := kc B1 s1
  have F0 := Fo.cell_of_block hf1 0; have F1 := Fo.cell_of_block hf1 1; have F2 := Fo.cell_of_block hf1 2; have F3 := Fo.cell_of_block hf1 3
  have HB0 := Lib.hid B0; have HB1 := Lib.hid B1
  rw [hw1] at A0 A1 A2 A3 A4 A5 S0 S1 F0 F1 F2 F3
  rw [hw0] at A0 A1 A2 A3 A4 A5 S0 S1 F0 F1 F2 F3 e0 e1 e2 e3 a0 a1 a2 a3 a4 a5 s0 s1
  have HW0 := Lib.hid hw0; have HW1 := Lib.hid hw1
  clear hw0 hw1
  clear hq0 hq1 hm hcf hA B0 B1 d0 d1 d2 d3 hp0 hg0 hf1
  by_cases hl : (f.len : Int) = 2
  · have tl : ((f.len : Int) == 2) = true := by simp [hl]
    have HD : Hid (pform t a 6 n ck cn cf f.len = (q0 && q1)) := by show _ = _; rw [HS.out, decide_eq_true hl]; rfl
    clear hl HS
    cases q0
    · go_enter Tryz.func80, Tryz.ntmps80
      go_wp2_with fail
      refine (K0.out _).mono ?_
      rintro e w' ⟨rfl, rfl⟩
      go_wp2_with fail
      go_ret
      exact ⟨ret_bool HD.out.symm, by rw [← HW0.out, ← HW1.out]; exact FIN.out _ HB1.out⟩
    · go_enter Tryz.func80, Tryz.ntmps80
      go_wp2_with fail
      refine (K0.out _).mono ?_
      rintro e w' ⟨rfl, rfl⟩
      go_wp2_with fail
      rw [← HW0.out, ← HW1.out]
      refine (K1.out _ (HB0.out.below HB1.out)).mono ?_
      rintro e w2 ⟨rfl, hb⟩
      have B2 := Lib.hid (FIN.out _ (Below.trans HB1.out (hb.mono HB1.out.size)))
      clear hb
      go_wp2_with fail
      go_ret
      exact ⟨ret_bool HD.out.symm, B2.out⟩
  · have tl : ((f.len : Int) == 2) = false := by rw [beq_eq_false_iff_ne]; exact hl
    have HD : Hid (pform t a 6 n ck cn cf f.len = false) := by show _ = _; rw [HS.out, decide_eq_false hl]; rfl
    clear hl HS
    go_enter Tryz.func80, Tryz.ntmps80
    go_wp2_with fail
    go_ret
    exact ⟨ret_bool HD.out.symm, by rw [← HW0.out, ← HW1.out]; exact FIN.out _ HB1.out⟩
set_option maxHeartbeats 2000000 in
set_option maxRecDepth 100000 in
theorem phasForm_7 (t a n ck cn : Int) (cf : Fo) (f : Pg) (hm : cf.nodes ≤ 1048576) (hcf : cf.Fits) (hln : f.len ≤ 1048576) (A B : Option Addr) (C D : Nat) (w : World) (hA : cf.Lies w A) (hF : FormAt w 7 false true 1) :
    Calls Tryz.prog 80 #[.agg #[.int .i64 7, .int .i64 n, .int .i64 ck, .int .i64 cn, .slice A cf.len C, .slice B f.len D], .agg #[.int .i64 t, .int .i64 a]] w fun e w' => e = .returned (.bool (pform t a 7 n ck cn cf f.len)) ∧ Below w.heap.size w w' := by
  obtain ⟨Wd, lw, Cw, d0, d1, d2, d3⟩ := hF
  obtain ⟨w0, hw0⟩ : ∃ w0, w0 = (w.alloc (.cells #[.int .i64 7, .int .i64 n, .int .i64 ck, .int .i64 cn, .slice A cf.len C, .slice B f.len D] 41)).alloc (.cells #[.int .i64 t, .int .i64 a] 34) := ⟨_, rfl⟩
  have B0 : Sees w w0 := by rw [hw0]; exact ((Sees.refl w).alloc _).alloc _
  have hp0 : w0.heap[w.heap.size]? = some (.cells #[.int .i64 7, .int .i64 n, .int .i64 ck, .int .i64 cn, .slice A cf.len C, .slice B f.len D] 41 (0, 0)) := by rw [hw0]; exact (Below.heap_alloc _ _ _ (by simp)).trans (heap_new _ _ _ rfl)
  have hg0 : w0.heap[w.heap.size + 1]? = some (.cells #[.int .i64 t, .int .i64 a] 34 (0, 0)) := by rw [hw0]; exact heap_new _ _ _ (by simp)
  obtain ⟨q0, hq0⟩ : ∃ q : Bool, q = belowB n 1 := ⟨_, rfl⟩
  have K0 : Hid (∀ W : World, Calls Tryz.prog 95 #[.int .i64 n, .int .i64 1] W fun e w' => e = .returned (.bool q0) ∧ W = w') := fun W => by rw [hq0]; exact below_any n 1 W
  obtain ⟨q1, hq1⟩ : ∃ q : Bool, q = fieldV t a ck cn cf true := ⟨_, rfl⟩
  have K1 : Hid (∀ W : World, Sees w W → Calls Tryz.prog 115 #[.agg #[.int .i64 t, .int .i64 a], .agg #[.int .i64 ck, .int .i64 cn, .slice A cf.len C], .bool true] W fun e w' => e = .returned (.bool q1) ∧ Below W.heap.size W w') := fun W h => by rw [hq1]; exact isCondField_any t a ck cn cf hm hcf true A C W (hA.sees h)
  have HS : Hid (pform t a 7 n ck cn cf f.len = (decide ((f.len : Int) = 1) && (q0 && q1))) := by
    show _ = _
    unfold pform
    rw [hq0, hq1]
    rfl
  have FIN : Hid (∀ W : World, Below w0.heap.size w0 W → Below w.heap.size w W) := fun W h => B0.below h
  have e0 : w0.cell? ⟨0, 28, none⟩ = some (.slice Wd lw Cw) := kc B0 d0
  have e1 : w0.cell? ⟨0, 29, none⟩ = some (.bool false) := kc B0 d1
  have e2 : w0.cell? ⟨0, 30, none⟩ = some (.bool true) := kc B0 d2
  have e3 : w0.cell? ⟨0, 31, none⟩ = some (.int .i64 1) := kc B0 d3
  have a0 := Fo.cell_of_block hp0 0; have a1 := Fo.cell_of_block hp0 1; have a2 := Fo.cell_of_block hp0 2; have a3 := Fo.cell_of_block hp0 3; have a4 := Fo.cell_of_block hp0 4; have a5 := Fo.cell_of_block hp0 5
  have s0 := Fo.cell_of_block hg0 0; have s1 := Fo.cell_of_block hg0 1
  have l0 : w.heap.size + 1 < w0.heap.size := by rw [hw0]; simp
  have lg : 0 < w0.heap.size := World.block_lt_of_cell? _ _ e0
  obtain ⟨w1, hw1⟩ : ∃ w1, w1 = w0.alloc (.cells #[.slice Wd lw Cw, .bool false, .bool true, .int .i64 1] 172) := ⟨_, rfl⟩
  have B1 : Sees w0 w1 := by rw [hw1]; exact (Sees.refl _).alloc _
  have hf1 : w1.heap[w0.heap.size]? = some (.cells #[.slice Wd lw Cw, .bool false, .bool true, .int .i64 1] 172 (0, 0)) := by rw [hw1]; exact heap_new _ _ _ rfl
  have A0 := kc B1 a0; have A1 := kc B1 a1; have A2 := kc B1 a2; have A3 := kc B1 a3; have A4 := kc B1 a4; have A5 := kc B1 a5; have S0 := kc B1 s0; have S1 := kc B1 s1
  have F0 := Fo.cell_of_block hf1 0; have F1 := Fo.cell_of_block hf1 1; have F2 := Fo.cell_of_block hf1 2; have F3 := Fo.cell_of_block hf1 3
  have HB0 := Lib.hid B0; have HB1 := Lib.hid B1
  rw [hw1] at A0 A1 A2 A3 A4 A5 S0 S1 F0 F1 F2 F3
  rw [hw0] at A0 A1 A2 A3 A4 A5 S0 S1 F0 F1 F2 F3 e0 e1 e2 e3 a0 a1 a2 a3 a4 a5 s0 s1
  have HW0 := Lib.hid hw0; have HW1 := Lib.hid hw1
  clear hw0 hw1
  clear hq0 hq1 hm hcf hA B0 B1 d0 d1 d2 d3 hp0 hg0 hf1
  by_cases hl : (f.len : Int) = 1
  · have tl : ((f.len : Int) == 1) = true := by simp [hl]
    have HD : Hid (pform t a 7 n ck cn cf f.len = (q0 && q1)) := by show _ = _; rw [HS.out, decide_eq_true hl]; rfl
    clear hl HS
    cases q0
    · go_enter Tryz.func80, Tryz.ntmps80
      go_wp2_with fail
      refine (K0.out _).mono ?_
      rintro e w' ⟨rfl, rfl⟩
      go_wp2_with fail
      go_ret
      exact ⟨ret_bool HD.out.symm, by rw [← HW0.out, ← HW1.out]; exact FIN.out _ HB1.out⟩
    · go_enter Tryz.func80, Tryz.ntmps80
      go_wp2_with fail
      refine (K0.out _).mono ?_
      rintro e w' ⟨rfl, rfl⟩
      go_wp2_with fail
      rw [← HW0.out, ← HW1.out]
      refine (K1.out _ (HB0.out.below HB1.out)).mono ?_
      rintro e w2 ⟨rfl, hb⟩
      have B2 := Lib.hid (FIN.out _ (Below.trans HB1.out (hb.mono HB1.out.size)))
      clear hb
      go_wp2_with fail
      go_ret
      exact ⟨ret_bool HD.out.symm, B2.out⟩
  · have tl : ((f.len : Int) == 1) = false := by rw [beq_eq_false_iff_ne]; exact hl
    have HD : Hid (pform t a 7 n ck cn cf f.len = false) := by show _ = _; rw [HS.out, decide_eq_false hl]; rfl
    clear hl HS
    go_enter Tryz.func80, Tryz.ntmps80
    go_wp2_with fail
    go_ret
    exact ⟨ret_bool HD.out.symm, by rw [← HW0.out, ← HW1.out]; exact FIN.out _ HB1.out⟩
theorem phasForm_any (t a k n ck cn : Int) (cf : Fo) (f : Pg) (hm : cf.nodes ≤ 1048576) (hcf : cf.Fits) (hln : f.len ≤ 1048576) (A B : Option Addr) (C D : Nat) (w : World) (hA : cf.Lies w A) (hF : Forms w) :
    Calls Tryz.prog 80 #[.agg #[.int .i64 k, .int .i64 n, .int .i64 ck, .int .i64 cn, .slice A cf.len C, .slice B f.len D], .agg #[.int .i64 t, .int .i64 a]] w fun e w' => e = .returned (.bool (pform t a k n ck cn cf f.len)) ∧ Below w.heap.size w w' := by
  by_cases h1 : k = 1
  · subst h1; exact phasForm_1 t a n ck cn cf f hm hcf hln A B C D w hA hF.f1
  by_cases h2 : k = 2
  · subst h2; exact phasForm_2 t a n ck cn cf f hm hcf hln A B C D w hA hF.f2
  by_cases h3 : k = 3
  · subst h3; exact phasForm_3 t a n ck cn cf f hm hcf hln A B C D w hA hF.f3
  by_cases h4 : k = 4
  · subst h4; exact phasForm_4 t a n ck cn cf f hm hcf hln A B C D w hA hF.f4
  by_cases h5 : k = 5
  · subst h5; exact phasForm_5 t a n ck cn cf f hm hcf hln A B C D w hA hF.f5
  by_cases h6 : k = 6
  · subst h6; exact phasForm_6 t a n ck cn cf f hm hcf hln A B C D w hA hF.f6
  by_cases h7 : k = 7
  · subst h7; exact phasForm_7 t a n ck cn cf f hm hcf hln A B C D w hA hF.f7
  have HD : Hid (pform t a k n ck cn cf f.len = false) := by
    show _ = _
    unfold pform pkidC
    rw [if_neg (by omega), if_neg (by omega), if_neg (by omega), decide_eq_false (by omega)]
    rfl
  by_cases hk : k < 1
  · have hk2 := Lib.hid hk
    clear h1 h2 h3 h4 h5 h6 h7 hm hcf hA hF hln
    go_enter Tryz.func80, Tryz.ntmps80
    go_wp2_with fail
    go_ret
    exact ⟨ret_bool HD.out.symm, by go_grown⟩
  · have hk2 : 7 < k := by omega
    clear h1 h2 h3 h4 h5 h6 h7 hm hcf hA hF hln
    go_enter Tryz.func80, Tryz.ntmps80
    go_wp2_with fail
    go_ret
    exact ⟨ret_bool HD.out.symm, by go_grown⟩
end Go.Proofs.YtcgbepmhfimbjaaGreatDoor
