/- SupportOf: what it answers, lists that grow, tables that are filled. -/
import Derived.Test.YtcgbepmhfimbjaaVMD
import Derived.Test.YtcgbepmhfimbjaaTab
import Derived.Test.YtcgbepmhfimbjaaGenM
import Derived.Test.YtcgbepmhfimbjaaFpt
import Derived.Maps.AppendAt
import Derived.OwnWalk
import Derived.Deep.RegionWith
namespace Go.Proofs.Ytcgbepmhfimbjaa
open Go.RowKit

def supT (t p : Int) (ac : List (List Bool)) : List (List Bool) := tab t.toNat p.toNat fun i x => (ac.getD i []).getD x false
def supR (p : Int) (rows : List (List Int)) : List (List Bool) := tab p.toNat p.toNat fun x y => (rows.getD x []).getD y 0 != -1
def supA (p : Int) (nx : List (List (List Int))) : List (List (List Bool)) := nx.map (supR p)
theorem validC_bd {t a p : Int} {ac : List (List Bool)} {nx : List (List (List Int))} (h : validC t a p ac nx = true) : 0 ≤ t ∧ t ≤ 3 ∧ 0 ≤ a ∧ a ≤ 4 ∧ 1 ≤ p ∧ p ≤ 8 ∧ (ac.length : Int) = t ∧ (nx.length : Int) = a ∧ (∀ r ∈ ac, (r.length : Int) = p) ∧ ∀ rows ∈ nx, (rows.length : Int) = p ∧ ∀ r ∈ rows, (r.length : Int) = p := by
  unfold validC at h
  simp only [Bool.and_eq_true, decide_eq_true_eq] at h
  obtain ⟨h1, h2, h3⟩ := h
  have hb := validT_bd h1
  unfold validT at h1
  simp only [Bool.and_eq_true, decide_eq_true_eq] at h1
  refine ⟨hb.1, hb.2.1, hb.2.2.1, hb.2.2.2.1, hb.2.2.2.2.1, hb.2.2.2.2.2.1, hb.2.2.2.2.2.2, h2, fun r hr => ?_, fun rows hr => ?_⟩
  · have := List.all_eq_true.1 h1.2.2.2 r hr
    unfold isRow at this
    simpa using this
  · have h4 := List.all_eq_true.1 h3 rows hr
    unfold actC rowV isRow at h4
    simp only [Bool.and_eq_true, decide_eq_true_eq] at h4
    refine ⟨h4.1, fun r hr2 => ?_⟩
    have := List.all_eq_true.1 h4.2 r hr2
    simp only [Bool.and_eq_true, decide_eq_true_eq] at this
    exact this.1
theorem supA_step {p : Int} {nx : List (List (List Int))} {j : Nat} (h : j < nx.length) : (supA p nx).take (j + 1) = (supA p nx).take j ++ [supR p nx[j]] := by
  unfold supA
  rw [List.take_succ_eq_append_getElem (by simpa using h)]
  simp
theorem supA_len (p : Int) (nx : List (List (List Int))) : (supA p nx).length = nx.length := by simp [supA]
theorem supR_len {p : Int} (rows : List (List Int)) : (supR p rows).length = p.toNat := tab_len _ _ _
end Go.Proofs.Ytcgbepmhfimbjaa

namespace Go.Proofs.Ytcgbepmhfimbjaa
open Go.RowKit

def supO (t a p : Int) (ac : List (List Bool)) (nx : List (List (List Int))) : Int × Int × Int × List (List Bool) × List (List (List Bool)) × Int :=
  if validC t a p ac nx = true then (t, a, p, supT t p ac, supA p nx, 0) else (0, 0, 0, [], [], 1)
def SEnd (t a p : Int) (ac : List (List Bool)) (nx : List (List (List Int))) (w : World) : Ending → World → Prop :=
  MEnd (supO t a p ac nx).1 (supO t a p ac nx).2.1 (supO t a p ac nx).2.2.1 (supO t a p ac nx).2.2.2.1 (supO t a p ac nx).2.2.2.2.1 (supO t a p ac nx).2.2.2.2.2 w
theorem SEnd.yes {t a p : Int} {ac : List (List Bool)} {nx : List (List (List Int))} {w w' : World} {e : Ending} (hv : validC t a p ac nx = true) (h : MEnd t a p (supT t p ac) (supA p nx) 0 w e w') : SEnd t a p ac nx w e w' := by
  unfold SEnd supO
  rw [if_pos hv]
  exact h
theorem SEnd.no {t a p : Int} {ac : List (List Bool)} {nx : List (List (List Int))} {w w' : World} {e : Ending} (hv : validC t a p ac nx = false) (h : MEnd 0 0 0 [] [] 1 w e w') : SEnd t a p ac nx w e w' := by
  unfold SEnd supO
  rw [if_neg (by rw [hv]; decide)]
  exact h
theorem MEnd.no {q : Int} {w w' : World} (h : Below w.heap.size w w') : MEnd 0 0 0 [] [] q w (.returned (.tuple #[.agg #[.int .i64 0, .int .i64 0, .int .i64 0, .slice none 0 0, .slice none 0 0], .int .i64 q])) w' :=
  ⟨none, none, 0, 0, rfl, ⟨h.size, fun _ => False, fun _ => False, Or.inl rfl, Or.inl rfl, fun _ h => h.elim, fun _ h => h.elim, fun _ h _ => h⟩, h⟩
theorem getD_bb {ac : List (List Bool)} {i x : Nat} (hi : i < ac.length) (hx : x < ac[i].length) : (ac.getD i []).getD x false = ac[i][x] := by
  simp [List.getD, hi, hx]
theorem getD_ii {rows : List (List Int)} {i x : Nat} (hi : i < rows.length) (hx : x < rows[i].length) : (rows.getD i []).getD x 0 = rows[i][x] := by
  simp [List.getD, hi, hx]
theorem five_block {W : World} {b : Nat} {T : TypeId} {u0 u1 u2 u3 u4 : Value} (h : W.heap[b]? = some (.cells #[u0, u1, u2, u3, u4] T (0, 0))) (v0 v1 v2 v3 v4 : Value) : (((((W.setCell ⟨b, 0, none⟩ v0).setCell ⟨b, 1, none⟩ v1).setCell ⟨b, 2, none⟩ v2).setCell ⟨b, 3, none⟩ v3).setCell ⟨b, 4, none⟩ v4).heap[b]? = some (.cells #[v0, v1, v2, v3, v4] T (0, 0)) := by
  have h0 : (W.setCell ⟨b, 0, none⟩ v0).heap[b]? = some (.cells #[v0, u1, u2, u3, u4] T (0, 0)) := by rw [Fo.block_setCell h _]; rfl
  have h1 : ((W.setCell ⟨b, 0, none⟩ v0).setCell ⟨b, 1, none⟩ v1).heap[b]? = some (.cells #[v0, v1, u2, u3, u4] T (0, 0)) := by rw [Fo.block_setCell h0 _]; rfl
  have h2 : (((W.setCell ⟨b, 0, none⟩ v0).setCell ⟨b, 1, none⟩ v1).setCell ⟨b, 2, none⟩ v2).heap[b]? = some (.cells #[v0, v1, v2, u3, u4] T (0, 0)) := by rw [Fo.block_setCell h1 _]; rfl
  have h3 : ((((W.setCell ⟨b, 0, none⟩ v0).setCell ⟨b, 1, none⟩ v1).setCell ⟨b, 2, none⟩ v2).setCell ⟨b, 3, none⟩ v3).heap[b]? = some (.cells #[v0, v1, v2, v3, u4] T (0, 0)) := by rw [Fo.block_setCell h2 _]; rfl
  rw [Fo.block_setCell h3 _]; rfl
theorem five_keep (W : World) (b k : Nat) (v0 v1 v2 v3 v4 : Value) (hk : k ≠ b) : (((((W.setCell ⟨b, 0, none⟩ v0).setCell ⟨b, 1, none⟩ v1).setCell ⟨b, 2, none⟩ v2).setCell ⟨b, 3, none⟩ v3).setCell ⟨b, 4, none⟩ v4).heap[k]? = W.heap[k]? :=
  (Below.heap_setCell _ _ _ _ hk).trans ((Below.heap_setCell _ _ _ _ hk).trans ((Below.heap_setCell _ _ _ _ hk).trans ((Below.heap_setCell _ _ _ _ hk).trans (Below.heap_setCell _ _ _ _ hk))))
theorem five_below {w W : World} {n b : Nat} (h : Below n w W) (hb : n ≤ b) (v0 v1 v2 v3 v4 : Value) : Below n w (((((W.setCell ⟨b, 0, none⟩ v0).setCell ⟨b, 1, none⟩ v1).setCell ⟨b, 2, none⟩ v2).setCell ⟨b, 3, none⟩ v3).setCell ⟨b, 4, none⟩ v4) :=
  ((((h.setCell hb v0).setCell hb v1).setCell hb v2).setCell hb v3).setCell hb v4
theorem mend5 {t a p : Int} {w W : World} {b lo1 hi1 lo2 hi2 n m : Nat} {ts : List (List Bool)} {acts : List (List (List Bool))} {A1 A2 : Option Addr} {C1 C2 : Nat} (h1 : BBF W ts A1 (rng lo1 hi1)) (h2 : BBBF W acts A2 (rng lo2 hi2)) (hw : Below w.heap.size w W) (hn : w.heap.size ≤ b) (hb : b < lo1) (hl : lo1 ≤ hi1) (hm : hi1 ≤ lo2) (hh : lo2 ≤ hi2) (hz : hi2 ≤ W.heap.size) (ht : ts.length = n) (ha : acts.length = m) (v0 v1 v2 v3 v4 : Value) :
    MEnd t a p ts acts 0 w (.returned (.tuple #[.agg #[.int .i64 t, .int .i64 a, .int .i64 p, .slice A1 n C1, .slice A2 m C2], .int .i64 0])) (((((W.setCell ⟨b, 0, none⟩ v0).setCell ⟨b, 1, none⟩ v1).setCell ⟨b, 2, none⟩ v2).setCell ⟨b, 3, none⟩ v3).setCell ⟨b, 4, none⟩ v4) := by
  subst ht ha
  have zs : (((((W.setCell ⟨b, 0, none⟩ v0).setCell ⟨b, 1, none⟩ v1).setCell ⟨b, 2, none⟩ v2).setCell ⟨b, 3, none⟩ v3).setCell ⟨b, 4, none⟩ v4).heap.size = W.heap.size := by simp
  refine ⟨A1, A2, C1, C2, rfl, ⟨by rw [zs]; omega, rng lo1 hi1, rng lo2 hi2, bbF_ok.keep h1 fun k hk => five_keep W b k _ _ _ _ _ (by have := hk.1; omega), bbbF_ok.keep h2 fun k hk => five_keep W b k _ _ _ _ _ (by have := hk.1; omega), fun k hk => ⟨by have := hk.1; omega, by rw [zs]; have := hk.2; omega⟩, fun k hk => ⟨by have := hk.1; omega, by rw [zs]; have := hk.2; omega⟩, fun k h3 h4 => by have := h3.2; have := h4.1; omega⟩, five_below hw hn _ _ _ _ _⟩
end Go.Proofs.Ytcgbepmhfimbjaa

namespace Go.Proofs.Ytcgbepmhfimbjaa
open Go.RowKit

/-- The value v is a row of the call's own that holds xs, each element in blocks of its own from base on. -/
def Acc {α : Type} (E : TypeId) (Q : World → α → Option Addr → FP → Prop) (ln : α → Nat) (base : Nat) (W : World) (v : Value) (xs : List α) : Prop :=
  ∃ (vals : List Value) (G : Nat → FP), W.ownsRow base E 1 v xs.length vals ∧ (∀ i (x : α), xs[i]? = some x → ∃ A C, vals[i]? = some (.slice A (ln x) C) ∧ Q W x A (G i)) ∧
    (∀ i k, G i k → i < xs.length ∧ base ≤ k ∧ k < W.heap.size ∧ v.ownBlock ≠ some k) ∧ ∀ i i' k, G i k → G i' k → i = i'
section
variable {α : Type} {E : TypeId} {Q : World → α → Option Addr → FP → Prop} {ln : α → Nat} {base : Nat} {W W' Wa : World} {v : Value} {xs : List α}
theorem Acc.start : Acc E Q ln base W (.slice none 0 0) ([] : List α) := ⟨[], fun _ _ => False, World.ownsRow_nil _ _ _ _, fun _ _ h => absurd h (by simp), fun _ _ h => h.elim, fun _ _ _ h => h.elim⟩
theorem Acc.made (hb : base ≤ W.heap.size) : Acc E Q ln base (W.alloc (.cells #[] E)) (.slice (some ⟨W.heap.size, 0, none⟩) 0 0) ([] : List α) := ⟨[], fun _ _ => False, World.ownsRow_made W #[] 0 hb (Nat.zero_le _) rfl, fun _ _ h => absurd h (by simp), fun _ _ h => h.elim, fun _ _ _ h => h.elim⟩
theorem own_keep {n : Nat} {vals : List Value} (h : W.ownsRow base E 1 v n vals) (hk : ∀ k, v.ownBlock = some k → W'.heap[k]? = W.heap[k]?) : W'.ownsRow base E 1 v n vals := by
  refine ⟨h.1, ?_⟩
  rcases h.2 with hn | ⟨g, cap, cur, rfl, hb, hgg, rest⟩
  · exact .inl hn
  · exact .inr ⟨g, cap, cur, rfl, hb, (hk g rfl).trans hgg, rest⟩
theorem Acc.keep (hQ : FootOk Q) (h : Acc E Q ln base W v xs) (hs : W.heap.size ≤ W'.heap.size) (hk : ∀ k, base ≤ k → k < W.heap.size → W'.heap[k]? = W.heap[k]?) : Acc E Q ln base W' v xs := by
  obtain ⟨vals, G, h1, h2, h3, h4⟩ := h
  refine ⟨vals, G, own_keep h1 fun k hv => hk k (h1.lt k hv).1 (h1.lt k hv).2, fun i x hx => ?_, fun i k hg => ?_, h4⟩
  · obtain ⟨A, C, h5, h6⟩ := h2 i x hx
    exact ⟨A, C, h5, hQ.keep h6 fun k hg => hk k (h3 i k hg).2.1 (h3 i k hg).2.2.1⟩
  · have := h3 i k hg
    exact ⟨this.1, this.2.1, Nat.lt_of_lt_of_le this.2.2.1 hs, this.2.2.2⟩
theorem Acc.below (hQ : FootOk Q) (h : Acc E Q ln base W v xs) (hb : Below W.heap.size W W') : Acc E Q ln base W' v xs := h.keep hQ hb.size fun k _ hk => hb.block k hk
/-- An element comes in: what a call made between two worlds. -/
theorem Acc.push (hQ : FootOk Q) (h : Acc E Q ln base W v xs) (hbase : base ≤ W.heap.size) (hb : Below W.heap.size W W') {x : α} {A : Option Addr} {C : Nat} (hA : Q W' x A (rng W.heap.size W'.heap.size)) (hba : Below W'.heap.size W' Wa) :
    ∃ vals, vals.length = xs.length ∧ Wa.ownsRow base E 1 v xs.length vals ∧ ∀ v' w', w'.ownsRow base E 1 v' (xs.length + 1) (vals ++ [.slice A (ln x) C]) → Wa.grownBy w' v.ownBlock → (v'.ownBlock = v.ownBlock ∨ v'.ownBlock = some Wa.heap.size) → Acc E Q ln base w' v' (xs ++ [x]) := by
  obtain ⟨vals, G, h1, h2, h3, h4⟩ := h
  have hvl : vals.length = xs.length := by have := h1.1; rwa [Nat.mul_one] at this
  have s1 := hb.size
  have s2 := hba.size
  have hk0 : ∀ k, k < W.heap.size → Wa.heap[k]? = W.heap[k]? := fun k hk => (hba.block k (by omega)).trans (hb.block k hk)
  refine ⟨vals, hvl, own_keep h1 fun k hv => hk0 k (h1.lt k hv).2, fun v' w' ho hg hat => ?_⟩
  have s3 := hg.size
  refine ⟨_, fun i => if i = xs.length then rng W.heap.size W'.heap.size else G i, by rw [List.length_append]; exact ho, fun i y hy => ?_, fun i k hk => ?_, fun i i' k h5 h6 => ?_⟩
  · by_cases hi : i < xs.length
    · rw [List.getElem?_append_left hi] at hy
      obtain ⟨A', C', h5, h6⟩ := h2 i y hy
      refine ⟨A', C', by rw [List.getElem?_append_left (by omega)]; exact h5, ?_⟩
      dsimp only
      rw [if_neg (by omega)]
      exact hQ.keep h6 fun k hk => (hg.block k (by have := (h3 i k hk).2.2.1; omega) (fun he => (h3 i k hk).2.2.2 he.symm)).trans (hk0 k (h3 i k hk).2.2.1)
    · have hl : i < (xs ++ [x]).length := (List.getElem?_eq_some_iff.1 hy).1
      have he : i = xs.length := by simp at hl; omega
      subst he
      have hyx : y = x := by simpa using hy.symm
      subst hyx
      refine ⟨A, C, by rw [← hvl]; simp, ?_⟩
      dsimp only
      rw [if_pos rfl]
      exact hQ.keep hA fun k hk => (hg.block k (by have := hk.2; omega) (fun he => by have := (h1.lt k he.symm).2; have := hk.1; omega)).trans (hba.block k hk.2)
  · rw [List.length_append]
    dsimp only at hk
    have hvk : ∀ j, v'.ownBlock = some j → v.ownBlock = some j ∨ j = Wa.heap.size := fun j hj => by
      rcases hat with h5 | h5
      · exact Or.inl (h5.symm.trans hj)
      · exact Or.inr (Option.some.inj (hj.symm.trans h5))
    by_cases hi : i = xs.length
    · rw [if_pos hi] at hk
      refine ⟨by simp; omega, by have := hk.1; omega, by have := hk.2; omega, fun hv => ?_⟩
      rcases hvk k hv with h5 | h5
      · have := (h1.lt k h5).2; have := hk.1; omega
      · have := hk.2; omega
    · rw [if_neg hi] at hk
      have h7 := h3 i k hk
      refine ⟨by simp; omega, h7.2.1, by omega, fun hv => ?_⟩
      rcases hvk k hv with h5 | h5
      · exact h7.2.2.2 h5
      · have := h7.2.2.1; omega
  · dsimp only at h5 h6
    by_cases hj1 : i = xs.length <;> by_cases hj2 : i' = xs.length
    · rw [hj1, hj2]
    · rw [if_pos hj1] at h5
      rw [if_neg hj2] at h6
      have := (h3 i' k h6).2.2.1
      have := h5.1
      omega
    · rw [if_neg hj1] at h5
      rw [if_pos hj2] at h6
      have := (h3 i k h5).2.2.1
      have := h6.1
      omega
    · rw [if_neg hj1] at h5
      rw [if_neg hj2] at h6
      exact h4 i i' k h5 h6
theorem Acc.done (h : Acc E Q ln base W v xs) : ∃ A C, v = .slice A xs.length C ∧ RowsF Q ln W xs A (rng base W.heap.size) := by
  obtain ⟨vals, G, h1, h2, h3, h4⟩ := h
  have hlt := h1.lt
  rcases h1.2 with ⟨rfl, h0⟩ | ⟨g, cap, cur, rfl, hb, hg, hn, _, hs, ht⟩
  · refine ⟨none, 0, by rw [h0], Or.inl (List.eq_nil_of_length_eq_zero h0)⟩
  · refine ⟨some ⟨g, 0, none⟩, cap, rfl, Or.inr ⟨g, G, rfl, hlt g rfl, fun i => Fo.unfrozen_of_block hg i, fun i x hx => ?_, fun i k hk => ?_, h4⟩⟩
    · obtain ⟨A, C, h5, h6⟩ := h2 i x hx
      obtain ⟨hl, _⟩ := List.getElem?_eq_some_iff.1 hx
      refine ⟨A, C, ?_, h6⟩
      rw [Fo.cell_of_block hg, ← Array.getElem?_toList]
      rw [← ht, List.getElem?_take, if_pos (by omega)] at h5
      exact h5
    · have h7 := h3 i k hk
      exact ⟨⟨h7.2.1, h7.2.2.1⟩, fun he => h7.2.2.2 (by rw [he]; rfl)⟩
end
end Go.Proofs.Ytcgbepmhfimbjaa

namespace Go.Proofs.Ytcgbepmhfimbjaa
open Go.RowKit

/-- What is asked of an element's type: one cell. -/
structure El1 (T E : TypeId) (z : Value) (bytes : Nat) : Prop where
  ht : Try.prog.underlying T = some (.slice E)
  hi : ∃ i, Try.prog.info? E = some i ∧ i.zero = some z ∧ i.size = 1 ∧ i.bytes = bytes
  hz : z.cells.size = 1
  hb : bytes ≤ 1000
theorem wp_one {T E : TypeId} {z : Value} {bytes : Nat} (el : El1 T E z bytes) {o : Oper} {a : Act} {K : Act → World → Prop} {Q : Exit → Act → World → Prop} (W : World) (s x : Operand)
    (ho : o.op = .call { callee := .builtin .append, args := #[s, x], argTypes := #[T, T] })
    (base n b : Nat) (v val : Value) (vals : List Value) (hs : a.eval s = v) (hx : a.eval x = .slice (some ⟨b, 0, none⟩) 1 1) (hown : W.ownsRow base E 1 v n vals) (hc : W.cell? ⟨b, 0, none⟩ = some val) (h1 : val.oneCell' = true) (hn : n ≤ 1048576) (hbase : base ≤ W.heap.size)
    (h : ∀ v' w', w'.ownsRow base E 1 v' (n + 1) (vals ++ [val]) → W.grownBy w' v.ownBlock → (v'.ownBlock = v.ownBlock ∨ v'.ownBlock = some W.heap.size) → K (a.put o.dst v') w') : o.wp Try.prog a W K Q := by
  obtain ⟨i, hi, hz, hsz, hby⟩ := el.hi
  have hb := el.hb
  have hmul : (n + 1) * bytes ≤ 1048577 * 1000 := Nat.mul_le_mul (by omega) hb
  obtain ⟨v', w', hrun, h2, h3, _, h5⟩ := run_append_own_at (P := Try.prog) W base T o.type E i z 1 bytes el.ht hi hz hsz hby el.hz (by omega) v n vals hown ⟨b, 0, none⟩ 1 1 [val] rfl (fun j u hu => by
      have hj : j = 0 := by
        obtain ⟨hl, _⟩ := List.getElem?_eq_some_iff.1 hu
        simpa using hl
      subst hj
      have : u = val := by simpa using hu.symm
      subst this
      simpa [Addr.add] using hc) (fun u hu => by have : u = val := (by simpa using hu); rw [this]; exact h1) (by simp only [maxLen]; omega) (by omega) hbase
  unfold Oper.wp execOp
  simp only [ho, resolve, invoke, builtin, Sem.run_bind, Sem.run_pure, Result.andThen_ok, List.map_toArray, List.map_cons, List.map_nil, hs, hx, hrun]
  exact h v' w' h2 h3 h5
theorem step_one {T E : TypeId} {z : Value} {bytes : Nat} (el : El1 T E z bytes) {ops : Array Oper} {o : Oper} {a : Act} {K : Act → World → Prop} {Q : Exit → Act → World → Prop} {F : Prop} (W : World) (hgd : o.guard = none) (s x : Operand)
    (ho : o.op = .call { callee := .builtin .append, args := #[s, x], argTypes := #[T, T] })
    (base n b : Nat) (v val : Value) (vals : List Value) (hs : a.eval s = v) (hx : a.eval x = .slice (some ⟨b, 0, none⟩) 1 1) (hown : W.ownsRow base E 1 v n vals) (hc : W.cell? ⟨b, 0, none⟩ = some val) (h1 : val.oneCell' = true) (hn : n ≤ 1048576) (hbase : base ≤ W.heap.size)
    (h : ∀ v' w', w'.ownsRow base E 1 v' (n + 1) (vals ++ [val]) → W.grownBy w' v.ownBlock → (v'.ownBlock = v.ownBlock ∨ v'.ownBlock = some W.heap.size) → K (a.put o.dst v') w') :
    if Region.wanted o (yielded ops a.tmps) = true then Oper.wp Try.prog o a W K Q else F := by
  have hw : Region.wanted o (yielded ops a.tmps) = true := by simp [Region.wanted, hgd]
  rw [if_pos hw]
  exact wp_one el W s x ho base n b v val vals hs hx hown hc h1 hn hbase h
theorem wpList_one {T E : TypeId} {z : Value} {bytes : Nat} (el : El1 T E z bytes) {ops : Array Oper} {rest : List Oper} {o : Oper} {a : Act} {Q : Exit → Act → World → Prop} (W : World) (hgd : o.guard = none) (s x : Operand)
    (ho : o.op = .call { callee := .builtin .append, args := #[s, x], argTypes := #[T, T] })
    (base n b : Nat) (v val : Value) (vals : List Value) (hs : a.eval s = v) (hx : a.eval x = .slice (some ⟨b, 0, none⟩) 1 1) (hown : W.ownsRow base E 1 v n vals) (hc : W.cell? ⟨b, 0, none⟩ = some val) (h1 : val.oneCell' = true) (hn : n ≤ 1048576) (hbase : base ≤ W.heap.size)
    (h : ∀ v' w', w'.ownsRow base E 1 v' (n + 1) (vals ++ [val]) → W.grownBy w' v.ownBlock → (v'.ownBlock = v.ownBlock ∨ v'.ownBlock = some W.heap.size) → wpList Try.prog ops Q rest (a.put o.dst v') w') : wpList Try.prog ops Q (o :: rest) a W :=
  wpList_plain hgd fun _ hK => wp_one el W s x ho base n b v val vals hs hx hown hc h1 hn hbase fun v' w' h2 h3 h4 => hK _ _ (h v' w' h2 h3 h4)
theorem Try.elBBB : El1 25 24 (.slice none 0 0) 24 := ⟨Try.underlying25, info_parts Try.infoBoolSSS, rfl, by decide⟩
theorem Try.elBB : El1 24 104 (.slice none 0 0) 24 := ⟨Try.underlying24, info_parts Try.infoBoolSS, rfl, by decide⟩
end Go.Proofs.Ytcgbepmhfimbjaa

namespace Go.Proofs.Ytcgbepmhfimbjaa
open Go.RowKit

/-- A cell of a table: where it lies, and the table behind a store there. -/
theorem BBF.put {w : World} {xs : List (List Bool)} {A : Option Addr} {F : FP} (h : BBF w xs A F) {x y : Nat} (hx : x < xs.length) (hy : y < xs[x].length) :
    ∃ b r C, A = some ⟨b, 0, none⟩ ∧ F b ∧ F r ∧ w.cell? ⟨b, x, none⟩ = some (.slice (some ⟨r, 0, none⟩) xs[x].length C) ∧ w.cell? ⟨r, y, none⟩ = some (.bool xs[x][y]) ∧ w.frozen? ⟨r, y, none⟩ = false ∧
      ∀ v : Bool, BBF (w.setCell ⟨r, y, none⟩ (.bool v)) (xs.set x (xs[x].set y v)) A F := by
  rcases h with h | ⟨b, G, hA, hb, hf, hrow, hG, hdis⟩
  · subst h; simp at hx
  obtain ⟨B, C, hc, hQ⟩ := hrow x xs[x] (List.getElem?_eq_getElem hx)
  rcases hQ with h | ⟨r, hB, hr, hfr, hcells⟩
  · rw [h] at hy; simp at hy
  have hrb : r ≠ b := (hG x r hr).2
  subst hB
  refine ⟨b, r, C, hA, hb, (hG x r hr).1, hc, hcells y _ (List.getElem?_eq_getElem hy), hfr y, fun v => ?_⟩
  have hk : ∀ k, k ≠ r → (w.setCell ⟨r, y, none⟩ (.bool v)).heap[k]? = w.heap[k]? := fun k hk => Below.heap_setCell _ _ _ _ hk
  refine Or.inr ⟨b, G, hA, hb, fun i => by rw [World.frozen?_setCell]; exact hf i, fun i z hz => ?_, hG, hdis⟩
  have hcb : (w.setCell ⟨r, y, none⟩ (.bool v)).cell? ⟨b, i, none⟩ = w.cell? ⟨b, i, none⟩ := World.cell?_of_block (a := ⟨b, i, none⟩) (hk b (fun h => hrb h.symm))
  rw [hcb]
  by_cases hix : i = x
  · subst hix
    have hz2 : z = xs[i].set y v := by
      rw [List.getElem?_set_self hx] at hz
      exact (Option.some.inj hz).symm
    subst hz2
    refine ⟨some ⟨r, 0, none⟩, C, by rw [List.length_set]; exact hc, Or.inr ⟨r, rfl, hr, fun j => by rw [World.frozen?_setCell]; exact hfr j, fun j u hu => ?_⟩⟩
    by_cases hjy : j = y
    · subst hjy
      rw [List.getElem?_set_self hy] at hu
      have hu2 : u = v := (Option.some.inj hu).symm
      subst hu2
      exact World.cell?_setCell_same (h := hcells j _ (List.getElem?_eq_getElem hy)) ..
    · rw [List.getElem?_set_ne (fun h => hjy h.symm)] at hu
      have hne : (⟨r, y, none⟩ : Addr) ≠ ⟨r, j, none⟩ := fun h => hjy (by injection h with _ h2 _; exact h2.symm)
      rw [World.cell?_setCell_other (a := ⟨r, y, none⟩) (b := ⟨r, j, none⟩) (h := hne)]
      exact hcells j u hu
  · rw [List.getElem?_set_ne (fun h => hix h.symm)] at hz
    obtain ⟨B2, C2, h1, h2⟩ := hrow i z hz
    exact ⟨B2, C2, h1, boolsF_ok.keep h2 fun k hk2 => hk k (fun he => hix (hdis i x k hk2 (he ▸ hr)))⟩

/-- A table that is filled up to a place. -/
def upT (p : Nat) (T : Nat → Nat → Bool) (x y : Nat) : List (List Bool) := tab p p fun i j => if i < x ∨ (i = x ∧ j < y) then T i j else false
theorem tab_ext {α : Type} {R C : Nat} {S T : Nat → Nat → α} (h : ∀ i j, i < R → j < C → S i j = T i j) : tab R C S = tab R C T := by
  unfold tab
  refine List.map_congr_left fun i hi => List.map_congr_left fun j hj => h i j (List.mem_range.1 hi) (List.mem_range.1 hj)
theorem upT_len (p : Nat) (T : Nat → Nat → Bool) (x y : Nat) : (upT p T x y).length = p := tab_len _ _ _
theorem upT_at {p : Nat} {T : Nat → Nat → Bool} {x y i : Nat} (h : i < (upT p T x y).length) : (upT p T x y)[i] = (List.range p).map fun j => if i < x ∨ (i = x ∧ j < y) then T i j else false := tab_row _ _ _ h
theorem upT_zero (p : Nat) (T : Nat → Nat → Bool) : upT p T 0 0 = List.replicate p (List.replicate p false) := by
  unfold upT tab
  simp [List.map_const']
theorem upT_next (p : Nat) (T : Nat → Nat → Bool) (x : Nat) : upT p T x p = upT p T (x + 1) 0 := by
  refine tab_ext fun i j _ hj => ?_
  by_cases h : i < x ∨ (i = x ∧ j < p)
  · rw [if_pos h, if_pos (Or.inl (by omega))]
  · rw [if_neg h, if_neg (by omega)]
theorem upT_all (p : Nat) (T : Nat → Nat → Bool) : upT p T p 0 = tab p p T := tab_ext fun i j hi _ => by rw [if_pos (Or.inl hi)]
theorem upT_set {p : Nat} {T : Nat → Nat → Bool} {x y : Nat} (hl : x < (upT p T x y).length) : (upT p T x y).set x ((upT p T x y)[x].set y (T x y)) = upT p T x (y + 1) := by
  refine List.ext_getElem (by simp [upT_len]) fun i h1 h2 => ?_
  rw [upT_at h2, List.getElem_set]
  by_cases hix : x = i
  · rw [if_pos hix]
    subst hix
    rw [upT_at hl]
    refine List.ext_getElem (by simp) fun j h3 h4 => ?_
    rw [List.getElem_set]
    simp only [List.getElem_map, List.getElem_range]
    by_cases hjy : y = j
    · subst hjy; simp
    · rw [if_neg hjy]
      by_cases hjl : j < y
      · have h5 : j < y + 1 := by omega
        simp [hjl, h5]
      · have h5 : ¬ j < y + 1 := by omega
        simp [hjl, h5]
  · rw [if_neg hix]
    have h5 : i < (upT p T x y).length := by rw [upT_len] at h2 ⊢; exact h2
    rw [upT_at h5]
    refine List.map_congr_left fun j _ => ?_
    by_cases h : i < x ∨ (i = x ∧ j < y)
    · rw [if_pos h, if_pos (by omega)]
    · rw [if_neg h, if_neg (by omega)]
theorem upT_put {p x y : Nat} {T : Nat → Nat → Bool} {W : World} {A : Option Addr} {F : FP} (h : BBF W (upT p T x y) A F) (hx : x < p) (hy : y < p) :
    ∃ b r C old, A = some ⟨b, 0, none⟩ ∧ F b ∧ F r ∧ W.cell? ⟨b, x, none⟩ = some (.slice (some ⟨r, 0, none⟩) p C) ∧ W.cell? ⟨r, y, none⟩ = some (.bool old) ∧ W.frozen? ⟨r, y, none⟩ = false ∧ BBF (W.setCell ⟨r, y, none⟩ (.bool (T x y))) (upT p T x (y + 1)) A F := by
  have hl : x < (upT p T x y).length := by rw [upT_len]; exact hx
  have hrl : (upT p T x y)[x].length = p := by rw [upT_at hl]; simp
  obtain ⟨b, r, C, h1, h2, h3, h4, h5, h6, h7⟩ := BBF.put h hl (y := y) (by rw [hrl]; exact hy)
  rw [hrl] at h4
  exact ⟨b, r, C, _, h1, h2, h3, h4, h5, h6, by rw [← upT_set hl]; exact h7 _⟩
end Go.Proofs.Ytcgbepmhfimbjaa

namespace Go.Proofs.Ytcgbepmhfimbjaa
open Go.RowKit

/-- Block b holds a model of which one list grows; all else that lay in world w2 stays. -/
structure BA {α : Type} (E : TypeId) (Q : World → α → Option Addr → FP → Prop) (ln : α → Nat) (cs : Value → Array Value) (b : Nat) (w2 : World) (xs : List α) (v : Value) (W : World) : Prop where
  box : W.heap[b]? = some (.cells (cs v) 31 (0, 0))
  acc : Acc E Q ln w2.heap.size W v xs
  but : ButF (fun k => k = b) w2 W
  lt : b < w2.heap.size
section
variable {α : Type} {E : TypeId} {Q : World → α → Option Addr → FP → Prop} {ln : α → Nat} {cs : Value → Array Value} {b : Nat} {w1 w2 W W' Wa w' : World} {xs xs' : List α} {v v' : Value}
theorem BA.grow (hQ : FootOk Q) (h : BA E Q ln cs b w2 xs v W) (hb : Below W.heap.size W W') : BA E Q ln cs b w2 xs v W' :=
  ⟨(hb.block _ (Nat.lt_of_lt_of_le h.lt h.but.size)).trans h.box, h.acc.below hQ hb, h.but.trans (.of_below hb), h.lt⟩
theorem accForm {base : Nat} (h : Acc E Q ln base W v xs) : ∃ A n C, v = .slice A n C := let ⟨A, C, h, _⟩ := h.done; ⟨A, _, C, h⟩
theorem BA.form (h : BA E Q ln cs b w2 xs v W) : ∃ A n C, v = .slice A n C := let ⟨A, C, h, _⟩ := h.acc.done; ⟨A, _, C, h⟩
theorem BA.push {i : Nat} (hQ : FootOk Q) (hcs : ∀ v v', (cs v).setIfInBounds i v' = cs v') (h : BA E Q ln cs b w2 xs v Wa) (hacc : Acc E Q ln w2.heap.size w' v' xs') (hg : Wa.grownBy w' v.ownBlock) :
    BA E Q ln cs b w2 xs' v' (w'.setCell ⟨b, i, none⟩ v') ∧ w'.heap[b]? = some (.cells (cs v) 31 (0, 0)) := by
  obtain ⟨vals, G, h1, _⟩ := h.acc
  have hlt := h1.lt
  have z1 := h.but.size; have z2 := h.lt; have z3 := hg.size
  have hk : ∀ k, k < w2.heap.size → w'.heap[k]? = Wa.heap[k]? := fun k hk => hg.block k (by omega) (fun he => by have := (hlt k he.symm).1; omega)
  have hbx := (hk b z2).trans h.box
  have hks : ∀ k, k ≠ b → (w'.setCell ⟨b, i, none⟩ v').heap[k]? = w'.heap[k]? := fun k hk2 => Below.heap_setCell _ _ _ _ hk2
  have hsz : (w'.setCell ⟨b, i, none⟩ v').heap.size = w'.heap.size := by simp
  refine ⟨⟨by rw [Fo.block_setCell hbx _, hcs], hacc.keep hQ (by rw [hsz]; exact Nat.le_refl _) (fun k hk2 _ => hks k (by omega)), ?_, z2⟩, hbx⟩
  exact ⟨hg.os.trans h.but.os, hg.tape.trans h.but.tape, hg.output.trans h.but.output, by rw [hsz]; omega, fun k hk2 hn => (hks k hn).trans ((hk k hk2).trans (h.but.block k hk2 hn))⟩
theorem ButF.draws {F : FP} (h : ButF F w2 W) : ButF F w2 W.drew := ⟨h.os, h.tape, h.output, h.size, h.block⟩
theorem ButF.old (h : ButF (fun k => k = w1.heap.size) w2 W) (h2 : Below w1.heap.size w1 w2) : Below w1.heap.size w1 W :=
  h2.trans ⟨h.os, h.tape, h.output, h.size, fun k hk => h.block k (Nat.lt_of_lt_of_le hk h2.size) (by show k ≠ _; omega)⟩
theorem but_young {hi : Nat} (h : ButF (rng w1.heap.size hi) w2 W) (h2 : Below w1.heap.size w1 w2) : Below w1.heap.size w1 W :=
  h2.trans ⟨h.os, h.tape, h.output, h.size, fun k hk => h.block k (Nat.lt_of_lt_of_le hk h2.size) fun h4 => by have := h4.1; omega⟩
end
theorem supT_eq {t a p : Int} {ac : List (List Bool)} {nx : List (List (List Int))} (h : validC t a p ac nx = true) : supT t p ac = ac := by
  obtain ⟨_, _, _, _, _, _, hal, _, har, _⟩ := validC_bd h
  refine List.ext_getElem (by simp [supT, tab_len]; omega) fun i h1 h2 => ?_
  have e : (supT t p ac)[i] = (List.range p.toNat).map fun y => (ac.getD i []).getD y false := tab_row _ _ _ h1
  rw [e]
  have h3 := har ac[i] (List.getElem_mem h2)
  refine List.ext_getElem (by simp; omega) fun j h4 h5 => ?_
  simp [List.getD, h2, h5]
end Go.Proofs.Ytcgbepmhfimbjaa

namespace Go.Proofs.Ytcgbepmhfimbjaa
open Go.RowKit

theorem made_bools (w : World) (p : Nat) : BoolsF (w.alloc (.cells (zeroBoolS p) 4)) (List.replicate p false) (some ⟨w.heap.size, 0, none⟩) (rng w.heap.size (w.alloc (.cells (zeroBoolS p) 4)).heap.size) := by
  have h : (w.alloc (.cells (zeroBoolS p) 4)).heap[w.heap.size]? = some (.cells (zeroBoolS p) 4 (0, 0)) := heap_new _ _ _ rfl
  refine Or.inr ⟨w.heap.size, rfl, ⟨Nat.le_refl _, by simp⟩, fun i => Fo.unfrozen_of_block h i, fun i x hx => ?_⟩
  obtain ⟨hl, hxe⟩ := List.getElem?_eq_some_iff.1 hx
  have hz : (zeroBoolS p).toList = List.replicate p (.bool false) := by
    unfold zeroBoolS
    rw [Nat.mul_one]
    exact toList_madeCells_one _ _
  have hx2 : x = false := by rw [← hxe]; simp
  rw [Fo.cell_of_block h, ← Array.getElem?_toList, hz, hx2]
  simp at hl
  simp [hl]

set_option maxHeartbeats 2000000 in
set_option maxRecDepth 100000 in
theorem l05None_any (p : Nat) (hp : p ≤ 8) (w : World) :
    Calls Try.prog 62 #[.int .i64 (p : Int)] w fun e w' => ∃ A C, e = .returned (.slice A p C) ∧ BBF w' (List.replicate p (List.replicate p false)) A (rng w.heap.size w'.heap.size) ∧ Below w.heap.size w w' := by
  have hmc := make_BoolS p (by omega)
  have HMC := Lib.hid hmc
  clear hmc
  go_enter Try.func62, Try.ntmps62
  go_wp2_with fail
  go_loopw [3, 4] (fun s i wr => ∃ j : Nat, j ≤ p ∧ i = .int .i64 j ∧ Hid (Acc 104 BoolsF List.length w.heap.size wr s (List.replicate j (List.replicate p false))) ∧ Hid (Below w.heap.size w wr) ∧ Hid (w.heap.size ≤ wr.heap.size)) (fun s i _ => p - (intOf i).toNat)
  case atStart => exact ⟨0, Nat.zero_le _, rfl, Acc.made (Nat.le_refl _), (Below.refl _ _).alloc (Nat.le_refl _) _, by show _ ≤ _; simp⟩
  case round =>
    obtain ⟨j, hj, rfl, hA, hb, hz⟩ := hrel
    by_cases hjp : j < p
    · have hmc := HMC.out wr
      have hsa : Below wr.heap.size wr (wr.alloc (.cells (zeroBoolS p) 4)) := (Below.refl _ _).alloc (Nat.le_refl _) _
      obtain ⟨vals, hvl, hown, hpp⟩ := Acc.push boolsF_ok hA.out hz.out hsa (made_bools wr p) (Wa := (wr.alloc (.cells (zeroBoolS p) 4)).alloc (.cells #[.slice (some ⟨wr.heap.size, 0, none⟩) p p] 104)) (C := p) ((Below.refl _ _).alloc (Nat.le_refl _) _)
      have hl : List.length (List.replicate j (List.replicate p false)) = j := by simp
      have hlp : List.length (List.replicate p false) = p := by simp
      rw [hlp, hl] at hpp
      rw [hl] at hown
      have HOWN := Lib.hid hown; have HP := Lib.hid hpp; have JP := Lib.hid hjp; have HPP := Lib.hid hp
      have j0 : (0 : Int) ≤ (j : Int) := Int.natCast_nonneg _
      have j1 : (j : Int) < (p : Int) := by omega
      clear hsa hown hpp hvl hl hlp
      go_wp2_with (at_builtin; refine wpList_one Try.elBB _ rfl _ _ rfl w.heap.size j (wr.heap.size + 1) _ (.slice (some ⟨wr.heap.size, 0, none⟩) p p) vals rfl ?hx HOWN.out ?hc rfl ?hn ?hz ?_)
      case hx => (first | rfl | simp)
      case hc => simp [go_sem]
      case hn => have := HPP.out; have := JP.out; omega
      case hz => have := hz.out; simp; omega
      intro v' w' ho hg hat
      have HA2 : Hid (Acc 104 BoolsF List.length w.heap.size w' v' (List.replicate (j + 1) (List.replicate p false))) := by
        show Acc _ _ _ _ _ _ _
        rw [List.replicate_succ']
        exact HP.out v' w' ho hg (by simpa using hat)
      have HB2 : Hid (Below w.heap.size w w') := ((hb.out.alloc hz.out _).alloc (by have := hz.out; simp; omega) _).grown hg (by have := hz.out; simp; omega) (fun k hk => (HOWN.out.lt k hk).1)
      have HZ2 : Hid (w.heap.size ≤ w'.heap.size) := HB2.out.size
      clear ho hg hat
      go_wp2_with fail
      go_roundw
      case rel => exact ⟨j + 1, JP.out, by go_num, HA2, HB2, HZ2⟩
      case measure => have := JP.out; simp [intOf]; omega
    · obtain rfl : j = p := by omega
      obtain ⟨A, C, hv, hR⟩ := hA.out.done
      rw [List.length_replicate] at hv
      subst hv
      have HR := Lib.hid hR
      clear hR
      go_wp2_with fail
      go_ret
      exact ⟨A, C, rfl, HR.out, hb.out⟩
end Go.Proofs.Ytcgbepmhfimbjaa

namespace Go.Proofs.Ytcgbepmhfimbjaa
open Go.RowKit

theorem Try.elB : El1 104 4 (.bool false) 1 := ⟨Try.underlying104, info_parts Try.infoBoolS, rfl, by decide⟩
theorem step_copy {ops : Array Oper} {o : Oper} {a : Act} {K : Act → World → Prop} {Q : Exit → Act → World → Prop} {F : Prop} (W : World) (hgd : o.guard = none) (s x : Operand)
    (ho : o.op = .call { callee := .builtin .append, args := #[s, x], argTypes := #[104, 104] })
    (base b0 rb oz c : Nat) (row : List Bool) (hs : a.eval s = .slice (some ⟨b0, 0, none⟩) 0 0) (hx : a.eval x = .slice (some ⟨rb, oz, none⟩) row.length c) (hb0 : base ≤ b0) (hbl : W.heap[b0]? = some (.cells #[] 4 (0, 0)))
    (hrow : ∀ (j : Nat) (u : Bool), row[j]? = some u → W.cell? ⟨rb, oz + j, none⟩ = some (.bool u)) (hn : 1 ≤ row.length) (h8 : row.length ≤ 8)
    (h : ∀ g cap w', Below base W w' → BoolsF w' row (some ⟨g, 0, none⟩) (rng base w'.heap.size) → K (a.put o.dst (.slice (some ⟨g, 0, none⟩) row.length cap)) w') :
    if Region.wanted o (yielded ops a.tmps) = true then Oper.wp Try.prog o a W K Q else F := by
  have hw : Region.wanted o (yielded ops a.tmps) = true := by simp [Region.wanted, hgd]
  rw [if_pos hw]
  obtain ⟨i, hi, hz, hsz, hby⟩ := Try.elB.hi
  have hlt : b0 < W.heap.size := (Array.getElem?_eq_some_iff.1 hbl).1
  have hown : W.ownsRow base 4 1 (.slice (some ⟨b0, 0, none⟩) 0 0) 0 [] := ⟨rfl, .inr ⟨b0, 0, #[], rfl, hb0, hbl, Nat.le_refl _, Nat.zero_le _, rfl, rfl⟩⟩
  obtain ⟨v', w', hrun, h2, h3, _, h5⟩ := run_append_own_at (P := Try.prog) W base 104 o.type 4 i (.bool false) 1 1 Try.elB.ht hi hz hsz hby rfl (by omega) _ 0 [] hown ⟨rb, oz, none⟩ row.length c (row.map Value.bool) (by simp) (fun j u hu => by
      rw [List.getElem?_map] at hu
      obtain ⟨q, hq, rfl⟩ := Option.map_eq_some_iff.1 hu
      have e : (⟨rb, oz, none⟩ : Addr).add j = ⟨rb, oz + j, none⟩ := by cases j <;> simp [Addr.add]
      rw [e]
      exact hrow j q hq) (fun u hu => by obtain ⟨q, _, rfl⟩ := List.mem_map.1 hu; rfl) (by simp only [maxLen]; omega) (by omega) (by omega)
  unfold Oper.wp execOp
  simp only [ho, resolve, invoke, builtin, Sem.run_bind, Sem.run_pure, Result.andThen_ok, List.map_toArray, List.map_cons, List.map_nil, hs, hx, hrun]
  rw [Nat.zero_add, List.nil_append] at h2
  have hbel : Below base W w' := (⟨h3.os, h3.tape, h3.output, h3.size, fun k hk => h3.block k (by omega) (fun he => by
    have : k = b0 := by simpa [Value.ownBlock] using he
    omega)⟩ : Below base W w')
  have hlt2 := h2.lt
  rcases h2.2 with ⟨rfl, h0⟩ | ⟨g, cap, cur, rfl, hb, hg, hnn, _, hs2, ht⟩
  · omega
  refine h g cap w' hbel (Or.inr ⟨g, rfl, hlt2 g rfl, fun j => Fo.unfrozen_of_block hg j, fun j u hu => ?_⟩)
  obtain ⟨hl, _⟩ := List.getElem?_eq_some_iff.1 hu
  rw [Fo.cell_of_block hg, ← Array.getElem?_toList]
  have h6 : (cur.toList.take (row.length * 1))[j]? = some (.bool u) := by rw [ht, List.getElem?_map, hu]; rfl
  rw [List.getElem?_take, if_pos (by omega)] at h6
  exact h6
end Go.Proofs.Ytcgbepmhfimbjaa

namespace Go.Proofs.Ytcgbepmhfimbjaa
open Go.RowKit

theorem sum_le {α : Type} (f : α → Nat) (M : Nat) : ∀ (xs : List α), (∀ x ∈ xs, f x ≤ M) → (xs.map f).sum ≤ xs.length * M
  | [], _ => by simp
  | y :: ys, h => by
    have h1 := h y (by simp)
    have h2 := sum_le f M ys fun x hx => h x (by simp [hx])
    simp only [List.map_cons, List.sum_cons, List.length_cons, Nat.add_mul, Nat.one_mul]
    omega
theorem tot_le {α : Type} (f : α → Nat) {M L : Nat} {xs : List α} (h : ∀ x ∈ xs, f x ≤ M) (hl : xs.length ≤ L) : tot f xs ≤ L + L * M := by
  have h1 := sum_le f M xs h
  have h2 : xs.length * M ≤ L * M := Nat.mul_le_mul_right M hl
  unfold tot
  omega
theorem tab_rows {α : Type} {R C : Nat} {T : Nat → Nat → α} {row : List α} (h : row ∈ tab R C T) : row.length = C := by
  unfold tab at h
  obtain ⟨i, _, rfl⟩ := List.mem_map.1 h
  simp
theorem supO_small (t a p : Int) (ac : List (List Bool)) (nx : List (List (List Int))) : modN (supO t a p ac nx).2.2.2.1 (supO t a p ac nx).2.2.2.2.1 ≤ 1048576 := by
  unfold supO
  split
  · rename_i hv
    obtain ⟨ht, ht3, _, ha4, hp, hp8, _, hnl, _⟩ := validC_bd hv
    have h1 : tot List.length (supT t p ac) ≤ 3 + 3 * 8 := tot_le List.length (fun x hx => by rw [tab_rows hx]; omega) (by rw [supT, tab_len]; omega)
    have h2 : tot (tot List.length) (supA p nx) ≤ 4 + 4 * (8 + 8 * 8) := tot_le (tot List.length) (fun x hx => by
      obtain ⟨rows, _, rfl⟩ := List.mem_map.1 hx
      exact tot_le List.length (fun y hy => by rw [tab_rows hy]; omega) (by rw [supR_len]; omega)) (by rw [supA_len]; omega)
    show modN (supT t p ac) (supA p nx) ≤ _
    unfold modN
    omega
  · show modN [] [] ≤ _
    decide
end Go.Proofs.Ytcgbepmhfimbjaa
