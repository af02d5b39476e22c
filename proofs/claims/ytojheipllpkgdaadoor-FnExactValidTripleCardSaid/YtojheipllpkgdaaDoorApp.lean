/- Rows of integers that a call owns: append onto them; contracts of spec.l00Own, spec.l01Back. -/
import Derived.Test.YtojheipllpkgdaaDoorWordC
import Derived.Maps.AppendAt
import Derived.Deep.AppendLies
import Derived.RegionTactic
import Derived.OwnWalk
namespace Go.Proofs.YtojheipllpkgdaaDoor
open Go.RowKit

def encs (xs : List Int) : List Value := xs.map (Value.int .i64)
theorem encs_len (xs : List Int) : (encs xs).length = xs.length := by simp [encs]
theorem encs_one (xs : List Int) : ∀ u ∈ encs xs, u.oneCell' = true := by
  intro u hu
  obtain ⟨z, _, rfl⟩ := List.mem_map.1 hu
  rfl
theorem encs_app (xs ys : List Int) : encs xs ++ encs ys = encs (xs ++ ys) := by simp [encs]
theorem encs_get {xs : List Int} {j : Nat} {u : Value} (h : (encs xs)[j]? = some u) : j < xs.length ∧ u = .int .i64 (nth xs j) := by
  obtain ⟨hj, he⟩ := List.getElem?_eq_some_iff.1 h
  rw [encs_len] at hj
  refine ⟨hj, ?_⟩
  rw [← he]
  simp [encs, nth, List.getD, hj]

/-- A row that is owned, as a list in a block of its own. -/
theorem own_ints {w : World} {base n : Nat} {v : Value} {xs : List Int} (h : w.ownsRow base 2 1 v n (encs xs)) (hb : base ≤ w.heap.size) :
    ∃ A C, v = .slice A xs.length C ∧ IntsIn w xs base w.heap.size A := by
  obtain ⟨h1, h2⟩ := h
  rw [encs_len, Nat.mul_one] at h1
  rcases h2 with ⟨rfl, h0⟩ | ⟨g, cap, cur, rfl, hg, hh, hn, _, hs, ht⟩
  · have hx : xs = [] := List.eq_nil_of_length_eq_zero (by omega)
    subst hx
    exact ⟨none, 0, rfl, Or.inl ⟨rfl, hb⟩⟩
  · refine ⟨some ⟨g, 0, none⟩, cap, by rw [h1], Or.inr ⟨g, rfl, hg, (Array.getElem?_eq_some_iff.1 hh).1, fun i => Fo.unfrozen_of_block hh i, fun i hi => ?_⟩⟩
    rw [Fo.cell_of_block hh, ← Array.getElem?_toList]
    have h3 : (cur.toList.take (n * 1))[i]? = (encs xs)[i]? := by rw [ht]
    rw [List.getElem?_take, if_pos (by omega)] at h3
    rw [h3]
    simp [encs, nth, List.getD, hi]

/-- append of a list that lies anywhere, a nil one too. -/
theorem run_append_ints (w : World) (base n m c : Nat) (v : Value) (xs ys : List Int) (A : Option Addr) (ty : TypeId) (hown : w.ownsRow base 2 1 v n (encs xs)) (hy : Ints w ys A) (hm : m = ys.length) (h63 : n + m ≤ 4194304) (hbase : base ≤ w.heap.size) :
    ∃ v' w', (Builtin.append_ #[75, 75] ty #[v, .slice A m c]).run Tryd.prog w = .ok v' w' ∧ w'.ownsRow base 2 1 v' (n + m) (encs (xs ++ ys)) ∧ w.grownBy w' v.ownBlock ∧ (v'.ownBlock = v.ownBlock ∨ v'.ownBlock = some w.heap.size) := by
  obtain ⟨i, hi, hz, hs, hb⟩ := info_parts Tryd.infoI
  have key : ∀ ad : Addr, A = some ad → ∃ v' w', (Builtin.append_ #[75, 75] ty #[v, .slice A m c]).run Tryd.prog w = .ok v' w' ∧ w'.ownsRow base 2 1 v' (n + m) (encs (xs ++ ys)) ∧ w.grownBy w' v.ownBlock ∧ (v'.ownBlock = v.ownBlock ∨ v'.ownBlock = some w.heap.size) := by
    intro ad hA
    have hc : ∀ j u, (encs ys)[j]? = some u → w.cell? (ad.add j) = some u := by
      intro j u hu
      obtain ⟨hj, rfl⟩ := encs_get hu
      obtain ⟨b, o, hA', hat⟩ := hy (by intro h; rw [h] at hj; exact absurd hj (Nat.not_lt_zero _))
      have e : ad = ⟨b, o, none⟩ := Option.some.inj (hA.symm.trans hA')
      rw [e]
      have := hat j hj
      unfold Addr.add
      split
      · rename_i h0; subst h0; simpa using this
      · exact this
    obtain ⟨v', w', hrun, h2, h3, _, h5⟩ := run_append_own_at (P := Tryd.prog) w base 75 ty 2 i _ 1 8 Tryd.underlying75 hi hz hs hb rfl (by omega) v n (encs xs) hown ad m c (encs ys) (by rw [encs_len]; omega) hc (encs_one ys) (by simp only [maxLen]; omega) (by omega) hbase
    rw [encs_app] at h2
    exact ⟨v', w', by rw [hA]; exact hrun, h2, h3, h5⟩
  rcases A with _ | ad
  · have hy0 : ys = [] := by
      cases ys with
      | nil => rfl
      | cons y ys => obtain ⟨b, o, hA, _⟩ := hy (by simp); cases hA
    subst hy0
    have hm0 : m = 0 := hm
    subst hm0
    refine ⟨v, w, ?_, by simpa using hown, World.grownBy.refl w _, .inl rfl⟩
    rcases hown.2 with ⟨rfl, rfl⟩ | ⟨g, cap, cur, rfl, _, _, hnc, _⟩
    · simp [Builtin.append_, run_underlying Tryd.underlying75, sizeOf, typeInfo, hi, Builtin.lenOf, Builtin.firstCells]
    · simp [Builtin.append_, run_underlying Tryd.underlying75, sizeOf, typeInfo, hi, Builtin.lenOf, Builtin.firstCells, hnc, storeCells]
  · exact key ad rfl

theorem wp_append_ints {o : Oper} {a : Act} {K : Act → World → Prop} {Q : Exit → Act → World → Prop} (w : World) (s x : Operand)
    (ho : o.op = .call { callee := .builtin .append, args := #[s, x], argTypes := #[75, 75] })
    (base n m c : Nat) (v : Value) (xs ys : List Int) (A : Option Addr) (hs : a.eval s = v) (hx : a.eval x = .slice A m c) (hown : w.ownsRow base 2 1 v n (encs xs)) (hy : Ints w ys A) (hm : m = ys.length) (h63 : n + m ≤ 4194304) (hbase : base ≤ w.heap.size)
    (h : ∀ v' w', w'.ownsRow base 2 1 v' (n + m) (encs (xs ++ ys)) → w.grownBy w' v.ownBlock → (v'.ownBlock = v.ownBlock ∨ v'.ownBlock = some w.heap.size) → K (a.put o.dst v') w') : o.wp Tryd.prog a w K Q := by
  obtain ⟨v', w', hrun, h2, h3, h4⟩ := run_append_ints w base n m c v xs ys A o.type hown hy hm h63 hbase
  unfold Oper.wp execOp
  simp only [ho, resolve, invoke, builtin, Sem.run_bind, Sem.run_pure, Result.andThen_ok, List.map_toArray, List.map_cons, List.map_nil, hs, hx, hrun]
  exact h v' w' h2 h3 h4

theorem wpList_append_ints {ops : Array Oper} {rest : List Oper} {o : Oper} {a : Act} {Q : Exit → Act → World → Prop} (w : World) (hgd : o.guard = none) (s x : Operand)
    (ho : o.op = .call { callee := .builtin .append, args := #[s, x], argTypes := #[75, 75] })
    (base n m c : Nat) (v : Value) (xs ys : List Int) (A : Option Addr) (hs : a.eval s = v) (hx : a.eval x = .slice A m c) (hown : w.ownsRow base 2 1 v n (encs xs)) (hy : Ints w ys A) (hm : m = ys.length) (h63 : n + m ≤ 4194304) (hbase : base ≤ w.heap.size)
    (h : ∀ v' w', w'.ownsRow base 2 1 v' (n + m) (encs (xs ++ ys)) → w.grownBy w' v.ownBlock → (v'.ownBlock = v.ownBlock ∨ v'.ownBlock = some w.heap.size) → wpList Tryd.prog ops Q rest (a.put o.dst v') w') : wpList Tryd.prog ops Q (o :: rest) a w :=
  wpList_plain hgd fun _ hK => wp_append_ints w s x ho base n m c v xs ys A hs hx hown hy hm h63 hbase fun v' w' h2 h3 h4 => hK _ _ (h v' w' h2 h3 h4)

theorem step_append_ints {ops : Array Oper} {o : Oper} {a : Act} {K : Act → World → Prop} {Q : Exit → Act → World → Prop} {E : Prop} (w : World) (hgd : o.guard = none) (s x : Operand)
    (ho : o.op = .call { callee := .builtin .append, args := #[s, x], argTypes := #[75, 75] })
    (base n m c : Nat) (v : Value) (xs ys : List Int) (A : Option Addr) (hs : a.eval s = v) (hx : a.eval x = .slice A m c) (hown : w.ownsRow base 2 1 v n (encs xs)) (hy : Ints w ys A) (hm : m = ys.length) (h63 : n + m ≤ 4194304) (hbase : base ≤ w.heap.size)
    (h : ∀ v' w', w'.ownsRow base 2 1 v' (n + m) (encs (xs ++ ys)) → w.grownBy w' v.ownBlock → (v'.ownBlock = v.ownBlock ∨ v'.ownBlock = some w.heap.size) → K (a.put o.dst v') w') :
    if Region.wanted o (yielded ops a.tmps) = true then Oper.wp Tryd.prog o a w K Q else E := by
  have hw : Region.wanted o (yielded ops a.tmps) = true := by simp [Region.wanted, hgd]
  rw [if_pos hw]
  exact wp_append_ints w s x ho base n m c v xs ys A hs hx hown hy hm h63 hbase h

/-- Behind an append onto a row of the call's own: what existed ahead of the call is as it was. -/
theorem below_grown {w wr w' : World} {v : Value} {n : Nat} {xs : List Value} {E : TypeId} (hb : Below w.heap.size w wr) (hg : wr.grownBy w' v.ownBlock) (hown : wr.ownsRow w.heap.size E 1 v n xs) : Below w.heap.size w w' :=
  hb.grown hg hb.size (fun k hk => (hown.lt k hk).1)

theorem rev_step (xs : List Int) (j : Nat) (h : j < xs.length) : xs.reverse.take (xs.length - j) = xs.reverse.take (xs.length - (j + 1)) ++ [nth xs j] := by
  have e : xs.length - j = xs.length - (j + 1) + 1 := by omega
  rw [e, List.take_succ_eq_append_getElem (by simp; omega), List.getElem_reverse]
  have : xs.length - 1 - (xs.length - (j + 1)) = j := by omega
  simp [this, nth, List.getD, h]

end Go.Proofs.YtojheipllpkgdaaDoor
