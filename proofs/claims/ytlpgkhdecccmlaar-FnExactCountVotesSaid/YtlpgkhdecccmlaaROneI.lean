/- One integer is appended onto a row that the call owns; what a call that answers a list of integers hands back. Plain facts. -/
import Derived.Test.YtlpgkhdecccmlaaREndI
import Derived.Test.YtlpgkhdecccmlaaRApp
namespace Go.Proofs.YtlpgkhdecccmlaaR
open Go.RowKit

theorem iend_nil {R : List Int} {q c : Int} {w w' : World} (h : R = [] ∧ q = c) {A : Option Addr} {C : Nat} (hb : Below w.heap.size w w') : IEnd R q w (.returned (.tuple #[.slice A 0 C, .int .i64 c])) w' := by
  obtain ⟨rfl, rfl⟩ := h
  exact ⟨A, C, rfl, Or.inl ⟨rfl, hb.size⟩, hb⟩
theorem iend_of {R R' : List Int} {q c : Int} {w w' : World} (h : R = R' ∧ q = c) {A : Option Addr} {C : Nat} (hi : IntsIn w' R' w.heap.size w'.heap.size A) (hb : Below w.heap.size w w') : IEnd R q w (.returned (.tuple #[.slice A R'.length C, .int .i64 c])) w' := by
  obtain ⟨rfl, rfl⟩ := h
  exact ⟨A, C, rfl, hi, hb⟩
/-- A row of integers that is being made, in blocks from lo on. -/
def OwnI (w : World) (lo : Nat) (v : Value) (xs : List Int) : Prop := w.ownsRow lo 2 1 v xs.length (encs xs)
theorem OwnI.nil (w : World) (lo : Nat) : OwnI w lo (.slice none 0 0) [] := ⟨rfl, .inl ⟨rfl, rfl⟩⟩
theorem OwnI.below {w w' : World} {lo : Nat} {v : Value} {xs : List Int} (h : OwnI w lo v xs) (hb : Below w.heap.size w w') : OwnI w' lo v xs := by
  obtain ⟨h1, h2⟩ := h
  refine ⟨h1, ?_⟩
  rcases h2 with h2 | ⟨g, cap, cur, hv, hg, hh, hn⟩
  · exact .inl h2
  · exact .inr ⟨g, cap, cur, hv, hg, (hb.block g (Array.getElem?_eq_some_iff.1 hh).1).trans hh, hn⟩
theorem OwnI.ints {w : World} {lo : Nat} {v : Value} {xs : List Int} (h : OwnI w lo v xs) (hb : lo ≤ w.heap.size) : ∃ A C, v = .slice A xs.length C ∧ IntsIn w xs lo w.heap.size A := own_ints h hb
theorem wpList_append_one {ops : Array Oper} {rest : List Oper} {o : Oper} {a : Act} {Q : Exit → Act → World → Prop} (W : World) (hgd : o.guard = none) (s x : Operand)
    (ho : o.op = .call { callee := .builtin .append, args := #[s, x], argTypes := #[28, 28] })
    (lo : Nat) (v : Value) (xs : List Int) (z : Int) (hs : a.eval s = v) (hx : a.eval x = .slice (some ⟨W.heap.size, 0, none⟩) 1 1) (hown : OwnI W lo v xs) (h63 : xs.length < 4194304) (hlo : lo ≤ W.heap.size) {Wl : World} (hw : Wl = W.alloc (.cells #[.int .i64 z] 2))
    (h : ∀ v' w', OwnI w' lo v' (xs ++ [z]) → (∀ w : World, w.heap.size = lo → Below w.heap.size w W → Below w.heap.size w w') → wpList Try.prog ops Q rest (a.put o.dst v') w') : wpList Try.prog ops Q (o :: rest) a Wl := by
  subst hw
  obtain ⟨i0, hi0, hz0, hz1, hz2⟩ := info_parts Try.infoI
  refine wpList_append_own _ hgd s x 28 ho lo 2 i0 (.int .i64 0) 1 8 Try.underlying28 hi0 hz0 hz1 hz2 rfl (by decide) _ _ _ hs (hown.alloc _) ⟨W.heap.size, 0, none⟩ 1 1 [.int .i64 z] hx rfl ?_ ?_ ?_ ?_ ?_ ?_
  · intro i u hi
    match i, hi with
    | 0, hi => simp at hi; subst hi; simp [Addr.add]
  · intro u hu; simp at hu; subst hu; rfl
  · unfold maxLen; omega
  · omega
  · simp; omega
  intro v' w1 hown' hgrow _
  refine h v' w1 ?_ ?_
  · show World.ownsRow _ _ _ _ _ _ _
    rw [← encs_app, List.length_append]
    exact hown'
  · intro w hw hb
    subst hw
    exact below_grown (hb.alloc hb.size _) hgrow (hown.alloc _)
end Go.Proofs.YtlpgkhdecccmlaaR
