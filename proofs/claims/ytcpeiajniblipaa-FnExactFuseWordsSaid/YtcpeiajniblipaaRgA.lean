/- append onto a row of the call's own, between words in blocks of their own. Plain facts, no walk. -/
import Derived.Test.YtcpeiajniblipaaRg
import Derived.Test.YtcpeiajniblipaaApp
namespace Go.Proofs.Ytcpeiajniblipaa
open Go.RowKit

section
variable {w W W' : World} {L : List (Nat × Nat × Value)} {O O1 O2 : List OwnW} {o o1 o2 : OwnW} {b : Nat} {x y : Value} {T : TypeId} {xs ys : List Int} {A : Option Addr} {lo hi base n m D : Nat} {v' : Value}

theorem own_lt (h : W.ownsRow base 2 1 (.slice A n D) n (encs xs)) : ∀ a, A = some a → base ≤ a.block ∧ a.block < W.heap.size := by
  rintro a rfl
  rcases h.2 with ⟨hv, _⟩ | ⟨g, cap, cur, hv, hg, hh, _⟩
  · cases hv
  · injection hv with h1 h2 h3
    injection h1 with h1
    subst h1
    exact ⟨hg, (Array.getElem?_eq_some_iff.1 hh).1⟩

theorem Rg.world (h : Rg w L O W) : ∃ W', W' = W ∧ Rg w L O W' := ⟨W, rfl, h⟩
/-- Where the new row lies. -/
theorem append_row (R : W.ownsRow base 2 1 (.slice A n D) n (encs xs)) (hA : ∀ a, A = some a → lo ≤ a.block ∧ a.block < hi) (hlh : lo ≤ hi)
    (R' : W'.ownsRow base 2 1 v' (n + m) (encs (xs ++ ys))) (hor : v'.ownBlock = (Value.slice A n D).ownBlock ∨ v'.ownBlock = some W.heap.size) :
    ∃ A' D', v' = .slice A' (xs ++ ys).length D' ∧ (WordIn W' (xs ++ ys) [] lo hi A' none ∨ (A'.isSome ∧ WordIn W' (xs ++ ys) [] W.heap.size W'.heap.size A' none)) := by
  have hl : (xs ++ ys).length = n + m := by have := R'.1; rw [encs_len, Nat.mul_one] at this; exact this
  rcases R'.2 with ⟨rfl, h0⟩ | ⟨g, cap, cur, rfl, hg, hh, hn, _, hs, ht⟩
  · have hx : xs ++ ys = [] := List.eq_nil_of_length_eq_zero (by omega)
    exact ⟨none, 0, by rw [hx]; rfl, Or.inl ⟨hi, by rw [hx]; exact Or.inl ⟨rfl, hlh⟩, Or.inl ⟨rfl, Nat.le_refl _⟩⟩⟩
  · have hgl := (Array.getElem?_eq_some_iff.1 hh).1
    have hcell : ∀ i, i < (xs ++ ys).length → W'.cell? ⟨g, i, none⟩ = some (.int .i64 (nth (xs ++ ys) i)) := fun i hi => by
      rw [Fo.cell_of_block hh, ← Array.getElem?_toList]
      have h3 : (cur.toList.take ((n + m) * 1))[i]? = (encs (xs ++ ys))[i]? := by rw [ht]
      rw [List.getElem?_take, if_pos (by omega)] at h3
      rw [h3]
      simp only [encs, List.getElem?_map, nth, List.getD]
      rw [List.getElem?_eq_getElem hi]
      rfl
    refine ⟨some ⟨g, 0, none⟩, cap, by rw [hl], ?_⟩
    rcases hor with he | he
    · refine Or.inl ⟨hi, Or.inr ⟨g, rfl, ?_, ?_, fun i => Fo.unfrozen_of_block hh i, hcell⟩, Or.inl ⟨rfl, Nat.le_refl _⟩⟩ <;>
        · rcases A with _ | a
          · exact absurd he (by simp [Value.ownBlock])
          · have hga : g = a.block := by simpa [Value.ownBlock] using he
            have := hA a rfl
            omega
    · have hga : g = W.heap.size := by simpa [Value.ownBlock] using he
      exact Or.inr ⟨rfl, W'.heap.size, Or.inr ⟨g, rfl, by omega, hgl, fun i => Fo.unfrozen_of_block hh i, hcell⟩, Or.inl ⟨rfl, Nat.le_refl _⟩⟩

theorem grown_but (hA : ∀ a, A = some a → lo ≤ a.block ∧ a.block < hi) (hg : W.grownBy W' (Value.slice A n D).ownBlock) : ButIn lo hi W W' :=
  ⟨hg.os, hg.tape, hg.output, hg.size, fun k hk hn => hg.block k hk (by
    rcases A with _ | a
    · simp [Value.ownBlock]
    · have := hA a rfl
      simp only [Value.ownBlock, ne_eq, Option.some.injEq]
      omega)⟩

/-- A new word comes in while another one's blocks are written. -/
theorem Rg.moved {p r : List Int} {B : Option Addr} (h : Rg w L (o :: O) W) (hb : ButIn o.lo o.hi W W') (hi : WordIn W' p r W.heap.size W'.heap.size A B) : Rg w L (⟨p, r, W.heap.size, W'.heap.size, A, B⟩ :: O) W' := by
  have hm : Rg w L O W' := Rg.mark (O1 := []) h hb
  refine ⟨hm.st, hm.own.sz, hm.own.bs, fun x hx => ?_, List.pairwise_cons.2 ⟨fun y hy => (h.own.each y (List.mem_cons_of_mem _ hy)).2.2.1, hm.own.apart⟩⟩
  rcases List.mem_cons.1 hx with rfl | hx
  · exact ⟨hi, h.own.sz, Nat.le_refl _, fun c hc => Or.inl (h.own.bs c hc)⟩
  · exact hm.own.each x hx

theorem Rg.remade {p r : List Int} {B : Option Addr} (h : Rg w L (o :: O) W) (hb : ButIn o.lo o.hi W W') (hi : WordIn W' p r o.lo o.hi A B) : Rg w L (⟨p, r, o.lo, o.hi, A, B⟩ :: O) W' := by
  have hm : Rg w L O W' := Rg.mark (O1 := []) h hb
  have h1 := h.own.each o (List.mem_cons_self ..)
  refine ⟨hm.st, hm.own.sz, hm.own.bs, fun x hx => ?_, List.pairwise_cons.2 ⟨fun y hy => (List.pairwise_cons.1 h.own.apart).1 y hy, hm.own.apart⟩⟩
  rcases List.mem_cons.1 hx with rfl | hx
  · exact ⟨hi, h1.2.1, Nat.le_trans h1.2.2.1 hb.size, h1.2.2.2⟩
  · exact hm.own.each x hx

/-- append onto the newest row. -/
theorem Rg.append (h : Rg w L (⟨xs, [], lo, hi, A, none⟩ :: O) W) (R : W.ownsRow base 2 1 (.slice A n D) n (encs xs)) (hA : ∀ a, A = some a → lo ≤ a.block ∧ a.block < hi)
    (R' : W'.ownsRow base 2 1 v' (n + m) (encs (xs ++ ys))) (hg : W.grownBy W' (Value.slice A n D).ownBlock) (hor : v'.ownBlock = (Value.slice A n D).ownBlock ∨ v'.ownBlock = some W.heap.size) :
    ∃ lo' hi' A' D', v' = .slice A' (xs ++ ys).length D' ∧ Rg w L (⟨xs ++ ys, [], lo', hi', A', none⟩ :: O) W' := by
  have hle : lo ≤ hi := OwnW.le (h.own.each _ (List.mem_cons_self ..)).1
  obtain ⟨A', D', hv, hw | ⟨_, hw⟩⟩ := append_row R hA hle R' hor
  · exact ⟨lo, hi, A', D', hv, h.remade (grown_but hA hg) hw⟩
  · exact ⟨_, _, A', D', hv, h.moved (grown_but hA hg) hw⟩
theorem RgB.append (h : RgB w L (⟨xs, [], lo, hi, A, none⟩ :: O) b x y T W) (R : W.ownsRow base 2 1 (.slice A n D) n (encs xs)) (hA : ∀ a, A = some a → lo ≤ a.block ∧ a.block < hi)
    (R' : W'.ownsRow base 2 1 v' (n + m) (encs (xs ++ ys))) (hg : W.grownBy W' (Value.slice A n D).ownBlock) (hor : v'.ownBlock = (Value.slice A n D).ownBlock ∨ v'.ownBlock = some W.heap.size) :
    ∃ lo' hi' A' D', v' = .slice A' (xs ++ ys).length D' ∧ RgB w L (⟨xs ++ ys, [], lo', hi', A', none⟩ :: O) b x y T W' := by
  obtain ⟨lo', hi', A', D', hv, G⟩ := h.rg.append R hA R' hg hor
  have hd := (h.own.each _ (List.mem_cons_self ..)).2.2.2 (b, 0, x) (by simp)
  exact ⟨lo', hi', A', D', hv, ⟨G.st.1, G.st.2.2.2⟩, G.own, ((grown_but hA hg).block b h.lt hd).trans h.blk, h.ne, h.low⟩

/-- Two rows, and a box below all of them that is written. -/
theorem Rg.two {p r : List Int} {lo1 hi1 lo2 hi2 l0 : Nat} {Z Y B1 B2 : Option Addr} {u v : Value} (h : Rg w L [⟨r, [], lo2, hi2, Y, B2⟩, ⟨p, [], lo1, hi1, Z, B1⟩] W) (hb : b < w.heap.size) (h0 : l0 ≤ w.heap.size) :
    WordIn ((W.setCell ⟨b, 0, none⟩ u).setCell ⟨b, 1, none⟩ v) p r l0 ((W.setCell ⟨b, 0, none⟩ u).setCell ⟨b, 1, none⟩ v).heap.size Z Y := by
  have hs : ((W.setCell ⟨b, 0, none⟩ u).setCell ⟨b, 1, none⟩ v).heap.size = W.heap.size := by simp
  have e2 := h.own.each ⟨r, [], lo2, hi2, Y, B2⟩ (by simp)
  have e1 := h.own.each ⟨p, [], lo1, hi1, Z, B1⟩ (by simp)
  have hap : hi1 ≤ lo2 := (List.pairwise_cons.1 h.own.apart).1 ⟨p, [], lo1, hi1, Z, B1⟩ (by simp)
  obtain ⟨m1, i1, _⟩ := e1.1
  obtain ⟨m2, i2, j2⟩ := e2.1
  obtain ⟨m1', i1', j1'⟩ := e1.1
  have q1 := e1.2.1
  have q2 := e2.2.1
  have q3 := e2.2.2.1
  simp only at q1 q2 q3 i1 i2 j2
  have l1 := i1'.le
  have l2 := j1'.le
  have l3 := i2.le
  have l4 := j2.le
  simp only at l1 l2 l3 l4
  have ag : ∀ l h : Nat, w.heap.size ≤ l → Fo.Agree W ((W.setCell ⟨b, 0, none⟩ u).setCell ⟨b, 1, none⟩ v) l h := fun l h hl =>
    Fo.Agree.setCell (Fo.Agree.setCell (Fo.Agree.refl _ _ _) _ (Or.inl (by show b < l; omega)) _) _ (Or.inl (by show b < l; omega)) _
  refine ⟨hi1, ?_, ?_⟩
  · exact (i1'.agree (ag _ _ q1)).mono (by omega) l2
  · rw [hs]
    exact (i2.agree (ag _ _ q2)).mono hap (by omega)
end
end Go.Proofs.Ytcpeiajniblipaa
