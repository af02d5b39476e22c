/- How many words of a length are accepted from a state, reckoned as both sides do: with sums that are wrapped; tables of them in memory. Plain facts, no walk. -/
import Derived.Test.YtpigddjbiaoikaaRunD
import Derived.Test.YtpigddjbiaoikaaApp
namespace Go.Proofs.Ytpigddjbiaoikaa
open Go.RowKit

def bitAdd (acc : Int) (b : Bool) : Int := if b then wrap64 (acc + 1) else acc
def toAdd (f : Nat → Int) (acc v : Int) : Int := if 0 ≤ v then wrap64 (acc + f v.toNat) else acc
def cnt (ac : List (List Bool)) (nx : List (List (List Int))) : Nat → Nat → Int
  | 0, s => (ac.getD s []).foldl bitAdd 0
  | n + 1, s => (nx.getD s []).foldl (fun acc row => row.foldl (toAdd (cnt ac nx n)) acc) 0
def cntRow (ac : List (List Bool)) (nx : List (List (List Int))) (n N : Nat) : List Int := (List.range N).map (cnt ac nx n)
theorem cntRow_len (ac : List (List Bool)) (nx : List (List (List Int))) (n N : Nat) : (cntRow ac nx n N).length = N := by simp [cntRow]
theorem cntRow_get (ac : List (List Bool)) (nx : List (List (List Int))) (n N s : Nat) (h : s < N) : (cntRow ac nx n N)[s]? = some (cnt ac nx n s) := by simp [cntRow, h]
theorem cntRow_step (ac : List (List Bool)) (nx : List (List (List Int))) (n s : Nat) : cntRow ac nx n (s + 1) = cntRow ac nx n s ++ [cnt ac nx n s] := by simp [cntRow, List.range_succ]
theorem foldl_drop {α β : Type} (f : β → α → β) (xs : List α) (b : β) {j : Nat} (h : j < xs.length) : (xs.drop j).foldl f b = (xs.drop (j + 1)).foldl f (f b xs[j]) := by
  rw [List.drop_eq_getElem_cons h, List.foldl_cons]

/-- A row of counts lies in a block. -/
def CntAt (ac : List (List Bool)) (nx : List (List (List Int))) (n N : Nat) (w : World) (b : Nat) : Prop := ∀ s, s < N → w.cell? ⟨b, s, none⟩ = some (.int .i64 (cnt ac nx n s))
/-- A table of such rows: as, the rows' blocks and capacities. -/
def slices (N : Nat) (bs : List (Nat × Nat)) : List Value := bs.map fun p => .slice (some ⟨p.1, 0, none⟩) N p.2
structure Tab (ac : List (List Bool)) (nx : List (List (List Int))) (N lo : Nat) (w : World) (k : Nat) (v : Value) : Prop where
  ex : ∃ bs : List (Nat × Nat), bs.length = k ∧ w.ownsRow lo 24 1 v k (slices N bs) ∧ ∀ i p, bs[i]? = some p → (lo ≤ p.1 ∧ p.1 < w.heap.size) ∧ v.ownBlock ≠ some p.1 ∧ CntAt ac nx i N w p.1
theorem slices_len (N : Nat) (bs : List (Nat × Nat)) : (slices N bs).length = bs.length := by simp [slices]
theorem slices_one (N : Nat) (bs : List (Nat × Nat)) : ∀ u ∈ slices N bs, u.oneCell' = true := by
  intro u hu
  obtain ⟨p, _, rfl⟩ := List.mem_map.1 hu
  rfl

section
variable {ac : List (List Bool)} {nx : List (List (List Int))} {N lo k n : Nat} {w w' : World} {v : Value}
theorem CntAt.keep {b : Nat} (h : CntAt ac nx n N w b) (hk : w'.heap[b]? = w.heap[b]?) : CntAt ac nx n N w' b := fun s hs => (World.cell?_of_block (a := ⟨b, s, none⟩) hk).trans (h s hs)
/-- Where a row of the table is found. -/
theorem Tab.row (h : Tab ac nx N lo w k v) {i : Nat} (hi : i < k) : ∃ g cap b c, v = .slice (some ⟨g, 0, none⟩) k cap ∧ w.cell? ⟨g, i, none⟩ = some (.slice (some ⟨b, 0, none⟩) N c) ∧ CntAt ac nx i N w b := by
  obtain ⟨bs, hl, ho, hb⟩ := h.ex
  rcases ho.2 with ⟨_, h0⟩ | ⟨g, cap, cur, rfl, _, hh, _, _, _, ht⟩
  · omega
  · have hi' : i < bs.length := by omega
    obtain ⟨h1, h2, h3⟩ := hb i bs[i] (List.getElem?_eq_getElem hi')
    refine ⟨g, cap, bs[i].1, bs[i].2, rfl, ?_, h3⟩
    rw [Fo.cell_of_block hh, ← Array.getElem?_toList]
    have h4 : (cur.toList.take (k * 1))[i]? = (slices N bs)[i]? := by rw [ht]
    rw [List.getElem?_take, if_pos (by omega)] at h4
    rw [h4]
    simp [slices, hi']
theorem Tab.lt (h : Tab ac nx N lo w k v) : ∀ g, v.ownBlock = some g → g < w.heap.size := by
  intro g hg
  obtain ⟨bs, _, ho, _⟩ := h.ex
  rcases ho.2 with ⟨rfl, _⟩ | ⟨g', cap, cur, rfl, _, hh, _⟩
  · simp [Value.ownBlock] at hg
  · have : g' = g := by simpa [Value.ownBlock] using hg
    rw [← this]
    exact (Array.getElem?_eq_some_iff.1 hh).1
theorem ownsRow_keep {base n : Nat} {e : TypeId} {xs : List Value} (h : w.ownsRow base e 1 v n xs) (hk : ∀ g, v.ownBlock = some g → w'.heap[g]? = w.heap[g]?) : w'.ownsRow base e 1 v n xs := by
  refine ⟨h.1, ?_⟩
  rcases h.2 with h2 | ⟨g, cap, cur, rfl, hg, hh, rest⟩
  · exact Or.inl h2
  · exact Or.inr ⟨g, cap, cur, rfl, hg, (hk g rfl).trans hh, rest⟩
theorem Tab.below (h : Tab ac nx N lo w k v) (hb : Below w.heap.size w w') : Tab ac nx N lo w' k v := by
  obtain ⟨bs, hl, ho, hr⟩ := h.ex
  exact ⟨bs, hl, ownsRow_keep ho (fun g hg => hb.block g (h.lt g hg)), fun i p hp => let ⟨h1, h2, h3⟩ := hr i p hp; ⟨⟨h1.1, Nat.lt_of_lt_of_le h1.2 hb.size⟩, h2, h3.keep (hb.block _ h1.2)⟩⟩
theorem Tab.keep (h : Tab ac nx N lo w k v) (hs : w.heap.size ≤ w'.heap.size) (hk : ∀ g, lo ≤ g → g < w.heap.size → w'.heap[g]? = w.heap[g]?) : Tab ac nx N lo w' k v := by
  obtain ⟨bs, hl, ho, hr⟩ := h.ex
  refine ⟨bs, hl, ownsRow_keep ho (fun g hg => ?_), fun i p hp => let ⟨h1, h2, h3⟩ := hr i p hp; ⟨⟨h1.1, Nat.lt_of_lt_of_le h1.2 hs⟩, h2, h3.keep (hk _ h1.1 h1.2)⟩⟩
  refine hk g ?_ (h.lt g hg)
  rcases ho.2 with ⟨rfl, _⟩ | ⟨g', cap, cur, rfl, hb, _⟩
  · simp [Value.ownBlock] at hg
  · have : g' = g := by simpa [Value.ownBlock] using hg
    omega
theorem Tab.set (h : Tab ac nx N lo w k v) {b i : Nat} (hb : b < lo) (u : Value) : Tab ac nx N lo (w.setCell ⟨b, i, none⟩ u) k v :=
  h.keep (by simp) fun g hg _ => (Fo.Agree.setCell (Fo.Agree.refl w g (g + 1)) ⟨b, i, none⟩ (Or.inl (by show b < g; omega)) u) g (Nat.le_refl _) (Nat.lt_succ_self _)
theorem IRow.below {E : TypeId} {xs : List Int} {B : Nat} {j : Nat} (h : IRow E xs B w j) (hb : Below w.heap.size w w') : IRow E xs B w' j := by
  obtain ⟨cs, hc, hs, hi⟩ := h
  exact ⟨cs, (hb.block B (Array.getElem?_eq_some_iff.1 hc).1).trans hc, hs, hi⟩
/-- A row is appended. -/
theorem Tab.snoc {v' : Value} {b c : Nat} {bs : List (Nat × Nat)} (hl : bs.length = k) (hrows : ∀ i p, bs[i]? = some p → (lo ≤ p.1 ∧ p.1 < w.heap.size) ∧ v.ownBlock ≠ some p.1 ∧ CntAt ac nx i N w p.1)
    (hr : CntAt ac nx k N w b) (hlb : lo ≤ b) (hbw : b < w.heap.size) (hbv : v.ownBlock ≠ some b)
    (R : w'.ownsRow lo 24 1 v' (k + 1) (slices N bs ++ [.slice (some ⟨b, 0, none⟩) N c])) (hg : w.grownBy w' v.ownBlock) (hor : v'.ownBlock = v.ownBlock ∨ v'.ownBlock = some w.heap.size) : Tab ac nx N lo w' (k + 1) v' := by
  have ok : ∀ b : Nat, b < w.heap.size → v.ownBlock ≠ some b → v'.ownBlock ≠ some b := by
    intro b h1 h2
    rcases hor with he | he
    · rw [he]; exact h2
    · rw [he]
      intro h4
      injection h4 with h4
      omega
  refine ⟨bs ++ [(b, c)], by simp [hl], ?_, fun i p hp => ?_⟩
  · simpa [slices] using R
  · by_cases hi : i < bs.length
    · rw [List.getElem?_append_left hi] at hp
      obtain ⟨h1, h2, h3⟩ := hrows i p hp
      exact ⟨⟨h1.1, Nat.lt_of_lt_of_le h1.2 hg.size⟩, ok _ h1.2 h2, h3.keep (hg.block _ h1.2 (fun he => h2 he.symm))⟩
    · have hi2 : i = k := by
        have := (List.getElem?_eq_some_iff.1 hp).1
        simp at this
        omega
      subst hi2
      have hp2 : p = (b, c) := by
        rw [List.getElem?_append_right (by omega), hl] at hp
        simp at hp
        exact hp.symm
      subst hp2
      exact ⟨⟨hlb, Nat.lt_of_lt_of_le hbw hg.size⟩, ok _ hbw hbv, hr.keep (hg.block _ hbw (fun he => hbv he.symm))⟩
end
end Go.Proofs.Ytpigddjbiaoikaa
