/- Expressions of nodes; reversed nodes. Plain facts, no walk. -/
import Derived.Test.YtlpgkhdecccmlaaRFoIn
import Derived.Test.YtlpgkhdecccmlaaRNd
namespace Go.Proofs.YtlpgkhdecccmlaaR
open Go.RowKit
namespace Nd
/-- The kind, the number and the kids of a node's expression. -/
def kd : Nd → Int
  | zero => 1
  | one => 2
  | test _ => 3
  | act _ => 4
  | not _ => 5
  | sum _ _ => 6
  | dot _ _ => 7
  | star _ => 8
def nm : Nd → Int
  | test n | act n => n
  | _ => 0
def ks : Nd → Fo
  | not a | star a => .cons a.kd a.nm a.ks .nil
  | sum a b | dot a b => .cons a.kd a.nm a.ks (.cons b.kd b.nm b.ks .nil)
  | _ => .nil
/-- The node of the reversed words. -/
def rev : Nd → Nd
  | not a => .not a.rev
  | star a => .star a.rev
  | sum a b => .sum a.rev b.rev
  | dot a b => .dot b.rev a.rev
  | zero => .zero
  | one => .one
  | test n => .test n
  | act n => .act n

theorem ks_nodes (a : Nd) : 1 + a.ks.nodes = a.size := by
  induction a with
  | not a ih | star a ih => simp only [ks, size, Fo.nodes]; omega
  | sum a b iha ihb | dot a b iha ihb => simp only [ks, size, Fo.nodes]; omega
  | _ => rfl
theorem rev_size (a : Nd) : a.rev.size = a.size := by
  induction a with
  | not a ih | star a ih => simp only [rev, size]; omega
  | sum a b iha ihb | dot a b iha ihb => simp only [rev, size]; omega
  | _ => rfl
theorem rev_kd (a : Nd) : a.rev.kd = a.kd := by cases a <;> rfl
theorem rev_nm (a : Nd) : a.rev.nm = a.nm := by cases a <;> rfl
theorem rev_len (a : Nd) : a.rev.ks.len = a.ks.len := by cases a <;> rfl
end Nd

/-- An expression of the table is that of its node. -/
theorem ndE_parts {t a : Int} : ∀ (N : Nat) (f : Fo), f.nodes < N → ∀ (b : Bool) (k n : Int), treeE t a b k n f = true → (ndE f k n).kd = k ∧ (ndE f k n).nm = n ∧ (ndE f k n).ks = f := by
  intro N
  induction N with
  | zero => intro f hN; exact absurd hN (Nat.not_lt_zero _)
  | succ N ih =>
    intro f hN b k n h
    have hz : k ≠ 3 → k ≠ 4 → n = 0 := by
      intro h3 h4
      unfold treeE shapeB at h
      simp only [Bool.and_eq_true, decide_eq_true_eq] at h
      obtain ⟨⟨⟨_, h5, h6⟩, _⟩, _⟩ := h
      unfold numC at h6
      rw [if_neg h3, if_neg h4] at h6
      omega
    rcases tree_forms h with ⟨rfl, hk⟩ | ⟨k1, n1, f1, rfl, hk, h1⟩ | ⟨k1, n1, f1, k2, n2, f2, rfl, hk, h1, h2⟩
    · rcases hk with rfl | rfl | ⟨rfl, _, _⟩ | ⟨rfl, _, _⟩
      · exact ⟨rfl, (hz (by decide) (by decide)).symm, rfl⟩
      · exact ⟨rfl, (hz (by decide) (by decide)).symm, rfl⟩
      · exact ⟨rfl, rfl, rfl⟩
      · exact ⟨rfl, rfl, rfl⟩
    · obtain ⟨e1, e2, e3⟩ := ih f1 (by simp only [Fo.nodes] at hN; omega) _ k1 n1 h1
      rcases hk with rfl | rfl
      · exact ⟨rfl, (hz (by decide) (by decide)).symm, by show Fo.cons _ _ _ _ = _; rw [e1, e2, e3]⟩
      · exact ⟨rfl, (hz (by decide) (by decide)).symm, by show Fo.cons _ _ _ _ = _; rw [e1, e2, e3]⟩
    · obtain ⟨e1, e2, e3⟩ := ih f1 (by simp only [Fo.nodes] at hN; omega) _ k1 n1 h1
      obtain ⟨g1, g2, g3⟩ := ih f2 (by simp only [Fo.nodes] at hN; omega) _ k2 n2 h2
      rcases hk with rfl | rfl
      · exact ⟨rfl, (hz (by decide) (by decide)).symm, by show Fo.cons _ _ _ (Fo.cons _ _ _ _) = _; rw [e1, e2, e3, g1, g2, g3]⟩
      · exact ⟨rfl, (hz (by decide) (by decide)).symm, by show Fo.cons _ _ _ (Fo.cons _ _ _ _) = _; rw [e1, e2, e3, g1, g2, g3]⟩
theorem ndE_all {t a : Int} {f : Fo} {b : Bool} {k n : Int} (h : treeE t a b k n f = true) : (ndE f k n).kd = k ∧ (ndE f k n).nm = n ∧ (ndE f k n).ks = f := ndE_parts (f.nodes + 1) f (Nat.lt_succ_self _) b k n h
theorem rev_len_of {t a : Int} {f : Fo} {b : Bool} {k n : Int} (h : treeE t a b k n f = true) : (ndE f k n).rev.ks.len = f.len := by rw [Nd.rev_len, (ndE_all h).2.2]

namespace Fo
/-- A row in a new block behind its kids. -/
theorem XIn.one {W W' : World} {lo mid hi b : Nat} {k n : Int} {ks : Fo} {A : Option Addr} {C : Nat} {T : TypeId} (h : ks.XIn W lo mid A) (hd : Agree W W' lo mid) (hb : W'.heap[b]? = some (.cells #[.int .i64 k, .int .i64 n, .slice A ks.len C] T (0, 0))) (h1 : mid ≤ b) (h2 : b < hi) :
    (cons k n ks .nil).XIn W' lo hi (some ⟨b, 0, none⟩) := by
  have h' := h.agree hd
  have hle := h.1
  refine ⟨by omega, Or.inr ⟨b, rfl, by omega, h2, fun i => Fo.unfrozen_of_block hb i, lo, mid, A, C, Nat.le_refl _, hle, Or.inr h1, ?_, ?_, ?_, h'.2, by show mid ≤ hi; omega⟩⟩
  all_goals (rw [Fo.cell_of_block hb]; rfl)
/-- Two rows in a new block behind their kids. -/
theorem XIn.two {W W' : World} {lo mid top hi b : Nat} {k n : Int} {ks : Fo} {A : Option Addr} {C : Nat} {k2 n2 : Int} {ks2 : Fo} {A2 : Option Addr} {C2 : Nat} {T : TypeId} (h : ks.XIn W lo mid A) (g : ks2.XIn W mid top A2) (hd : Agree W W' lo top)
    (hb : W'.heap[b]? = some (.cells #[.int .i64 k, .int .i64 n, .slice A ks.len C, .int .i64 k2, .int .i64 n2, .slice A2 ks2.len C2] T (0, 0))) (h1 : top ≤ b) (h2 : b < hi) :
    (cons k n ks (cons k2 n2 ks2 .nil)).XIn W' lo hi (some ⟨b, 0, none⟩) := by
  have hle := h.1
  have gle := g.1
  have h' := h.agree (w' := W') (fun x a c => hd x a (by omega))
  have g' := g.agree (w' := W') (fun x a c => hd x (by omega) c)
  refine ⟨by omega, Or.inr ⟨b, rfl, by omega, h2, fun i => Fo.unfrozen_of_block hb i, lo, mid, A, C, Nat.le_refl _, hle, Or.inr (by omega), ?_, ?_, ?_, h'.2, mid, top, A2, C2, Nat.le_refl _, gle, Or.inr h1, ?_, ?_, ?_, g'.2, by show top ≤ hi; omega⟩⟩
  all_goals (rw [Fo.cell_of_block hb]; rfl)

def app : Fo → Fo → Fo
  | nil, g => g
  | cons k n ks r, g => cons k n ks (r.app g)
theorem app_len (f g : Fo) : (f.app g).len = f.len + g.len := by
  induction f with
  | nil => simp [app, len]
  | cons _ _ _ r _ ihr => simp only [app, len, ihr]; omega

/-- Rows as they stand in a list, with all their kids in ranges without a block. -/
def RowsIn (W : World) (lo : Nat) (blk : Option Nat) : Fo → List Value → Prop
  | nil, xs => xs = []
  | cons k n ks r, xs => ∃ (l m : Nat) (A : Option Addr) (C : Nat) (ys : List Value), xs = .int .i64 k :: .int .i64 n :: .slice A ks.len C :: ys ∧ lo ≤ l ∧ m ≤ W.heap.size ∧ (∀ g, blk = some g → g < l ∨ m ≤ g) ∧ ks.LiesIn W l m A ∧ r.RowsIn W lo blk ys

theorem RowsIn.keep {W W' : World} {lo : Nat} {blk blk' : Option Nat} (hs : W.heap.size ≤ W'.heap.size) (hb : ∀ x, lo ≤ x → x < W.heap.size → blk ≠ some x → W'.heap[x]? = W.heap[x]?) (hB : blk' = blk ∨ ∀ g, blk' = some g → W.heap.size ≤ g) {f : Fo} : ∀ {xs : List Value}, f.RowsIn W lo blk xs → f.RowsIn W' lo blk' xs := by
  induction f with
  | nil => intro xs h; exact h
  | cons k n ks r _ ihr =>
    intro xs ⟨l, m, A, C, ys, e, h1, h2, h3, h4, h5⟩
    refine ⟨l, m, A, C, ys, e, h1, by omega, fun g hg => ?_, h4.agree (fun x a c => hb x (by omega) (by omega) (fun hx => ?_)), ihr h5⟩
    · rcases hB with rfl | hB
      · exact h3 g hg
      · have := hB g hg; omega
    · have := h3 x hx; omega
theorem RowsIn.app {W : World} {lo : Nat} {blk : Option Nat} {f g : Fo} : ∀ {xs ys : List Value}, f.RowsIn W lo blk xs → g.RowsIn W lo blk ys → (f.app g).RowsIn W lo blk (xs ++ ys) := by
  induction f with
  | nil => intro xs ys h h'; subst h; exact h'
  | cons k n ks r _ ihr =>
    intro xs ys ⟨l, m, A, C, zs, e, h1, h2, h3, h4, h5⟩ h'
    subst e
    exact ⟨l, m, A, C, zs ++ ys, rfl, h1, h2, h3, h4, ihr h5 h'⟩
theorem RowsIn.atIn {W : World} {lo : Nat} {blk : Option Nat} {b : Nat} {f : Fo} : ∀ {xs : List Value} {o : Nat}, f.RowsIn W lo blk xs → (∀ i u, xs[i]? = some u → W.cell? ⟨b, o + i, none⟩ = some u) → f.AtIn W lo W.heap.size b o := by
  induction f with
  | nil => intro xs o _ _; trivial
  | cons k n ks r _ ihr =>
    intro xs o ⟨l, m, A, C, ys, e, h1, h2, h3, h4, h5⟩ hc
    subst e
    refine ⟨hc 0 _ rfl, hc 1 _ rfl, ⟨A, C, hc 2 _ rfl, fun hn => ?_⟩, ihr h5 (fun i u hi => ?_)⟩
    · obtain ⟨b', o', hA, l1, l2, hat⟩ := h4 hn
      exact ⟨b', o', hA, by omega, by omega, hat.mono (by omega) (by omega)⟩
    · have := hc (i + 3) u hi
      rw [show o + (i + 3) = o + 3 + i from by omega] at this
      exact this
end Fo

/-- A list of expressions that a call has made by append. -/
def Kids (W : World) (lo : Nat) (f : Fo) (v : Value) : Prop := ∃ xs, W.ownsRow lo 35 3 v f.len xs ∧ f.RowsIn W lo v.ownBlock xs
theorem Kids.nil (W : World) (lo : Nat) : Kids W lo .nil (.slice none 0 0) := ⟨[], World.ownsRow_nil _ _ _ _, rfl⟩
theorem Kids.lt {W : World} {lo : Nat} {f : Fo} {v : Value} (h : Kids W lo f v) : ∀ g, v.ownBlock = some g → lo ≤ g ∧ g < W.heap.size := by
  obtain ⟨xs, h1, _⟩ := h
  exact h1.lt
theorem Kids.below {W W' : World} {lo : Nat} {f : Fo} {v : Value} (h : Kids W lo f v) (hb : Below W.heap.size W W') : Kids W' lo f v := by
  obtain ⟨xs, h1, h2⟩ := h
  exact ⟨xs, h1.kept ⟨hb.os, hb.tape, hb.output, hb.size, fun k hk _ => hb.block k hk⟩ (row := none) (by cases hv : v.ownBlock <;> simp), h2.keep hb.size (fun x _ hx _ => hb.block x hx) (Or.inl rfl)⟩
theorem Kids.put {W : World} {lo : Nat} {f : Fo} {v : Value} (h : Kids W lo f v) {b o : Nat} (hb : b < lo) (u : Value) : Kids (W.setCell ⟨b, o, none⟩ u) lo f v := by
  obtain ⟨xs, h1, h2⟩ := h
  exact ⟨xs, ownsRow_setCell_below h1 hb u, h2.keep (by simp) (fun x hx _ _ => Below.heap_setCell _ _ _ _ (by show x ≠ b; omega)) (Or.inl rfl)⟩
theorem Kids.drew {W : World} {lo : Nat} {f : Fo} {v : Value} (h : Kids W lo f v) : Kids W.drew lo f v := h.below ⟨rfl, rfl, rfl, Nat.le_refl _, fun _ _ => rfl⟩
theorem Kids.alloc {W : World} {lo : Nat} {f : Fo} {v : Value} (h : Kids W lo f v) (o : Obj) : Kids (W.alloc o) lo f v := h.below ((Below.refl _ _).alloc (Nat.le_refl _) _)
/-- One more row. -/
theorem Kids.snoc {W w1 : World} {lo : Nat} {f : Fo} {v v' : Value} {xs : List Value} {k n : Int} {ks : Fo} {A : Option Addr} {C l m : Nat} (h2 : f.RowsIn W lo v.ownBlock xs) (hk : ks.LiesIn W l m A) (hl : lo ≤ l) (hm : m ≤ W.heap.size) (hv : ∀ g, v.ownBlock = some g → g < l ∨ m ≤ g)
    (hown : w1.ownsRow lo 35 3 v' (f.len + 1) (xs ++ [.int .i64 k, .int .i64 n, .slice A ks.len C])) (hg : W.grownBy w1 v.ownBlock) (hor : v'.ownBlock = v.ownBlock ∨ v'.ownBlock = some W.heap.size) : Kids w1 lo (f.app (.cons k n ks .nil)) v' := by
  have hB : v'.ownBlock = v.ownBlock ∨ ∀ g, v'.ownBlock = some g → W.heap.size ≤ g := by
    rcases hor with h | h
    · exact Or.inl h
    · refine Or.inr fun g hg => ?_
      rw [h] at hg
      have := Option.some.inj hg
      omega
  refine ⟨_, by rw [Fo.app_len]; exact hown, ?_⟩
  refine (h2.keep hg.size (fun x _ hx hn => hg.block x hx (fun h => hn h.symm)) hB).app ?_
  refine ⟨l, m, A, C, [], rfl, hl, Nat.le_trans hm hg.size, fun g hg' => ?_, hk.agree (fun x a c => hg.block x (by omega) (fun hx => ?_)), rfl⟩
  · rcases hB with hB | hB
    · exact hv g (hB ▸ hg')
    · have := hB g hg'; omega
  · have := hv x hx.symm; omega
theorem Kids.lies {W : World} {lo : Nat} {f : Fo} {v : Value} (h : Kids W lo f v) : ∃ A C, v = .slice A f.len C ∧ f.LiesIn W lo W.heap.size A := by
  obtain ⟨xs, h1, h2⟩ := h
  rcases h1.2 with ⟨rfl, h0⟩ | ⟨g, cap, cur, hv, hg, hh, hn, _, hs, ht⟩
  · obtain rfl := Fo.nil_of_len h0
    exact ⟨none, 0, rfl, Fo.LiesIn.nil _ _ _⟩
  · refine ⟨some ⟨g, 0, none⟩, cap, hv, fun _ => ⟨g, 0, rfl, hg, (Array.getElem?_eq_some_iff.1 hh).1, h2.atIn fun i u hi => ?_⟩⟩
    rw [Nat.zero_add, Fo.cell_of_block hh, ← Array.getElem?_toList]
    have h3 : (cur.toList.take (f.len * 3))[i]? = xs[i]? := by rw [ht]
    have hx : i < f.len * 3 := by rw [← h1.1]; exact (List.getElem?_eq_some_iff.1 hi).1
    rw [List.getElem?_take, if_pos hx] at h3
    rw [h3]; exact hi
end Go.Proofs.YtlpgkhdecccmlaaR
