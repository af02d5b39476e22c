/- Lists of expressions made by append, each kid in blocks of its own, in order. Plain facts, no walk. -/
import Derived.Test.YtlfafcbieeambaaTurn
import Derived.Test.YtlfafcbieeambaaAtS
namespace Go.Proofs.Ytlfafcbieeambaa
open Go.RowKit

namespace Fo
/-- Rows as they stand in a list; each row's kids in ranges in order from lo on, below T, without a block. -/
def RowsX (W : World) (blk : Option Nat) (T : Nat) : Fo → Nat → List Value → Prop
  | nil, lo, xs => xs = [] ∧ lo ≤ T
  | cons k n ks r, lo, xs => ∃ (l m : Nat) (A : Option Addr) (C : Nat) (ys : List Value), xs = .int .i64 k :: .int .i64 n :: .slice A ks.len C :: ys ∧ lo ≤ l ∧ l ≤ m ∧ m ≤ T ∧ (∀ g, blk = some g → g < l ∨ m ≤ g) ∧ ks.XIn W l m A ∧ r.RowsX W blk T m ys

theorem RowsX.le {W : World} {blk : Option Nat} {T : Nat} {f : Fo} : ∀ {lo : Nat} {xs : List Value}, f.RowsX W blk T lo xs → lo ≤ T := by
  induction f with
  | nil => intro lo xs h; exact h.2
  | cons k n ks r _ ihr => intro lo xs ⟨l, m, A, C, ys, _, h1, h2, h3, _, _, _⟩; omega
theorem RowsX.top {W : World} {blk : Option Nat} {T T' : Nat} (hT : T ≤ T') {f : Fo} : ∀ {lo : Nat} {xs : List Value}, f.RowsX W blk T lo xs → f.RowsX W blk T' lo xs := by
  induction f with
  | nil => intro lo xs h; exact ⟨h.1, Nat.le_trans h.2 hT⟩
  | cons k n ks r _ ihr => intro lo xs ⟨l, m, A, C, ys, e, h1, h2, h3, h4, h5, h6⟩; exact ⟨l, m, A, C, ys, e, h1, h2, Nat.le_trans h3 hT, h4, h5, ihr h6⟩
theorem RowsX.lo_mono {W : World} {blk : Option Nat} {T : Nat} {f : Fo} {lo lo' : Nat} {xs : List Value} (h : f.RowsX W blk T lo xs) (hl : lo' ≤ lo) : f.RowsX W blk T lo' xs := by
  cases f with
  | nil => exact ⟨h.1, Nat.le_trans hl h.2⟩
  | cons k n ks r => obtain ⟨l, m, A, C, ys, e, h1, h2⟩ := h; exact ⟨l, m, A, C, ys, e, Nat.le_trans hl h1, h2⟩
theorem RowsX.keep {W W' : World} {blk blk' : Option Nat} {T : Nat} (hb : ∀ x, x < T → blk ≠ some x → W'.heap[x]? = W.heap[x]?) (hB : blk' = blk ∨ ∀ g, blk' = some g → T ≤ g) {f : Fo} : ∀ {lo : Nat} {xs : List Value}, f.RowsX W blk T lo xs → f.RowsX W' blk' T lo xs := by
  induction f with
  | nil => intro lo xs h; exact h
  | cons k n ks r _ ihr =>
    intro lo xs ⟨l, m, A, C, ys, e, h1, h2, h3, h4, h5, h6⟩
    refine ⟨l, m, A, C, ys, e, h1, h2, h3, fun g hg => ?_, h5.agree (fun x a c => hb x (by omega) (fun hx => ?_)), ihr h6⟩
    · rcases hB with rfl | hB
      · exact h4 g hg
      · have := hB g hg; omega
    · have := h4 x hx; omega
theorem RowsX.app {W : World} {blk : Option Nat} {T T' : Nat} (hT : T ≤ T') {f g : Fo} : ∀ {lo : Nat} {xs ys : List Value}, f.RowsX W blk T lo xs → g.RowsX W blk T' T ys → (f.app g).RowsX W blk T' lo (xs ++ ys) := by
  induction f with
  | nil => intro lo xs ys h h'; obtain ⟨rfl, hl⟩ := h; exact h'.lo_mono hl
  | cons k n ks r _ ihr =>
    intro lo xs ys ⟨l, m, A, C, zs, e, h1, h2, h3, h4, h5, h6⟩ h'
    subst e
    exact ⟨l, m, A, C, zs ++ ys, rfl, h1, h2, Nat.le_trans h3 hT, h4, h5, ihr h6 h'⟩
theorem RowsX.xat {W : World} {T b : Nat} {f : Fo} : ∀ {lo : Nat} {xs : List Value} {o : Nat}, f.RowsX W (some b) T lo xs → (∀ i u, xs[i]? = some u → W.cell? ⟨b, o + i, none⟩ = some u) → f.XAt W lo T b o := by
  induction f with
  | nil => intro lo xs o h _; exact h.2
  | cons k n ks r _ ihr =>
    intro lo xs o ⟨l, m, A, C, ys, e, h1, h2, h3, h4, h5, h6⟩ hc
    subst e
    refine ⟨l, m, A, C, h1, h2, h4 b rfl, hc 0 _ rfl, hc 1 _ rfl, hc 2 _ rfl, h5.2, ihr h6 (fun i u hi => ?_)⟩
    have := hc (i + 3) u hi
    rw [show o + (i + 3) = o + 3 + i from by omega] at this
    exact this
end Fo

structure KXX (W : World) (lo : Nat) (f : Fo) (v : Value) (xs : List Value) : Prop where
  own : W.ownsRow lo 31 3 v f.len xs
  rows : f.RowsX W v.ownBlock W.heap.size lo xs
/-- A list of expressions that a call has made by append, each kid in blocks of its own. -/
def KidsX (W : World) (lo : Nat) (f : Fo) (v : Value) : Prop := ∃ xs, KXX W lo f v xs
theorem KidsX.kx {W : World} {lo : Nat} {f : Fo} {v : Value} (h : KidsX W lo f v) : ∃ xs, KXX W lo f v xs := h
theorem KidsX.nil (W : World) (lo : Nat) (h : lo ≤ W.heap.size) : KidsX W lo .nil (.slice none 0 0) := ⟨[], World.ownsRow_nil _ _ _ _, rfl, h⟩
theorem KXX.below {W W' : World} {lo : Nat} {f : Fo} {v : Value} {xs : List Value} (h : KXX W lo f v xs) (hb : Below W.heap.size W W') : KXX W' lo f v xs :=
  ⟨h.own.kept ⟨hb.os, hb.tape, hb.output, hb.size, fun k hk _ => hb.block k hk⟩ (row := none) (by cases hv : v.ownBlock <;> simp), (h.rows.keep (fun x hx _ => hb.block x hx) (Or.inl rfl)).top hb.size⟩
theorem KXX.drew {W : World} {lo : Nat} {f : Fo} {v : Value} {xs : List Value} (h : KXX W lo f v xs) : KXX W.drew lo f v xs := h.below ⟨rfl, rfl, rfl, Nat.le_refl _, fun _ _ => rfl⟩
theorem KXX.alloc {W : World} {lo : Nat} {f : Fo} {v : Value} {xs : List Value} (h : KXX W lo f v xs) (o : Obj) : KXX (W.alloc o) lo f v xs := h.below ((Below.refl _ _).alloc (Nat.le_refl _) _)
theorem KidsX.put {W : World} {lo : Nat} {f : Fo} {v : Value} (h : KidsX W lo f v) {b o : Nat} (hb : b < lo) (u : Value) : KidsX (W.setCell ⟨b, o, none⟩ u) lo f v := by
  obtain ⟨xs, h1, h2⟩ := h
  refine ⟨xs, ownsRow_setCell_below h1 hb u, ?_⟩
  have hl := h2.le
  have key : ∀ (g : Fo) (l : Nat) (ys : List Value), lo ≤ l → g.RowsX W v.ownBlock W.heap.size l ys → g.RowsX (W.setCell ⟨b, o, none⟩ u) v.ownBlock W.heap.size l ys := by
    intro g
    induction g with
    | nil => intro l ys _ h; exact h
    | cons k n ks r _ ihr =>
      intro l ys hl ⟨l1, m, A, C, zs, e, g1, g2, g3, g4, g5, g6⟩
      exact ⟨l1, m, A, C, zs, e, g1, g2, g3, g4, g5.agree (fun x a c => Below.heap_setCell _ _ _ _ (by show x ≠ b; omega)), ihr _ _ (by omega) g6⟩
  have := key f lo xs (Nat.le_refl _) h2
  exact this.top (by simp)
theorem KXX.snoc {W W1 W2 : World} {lo : Nat} {f : Fo} {v : Value} {xs : List Value} {k n : Int} {ks : Fo} {A : Option Addr} {C g cap : Nat} {T : TypeId} (h : KXX W lo f v xs) (hb : Below W.heap.size W W1) (hk : ks.XIn W1 W.heap.size W1.heap.size A)
    (hown : W2.ownsRow lo 31 3 (.slice (some ⟨g, 0, none⟩) (f.len + 1) cap) (f.len + 1) (xs ++ [.int .i64 k, .int .i64 n, .slice A ks.len C])) (hg : (W1.alloc (.cells #[.int .i64 k, .int .i64 n, .slice A ks.len C] T (0, 0))).grownBy W2 v.ownBlock) (hat : v.ownBlock = some g ∨ g = (W1.alloc (.cells #[.int .i64 k, .int .i64 n, .slice A ks.len C] T (0, 0))).heap.size) :
    KidsX W2 lo (f.app (.cons k n ks .nil)) (.slice (some ⟨g, 0, none⟩) (f.len + 1) cap) := by
  have hs1 : W.heap.size ≤ W1.heap.size := hb.size
  have hs2 : W1.heap.size + 1 ≤ W2.heap.size := by have := hg.size; simpa using this
  have hv : ∀ x, v.ownBlock = some x → x < W.heap.size := fun x hx => (h.own.lt x hx).2
  have hg2 : g < W.heap.size ∧ v.ownBlock = some g ∨ W1.heap.size < g := by
    rcases hat with h1 | h1
    · exact Or.inl ⟨hv g h1, h1⟩
    · refine Or.inr ?_; rw [h1]; simp
  have hblk : ∀ x, x < W.heap.size → v.ownBlock ≠ some x → W2.heap[x]? = W.heap[x]? := fun x hx hn =>
    (hg.block x (by simp; omega) (fun h => hn h.symm)).trans ((Below.heap_alloc _ _ _ (by omega)).trans (hb.block x hx))
  refine ⟨_, by rw [Fo.app_len]; exact hown, ?_⟩
  refine Fo.RowsX.app (T := W.heap.size) (by omega) (h.rows.keep hblk ?_) ?_
  · rcases hg2 with ⟨_, h1⟩ | h1
    · exact Or.inl h1.symm
    · refine Or.inr fun g' hg' => ?_
      have e : g = g' := Option.some.inj hg'
      omega
  · refine ⟨W.heap.size, W1.heap.size, A, C, [], rfl, Nat.le_refl _, hs1, by omega, fun g' hg' => ?_, hk.agree (fun x a c => ?_), rfl, by omega⟩
    · have e : g = g' := Option.some.inj hg'
      rcases hg2 with ⟨h1, _⟩ | h1 <;> omega
    · exact (hg.block x (by simp; omega) (fun h => by have := hv x h.symm; omega)).trans (Below.heap_alloc _ _ _ c)
theorem KidsX.xin {W : World} {lo : Nat} {f : Fo} {v : Value} (h : KidsX W lo f v) : ∃ A C, v = .slice A f.len C ∧ f.XIn W lo W.heap.size A := by
  obtain ⟨xs, h1, h2⟩ := h
  rcases h1.2 with ⟨rfl, h0⟩ | ⟨g, cap, cur, hv, hg, hh, hn, _, hs, ht⟩
  · obtain rfl := Fo.nil_of_len h0
    exact ⟨none, 0, rfl, Fo.XIn.nil h2.le _⟩
  · have hb : v.ownBlock = some g := by rw [hv]; rfl
    refine ⟨some ⟨g, 0, none⟩, cap, hv, h2.le, Or.inr ⟨g, rfl, hg, (Array.getElem?_eq_some_iff.1 hh).1, fun i => Fo.unfrozen_of_block hh i, ?_⟩⟩
    rw [hb] at h2
    refine h2.xat fun i u hi => ?_
    rw [Nat.zero_add, Fo.cell_of_block hh, ← Array.getElem?_toList]
    have h3 : (cur.toList.take (f.len * 3))[i]? = xs[i]? := by rw [ht]
    have hx : i < f.len * 3 := by rw [← h1.1]; exact (List.getElem?_eq_some_iff.1 hi).1
    rw [List.getElem?_take, if_pos hx] at h3
    rw [h3]; exact hi

/-! What a store changes in such a list. -/
namespace Fo
def upd (f : Fo) (i : Nat) (g : Int → Int → Fo → Int × Int × Fo) : Fo :=
  match f, i with
  | nil, _ => nil
  | cons k n ks r, 0 => cons (g k n ks).1 (g k n ks).2.1 (g k n ks).2.2 r
  | cons k n ks r, i + 1 => cons k n ks (r.upd i g)
theorem upd_len (f : Fo) : ∀ i g, (f.upd i g).len = f.len := by
  induction f with
  | nil => intro i g; cases i <;> rfl
  | cons k n ks r _ ih => intro i g; cases i with
    | zero => rfl
    | succ i => simp only [upd, len, ih]
theorem XAt.drop {w : World} {f : Fo} : ∀ {lo hi b o i : Nat} {k n : Int} {ks rest : Fo}, f.XAt w lo hi b o → f.drop i = .cons k n ks rest →
    ∃ (l m : Nat) (A : Option Addr) (C : Nat), lo ≤ l ∧ l ≤ m ∧ m ≤ hi ∧ (b < l ∨ m ≤ b) ∧ w.cell? ⟨b, o + 3 * i, none⟩ = some (.int .i64 k) ∧ w.cell? ⟨b, o + 3 * i + 1, none⟩ = some (.int .i64 n) ∧ w.cell? ⟨b, o + 3 * i + 2, none⟩ = some (.slice A ks.len C) ∧ ks.XIn w l m A := by
  induction f with
  | nil => intro lo hi b o i k n ks rest _ h; cases i <;> cases h
  | cons k0 n0 ks0 r0 _ ihr =>
    intro lo hi b o i k n ks rest ⟨l, m, A, C, g1, g2, g3, h0, h1, h2, h3, h4⟩ hd
    have hle := h4.le
    cases i with
    | zero => cases hd; exact ⟨l, m, A, C, g1, g2, hle, g3, h0, h1, h2, g2, h3⟩
    | succ i =>
      obtain ⟨l', m', A', C', e1, e2, e3, e4, e5, e6, e7, e8⟩ := ihr h4 hd
      rw [show o + 3 * (i + 1) = o + 3 + 3 * i from by omega]
      exact ⟨l', m', A', C', by omega, e2, e3, e4, e5, e6, e7, e8⟩
/-- What is known of the world behind a store into row i or into its kids. -/
def Upd (w w' : World) (lo0 top : Nat) (b o : Nat) (g : Int → Int → Fo → Int × Int × Fo) (k n : Int) (ks : Fo) (l m : Nat) : Prop :=
  (∀ x, x ≠ b → (x < l ∨ m ≤ x) → w'.heap[x]? = w.heap[x]?) ∧ (∀ c, (c < o ∨ o + 3 ≤ c) → w'.cell? ⟨b, c, none⟩ = w.cell? ⟨b, c, none⟩) ∧
  ∃ A' C', w'.cell? ⟨b, o, none⟩ = some (.int .i64 (g k n ks).1) ∧ w'.cell? ⟨b, o + 1, none⟩ = some (.int .i64 (g k n ks).2.1) ∧ w'.cell? ⟨b, o + 2, none⟩ = some (.slice A' (g k n ks).2.2.len C') ∧ (g k n ks).2.2.LiesIn w' lo0 top A'
theorem XAt.upd {w w' : World} {lo0 top b : Nat} {g : Int → Int → Fo → Int × Int × Fo} {f : Fo} : ∀ {lo hi o i : Nat} {k n : Int} {ks rest : Fo}, f.XAt w lo hi b o → f.drop i = .cons k n ks rest →
    (∀ l m A C, l ≤ m → (b < l ∨ m ≤ b) → w.cell? ⟨b, o + 3 * i, none⟩ = some (.int .i64 k) → w.cell? ⟨b, o + 3 * i + 1, none⟩ = some (.int .i64 n) → w.cell? ⟨b, o + 3 * i + 2, none⟩ = some (.slice A ks.len C) → ks.XIn w l m A → lo ≤ l → m ≤ hi → Upd w w' lo0 top b (o + 3 * i) g k n ks l m) →
    lo0 ≤ lo → hi ≤ top → (f.upd i g).AtIn w' lo0 top b o := by
  induction f with
  | nil => intro lo hi o i k n ks rest _ h; cases i <;> cases h
  | cons k0 n0 ks0 r0 _ ihr =>
    intro lo hi o i k n ks rest hx hd hB e1 e2
    have hx0 := hx
    obtain ⟨l, m, A, C, g1, g2, g3, h0, h1, h2, h3, h4⟩ := hx
    have hle := h4.le
    cases i with
    | zero =>
      cases hd
      obtain ⟨u1, u2, A', C', c0, c1, c2, hl⟩ := hB l m A C g2 g3 h0 h1 h2 ⟨g2, h3⟩ g1 hle
      refine ⟨c0, c1, ⟨A', C', c2, hl⟩, ?_⟩
      exact (h4.agree (fun c hc => u2 c (by omega)) (fun x a c d => u1 x d (by omega))).atIn (by omega) e2
    | succ i =>
      have hd' : r0.drop i = .cons k n ks rest := hd
      have eo : o + 3 * (i + 1) = o + 3 + 3 * i := by omega
      rw [eo] at hB
      obtain ⟨l', m', A1, C1, f1, f2, f3, f4, f5, f6, f7, f8⟩ := h4.drop hd'
      obtain ⟨u1, u2, _⟩ := hB l' m' A1 C1 f2 f4 f5 f6 f7 f8 (by omega) f3
      refine ⟨(u2 _ (by omega)).trans h0, (u2 _ (by omega)).trans h1, ⟨A, C, (u2 _ (by omega)).trans h2, ?_⟩, ihr h4 hd' (fun l m A C a1 a2 a3 a4 a5 a6 a7 a8 => hB l m A C a1 a2 a3 a4 a5 a6 (by omega) a8) (by omega) e2⟩
      have ag : Agree w w' l m := fun x a c => u1 x (by omega) (by omega)
      exact (XIn.liesIn (XIn.agree ⟨g2, h3⟩ ag)).mono (by omega) (by omega)
end Fo

/-- A path leads into the blocks of the list. -/
theorem atPath_in {w : World} {B' o' : Nat} : ∀ (xs : List Int) (B o : Nat) (f : Fo) (A : Option Addr) (lo hi : Nat), xs ≠ [] → f.XIn w lo hi A → AtPath w xs B o f A B' o' → lo ≤ B' ∧ B' < hi := by
  intro xs
  induction xs with
  | nil => intro _ _ _ _ _ _ h; exact absurd rfl h
  | cons i r ih =>
    intro B o f A lo hi _ hx hp
    obtain ⟨b1, o1, k, n, ks, rest, A1, C1, h0, h1, hA, hd, hc, hp⟩ := hp
    rcases hx.2 with rfl | ⟨b2, hA2, q1, q2, _, hat⟩
    · simp [Fo.len] at h1; omega
    · rw [hA] at hA2
      obtain ⟨rfl, rfl⟩ : b1 = b2 ∧ o1 = 0 := by injection hA2 with e; injection e with e1 e2; exact ⟨e1, e2⟩
      obtain ⟨l, m, A3, C3, f1, f2, f3, f4, f5, f6, f7, f8⟩ := hat.drop hd
      have e : (0 : Nat) + 3 * i.toNat + 2 = 0 + i.toNat * 3 + 2 := by omega
      rw [e, hc] at f7
      obtain rfl : A1 = A3 := by injection f7 with e; injection e
      cases r with
      | nil => obtain ⟨rfl, _⟩ := hp; exact ⟨q1, q2⟩
      | cons j r =>
        have := ih b1 _ ks A1 l m (by simp) f8 hp
        omega

/-- An expression with another at the end of a path. -/
def putP : List Int → (Int × Int × Fo) → Int → Int → Fo → Int × Int × Fo
  | [], x, _, _, _ => x
  | i :: r, x, k, n, f => (k, n, f.upd i.toNat (putP r x))

theorem put_lies {w w' : World} {B' o' lo0 top : Nat} {x : Int × Int × Fo} {A2 : Option Addr} {C2 : Nat} (hk : ∀ y, y ≠ B' → w'.heap[y]? = w.heap[y]?) (hc : ∀ c, (c < o' ∨ o' + 3 ≤ c) → w'.cell? ⟨B', c, none⟩ = w.cell? ⟨B', c, none⟩)
    (c0 : w'.cell? ⟨B', o', none⟩ = some (.int .i64 x.1)) (c1 : w'.cell? ⟨B', o' + 1, none⟩ = some (.int .i64 x.2.1)) (c2 : w'.cell? ⟨B', o' + 2, none⟩ = some (.slice A2 x.2.2.len C2)) (hg : x.2.2.LiesIn w' lo0 top A2) :
    ∀ (r : List Int) (i : Int) (B o : Nat) (f : Fo) (A : Option Addr) (lo hi : Nat), f.XIn w lo hi A → AtPath w (i :: r) B o f A B' o' → lo0 ≤ lo → hi ≤ top → (f.upd i.toNat (putP r x)).LiesIn w' lo0 top A := by
  have hcell : ∀ (b c : Nat), b ≠ B' → w'.cell? ⟨b, c, none⟩ = w.cell? ⟨b, c, none⟩ := fun b c hb => Fo.Agree.cell (lo := b) (hi := b + 1) (fun y a d => hk y (by omega)) (Nat.le_refl _) (Nat.lt_succ_self _) c
  intro r
  induction r with
  | nil =>
    intro i B o f A lo hi hx hp e1 e2
    obtain ⟨b1, o1, k, n, ks, rest, A1, C1, h0, h1, hA, hd, hcc, rfl, rfl⟩ := hp
    rcases hx.2 with rfl | ⟨b2, hA2, q1, q2, _, hat⟩
    · simp [Fo.len] at h1; omega
    · rw [hA] at hA2
      obtain ⟨rfl, rfl⟩ : B' = b2 ∧ o1 = 0 := by injection hA2 with e; injection e with e1 e2; exact ⟨e1, e2⟩
      refine fun _ => ⟨B', 0, hA, by omega, by omega, hat.upd hd (fun l m A C a1 a2 _ _ a3 a4 a5 a6 => ⟨fun y hy _ => hk y hy, fun c hc' => hc c (by omega), A2, C2, ?_, ?_, ?_, hg⟩) e1 e2⟩
      all_goals (rw [show (0 : Nat) + 3 * i.toNat = 0 + i.toNat * 3 from by omega]; assumption)
  | cons j r ih =>
    intro i B o f A lo hi hx hp e1 e2
    obtain ⟨b1, o1, k, n, ks, rest, A1, C1, h0, h1, hA, hd, hcc, hp⟩ := hp
    rcases hx.2 with rfl | ⟨b2, hA2, q1, q2, _, hat⟩
    · simp [Fo.len] at h1; omega
    · rw [hA] at hA2
      obtain ⟨rfl, rfl⟩ : b1 = b2 ∧ o1 = 0 := by injection hA2 with e; injection e with e1 e2; exact ⟨e1, e2⟩
      refine fun _ => ⟨b1, 0, hA, by omega, by omega, hat.upd hd (fun l m A3 C3 a1 a2 p0 p1 a3 a4 a5 a6 => ?_) e1 e2⟩
      have a3' := a3
      rw [show (0 : Nat) + 3 * i.toNat + 2 = 0 + i.toNat * 3 + 2 from by omega, hcc] at a3'
      obtain rfl : A1 = A3 := by injection a3' with e; injection e
      obtain ⟨t1, t2⟩ := atPath_in (j :: r) _ _ ks A1 l m (by simp) a4 hp
      have hne : b1 ≠ B' := by omega
      refine ⟨fun y _ hy => hk y (by omega), fun c _ => hcell b1 c hne, A1, C3, (hcell _ _ hne).trans p0, (hcell _ _ hne).trans p1, ?_, ih j _ _ ks A1 l m a4 hp (by omega) (by omega)⟩
      rw [hcell _ _ hne, a3]
      show _ = some (Value.slice A1 (ks.upd j.toNat (putP r x)).len C3)
      rw [Fo.upd_len]
end Go.Proofs.Ytlfafcbieeambaa
