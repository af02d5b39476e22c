/- Contract of spec.l01Turn. -/
import Derived.Test.YtlfafcbieeambaaExO
import Derived.Deep.RegionHeld3
import Derived.Deep.RegionLaw
import Derived.Deep.AppendLies
import Derived.RegionTactic
import Derived.OwnWalk
namespace Go.Proofs.Ytlfafcbieeambaa
open Go.RowKit

namespace Fo
def take : Fo → Nat → Fo
  | nil, _ => nil
  | cons _ _ _ _, 0 => nil
  | cons k n ks r, j + 1 => cons k n ks (r.take j)
theorem take_zero (f : Fo) : f.take 0 = nil := by cases f <;> rfl
theorem take_len (f : Fo) : f.take f.len = f := by
  induction f with
  | nil => rfl
  | cons k n ks r _ ih => simp only [len, take, ih]
theorem take_le (f : Fo) : ∀ (j : Nat), j ≤ f.len → (f.take j).len = j := by
  induction f with
  | nil => intro j hj; simp [len] at hj; subst hj; rfl
  | cons k n ks r _ ih =>
    intro j hj
    cases j with
    | zero => rfl
    | succ j => simp only [take, len]; rw [ih j (by simp only [len] at hj; omega)]
end Fo

/-- The row that round j appends: whence it is, and what becomes of it. -/
theorem turn_row {t a : Int} {b : Bool} {k n : Int} {f : Fo} (h : treeE t a b k n f = true) (j : Nat) (hj : j < f.len) :
    ∃ (m : Nat) (k1 n1 : Int) (f1 r : Fo) (b1 : Bool), (m : Int) = (if k = 7 then 1 - (j : Int) else (j : Int)) ∧ m < f.len ∧ f.drop m = .cons k1 n1 f1 r ∧ treeE t a b1 k1 n1 f1 = true ∧ (ndE f k n).rev.ks.take (j + 1) = ((ndE f k n).rev.ks.take j).app (.cons k1 n1 (ndE f1 k1 n1).rev.ks .nil) := by
  rcases tree_forms h with ⟨rfl, hk⟩ | ⟨k1, n1, f1, rfl, hk, h1⟩ | ⟨k1, n1, f1, k2, n2, f2, rfl, hk, h1, h2⟩
  · simp [Fo.len] at hj
  · have e1 := (ndE_all h1).1
    have e2 := (ndE_all h1).2.1
    obtain rfl : j = 0 := by simp [Fo.len] at hj; omega
    rcases hk with rfl | rfl
    · refine ⟨0, k1, n1, f1, .nil, _, by simp, by simp [Fo.len], rfl, h1, ?_⟩
      show Fo.cons (ndE f1 k1 n1).rev.kd (ndE f1 k1 n1).rev.nm _ .nil = Fo.cons k1 n1 _ .nil
      rw [Nd.rev_kd, Nd.rev_nm, e1, e2]
    · refine ⟨0, k1, n1, f1, .nil, _, by simp, by simp [Fo.len], rfl, h1, ?_⟩
      show Fo.cons (ndE f1 k1 n1).rev.kd (ndE f1 k1 n1).rev.nm _ .nil = Fo.cons k1 n1 _ .nil
      rw [Nd.rev_kd, Nd.rev_nm, e1, e2]
  · have e1 := (ndE_all h1).1
    have e2 := (ndE_all h1).2.1
    have g1 := (ndE_all h2).1
    have g2 := (ndE_all h2).2.1
    have hj' : j = 0 ∨ j = 1 := by simp [Fo.len] at hj; omega
    rcases hk with rfl | rfl
    · rcases hj' with rfl | rfl
      · refine ⟨0, k1, n1, f1, _, _, by simp, by simp [Fo.len], rfl, h1, ?_⟩
        show Fo.cons (ndE f1 k1 n1).rev.kd (ndE f1 k1 n1).rev.nm _ .nil = Fo.cons k1 n1 _ .nil
        rw [Nd.rev_kd, Nd.rev_nm, e1, e2]
      · refine ⟨1, k2, n2, f2, .nil, _, by simp, by simp [Fo.len], rfl, h2, ?_⟩
        show Fo.cons (ndE f1 k1 n1).rev.kd (ndE f1 k1 n1).rev.nm _ (Fo.cons (ndE f2 k2 n2).rev.kd (ndE f2 k2 n2).rev.nm _ .nil) = Fo.cons (ndE f1 k1 n1).rev.kd (ndE f1 k1 n1).rev.nm _ (Fo.cons k2 n2 _ .nil)
        rw [Nd.rev_kd (ndE f2 k2 n2), Nd.rev_nm (ndE f2 k2 n2), g1, g2]
    · rcases hj' with rfl | rfl
      · refine ⟨1, k2, n2, f2, .nil, _, by simp, by simp [Fo.len], rfl, h2, ?_⟩
        show Fo.cons (ndE f2 k2 n2).rev.kd (ndE f2 k2 n2).rev.nm _ .nil = Fo.cons k2 n2 _ .nil
        rw [Nd.rev_kd, Nd.rev_nm, g1, g2]
      · refine ⟨0, k1, n1, f1, _, _, by simp, by simp [Fo.len], rfl, h1, ?_⟩
        show Fo.cons (ndE f2 k2 n2).rev.kd (ndE f2 k2 n2).rev.nm _ (Fo.cons (ndE f1 k1 n1).rev.kd (ndE f1 k1 n1).rev.nm _ .nil) = Fo.cons (ndE f2 k2 n2).rev.kd (ndE f2 k2 n2).rev.nm _ (Fo.cons k1 n1 _ .nil)
        rw [Nd.rev_kd (ndE f1 k1 n1), Nd.rev_nm (ndE f1 k1 n1), e1, e2]

/-- A list of expressions, with what its cells hold. -/
structure KX (W : World) (lo : Nat) (f : Fo) (v : Value) (xs : List Value) : Prop where
  own : W.ownsRow lo 31 3 v f.len xs
  rows : f.RowsIn W lo v.ownBlock xs
theorem Kids.kx {W : World} {lo : Nat} {f : Fo} {v : Value} (h : Kids W lo f v) : ∃ xs, KX W lo f v xs := let ⟨xs, h1, h2⟩ := h; ⟨xs, h1, h2⟩
theorem KX.below {W W' : World} {lo : Nat} {f : Fo} {v : Value} {xs : List Value} (h : KX W lo f v xs) (hb : Below W.heap.size W W') : KX W' lo f v xs :=
  ⟨h.own.kept ⟨hb.os, hb.tape, hb.output, hb.size, fun k hk _ => hb.block k hk⟩ (row := none) (by cases hv : v.ownBlock <;> simp), h.rows.keep hb.size (fun x _ hx _ => hb.block x hx) (Or.inl rfl)⟩
theorem KX.drew {W : World} {lo : Nat} {f : Fo} {v : Value} {xs : List Value} (h : KX W lo f v xs) : KX W.drew lo f v xs := h.below ⟨rfl, rfl, rfl, Nat.le_refl _, fun _ _ => rfl⟩
theorem KX.alloc {W : World} {lo : Nat} {f : Fo} {v : Value} {xs : List Value} (h : KX W lo f v xs) (o : Obj) : KX (W.alloc o) lo f v xs := h.below ((Below.refl _ _).alloc (Nat.le_refl _) _)
/-- A row is appended whose kids a call has made. -/
theorem KX.snoc {W W1 W2 : World} {lo : Nat} {f : Fo} {v : Value} {xs : List Value} {k n : Int} {ks : Fo} {A : Option Addr} {C g cap : Nat} {T : TypeId} (h : KX W lo f v xs) (hlo : lo ≤ W.heap.size) (hb : Below W.heap.size W W1) (hk : ks.LiesIn W1 W.heap.size W1.heap.size A)
    (hown : W2.ownsRow lo 31 3 (.slice (some ⟨g, 0, none⟩) (f.len + 1) cap) (f.len + 1) (xs ++ [.int .i64 k, .int .i64 n, .slice A ks.len C])) (hg : (W1.alloc (.cells #[.int .i64 k, .int .i64 n, .slice A ks.len C] T (0, 0))).grownBy W2 v.ownBlock) (hat : v.ownBlock = some g ∨ g = (W1.alloc (.cells #[.int .i64 k, .int .i64 n, .slice A ks.len C] T (0, 0))).heap.size) :
    Kids W2 lo (f.app (.cons k n ks .nil)) (.slice (some ⟨g, 0, none⟩) (f.len + 1) cap) := by
  refine Kids.snoc (l := W.heap.size) (m := W1.heap.size) ((h.below hb).alloc _).rows (hk.agree (Fo.Agree.of_below ((Below.refl _ _).alloc (Nat.le_refl _) _))) hlo (by simp) (fun x hx => Or.inl (h.own.lt x hx).2) hown hg ?_
  rcases hat with h1 | h1
  · exact Or.inl (by rw [h1]; rfl)
  · exact Or.inr (by rw [← h1]; rfl)

theorem Try.infoX : (Try.prog.info? 31).map (fun i => (i.zero, i.size, i.bytes)) = some (some (.agg #[.int .i64 0, .int .i64 0, .slice none 0 0]), 3, 40) := by kernel_rfl
end Go.Proofs.Ytlfafcbieeambaa
