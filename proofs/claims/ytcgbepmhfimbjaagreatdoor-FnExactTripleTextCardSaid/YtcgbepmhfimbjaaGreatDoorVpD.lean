/- When a program is valid. Plain facts, no walk. -/
import Derived.Test.YtcgbepmhfimbjaaGreatDoorPg
import Derived.Test.YtcgbepmhfimbjaaGreatDoorSpC
namespace Go.Proofs.YtcgbepmhfimbjaaGreatDoor
open Go.RowKit
set_option linter.unusedVariables false

def pkidC (k : Int) : Int := if k = 1 ∨ k = 2 ∨ k = 3 ∨ k = 4 then 0 else if k = 7 then 1 else if k = 5 ∨ k = 6 then 2 else -1
def pnumC (a k : Int) : Int := if k = 3 then a else 1
def askB (k : Int) : Bool := k == 4 || (k == 6 || k == 7)
/-- The form of one node: the number of its kids, its number, its condition. -/
def pform (t a k n ck cn : Int) (cf : Fo) (len : Nat) : Bool := decide ((len : Int) = pkidC k) && (belowB n (pnumC a k) && fieldV t a ck cn cf (askB k))
namespace Pg
def tree (t a : Int) : Pg → Bool
  | nil => true
  | cons k n ck cn cf ks r => (pform t a k n ck cn cf ks.len && ks.tree t a) && r.tree t a
def deep : Pg → Nat
  | nil => 0
  | cons _ _ _ _ _ ks r => max (1 + ks.deep) r.deep
def cnt : Pg → Nat
  | nil => 0
  | cons _ _ _ _ _ ks r => 1 + ks.cnt + r.cnt
/-- The model's count of what is left. -/
def left : Pg → Int → Int
  | nil, l => l
  | cons _ _ _ _ _ ks r, l => if l < 0 then l else r.left (ks.left (l - 1))
end Pg
def ptreeE (t a k n ck cn : Int) (cf : Fo) (f : Pg) : Bool := pform t a k n ck cn cf f.len && f.tree t a
def validP (t a k n ck cn : Int) (cf : Fo) (f : Pg) : Bool := sigOk t a && (decide (1 + f.cnt ≤ 60) && (decide (1 + f.deep ≤ 20) && ptreeE t a k n ck cn cf f))
theorem Pg.tree_cons (t a k n ck cn : Int) (cf : Fo) (ks r : Pg) : (Pg.cons k n ck cn cf ks r).tree t a = (ptreeE t a k n ck cn cf ks && r.tree t a) := rfl
theorem Pg.cnt_le (f : Pg) : f.cnt ≤ f.nodes := by
  induction f with
  | nil => exact Nat.le_refl _
  | cons k n ck cn cf ks r ihk ihr => simp only [Pg.cnt, Pg.nodes]; omega
theorem Pg.deep_le (f : Pg) : f.deep ≤ f.cnt := by
  induction f with
  | nil => exact Nat.le_refl _
  | cons k n ck cn cf ks r ihk ihr => simp only [Pg.deep, Pg.cnt]; omega
theorem Pg.left_neg (f : Pg) {l : Int} (h : l < 0) : f.left l = l := by
  cases f with
  | nil => rfl
  | cons k n ck cn cf ks r => simp only [Pg.left]; rw [if_pos h]
theorem Pg.left_ge (f : Pg) : ∀ l : Int, -1 ≤ l → -1 ≤ f.left l ∧ f.left l ≤ l := by
  induction f with
  | nil => intro l h; exact ⟨h, Int.le_refl _⟩
  | cons k n ck cn cf ks r ihk ihr =>
    intro l h
    simp only [Pg.left]
    split
    · exact ⟨h, Int.le_refl _⟩
    · have h1 := ihk (l - 1) (by omega)
      have h2 := ihr _ h1.1
      omega
theorem Pg.left_val (f : Pg) : ∀ l : Int, -1 ≤ l → (f.cnt ≤ l → f.left l = l - f.cnt) ∧ (l < f.cnt → f.left l < 0) := by
  induction f with
  | nil => intro l h; simp only [Pg.left, Pg.cnt]; omega
  | cons k n ck cn cf ks r ihk ihr =>
    intro l h
    simp only [Pg.left, Pg.cnt]
    split
    · omega
    · have h1 := ihk (l - 1) (by omega)
      have hg := ks.left_ge (l - 1) (by omega)
      have h2 := ihr (ks.left (l - 1)) hg.1
      constructor
      · intro hle
        rw [h2.1 (by rw [h1.1 (by omega)]; omega), h1.1 (by omega)]
        omega
      · intro hlt
        by_cases hk : (ks.cnt : Int) ≤ l - 1
        · refine h2.2 ?_
          rw [h1.1 hk]; omega
        · have := h1.2 (by omega)
          rw [r.left_neg this]; exact this
theorem Pg.left_ok (f : Pg) (l : Int) (h : 0 ≤ l) : decide (0 ≤ f.left (l - 1)) = decide ((1 : Int) + f.cnt ≤ l) := by
  have hv := f.left_val (l - 1) (by omega)
  rw [decide_eq_decide]
  constructor
  · intro h1
    by_cases h2 : (f.cnt : Int) ≤ l - 1
    · omega
    · have := hv.2 (by omega); omega
  · intro h1
    rw [hv.1 (by omega)]; omega
theorem Pg.left_drop (f : Pg) {j : Nat} (h : j < f.len) {k n ck cn : Int} {cf : Fo} {ks r : Pg} (e : f.drop j = .cons k n ck cn cf ks r) (e2 : f.drop (j + 1) = r) (l : Int) (hl : 0 ≤ l) : (f.drop j).left l = (f.drop (j + 1)).left (ks.left (l - 1)) := by
  rw [e, e2]
  simp only [Pg.left]
  rw [if_neg (by omega)]
/-- The nodes in the order of the walk: how deep, and what they hold. -/
structure PRow where
  d : Nat
  k : Int
  n : Int
  ck : Int
  cn : Int
  cf : Fo
  ks : Pg
def Pg.pre : Nat → Pg → List PRow
  | _, nil => []
  | d, cons k n ck cn cf ks r => ⟨d, k, n, ck, cn, cf, ks⟩ :: (ks.pre (d + 1) ++ r.pre d)
theorem Pg.pre_len (f : Pg) : ∀ d, (f.pre d).length = f.cnt := by
  induction f with
  | nil => intro d; rfl
  | cons k n ck cn cf ks r ihk ihr => intro d; simp only [Pg.pre, Pg.cnt, List.length_cons, List.length_append, ihk, ihr]; omega
def PRow.okB (t a : Int) (x : PRow) : Bool := pform t a x.k x.n x.ck x.cn x.cf x.ks.len
theorem Pg.pre_tree (t a : Int) (f : Pg) : ∀ d, (f.pre d).all (PRow.okB t a) = f.tree t a := by
  induction f with
  | nil => intro d; rfl
  | cons k n ck cn cf ks r ihk ihr =>
    intro d
    simp only [Pg.pre, Pg.tree, List.all_cons, List.all_append, ihk, ihr, PRow.okB]
    cases pform t a k n ck cn cf ks.len <;> simp
theorem Pg.pre_deep (f : Pg) : ∀ d, (f.pre d).all (fun x => decide (x.d ≤ 20)) = decide (f = .nil ∨ d + f.deep ≤ 21) := by
  induction f with
  | nil => intro d; simp [Pg.pre]
  | cons k n ck cn cf ks r ihk ihr =>
    intro d
    simp only [Pg.pre, List.all_cons, List.all_append, ihk, ihr]
    have e3 : (Pg.cons k n ck cn cf ks r).deep = max (1 + ks.deep) r.deep := rfl
    have e1 : ks = .nil → ks.deep = 0 := fun h => by rw [h]; rfl
    have e2 : r = .nil → r.deep = 0 := fun h => by rw [h]; rfl
    rw [← Bool.decide_and, ← Bool.decide_and]
    refine (Bool.eq_iff_iff.2 ?_)
    simp only [decide_eq_true_eq]
    constructor
    · rintro ⟨h1, h2, h3⟩
      right
      have g2 : d + 1 + ks.deep ≤ 21 := by
        rcases h2 with h | h
        · rw [e1 h]; omega
        · omega
      have g3 : d + r.deep ≤ 21 := by
        rcases h3 with h | h
        · rw [e2 h]; omega
        · omega
      rw [e3]; omega
    · rintro (h | h)
      · cases h
      · rw [e3] at h
        exact ⟨by omega, Or.inr (by omega), Or.inr (by omega)⟩
/-- A node at a place of the walk passes. -/
def PRow.okAt (t a : Int) (i : Nat) (x : PRow) : Bool := decide (i + 1 ≤ 60) && (decide (x.d ≤ 20) && x.okB t a)
def okPre (t a : Int) (xs : List PRow) : Prop := ∀ (i : Nat) (x : PRow), xs[i]? = some x → x.okAt t a i = true
theorem okPre_nil (t a : Int) : okPre t a [] := fun i x h => by simp at h
theorem okPre_snoc {t a : Int} {xs : List PRow} {x : PRow} (h : okPre t a xs) (hx : x.okAt t a xs.length = true) : okPre t a (xs ++ [x]) := fun i y hy => by
  by_cases hi : i < xs.length
  · rw [List.getElem?_append_left hi] at hy; exact h i y hy
  · have hl : i < (xs ++ [x]).length := (List.getElem?_eq_some_iff.1 hy).1
    have he : i = xs.length := by simp at hl; omega
    subst he
    have : y = x := by simpa using hy.symm
    subst this; exact hx
/-- What the program's walk tells is what the model tells. -/
theorem validP_pre {t a k n ck cn : Int} {cf : Fo} {f : Pg} (hs : sigOk t a = true) : validP t a k n ck cn cf f = true ↔ okPre t a ((Pg.cons k n ck cn cf f .nil).pre 1) := by
  obtain ⟨g, hg⟩ : ∃ g, g = Pg.cons k n ck cn cf f .nil := ⟨_, rfl⟩
  have hl : (g.pre 1).length = 1 + f.cnt := by rw [Pg.pre_len, hg]; simp [Pg.cnt]
  have hd : (g.pre 1).all (fun x => decide (x.d ≤ 20)) = decide (1 + f.deep ≤ 20) := by
    rw [Pg.pre_deep, hg, decide_eq_decide]
    constructor
    · rintro (h | h)
      · cases h
      · simp only [Pg.deep] at h; omega
    · intro h; right; simp only [Pg.deep]; omega
  have ht : (g.pre 1).all (PRow.okB t a) = ptreeE t a k n ck cn cf f := by
    rw [Pg.pre_tree, hg, Pg.tree_cons]
    simp [Pg.tree]
  have hv : validP t a k n ck cn cf f = (decide ((g.pre 1).length ≤ 60) && ((g.pre 1).all (fun x => decide (x.d ≤ 20)) && (g.pre 1).all (PRow.okB t a))) := by
    rw [hl, hd, ht]; unfold validP; rw [hs]; simp
  rw [hv, ← hg]
  simp only [Bool.and_eq_true, decide_eq_true_eq, List.all_eq_true]
  constructor
  · rintro ⟨h1, h2, h3⟩ i x hx
    obtain ⟨hi, rfl⟩ := List.getElem?_eq_some_iff.1 hx
    unfold PRow.okAt
    rw [decide_eq_true (show i + 1 ≤ 60 by omega), decide_eq_true (h2 _ (List.getElem_mem hi)), h3 _ (List.getElem_mem hi)]
    rfl
  · intro h
    have hp : ∀ i x, (g.pre 1)[i]? = some x → i + 1 ≤ 60 ∧ x.d ≤ 20 ∧ x.okB t a = true := fun i x hx => by
      have := h i x hx
      unfold PRow.okAt at this
      simpa [Bool.and_eq_true] using this
    refine ⟨?_, fun x hx => ?_, fun x hx => ?_⟩
    · have hp1 : (g.pre 1).length - 1 < (g.pre 1).length := by omega
      have := (hp _ _ (List.getElem?_eq_getElem hp1)).1
      omega
    · obtain ⟨i, hi, rfl⟩ := List.getElem_of_mem hx
      exact (hp i _ (List.getElem?_eq_getElem hi)).2.1
    · obtain ⟨i, hi, rfl⟩ := List.getElem_of_mem hx
      exact (hp i _ (List.getElem?_eq_getElem hi)).2.2
theorem validP_stop {t a k n ck cn : Int} {cf : Fo} {f : Pg} {xs : List PRow} {x : PRow} (hs : sigOk t a = true) (hp : xs ++ [x] <+: (Pg.cons k n ck cn cf f .nil).pre 1) (hx : x.okAt t a xs.length = false) : validP t a k n ck cn cf f = false := by
  rw [Bool.eq_false_iff]
  intro h
  have h1 := (validP_pre hs).1 h
  obtain ⟨r, hr⟩ := hp
  have := h1 xs.length x (by rw [← hr]; simp)
  rw [hx] at this
  cases this
end Go.Proofs.YtcgbepmhfimbjaaGreatDoor
