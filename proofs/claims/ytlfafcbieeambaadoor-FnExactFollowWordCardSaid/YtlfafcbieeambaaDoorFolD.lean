/- Where a word leads in a world. Plain facts, no walk. -/
import Derived.Test.YtlfafcbieeambaaDoorWldD
namespace Go.Proofs.YtlfafcbieeambaaDoor
open Go.RowKit

/-- Where an action leads from a state. -/
def nxt (nx : List (List Int)) (s : Nat) (y : Int) : Int := nth (nx.getD y.toNat []) s
/-- A word, followed as the model does. -/
def folR (p : List Int) (nx : List (List Int)) : List Int → List Int → Nat → Int × Int
  | [], xs, s => if xs = [nth p s] then ((s : Int), 0) else (0, 4)
  | y :: ys, x :: xs, s => if nth p s = x ∧ ¬ nxt nx s y < 0 then folR p nx ys xs (nxt nx s y).toNat else (0, 4)
  | _ :: _, [], _ => (0, 4)
/-- The state behind some actions. -/
def goW (nx : List (List Int)) : Nat → List Int → Option Nat
  | s, [] => some s
  | s, y :: ys => if nxt nx s y < 0 then none else goW nx (nxt nx s y).toNat ys
/-- The atoms on the way. -/
def atomsW (p : List Int) (nx : List (List Int)) : Nat → List Int → List Int
  | s, [] => [nth p s]
  | s, y :: ys => nth p s :: atomsW p nx (nxt nx s y).toNat ys
theorem folR_go (p : List Int) (nx : List (List Int)) : ∀ (ys xs : List Int) (s : Nat), xs.length = ys.length + 1 → folR p nx ys xs s = match goW nx s ys with | some z => if atomsW p nx s ys = xs then ((z : Int), 0) else (0, 4) | none => (0, 4) := by
  intro ys
  induction ys with
  | nil =>
    intro xs s _
    have e : atomsW p nx s [] = [nth p s] := rfl
    show (if xs = [nth p s] then ((s : Int), (0 : Int)) else (0, 4)) = (if atomsW p nx s [] = xs then ((s : Int), (0 : Int)) else (0, 4))
    by_cases h : xs = [nth p s]
    · rw [if_pos h, if_pos (e.trans h.symm)]
    · rw [if_neg h, if_neg (fun h2 => h (h2.symm.trans e))]
  | cons y ys ih =>
    intro xs s hl
    match xs, hl with
    | x :: xs, hl =>
      have hl2 : xs.length = ys.length + 1 := by simpa using hl
      have e1 : folR p nx (y :: ys) (x :: xs) s = if nth p s = x ∧ ¬ nxt nx s y < 0 then folR p nx ys xs (nxt nx s y).toNat else (0, 4) := rfl
      have e2 : goW nx s (y :: ys) = if nxt nx s y < 0 then none else goW nx (nxt nx s y).toNat ys := rfl
      have e3 : atomsW p nx s (y :: ys) = nth p s :: atomsW p nx (nxt nx s y).toNat ys := rfl
      rw [e1, e2, e3]
      by_cases hn : nxt nx s y < 0
      · rw [if_pos hn, if_neg (fun h => h.2 hn)]
      · rw [if_neg hn]
        by_cases hx : nth p s = x
        · rw [if_pos ⟨hx, hn⟩, ih xs _ hl2]
          cases goW nx (nxt nx s y).toNat ys with
          | none => rfl
          | some z =>
            show (if atomsW p nx (nxt nx s y).toNat ys = xs then ((z : Int), (0 : Int)) else (0, 4)) = (if nth p s :: atomsW p nx (nxt nx s y).toNat ys = x :: xs then ((z : Int), (0 : Int)) else (0, 4))
            by_cases ha : atomsW p nx (nxt nx s y).toNat ys = xs
            · rw [if_pos ha, if_pos (by rw [hx, ha])]
            · rw [if_neg ha, if_neg (fun h => ha (List.cons.inj h).2)]
        · rw [if_neg (fun h => hx h.1)]
          cases goW nx (nxt nx s y).toNat ys with
          | none => rfl
          | some z =>
            show (0, 4) = (if nth p s :: atomsW p nx (nxt nx s y).toNat ys = x :: xs then ((z : Int), (0 : Int)) else (0, 4))
            rw [if_neg (fun h => hx (List.cons.inj h).1)]
theorem folR_step (p : List Int) (nx : List (List Int)) (ys xs : List Int) (s i : Nat) (hi : i < ys.length) (hl : xs.length = ys.length + 1) :
    folR p nx (ys.drop i) (xs.drop i) s = if nth p s = nth xs i ∧ ¬ nxt nx s (nth ys i) < 0 then folR p nx (ys.drop (i + 1)) (xs.drop (i + 1)) (nxt nx s (nth ys i)).toNat else (0, 4) := by
  rw [drop_getD ys i hi, drop_getD xs i (by omega)]
  rfl
theorem folR_end (p : List Int) (nx : List (List Int)) (ys xs : List Int) (s : Nat) (hl : xs.length = ys.length + 1) :
    folR p nx (ys.drop ys.length) (xs.drop ys.length) s = if nth p s = nth xs ys.length then ((s : Int), 0) else (0, 4) := by
  rw [List.drop_length, drop_getD xs ys.length (by omega), List.drop_eq_nil_of_le (by omega)]
  show (if [nth xs ys.length] = [nth p s] then ((s : Int), (0 : Int)) else (0, 4)) = _
  by_cases h : nth p s = nth xs ys.length
  · rw [if_pos h, if_pos (by rw [h])]
  · rw [if_neg h, if_neg (fun h2 => h (List.cons.inj h2).1.symm)]
/-- What FollowWord answers. -/
def folO (t a : Int) (p : List Int) (nx : List (List Int)) (m : Int) (xs ys : List Int) : Int × Int :=
  if validD t a p nx && validW t a xs ys then (if 0 ≤ m ∧ m < p.length then folR p nx ys xs m.toNat else (0, 2)) else (0, 1)
/-- What is known of a valid world and a valid word. -/
structure FolOk (t a : Int) (p : List Int) (nx : List (List Int)) (xs ys : List Int) : Prop where
  n1 : 1 ≤ p.length
  n12 : p.length ≤ 12
  na : (nx.length : Int) = a
  row : ∀ r ∈ nx, r.length = p.length ∧ ∀ v ∈ r, -1 ≤ v ∧ v < p.length
  len : xs.length = ys.length + 1
  y10 : ys.length ≤ 10
  act : ∀ y ∈ ys, 0 ≤ y ∧ y < a
theorem fol_ok {t a : Int} {p : List Int} {nx : List (List Int)} {xs ys : List Int} (h1 : validD t a p nx = true) (h2 : validW t a xs ys = true) : FolOk t a p nx xs ys := by
  unfold validD at h1
  unfold validW at h2
  simp only [Bool.and_eq_true, decide_eq_true_eq, List.all_eq_true] at h1 h2
  obtain ⟨_, h12, h13, _, h15⟩ := h1
  obtain ⟨⟨⟨⟨_, h22⟩, h23⟩, _⟩, h25⟩ := h2
  unfold inB at h12
  simp only [decide_eq_true_eq] at h12
  refine ⟨by omega, by omega, h13, fun r hr => ?_, h23, h22, fun y hy => ?_⟩
  · have := h15 r hr
    unfold rowW nextB inB at this
    simp only [Bool.and_eq_true, decide_eq_true_eq, List.all_eq_true] at this
    exact ⟨by omega, fun v hv => by have := this.2 v hv; omega⟩
  · have := h25 y hy
    unfold actB inB at this
    simp only [decide_eq_true_eq] at this
    omega
theorem nth_mem {xs : List Int} {i : Nat} (h : i < xs.length) : nth xs i ∈ xs := by
  have : nth xs i = xs[i] := by simp [nth, List.getD, h]
  rw [this]
  exact List.getElem_mem h
/-- Where an action of a valid word leads. -/
theorem FolOk.next {t a : Int} {p : List Int} {nx : List (List Int)} {xs ys : List Int} (h : FolOk t a p nx xs ys) {s i : Nat} (hs : s < p.length) (hi : i < ys.length) :
    ∃ (y : Nat) (hy : y < nx.length), nth ys i = y ∧ nx[y].length = p.length ∧ nxt nx s (nth ys i) = nth nx[y] s ∧ -1 ≤ nth nx[y] s ∧ nth nx[y] s < p.length := by
  obtain ⟨h0, h1⟩ := h.act _ (nth_mem hi)
  have hy : (nth ys i).toNat < nx.length := by have := h.na; omega
  have hr := h.row _ (List.getElem_mem hy)
  have hv := hr.2 _ (nth_mem (i := s) (by omega))
  refine ⟨(nth ys i).toNat, hy, by omega, hr.1, ?_, hv.1, hv.2⟩
  unfold nxt
  rw [show nx.getD (nth ys i).toNat [] = nx[(nth ys i).toNat] from by simp [List.getD, hy]]
end Go.Proofs.YtlfafcbieeambaaDoor
