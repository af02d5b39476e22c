/- The condition of atoms, as a node; what ConditionOf answers. Plain facts. -/
import Derived.Test.YtlpgkhdecccmlaaRTruth
import Derived.Test.YtlpgkhdecccmlaaRTruthT
import Derived.Test.YtlpgkhdecccmlaaRExD
import Derived.Test.YtlpgkhdecccmlaaRInts
namespace Go.Proofs.YtlpgkhdecccmlaaR
open Go.RowKit

/-- A test, or its negation, as an atom has it. -/
def litN (x : Int) (j : Nat) : Nd := if bitB x j = true then .test j else .not (.test j)
def prodN (x : Int) : Nat → Nd
  | 0 => .one
  | 1 => litN x 0
  | j + 2 => .dot (prodN x (j + 1)) (litN x (j + 1))
def sumN (t : Int) (xs : List Int) : Nd := xs.foldl (fun s x => .sum s (prodN x t.toNat)) .zero
theorem litN_size (x : Int) (j : Nat) : (litN x j).size ≤ 2 := by unfold litN; split <;> simp [Nd.size]
theorem prodN_size (x : Int) : ∀ j : Nat, (prodN x j).size ≤ 3 * j + 1
  | 0 => by simp [prodN, Nd.size]
  | 1 => by have := litN_size x 0; simp only [prodN]; omega
  | j + 2 => by have := prodN_size x (j + 1); have := litN_size x (j + 1); simp only [prodN, Nd.size]; omega
theorem sumN_step (t : Int) (xs : List Int) (x : Int) : sumN t (xs ++ [x]) = .sum (sumN t xs) (prodN x t.toNat) := by unfold sumN; rw [List.foldl_append]; rfl
theorem sumN_take (t : Int) (xs : List Int) {j : Nat} (h : j < xs.length) : sumN t (xs.take (j + 1)) = .sum (sumN t (xs.take j)) (prodN (nth xs j) t.toNat) := by
  rw [List.take_succ_eq_append_getElem h, sumN_step]
  simp [nth, List.getD, h]
theorem sumN_size (t : Int) (ht : t ≤ 3) (xs : List Int) : (sumN t xs).size ≤ 1 + 11 * xs.length := by
  have key : ∀ (n : Nat), n ≤ xs.length → (sumN t (xs.take n)).size ≤ 1 + 11 * n := by
    intro n
    induction n with
    | zero => intro _; simp [sumN, Nd.size]
    | succ n ih =>
      intro h
      rw [sumN_take t xs (by omega)]
      have := ih (by omega)
      have := prodN_size (nth xs n) t.toNat
      have ht3 : t.toNat ≤ 3 := by omega
      simp only [Nd.size]
      omega
  have := key xs.length (Nat.le_refl _)
  rwa [List.take_length] at this
/-- One place of a list of atoms is right. -/
def riseAt (t : Int) (xs : List Int) (i : Nat) : Bool := belowB (nth xs i) (atomsN t) && (decide (i = 0) || decide (nth xs (i - 1) < nth xs i))
def risesB (t : Int) (xs : List Int) : Bool := (List.range xs.length).all (riseAt t xs)
theorem rises_no {t : Int} {xs : List Int} {j : Nat} (h : j < xs.length) (hj : riseAt t xs j = false) : risesB t xs = false := by
  unfold risesB
  rw [List.all_eq_false]
  exact ⟨j, List.mem_range.2 h, by simp [hj]⟩
theorem rises_step {t : Int} {xs : List Int} {j : Nat} (h : (List.range j).all (riseAt t xs) = true) (hj : riseAt t xs j = true) : (List.range (j + 1)).all (riseAt t xs) = true := by
  rw [List.range_succ, List.all_append, h]
  simp [hj]
theorem rises_at {t : Int} {xs : List Int} (h : risesB t xs = true) {j : Nat} (hj : j < xs.length) : riseAt t xs j = true := by
  unfold risesB at h
  rw [List.all_eq_true] at h
  exact h j (List.mem_range.2 hj)
theorem rises_bd {t : Int} {xs : List Int} (h : risesB t xs = true) {j : Nat} (hj : j < xs.length) : 0 ≤ nth xs j ∧ nth xs j ≤ 7 := by
  have := rises_at h hj
  unfold riseAt at this
  simp only [Bool.and_eq_true] at this
  exact below_atoms this.1
theorem rises_ge {t : Int} {xs : List Int} (h : risesB t xs = true) : ∀ j : Nat, j < xs.length → (j : Int) ≤ nth xs j
  | 0, hj => (rises_bd h hj).1
  | j + 1, hj => by
    have h1 := rises_ge h j (by omega)
    have h2 := rises_at h hj
    unfold riseAt at h2
    simp only [Bool.and_eq_true, Bool.or_eq_true, decide_eq_true_eq, Nat.add_sub_cancel] at h2
    omega
theorem rises_len {t : Int} {xs : List Int} (h : risesB t xs = true) : xs.length ≤ 8 := by
  rcases Nat.eq_zero_or_pos xs.length with h0 | h0
  · omega
  · have h1 := rises_ge h (xs.length - 1) (by omega)
    have h2 := (rises_bd h (j := xs.length - 1) (by omega)).2
    omega
/-- What ConditionOf answers. -/
def cnOk (t a : Int) (xs : List Int) : Bool := sigOk t a && risesB t xs
def cnK (t a : Int) (xs : List Int) : Int := if cnOk t a xs = true then (sumN t xs).kd else 0
def cnN (t a : Int) (xs : List Int) : Int := if cnOk t a xs = true then (sumN t xs).nm else 0
def cnF (t a : Int) (xs : List Int) : Fo := if cnOk t a xs = true then (sumN t xs).ks else .nil
def cnC (t a : Int) (xs : List Int) : Int := if sigOk t a = false then 1 else if risesB t xs = false then 2 else 0
theorem cn_1 {t a : Int} {xs : List Int} (h : sigOk t a = false) : cnK t a xs = 0 ∧ cnN t a xs = 0 ∧ cnF t a xs = .nil ∧ cnC t a xs = 1 := by
  unfold cnK cnN cnF cnC cnOk; rw [h]; exact ⟨rfl, rfl, rfl, rfl⟩
theorem cn_2 {t a : Int} {xs : List Int} (h1 : sigOk t a = true) (h : risesB t xs = false) : cnK t a xs = 0 ∧ cnN t a xs = 0 ∧ cnF t a xs = .nil ∧ cnC t a xs = 2 := by
  unfold cnK cnN cnF cnC cnOk; rw [h1, h]; exact ⟨rfl, rfl, rfl, rfl⟩
theorem cn_0 {t a : Int} {xs : List Int} (h1 : sigOk t a = true) (h : risesB t xs = true) : cnK t a xs = (sumN t xs).kd ∧ cnN t a xs = (sumN t xs).nm ∧ cnF t a xs = (sumN t xs).ks ∧ cnC t a xs = 0 := by
  unfold cnK cnN cnF cnC cnOk; rw [h1, h]; exact ⟨rfl, rfl, rfl, rfl⟩
theorem cnF_nodes (t a : Int) (xs : List Int) : (cnF t a xs).nodes ≤ 1048576 := by
  unfold cnF
  split
  · rename_i h
    unfold cnOk at h
    simp only [Bool.and_eq_true] at h
    have := rises_len h.2
    have ht := (sigOk_of h.1).2.1
    have := sumN_size t ht xs
    have := Nd.ks_nodes (sumN t xs)
    omega
  · exact Nat.zero_le _
namespace Fo
/-- A row in a block, its kids in blocks of the range. -/
theorem LiesIn.one {W W' : World} {lo hi hi' b : Nat} {k n : Int} {ks : Fo} {A : Option Addr} {C : Nat} {T : TypeId} (h : ks.LiesIn W lo hi A) (hd : Agree W W' lo hi)
    (hb : W'.heap[b]? = some (.cells #[.int .i64 k, .int .i64 n, .slice A ks.len C] T (0, 0))) (h1 : lo ≤ b) (h2 : b < hi') (h3 : hi ≤ hi') : (cons k n ks .nil).LiesIn W' lo hi' (some ⟨b, 0, none⟩) := fun _ =>
  ⟨b, 0, rfl, h1, h2, (Fo.cell_of_block hb 0), (Fo.cell_of_block hb 1), ⟨A, C, (Fo.cell_of_block hb 2), (h.agree hd).mono (Nat.le_refl _) h3⟩, trivial⟩
theorem LiesIn.two {W W' : World} {lo hi hi' b : Nat} {k n : Int} {ks : Fo} {A : Option Addr} {C : Nat} {k2 n2 : Int} {ks2 : Fo} {A2 : Option Addr} {C2 : Nat} {T : TypeId} (h : ks.LiesIn W lo hi A) (g : ks2.LiesIn W lo hi A2) (hd : Agree W W' lo hi)
    (hb : W'.heap[b]? = some (.cells #[.int .i64 k, .int .i64 n, .slice A ks.len C, .int .i64 k2, .int .i64 n2, .slice A2 ks2.len C2] T (0, 0))) (h1 : lo ≤ b) (h2 : b < hi') (h3 : hi ≤ hi') : (cons k n ks (cons k2 n2 ks2 .nil)).LiesIn W' lo hi' (some ⟨b, 0, none⟩) := fun _ =>
  ⟨b, 0, rfl, h1, h2, (Fo.cell_of_block hb 0), (Fo.cell_of_block hb 1), ⟨A, C, (Fo.cell_of_block hb 2), (h.agree hd).mono (Nat.le_refl _) h3⟩, (Fo.cell_of_block hb 3), (Fo.cell_of_block hb 4), ⟨A2, C2, (Fo.cell_of_block hb 5), (g.agree hd).mono (Nat.le_refl _) h3⟩, trivial⟩
end Fo
end Go.Proofs.YtlpgkhdecccmlaaR
