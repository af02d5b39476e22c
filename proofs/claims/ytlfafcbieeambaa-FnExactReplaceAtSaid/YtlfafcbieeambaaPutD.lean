/- ReplaceAt: what it answers. Plain facts, no walk. -/
import Derived.Test.YtlfafcbieeambaaKidX
import Derived.Test.YtlfafcbieeambaaEndE
import Derived.Test.YtlfafcbieeambaaCond
namespace Go.Proofs.Ytlfafcbieeambaa
open Go.RowKit

theorem Fo.fits_of {f : Fo} : f.nodes ≤ 9223372036854775807 → f.Fits := by
  induction f with
  | nil => intro _; trivial
  | cons k n ks r ihk ihr =>
    intro h
    simp only [Fo.nodes] at h
    have := ks.len_le_nodes
    exact ⟨by omega, ihk (by omega), ihr (by omega)⟩
theorem Fo.upd_nodes {g : Int → Int → Fo → Int × Int × Fo} {c : Nat} (hg : ∀ k n ks, (g k n ks).2.2.nodes ≤ ks.nodes + c) (f : Fo) : ∀ i, (f.upd i g).nodes ≤ f.nodes + c := by
  induction f with
  | nil => intro i; cases i <;> simp [Fo.upd, Fo.nodes]
  | cons k n ks r _ ihr =>
    intro i
    cases i with
    | zero => have := hg k n ks; simp only [Fo.upd, Fo.nodes]; omega
    | succ i => have := ihr i; simp only [Fo.upd, Fo.nodes]; omega
theorem putP_nodes (x : Int × Int × Fo) : ∀ (xs : List Int) (k n : Int) (f : Fo), (putP xs x k n f).2.2.nodes ≤ f.nodes + x.2.2.nodes := by
  intro xs
  induction xs with
  | nil => intro k n f; exact Nat.le_add_left _ _
  | cons i r ih => intro k n f; exact Fo.upd_nodes (fun k n ks => ih k n ks) f _

/-- What the replacement in a valid expression answers. -/
def rp1 (t a k n : Int) (f : Fo) (xs : List Int) (j o : Int) (g : Fo) : Int × Int × Fo × Int :=
  match walkP xs k n f false with
  | none => (0, 0, .nil, 2)
  | some (_, _, _, b) => if b = true ∧ (condK j && g.cond) = false then (0, 0, .nil, 4) else
      if validE t a (putP xs (j, o, g) k n f).1 (putP xs (j, o, g) k n f).2.1 (putP xs (j, o, g) k n f).2.2 = true then ((putP xs (j, o, g) k n f).1, (putP xs (j, o, g) k n f).2.1, (putP xs (j, o, g) k n f).2.2, 0) else (0, 0, .nil, 3)
/-- What ReplaceAt answers. -/
def rpO (t a k n : Int) (f : Fo) (xs : List Int) (j o : Int) (g : Fo) : Int × Int × Fo × Int :=
  if validE t a k n f = true ∧ validE t a j o g = true then rp1 t a k n f xs j o g else (0, 0, .nil, 1)
def rpK (t a k n : Int) (f : Fo) (xs : List Int) (j o : Int) (g : Fo) : Int := (rpO t a k n f xs j o g).1
def rpN (t a k n : Int) (f : Fo) (xs : List Int) (j o : Int) (g : Fo) : Int := (rpO t a k n f xs j o g).2.1
def rpF (t a k n : Int) (f : Fo) (xs : List Int) (j o : Int) (g : Fo) : Fo := (rpO t a k n f xs j o g).2.2.1
def rpC (t a k n : Int) (f : Fo) (xs : List Int) (j o : Int) (g : Fo) : Int := (rpO t a k n f xs j o g).2.2.2
section
variable {t a k n : Int} {f : Fo} {xs : List Int} {j o : Int} {g : Fo}
theorem rp1_no (h : walkP xs k n f false = none) : rp1 t a k n f xs j o g = (0, 0, .nil, 2) := by unfold rp1; rw [h]
theorem rp1_state {k' n' : Int} {f' : Fo} (h : walkP xs k n f false = some (k', n', f', true)) (hc : (condK j && g.cond) = false) : rp1 t a k n f xs j o g = (0, 0, .nil, 4) := by unfold rp1; rw [h]; exact if_pos ⟨rfl, hc⟩
theorem rp1_yes {k' n' : Int} {f' : Fo} {b : Bool} (h : walkP xs k n f false = some (k', n', f', b)) (hc : ¬ (b = true ∧ (condK j && g.cond) = false)) (hv : validE t a (putP xs (j, o, g) k n f).1 (putP xs (j, o, g) k n f).2.1 (putP xs (j, o, g) k n f).2.2 = true) :
    rp1 t a k n f xs j o g = ((putP xs (j, o, g) k n f).1, (putP xs (j, o, g) k n f).2.1, (putP xs (j, o, g) k n f).2.2, 0) := by unfold rp1; rw [h]; exact (if_neg hc).trans (if_pos hv)
theorem rp1_limit {k' n' : Int} {f' : Fo} {b : Bool} (h : walkP xs k n f false = some (k', n', f', b)) (hc : ¬ (b = true ∧ (condK j && g.cond) = false)) (hv : validE t a (putP xs (j, o, g) k n f).1 (putP xs (j, o, g) k n f).2.1 (putP xs (j, o, g) k n f).2.2 = false) :
    rp1 t a k n f xs j o g = (0, 0, .nil, 3) := by unfold rp1; rw [h]; exact (if_neg hc).trans (if_neg (by rw [hv]; decide))
theorem rpO_no (h : ¬ (validE t a k n f = true ∧ validE t a j o g = true)) : rpO t a k n f xs j o g = (0, 0, .nil, 1) := if_neg h
theorem rpO_yes (h : validE t a k n f = true ∧ validE t a j o g = true) : rpO t a k n f xs j o g = rp1 t a k n f xs j o g := if_pos h
end
theorem rp1_nodes (t a k n : Int) (f : Fo) (xs : List Int) (j o : Int) (g : Fo) (h : f.nodes + g.nodes ≤ 1048576) : (rp1 t a k n f xs j o g).2.2.1.nodes ≤ 1048576 := by
  unfold rp1
  split
  · exact Nat.zero_le _
  · split
    · exact Nat.zero_le _
    · split
      · exact Nat.le_trans (putP_nodes (j, o, g) xs k n f) h
      · exact Nat.zero_le _
theorem rpF_nodes (t a k n : Int) (f : Fo) (xs : List Int) (j o : Int) (g : Fo) (h : f.nodes + g.nodes ≤ 1048576) : (rpF t a k n f xs j o g).nodes ≤ 1048576 := by
  unfold rpF rpO
  split
  · exact rp1_nodes t a k n f xs j o g h
  · exact Nat.zero_le _
end Go.Proofs.Ytlfafcbieeambaa
