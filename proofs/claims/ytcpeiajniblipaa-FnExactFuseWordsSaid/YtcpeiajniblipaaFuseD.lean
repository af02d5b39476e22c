/- What FuseWords answers; facts on it. -/
import Derived.Test.YtcpeiajniblipaaRgA
import Derived.Test.YtcpeiajniblipaaVWordI
namespace Go.Proofs.Ytcpeiajniblipaa
open Go.RowKit

def fuseC (t a : Int) (p1 r1 p2 r2 : List Int) : Int :=
  if validW t a p1 r1 && validW t a p2 r2 then (if nth p1 r1.length = nth p2 0 then (if r1.length + r2.length ≤ 10 then 0 else 3) else 4) else 1
def fuseU (t a : Int) (p1 r1 p2 r2 : List Int) : List Int := if fuseC t a p1 r1 p2 r2 = 0 then p1 ++ p2.tail else []
def fuseV (t a : Int) (p1 r1 p2 r2 : List Int) : List Int := if fuseC t a p1 r1 p2 r2 = 0 then r1 ++ r2 else []
section
variable {t a : Int} {p1 r1 p2 r2 : List Int}
theorem fuse_of {q : Int} (h : fuseC t a p1 r1 p2 r2 = q) (hq : q ≠ 0) : fuseU t a p1 r1 p2 r2 = [] ∧ fuseV t a p1 r1 p2 r2 = [] ∧ fuseC t a p1 r1 p2 r2 = q := by
  unfold fuseU fuseV
  rw [h, if_neg hq, if_neg hq]
  exact ⟨rfl, rfl, rfl⟩
theorem fuse_bad (h : (validW t a p1 r1 && validW t a p2 r2) = false) : fuseU t a p1 r1 p2 r2 = [] ∧ fuseV t a p1 r1 p2 r2 = [] ∧ fuseC t a p1 r1 p2 r2 = 1 :=
  fuse_of (by unfold fuseC; rw [h]; rfl) (by omega)
theorem fuse_apart (h1 : validW t a p1 r1 = true) (h2 : validW t a p2 r2 = true) (h3 : nth p1 r1.length ≠ nth p2 0) : fuseU t a p1 r1 p2 r2 = [] ∧ fuseV t a p1 r1 p2 r2 = [] ∧ fuseC t a p1 r1 p2 r2 = 4 :=
  fuse_of (by unfold fuseC; rw [h1, h2, Bool.and_true, if_pos rfl, if_neg h3]) (by omega)
theorem fuse_long (h1 : validW t a p1 r1 = true) (h2 : validW t a p2 r2 = true) (h3 : nth p1 r1.length = nth p2 0) (h4 : ¬ r1.length + r2.length ≤ 10) : fuseU t a p1 r1 p2 r2 = [] ∧ fuseV t a p1 r1 p2 r2 = [] ∧ fuseC t a p1 r1 p2 r2 = 3 :=
  fuse_of (by unfold fuseC; rw [h1, h2, Bool.and_true, if_pos rfl, if_pos h3, if_neg h4]) (by omega)
theorem fuse_good (h1 : validW t a p1 r1 = true) (h2 : validW t a p2 r2 = true) (h3 : nth p1 r1.length = nth p2 0) (h4 : r1.length + r2.length ≤ 10) : fuseU t a p1 r1 p2 r2 = p1 ++ p2.tail ∧ fuseV t a p1 r1 p2 r2 = r1 ++ r2 ∧ fuseC t a p1 r1 p2 r2 = 0 := by
  have h : fuseC t a p1 r1 p2 r2 = 0 := by unfold fuseC; rw [h1, h2, Bool.and_true, if_pos rfl, if_pos h3, if_pos h4]
  unfold fuseU fuseV
  rw [h, if_pos rfl, if_pos rfl]
  exact ⟨rfl, rfl, rfl⟩
theorem validW_len (h : validW t a p1 r1 = true) : p1.length = r1.length + 1 ∧ r1.length ≤ 10 := by
  unfold validW at h
  simp only [Bool.and_eq_true, decide_eq_true_eq] at h
  exact ⟨h.1.1.2, h.1.1.1.2⟩
theorem fuse_lens (t a : Int) (p1 r1 p2 r2 : List Int) (h : p1.length + r1.length + p2.length + r2.length ≤ 1048576) : (fuseU t a p1 r1 p2 r2).length ≤ 1048576 ∧ (fuseV t a p1 r1 p2 r2).length ≤ 1048576 := by
  unfold fuseU fuseV
  constructor <;> split <;> simp <;> omega
end

/-- A box that was there is written. -/
theorem box_write {w w0 W : World} {b : Nat} {T : TypeId} {x y : Value} (h : Sees w0 W) (hk : w0.heap[b]? = some (.cells #[x, y] T (0, 0))) (h0 : w.heap.size ≤ b) (B0 : Below w.heap.size w w0) (u v : Value) :
    ((W.setCell ⟨b, 0, none⟩ u).setCell ⟨b, 1, none⟩ v).heap[b]? = some (.cells #[u, v] T (0, 0)) ∧ Below w.heap.size w ((W.setCell ⟨b, 0, none⟩ u).setCell ⟨b, 1, none⟩ v) := by
  have hlt := (Array.getElem?_eq_some_iff.1 hk).1
  have hk2 : W.heap[b]? = some (.cells #[x, y] T (0, 0)) := (h.block _ hlt).trans hk
  refine ⟨?_, Below.setCell (Below.setCell (Below.trans B0 (h.mono B0.size)) h0 _) h0 _⟩
  rw [Fo.block_setCell (Fo.block_setCell hk2 _) _]
  rfl
theorem box_seen {w0 W : World} {b : Nat} {T : TypeId} {x y : Value} (h : Sees w0 W) (hk : w0.heap[b]? = some (.cells #[x, y] T (0, 0))) :
    W.cell? ⟨b, 0, none⟩ = some x ∧ W.cell? ⟨b, 1, none⟩ = some y ∧ W.frozen? ⟨b, 0, none⟩ = false ∧ W.frozen? ⟨b, 1, none⟩ = false :=
  box_facts ((h.block _ (Array.getElem?_eq_some_iff.1 hk).1).trans hk)
theorem word_out {l0 lo b : Nat} {W3 : World} {p r : List Int} {Z Y : Option Addr} (h : WordIn W3 p r lo W3.heap.size Z Y) (h0 : l0 ≤ lo) (hb : b < lo) (x : Obj) (u v : Value) :
    WordIn (((W3.alloc x).setCell ⟨b, 0, none⟩ u).setCell ⟨b, 1, none⟩ v) p r l0 (((W3.alloc x).setCell ⟨b, 0, none⟩ u).setCell ⟨b, 1, none⟩ v).heap.size Z Y := by
  obtain ⟨m, i1, i2⟩ := h
  have l1 := i1.le
  have hs : (((W3.alloc x).setCell ⟨b, 0, none⟩ u).setCell ⟨b, 1, none⟩ v).heap.size = W3.heap.size + 1 := by simp
  have ag : ∀ l k : Nat, lo ≤ l → k ≤ W3.heap.size → Fo.Agree W3 (((W3.alloc x).setCell ⟨b, 0, none⟩ u).setCell ⟨b, 1, none⟩ v) l k := fun l k hl hk =>
    Fo.Agree.setCell (Fo.Agree.setCell (Fo.Agree.alloc (Fo.Agree.refl _ _ _) hk _) _ (Or.inl (by show b < l; omega)) _) _ (Or.inl (by show b < l; omega)) _
  refine ⟨m, (i1.agree (ag _ _ (Nat.le_refl _) i2.le)).mono h0 (Nat.le_refl _), ?_⟩
  rw [hs]
  exact (i2.agree (ag _ _ l1 (Nat.le_refl _))).mono (Nat.le_refl _) (by omega)
theorem Ints.first {w : World} {c : Int} {pt : List Int} {A : Option Addr} (h : Ints w (c :: pt) A) : ∃ b o, A = some ⟨b, o, none⟩ ∧ w.cell? ⟨b, o, none⟩ = some (.int .i64 c) ∧ Ints w pt (some ⟨b, o + 1, none⟩) := by
  obtain ⟨b, o, hA, hc⟩ := h (by simp)
  refine ⟨b, o, hA, by simpa [nth] using hc 0 (by simp), fun _ => ⟨b, o + 1, rfl, fun i hi => ?_⟩⟩
  have := hc (i + 1) (by simp; omega)
  simpa [nth, Nat.add_assoc, Nat.add_comm 1 i] using this
end Go.Proofs.Ytcpeiajniblipaa
