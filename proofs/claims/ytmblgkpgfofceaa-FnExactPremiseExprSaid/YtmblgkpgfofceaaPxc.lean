/- Contract of spec.l01Turn. Contract of spec.l01Own: a copy of an expression in memory of its own. Contracts of spec.l01True, impl.emptyAt. Contracts of spec.l01True, spec.TruthAt. -/
import Derived.Test.YtmblgkpgfofceaaPxb
import Derived.Deep.RegionHeld3
import Derived.Deep.RegionLaw
import Derived.Deep.AppendLies
import Derived.RegionTactic
import Derived.OwnWalk
import Derived.Test.YtmblgkpgfofceaaOk
import Derived.Test.YtmblgkpgfofceaaCond
namespace Go.Proofs.Ytmblgkpgfofceaa
open Go.RowKit

namespace Fo
def take : Fo → Nat → Fo
  | nil, _ => nil
  | cons _ _ _ _, 0 => nil
  | cons k n ks r, j + 1 => cons k n ks (r.take j)
theorem take_zero (f : Fo) : f.take 0 = nil := by cases f <;> rfl
theorem take_len (f : Fo) : f.take f.len = f := by
  induction f with
  | nil => rfl
  | cons k n ks r _ ih => simp only [len, take, ih]
theorem take_le (f : Fo) : ∀ (j : Nat), j ≤ f.len → (f.take j).len = j := by
  induction f with
  | nil => intro j hj; simp [len] at hj; subst hj; rfl
  | cons k n ks r _ ih =>
    intro j hj
    cases j with
    | zero => rfl
    | succ j => simp only [take, len]; rw [ih j (by simp only [len] at hj; omega)]
end Fo

/-- The row that round j appends: whence it is, and what becomes of it. -/
theorem turn_row {t a : Int} {b : Bool} {k n : Int} {f : Fo} (h : treeE t a b k n f = true) (j : Nat) (hj : j < f.len) :
    ∃ (m : Nat) (k1 n1 : Int) (f1 r : Fo) (b1 : Bool), (m : Int) = (if k = 7 then 1 - (j : Int) else (j : Int)) ∧ m < f.len ∧ f.drop m = .cons k1 n1 f1 r ∧ treeE t a b1 k1 n1 f1 = true ∧ (ndE f k n).rev.ks.take (j + 1) = ((ndE f k n).rev.ks.take j).app (.cons k1 n1 (ndE f1 k1 n1).rev.ks .nil) := by
  rcases tree_forms h with ⟨rfl, hk⟩ | ⟨k1, n1, f1, rfl, hk, h1⟩ | ⟨k1, n1, f1, k2, n2, f2, rfl, hk, h1, h2⟩
  · simp [Fo.len] at hj
  · have e1 := (ndE_all h1).1
    have e2 := (ndE_all h1).2.1
    obtain rfl : j = 0 := by simp [Fo.len] at hj; omega
    rcases hk with rfl | rfl
    · refine ⟨0, k1, n1, f1, .nil, _, by simp, by simp [Fo.len], rfl, h1, ?_⟩
      show Fo.cons (ndE f1 k1 n1).rev.kd (ndE f1 k1 n1).rev.nm _ .nil = Fo.cons k1 n1 _ .nil
      rw [Nd.rev_kd, Nd.rev_nm, e1, e2]
    · refine ⟨0, k1, n1, f1, .nil, _, by simp, by simp [Fo.len], rfl, h1, ?_⟩
      show Fo.cons (ndE f1 k1 n1).rev.kd (ndE f1 k1 n1).rev.nm _ .nil = Fo.cons k1 n1 _ .nil
      rw [Nd.rev_kd, Nd.rev_nm, e1, e2]
  · have e1 := (ndE_all h1).1
    have e2 := (ndE_all h1).2.1
    have g1 := (ndE_all h2).1
    have g2 := (ndE_all h2).2.1
    have hj' : j = 0 ∨ j = 1 := by simp [Fo.len] at hj; omega
    rcases hk with rfl | rfl
    · rcases hj' with rfl | rfl
      · refine ⟨0, k1, n1, f1, _, _, by simp, by simp [Fo.len], rfl, h1, ?_⟩
        show Fo.cons (ndE f1 k1 n1).rev.kd (ndE f1 k1 n1).rev.nm _ .nil = Fo.cons k1 n1 _ .nil
        rw [Nd.rev_kd, Nd.rev_nm, e1, e2]
      · refine ⟨1, k2, n2, f2, .nil, _, by simp, by simp [Fo.len], rfl, h2, ?_⟩
        show Fo.cons (ndE f1 k1 n1).rev.kd (ndE f1 k1 n1).rev.nm _ (Fo.cons (ndE f2 k2 n2).rev.kd (ndE f2 k2 n2).rev.nm _ .nil) = Fo.cons (ndE f1 k1 n1).rev.kd (ndE f1 k1 n1).rev.nm _ (Fo.cons k2 n2 _ .nil)
        rw [Nd.rev_kd (ndE f2 k2 n2), Nd.rev_nm (ndE f2 k2 n2), g1, g2]
    · rcases hj' with rfl | rfl
      · refine ⟨1, k2, n2, f2, .nil, _, by simp, by simp [Fo.len], rfl, h2, ?_⟩
        show Fo.cons (ndE f2 k2 n2).rev.kd (ndE f2 k2 n2).rev.nm _ .nil = Fo.cons k2 n2 _ .nil
        rw [Nd.rev_kd, Nd.rev_nm, g1, g2]
      · refine ⟨0, k1, n1, f1, _, _, by simp, by simp [Fo.len], rfl, h1, ?_⟩
        show Fo.cons (ndE f2 k2 n2).rev.kd (ndE f2 k2 n2).rev.nm _ (Fo.cons (ndE f1 k1 n1).rev.kd (ndE f1 k1 n1).rev.nm _ .nil) = Fo.cons (ndE f2 k2 n2).rev.kd (ndE f2 k2 n2).rev.nm _ (Fo.cons k1 n1 _ .nil)
        rw [Nd.rev_kd (ndE f1 k1 n1), Nd.rev_nm (ndE f1 k1 n1), e1, e2]

/-- A list of expressions, with what its cells hold. -/
structure KX (W : World) (lo : Nat) (f : Fo) (v : Value) (xs : List Value) : Prop where
  own : W.ownsRow lo 46 3 v f.len xs
  rows : f.RowsIn W lo v.ownBlock xs
theorem Kids.kx {W : World} {lo : Nat} {f : Fo} {v : Value} (h : Kids W lo f v) : ∃ xs, KX W lo f v xs := let ⟨xs, h1, h2⟩ := h; ⟨xs, h1, h2⟩
theorem KX.below {W W' : World} {lo : Nat} {f : Fo} {v : Value} {xs : List Value} (h : KX W lo f v xs) (hb : Below W.heap.size W W') : KX W' lo f v xs :=
  ⟨h.own.kept ⟨hb.os, hb.tape, hb.output, hb.size, fun k hk _ => hb.block k hk⟩ (row := none) (by cases hv : v.ownBlock <;> simp), h.rows.keep hb.size (fun x _ hx _ => hb.block x hx) (Or.inl rfl)⟩
theorem KX.drew {W : World} {lo : Nat} {f : Fo} {v : Value} {xs : List Value} (h : KX W lo f v xs) : KX W.drew lo f v xs := h.below ⟨rfl, rfl, rfl, Nat.le_refl _, fun _ _ => rfl⟩
theorem KX.alloc {W : World} {lo : Nat} {f : Fo} {v : Value} {xs : List Value} (h : KX W lo f v xs) (o : Obj) : KX (W.alloc o) lo f v xs := h.below ((Below.refl _ _).alloc (Nat.le_refl _) _)
/-- A row is appended whose kids a call has made. -/
theorem KX.snoc {W W1 W2 : World} {lo : Nat} {f : Fo} {v : Value} {xs : List Value} {k n : Int} {ks : Fo} {A : Option Addr} {C g cap : Nat} {T : TypeId} (h : KX W lo f v xs) (hlo : lo ≤ W.heap.size) (hb : Below W.heap.size W W1) (hk : ks.LiesIn W1 W.heap.size W1.heap.size A)
    (hown : W2.ownsRow lo 46 3 (.slice (some ⟨g, 0, none⟩) (f.len + 1) cap) (f.len + 1) (xs ++ [.int .i64 k, .int .i64 n, .slice A ks.len C])) (hg : (W1.alloc (.cells #[.int .i64 k, .int .i64 n, .slice A ks.len C] T (0, 0))).grownBy W2 v.ownBlock) (hat : v.ownBlock = some g ∨ g = (W1.alloc (.cells #[.int .i64 k, .int .i64 n, .slice A ks.len C] T (0, 0))).heap.size) :
    Kids W2 lo (f.app (.cons k n ks .nil)) (.slice (some ⟨g, 0, none⟩) (f.len + 1) cap) := by
  refine Kids.snoc (l := W.heap.size) (m := W1.heap.size) ((h.below hb).alloc _).rows (hk.agree (Fo.Agree.of_below ((Below.refl _ _).alloc (Nat.le_refl _) _))) hlo (by simp) (fun x hx => Or.inl (h.own.lt x hx).2) hown hg ?_
  rcases hat with h1 | h1
  · exact Or.inl (by rw [h1]; rfl)
  · exact Or.inr (by rw [← h1]; rfl)

theorem Try.infoX : (Try.prog.info? 46).map (fun i => (i.zero, i.size, i.bytes)) = some (some (.agg #[.int .i64 0, .int .i64 0, .slice none 0 0]), 3, 40) := by kernel_rfl

end Go.Proofs.Ytmblgkpgfofceaa

namespace Go.Proofs.Ytmblgkpgfofceaa
open Go.RowKit



namespace Fo
theorem take_app (f : Fo) : ∀ (j : Nat) {k n : Int} {ks r : Fo}, f.drop j = .cons k n ks r → f.take (j + 1) = (f.take j).app (.cons k n ks .nil) := by
  induction f with
  | nil => intro j k n ks r h; cases j <;> cases h
  | cons k0 n0 ks0 r0 _ ih =>
    intro j k n ks r h
    cases j with
    | zero => cases h; simp [take, app, take_zero]
    | succ j => have := ih j h; simp only [take, app] at this ⊢; rw [this]
end Fo

set_option maxRecDepth 100000 in
set_option maxHeartbeats 4000000 in
theorem l01Own_any : ∀ (N : Nat) (f : Fo), f.nodes < N → f.nodes ≤ 1048576 → ∀ (k n : Int) (A : Option Addr) (C B o : Nat) (w : World), f.Lies w A →
      w.cell? ⟨B, o, none⟩ = some (.int .i64 k) → w.cell? ⟨B, o + 1, none⟩ = some (.int .i64 n) → w.cell? ⟨B, o + 2, none⟩ = some (.slice A f.len C) →
      Calls Try.prog 60 #[.pointer (some ⟨B, o, none⟩)] w fun e w' => ∃ A' C', e = .returned (.agg #[.int .i64 k, .int .i64 n, .slice A' f.len C']) ∧ f.LiesIn w' w.heap.size w'.heap.size A' ∧ Below w.heap.size w w' := by
  intro N
  induction N with
  | zero => intro f hN; exact absurd hN (Nat.not_lt_zero _)
  | succ N ih =>
    intro f hN hm k n A C B o w hl p0 p1 p2
    have IH := Lib.hid ih; clear ih
    have hln := f.len_le_nodes
    obtain ⟨i0, hi0, hz0, hs0, hb0⟩ := info_parts Try.infoX
    have HI := Lib.hid hi0; have HZ := Lib.hid hz0; have HS := Lib.hid hs0; have HB := Lib.hid hb0
    clear hi0 hz0 hs0 hb0
    have lB : B < w.heap.size := World.block_lt_of_cell? _ _ p0
    obtain ⟨W0, hW0⟩ : ∃ W0, W0 = w.alloc (.cells #[.int .i64 0, .int .i64 0, .slice none 0 0] 46) := ⟨_, rfl⟩
    have HS0 : Hid (St w [(B, o, .int .i64 k), (B, o + 1, .int .i64 n), (B, o + 2, .slice A f.len C)] W0) := by rw [hW0]; exact ⟨(by unfold Sees; go_grown), ka _ p0, ka _ p1, ka _ p2, trivial⟩
    have HB0 : Hid (W0.heap[w.heap.size]? = some (.cells #[.int .i64 0, .int .i64 0, .slice none 0 0] 46 (0, 0))) := by show _ = _; rw [hW0]; exact heap_new _ _ _ rfl
    have z0 : W0.heap.size = w.heap.size + 1 := by rw [hW0]; simp
    go_enter Try.func60, Try.ntmps60
    go_wp2_with fail
    rw [← hW0]
    clear hW0
    go_region_held3 (fun w' => Sees w w' ∧ w'.cell? ⟨B, o, none⟩ = some (.int .i64 k) ∧ w'.cell? ⟨B, o + 1, none⟩ = some (.int .i64 n) ∧ w'.cell? ⟨B, o + 2, none⟩ = some (.slice A f.len C) ∧ True) (first | exact HS0.out.drew | exact HS0.out.drew.alloc _ | exact (HS0.out.alloc _).drew | (go_keep; done)) (fail)
    go_wp2_with fail
    have MK : ∀ W : World, Sees w W → St w [(B, o + 2, .slice A f.len C)] W := fun W h => ⟨h, (h.cell (p := ⟨B, o + 2, none⟩) lB).trans p2, trivial⟩
    go_loopw [4] (fun i wr => ∃ (j : Nat) (v : Value), j ≤ f.len ∧ i = .int .i64 j ∧ Hid (Kids wr (w.heap.size + 2) (f.take j) v) ∧ Hid (wr.heap[w.heap.size + 1]? = some (.cells #[.int .i64 k, .int .i64 n, v] 46 (0, 0))) ∧ Hid (wr.heap[w.heap.size]? = some (.cells #[.int .i64 0, .int .i64 0, .slice none 0 0] 46 (0, 0))) ∧ Hid (Sees w wr)) (fun i _ => f.len - (intOf i).toNat)
    case atStart =>
      refine ⟨0, .slice none 0 0, Nat.zero_le _, rfl, ?_, ?_, ?_, ?_⟩
      · show Kids _ _ _ _; rw [Fo.take_zero]; exact Kids.nil _ _
      · show _ = _; exact heap_new _ _ _ (by simp [z0])
      · show _ = _; exact (Below.heap_alloc _ _ _ (by omega)).trans HB0.out
      · show Below _ _ _; exact (Below.alloc HS0.out.1 (by omega) _).drew
    case round =>
      obtain ⟨j, v, hj, rfl, hK, hBo, hBr, hSe⟩ := hrel
      clear HB0 HS0
      have e2 := (hSe.out.cell (p := ⟨B, o + 2, none⟩) lB).trans p2
      have e0 := (hSe.out.cell (p := ⟨B, o, none⟩) lB).trans p0
      by_cases hjl : j < f.len
      · obtain ⟨k1, n1, f1, r, hd, hd2⟩ := f.drop_lt j hjl
        have htk := Fo.take_app f j hd
        obtain ⟨b', o', rfl, hat⟩ := hl (by rintro rfl; simp [Fo.len] at hjl)
        have hat2 := Fo.at_drop hat j
        rw [hd] at hat2
        obtain ⟨c0, c1, ⟨A', C', c2, hl2'⟩, _⟩ := hat2
        have hl2 : f1.Lies w A' := hl2'
        have hnd := f.nodes_drop j
        rw [hd] at hnd
        have hkn : f1.nodes < N ∧ f1.nodes ≤ 1048576 := by simp only [Fo.nodes] at hnd; omega
        have lb : b' < w.heap.size := World.block_lt_of_cell? _ _ c0
        have KT : Hid (∀ W : World, Sees w W → Calls Try.prog 60 #[.pointer (some ⟨b', o' + j * 3, none⟩)] W fun e w' => ∃ A1 C1, e = .returned (.agg #[.int .i64 k1, .int .i64 n1, .slice A1 f1.len C1]) ∧ f1.LiesIn w' W.heap.size w'.heap.size A1 ∧ Below W.heap.size W w') := fun W h =>
          IH.out f1 hkn.1 hkn.2 k1 n1 A' C' b' (o' + j * 3) W (hl2.sees h) ((h.cell (p := ⟨b', o' + j * 3, none⟩) lb).trans c0) ((h.cell (p := ⟨b', o' + j * 3 + 1, none⟩) lb).trans c1) ((h.cell (p := ⟨b', o' + j * 3 + 2, none⟩) lb).trans c2)
        have HTK : Hid (f.take (j + 1) = (f.take j).app (.cons k1 n1 f1 .nil)) := htk
        have m0 : (0 : Int) ≤ (j : Int) := Int.natCast_nonneg _
        have m1 : (j : Int) < (f.len : Int) := by omega
        obtain ⟨xs, hx⟩ := hK.out.kx
        have HX := Lib.hid hx
        have hlen : (f.take j).len = j := Fo.take_le f j (by omega)
        have hsz : w.heap.size + 2 ≤ wr.heap.size := by have := (Array.getElem?_eq_some_iff.1 hBo.out).1; omega
        obtain ⟨x0, x1, x2, y0, y1, y2⟩ := cells3 hBo.out
        have JL := Lib.hid hjl
        clear hx hd hd2 htk hat c0 c1 c2 hl2' hl2 hnd hkn hK hjl
        have U0 : Sees w wr := hSe.out
        go_wp2_with fail
        go_region_law
          (first
            | (go_simp; go_at_call 60; refine (KT.out _ ?_).mono ?_; exact U0.drew; rintro e wa ⟨A1, C1, rfl, hL1, hb1⟩; have U1 := U0.drew.below hb1; have HX1 := Lib.hid (HX.out.drew.below hb1); have HB1 := (hb1.block _ (show w.heap.size + 1 < wr.heap.size by omega)).trans hBo.out; have HBr1 := (hb1.block _ (show w.heap.size < wr.heap.size by omega)).trans hBr.out; have HL1 := Lib.hid hL1; have HBB1 := Lib.hid hb1; have za : wr.heap.size ≤ wa.heap.size := hb1.size; obtain ⟨x0', x1', x2', y0', y1', y2'⟩ := cells3 HB1; have z1 : w.heap.size + 1 < wa.heap.size := (by omega); have z2 : wa.heap.size ≠ w.heap.size + 1 := (by omega); have z3 : w.heap.size + 1 ≠ wa.heap.size := (by omega); clear hL1 hb1; dsimp only)
            | (refine step_append_lies _ rfl (.tmp 24) (.tmp 32) 44 rfl (w.heap.size + 2) 46 i0 (.agg #[.int .i64 0, .int .i64 0, .slice none 0 0]) 3 40 Try.underlying44 HI.out HZ.out HS.out HB.out rfl (by decide) v (f.take j).len xs rfl (HX1.out.alloc _).own ⟨wa.heap.size, 0, none⟩ 1 1 [.int .i64 k1, .int .i64 n1, .slice A1 f1.len C1] rfl rfl (World.news_of_block (heap_new _ _ _ rfl)) (by intro u hu; simp at hu; rcases hu with rfl | rfl | rfl <;> rfl) (by decide) (by rw [hlen]; unfold maxLen; omega) (by rw [hlen]; omega) (by simp; omega) _ rfl ?_; intro g cap wb hown hgrow hat hlt; have HK2 : Hid (Kids wb (w.heap.size + 2) (f.take (j + 1)) (.slice (some ⟨g, 0, none⟩) (j + 1) cap)) := (by show Kids _ _ _ _; have hk := HX.out.drew.snoc (by simpa using hsz) HBB1.out HL1.out hown hgrow hat; rw [hlen] at hk; rw [HTK.out]; exact hk); have hvn : ∀ x, x < w.heap.size + 2 → some x ≠ v.ownBlock := (fun x hx he => absurd (HX1.out.own.lt x he.symm).1 (by omega)); have HB2 := (hgrow.block (w.heap.size + 1) (by simp; omega) (hvn _ (by omega))).trans ((Below.heap_alloc _ _ _ (by omega)).trans HB1); have HBr2 := (hgrow.block w.heap.size (by simp; omega) (hvn _ (by omega))).trans ((Below.heap_alloc _ _ _ (by omega)).trans HBr1); have U2 : Sees w wb := (Below.grown (U1.alloc _) hgrow (Below.size (U1.alloc _)) (fun x hx => (by have := (HX1.out.own.lt x hx).1; omega))); obtain ⟨x0'', x1'', x2'', y0'', y1'', y2''⟩ := cells3 HB2; clear hown hgrow hat hlt))
        all_goals
          go_wp2_with fail
          go_roundw
          case rel => exact ⟨j + 1, _, JL.out, by go_num, HK2.out.put (by omega) _, (Fo.block_setCell HB2 _).trans rfl, (Below.heap_setCell _ _ _ _ (by show w.heap.size ≠ w.heap.size + 1; omega)).trans HBr2, Below.setCell U2 (by show w.heap.size ≤ w.heap.size + 1; omega) _⟩
          case measure => have := JL.out; simp [intOf]; omega
      · obtain rfl : j = f.len := by omega
        obtain ⟨x0, x1, x2, y0, y1, y2⟩ := cells3 hBo.out
        obtain ⟨u0, u1, u2, v0, v1, v2⟩ := cells3 hBr.out
        rw [Fo.take_len] at hK
        obtain ⟨A1, C1, rfl, hL⟩ := hK.out.lies
        have HL := Lib.hid hL
        clear hK hL
        go_wp2_with fail
        have HBF : (((wr.setCell ⟨w.heap.size, 0, none⟩ (.int .i64 k)).setCell ⟨w.heap.size, 1, none⟩ (.int .i64 n)).setCell ⟨w.heap.size, 2, none⟩ (.slice A1 f.len C1)).heap[w.heap.size]? = some (.cells #[.int .i64 k, .int .i64 n, .slice A1 f.len C1] 46 (0, 0)) := by
          rw [Fo.block_setCell (Fo.block_setCell (Fo.block_setCell hBr.out _) _) _]; rfl
        obtain ⟨d0, d1, d2, _⟩ := cells3 HBF
        refine bodyPost_ret (v := .agg #[.int .i64 k, .int .i64 n, .slice A1 f.len C1]) (by simp [results, Try.results60, go_sem, d0, d1, d2]) rfl ⟨A1, C1, rfl, ?_, ?_⟩
        · refine (HL.out.agree (Fo.Agree.setCell (Fo.Agree.setCell (Fo.Agree.setCell (Fo.Agree.refl _ _ _) _ ?_ _) _ ?_ _) _ ?_ _)).mono (by omega) (by simp)
          all_goals (left; show w.heap.size < _; omega)
        · exact Below.setCell (Below.setCell (Below.setCell hSe.out (Nat.le_refl _) _) (Nat.le_refl _) _) (Nat.le_refl _) _
end Go.Proofs.Ytmblgkpgfofceaa

namespace Go.Proofs.Ytmblgkpgfofceaa
open Go.RowKit

/-- Whether a test holds at an atom. -/
def bitB (x n : Int) : Bool := decide (x / 2 ^ n.toNat % 2 = 1)
namespace Nd
/-- Whether a node has the word of length 0 with an atom. -/
def emptyB (x : Int) : Nd → Bool
  | zero | act _ => false
  | one | star _ => true
  | test n => bitB x n
  | not a => !a.emptyB x
  | sum a b => a.emptyB x || b.emptyB x
  | dot a b => a.emptyB x && b.emptyB x
/-- All tests are among the first three. -/
def okT : Nd → Prop
  | zero | one | act _ => True
  | test n => 0 ≤ n ∧ n ≤ 2
  | not a | star a => a.okT
  | sum a b | dot a b => a.okT ∧ b.okT
end Nd

theorem ndE_okT (t a : Int) (ht : t ≤ 3) : ∀ (N : Nat) (f : Fo), f.nodes < N → ∀ (b : Bool) (k n : Int), treeE t a b k n f = true → (ndE f k n).okT := by
  intro N
  induction N with
  | zero => intro f hN; exact absurd hN (Nat.not_lt_zero _)
  | succ N ih =>
    intro f hN b k n h
    rcases tree_forms h with ⟨rfl, hk⟩ | ⟨k1, n1, f1, rfl, hk, h1⟩ | ⟨k1, n1, f1, k2, n2, f2, rfl, hk, h1, h2⟩
    · rcases hk with rfl | rfl | ⟨rfl, hn, hn'⟩ | ⟨rfl, _, _⟩
      · trivial
      · trivial
      · show 0 ≤ n ∧ n ≤ 2; omega
      · trivial
    · have := ih f1 (by simp only [Fo.nodes] at hN; omega) _ k1 n1 h1
      rcases hk with rfl | rfl <;> exact this
    · have g1 := ih f1 (by simp only [Fo.nodes] at hN; omega) _ k1 n1 h1
      have g2 := ih f2 (by simp only [Fo.nodes] at hN; omega) _ k2 n2 h2
      rcases hk with rfl | rfl <;> exact ⟨g1, g2⟩

theorem val_iface (a : Nd) : ∃ (T : TypeId) (x : Value), a.val = .iface T x := by
  cases a <;> exact ⟨_, _, rfl⟩

set_option maxRecDepth 100000 in
set_option maxHeartbeats 1000000 in
theorem holdsAt_any (n x : Int) (hn0 : 0 ≤ n) (hn1 : n ≤ 2) (hx0 : 0 ≤ x) (hx1 : x ≤ 7) (w : World) : Calls Try.prog 97 #[.int .i64 n, .int .i64 x] w fun e w' => e = .returned (.bool (bitB x n)) ∧ Below w.heap.size w w' := by
  have hn : n = 0 ∨ n = 1 ∨ n = 2 := by omega
  have hx : x = 0 ∨ x = 1 ∨ x = 2 ∨ x = 3 ∨ x = 4 ∨ x = 5 ∨ x = 6 ∨ x = 7 := by omega
  clear hn0 hn1 hx0 hx1
  rcases hn with rfl | rfl | rfl <;> rcases hx with rfl | rfl | rfl | rfl | rfl | rfl | rfl | rfl
  all_goals
    go_enter Try.func97, Try.ntmps97
    go_wp2_with fail
    go_ret
    exact ⟨by first | rfl | (simp [bitB]; done) | decide, by go_grown⟩

set_option maxRecDepth 100000 in
set_option maxHeartbeats 2000000 in
theorem emptyAt_any (x : Int) (hx0 : 0 ≤ x) (hx1 : x ≤ 7) : ∀ (d : Nd) (w : World), d.okT → Calls Try.prog 168 #[d.val, .int .i64 x] w fun e w' => e = .returned (.bool (d.emptyB x)) ∧ Below w.heap.size w w' := by
  intro d
  induction d with
  | zero =>
    intro w _
    show Calls Try.prog 168 #[.iface 193 (.agg #[]), .int .i64 x] w _
    have q_one := is_zero_one
    have q_star := is_zero_star
    have q_test := is_zero_test
    have q_not := is_zero_not
    have q_sum := is_zero_sum
    have q_dot := is_zero_dot
    go_enter Try.func168, Try.ntmps168
    go_wp2_with fail
    go_ret
    exact ⟨rfl, by go_grown⟩
  | one =>
    intro w _
    show Calls Try.prog 168 #[.iface 181 (.agg #[]), .int .i64 x] w _
    have q_one := is_one_one
    have q_star := is_one_star
    go_enter Try.func168, Try.ntmps168
    go_wp2_with fail
    go_ret
    exact ⟨rfl, by go_grown⟩
  | act n =>
    intro w _
    show Calls Try.prog 168 #[.iface 184 (.agg #[.int .i64 n]), .int .i64 x] w _
    have q_one := is_act_one
    have q_star := is_act_star
    have q_test := is_act_test
    have q_not := is_act_not
    have q_sum := is_act_sum
    have q_dot := is_act_dot
    go_enter Try.func168, Try.ntmps168
    go_wp2_with fail
    go_ret
    exact ⟨rfl, by go_grown⟩
  | star a _ =>
    intro w _
    show Calls Try.prog 168 #[.iface 190 (.agg #[a.val, .int .i64 (1 + a.size : Nat)]), .int .i64 x] w _
    generalize a.val = v
    generalize ((1 + a.size : Nat) : Int) = z
    have q_one := is_star_one
    have q_star := is_star_star
    go_enter Try.func168, Try.ntmps168
    go_wp2_with fail
    go_ret
    exact ⟨rfl, by go_grown⟩
  | test n =>
    intro w hn
    obtain ⟨q, hq⟩ : ∃ q : Bool, q = bitB x n := ⟨_, rfl⟩
    have K1 : Hid (∀ W : World, Calls Try.prog 97 #[.int .i64 n, .int .i64 x] W fun e w' => e = .returned (.bool q) ∧ Below W.heap.size W w') := fun W => by rw [hq]; exact holdsAt_any n x hn.1 hn.2 hx0 hx1 W
    have HD : Hid ((Nd.test n).emptyB x = q) := by show _ = _; rw [hq]; rfl
    clear hq hn
    show Calls Try.prog 168 #[.iface 183 (.agg #[.int .i64 n]), .int .i64 x] w _
    have q_one := is_test_one
    have q_star := is_test_star
    have q_test := is_test_test
    go_enter Try.func168, Try.ntmps168
    go_wp2_with fail
    refine (K1.out _).mono ?_
    rintro e w1 ⟨rfl, hb⟩
    have B1 : Sees w w1 := Sees.below (by unfold Sees; go_grown) hb
    clear hb
    go_wp2_with fail
    go_ret
    exact ⟨ret_bool HD.out.symm, B1⟩
  | not a ih =>
    intro w hn
    obtain ⟨q, hq⟩ : ∃ q : Bool, q = a.emptyB x := ⟨_, rfl⟩
    have K1 : Hid (∀ W : World, Calls Try.prog 168 #[a.val, .int .i64 x] W fun e w' => e = .returned (.bool q) ∧ Below W.heap.size W w') := fun W => by rw [hq]; exact ih W hn
    have HD : Hid ((Nd.not a).emptyB x = !q) := by show _ = _; rw [hq]; rfl
    clear ih hq
    show Calls Try.prog 168 #[.iface 186 (.agg #[a.val, .int .i64 (1 + a.size : Nat)]), .int .i64 x] w _
    obtain ⟨T1, x1, h1⟩ := val_iface a
    rw [h1] at K1 ⊢
    clear h1
    generalize ((1 + a.size : Nat) : Int) = z
    have q_one := is_not_one
    have q_star := is_not_star
    have q_test := is_not_test
    have q_not := is_not_not
    go_enter Try.func168, Try.ntmps168
    go_wp2_with fail
    refine (K1.out _).mono ?_
    rintro e w1 ⟨rfl, hb⟩
    have B1 : Sees w w1 := Sees.below (by unfold Sees; go_grown) hb
    clear hb
    go_wp2_with fail
    go_ret
    exact ⟨ret_bool HD.out.symm, B1⟩
  | sum a b iha ihb =>
    intro w hn
    obtain ⟨q, hq⟩ : ∃ q : Bool, q = a.emptyB x := ⟨_, rfl⟩
    obtain ⟨r, hr⟩ : ∃ r : Bool, r = b.emptyB x := ⟨_, rfl⟩
    have K1 : Hid (∀ W : World, Calls Try.prog 168 #[a.val, .int .i64 x] W fun e w' => e = .returned (.bool q) ∧ Below W.heap.size W w') := fun W => by rw [hq]; exact iha W hn.1
    have K2 : Hid (∀ W : World, Calls Try.prog 168 #[b.val, .int .i64 x] W fun e w' => e = .returned (.bool r) ∧ Below W.heap.size W w') := fun W => by rw [hr]; exact ihb W hn.2
    have HD : Hid ((Nd.sum a b).emptyB x = (q || r)) := by show _ = _; rw [hq, hr]; rfl
    clear iha ihb hq hr hn
    show Calls Try.prog 168 #[.iface 188 (.agg #[a.val, b.val, .int .i64 (1 + a.size + b.size : Nat)]), .int .i64 x] w _
    obtain ⟨T1, x1, h1⟩ := val_iface a
    obtain ⟨T2, x2, h2⟩ := val_iface b
    rw [h1] at K1 ⊢
    rw [h2] at K2 ⊢
    clear h1 h2
    generalize ((1 + a.size + b.size : Nat) : Int) = z
    cases q
    all_goals
      have q_one := is_sum_one
      have q_star := is_sum_star
      have q_test := is_sum_test
      have q_not := is_sum_not
      have q_sum := is_sum_sum
      go_enter Try.func168, Try.ntmps168
      go_wp2_with fail
      refine (K1.out _).mono ?_
      rintro e w1 ⟨rfl, hb⟩
      have y1 := kc (b := w.heap.size) (o := 1) (v := .iface T2 x2) hb (by simp [go_sem])
      have B1 : Sees w w1 := Sees.below (by unfold Sees; go_grown) hb
      clear hb
      go_wp2_with fail
    · refine (K2.out _).mono ?_
      rintro e w2 ⟨rfl, hb⟩
      have B2 := B1.below hb
      clear hb
      go_wp2_with fail
      go_ret
      exact ⟨ret_bool HD.out.symm, B2⟩
    · go_ret
      exact ⟨ret_bool HD.out.symm, B1⟩
  | dot a b iha ihb =>
    intro w hn
    obtain ⟨q, hq⟩ : ∃ q : Bool, q = a.emptyB x := ⟨_, rfl⟩
    obtain ⟨r, hr⟩ : ∃ r : Bool, r = b.emptyB x := ⟨_, rfl⟩
    have K1 : Hid (∀ W : World, Calls Try.prog 168 #[a.val, .int .i64 x] W fun e w' => e = .returned (.bool q) ∧ Below W.heap.size W w') := fun W => by rw [hq]; exact iha W hn.1
    have K2 : Hid (∀ W : World, Calls Try.prog 168 #[b.val, .int .i64 x] W fun e w' => e = .returned (.bool r) ∧ Below W.heap.size W w') := fun W => by rw [hr]; exact ihb W hn.2
    have HD : Hid ((Nd.dot a b).emptyB x = (q && r)) := by show _ = _; rw [hq, hr]; rfl
    clear iha ihb hq hr hn
    show Calls Try.prog 168 #[.iface 189 (.agg #[a.val, b.val, .int .i64 (1 + a.size + b.size : Nat)]), .int .i64 x] w _
    obtain ⟨T1, x1, h1⟩ := val_iface a
    obtain ⟨T2, x2, h2⟩ := val_iface b
    rw [h1] at K1 ⊢
    rw [h2] at K2 ⊢
    clear h1 h2
    generalize ((1 + a.size + b.size : Nat) : Int) = z
    cases q
    all_goals
      have q_one := is_dot_one
      have q_star := is_dot_star
      have q_test := is_dot_test
      have q_not := is_dot_not
      have q_sum := is_dot_sum
      have q_dot := is_dot_dot
      go_enter Try.func168, Try.ntmps168
      go_wp2_with fail
      refine (K1.out _).mono ?_
      rintro e w1 ⟨rfl, hb⟩
      have y1 := kc (b := w.heap.size) (o := 1) (v := .iface T2 x2) hb (by simp [go_sem])
      have B1 : Sees w w1 := Sees.below (by unfold Sees; go_grown) hb
      clear hb
      go_wp2_with fail
    · go_ret
      exact ⟨ret_bool HD.out.symm, B1⟩
    · refine (K2.out _).mono ?_
      rintro e w2 ⟨rfl, hb⟩
      have B2 := B1.below hb
      clear hb
      go_wp2_with fail
      go_ret
      exact ⟨ret_bool HD.out.symm, B2⟩

end Go.Proofs.Ytmblgkpgfofceaa

namespace Go.Proofs.Ytmblgkpgfofceaa
open Go.RowKit

theorem ndE_cond_forms {t a : Int} {b : Bool} {k n : Int} {f : Fo} (h : treeE t a b k n f = true) (hc : (condK k && f.cond) = true) :
    (f = .nil ∧ (k = 1 ∨ k = 2 ∨ (k = 3 ∧ 0 ≤ n ∧ n < t))) ∨
    (∃ k1 n1 f1, f = .cons k1 n1 f1 .nil ∧ k = 5 ∧ treeE t a (b || k == 5) k1 n1 f1 = true ∧ (condK k1 && f1.cond) = true) ∨
    (∃ k1 n1 f1 k2 n2 f2, f = .cons k1 n1 f1 (.cons k2 n2 f2 .nil) ∧ (k = 6 ∨ k = 7) ∧ treeE t a b k1 n1 f1 = true ∧ treeE t a b k2 n2 f2 = true ∧ (condK k1 && f1.cond) = true ∧ (condK k2 && f2.cond) = true) := by
  simp only [Bool.and_eq_true] at hc
  obtain ⟨hk, hf⟩ := hc
  have hk' := of_decide_eq_true hk
  rcases tree_forms h with ⟨rfl, h1⟩ | ⟨k1, n1, f1, rfl, h1, h2⟩ | ⟨k1, n1, f1, k2, n2, f2, rfl, h1, h2, h3⟩
  · refine Or.inl ⟨rfl, ?_⟩
    omega
  · refine Or.inr (Or.inl ⟨k1, n1, f1, rfl, by omega, h2, ?_⟩)
    simpa [Fo.cond] using hf
  · refine Or.inr (Or.inr ⟨k1, n1, f1, k2, n2, f2, rfl, h1, h2, h3, ?_⟩)
    simpa [Fo.cond, and_assoc] using hf

set_option maxRecDepth 100000 in
set_option maxHeartbeats 1000000 in
theorem l01True_any (x : Int) (hx0 : 0 ≤ x) (hx1 : x ≤ 7) : ∀ (N : Nat) (f : Fo), f.nodes < N → ∀ (t a k n : Int) (b : Bool) (A : Option Addr) (C bb o : Nat) (w : World), t ≤ 3 → f.Lies w A → treeE t a b k n f = true → (condK k && f.cond) = true →
      w.cell? ⟨bb, o, none⟩ = some (.int .i64 k) → w.cell? ⟨bb, o + 1, none⟩ = some (.int .i64 n) → w.cell? ⟨bb, o + 2, none⟩ = some (.slice A f.len C) →
      Calls Try.prog 139 #[.pointer (some ⟨bb, o, none⟩), .int .i64 x] w fun e w' => e = .returned (.bool ((ndE f k n).emptyB x)) ∧ Below w.heap.size w w' := by
  intro N
  induction N with
  | zero => intro f hN; exact absurd hN (Nat.not_lt_zero _)
  | succ N ih =>
    intro f hN t a k n b A C bb o w ht hl hv hc h0 h1 h2
    rcases ndE_cond_forms hv hc with ⟨rfl, hk⟩ | ⟨k1, n1, f1, rfl, rfl, v1, c1⟩ | ⟨k1, n1, f1, k2, n2, f2, rfl, hk, v1, v2, c1, c2⟩
    · clear ih hN hv hc hl
      rcases hk with rfl | rfl | ⟨rfl, hn0, hn1⟩
      · go_enter Try.func139, Try.ntmps139
        go_wp2_with fail
        go_ret
        exact ⟨rfl, by go_grown⟩
      · go_enter Try.func139, Try.ntmps139
        go_wp2_with fail
        go_ret
        exact ⟨rfl, by go_grown⟩
      · have hn : n = 0 ∨ n = 1 ∨ n = 2 := by omega
        have hx : x = 0 ∨ x = 1 ∨ x = 2 ∨ x = 3 ∨ x = 4 ∨ x = 5 ∨ x = 6 ∨ x = 7 := by omega
        clear hn0 hn1 hx0 hx1 ht
        rcases hn with rfl | rfl | rfl <;> rcases hx with rfl | rfl | rfl | rfl | rfl | rfl | rfl | rfl
        all_goals
          go_enter Try.func139, Try.ntmps139
          go_wp2_with fail
          go_ret
          exact ⟨by first | rfl | (simp [ndE, leaf, Nd.emptyB, bitB]; done) | decide, by go_grown⟩
    · obtain ⟨b1, o1, rfl, hat⟩ := hl (by intro h; cases h)
      obtain ⟨d0, d1, ⟨A1, C1, d2, l1⟩, _⟩ := hat
      obtain ⟨q, hq⟩ : ∃ q : Bool, q = (ndE f1 k1 n1).emptyB x := ⟨_, rfl⟩
      have K1 : Hid (∀ W : World, Sees w W → Calls Try.prog 139 #[.pointer (some ⟨b1, o1, none⟩), .int .i64 x] W fun e w' => e = .returned (.bool q) ∧ Below W.heap.size W w') :=
        fun W hW => by rw [hq]; exact ih f1 (by simp only [Fo.nodes] at hN; omega) t a k1 n1 _ A1 C1 b1 o1 W ht (Fo.Lies.sees (w := w) l1 hW) v1 c1 (kc hW d0) (kc hW d1) (kc hW d2)
      have HD : Hid ((ndE (.cons k1 n1 f1 .nil) 5 n).emptyB x = !q) := by show _ = _; rw [hq]; rfl
      clear ih hN hv hc v1 c1 hq d0 d1 d2 l1 ht
      simp only [Fo.len] at h2
      go_enter Try.func139, Try.ntmps139
      go_wp2_with fail
      refine (K1.out _ (by unfold Sees; go_grown)).mono ?_
      rintro e w1 ⟨rfl, hb⟩
      have B1 : Sees w w1 := Sees.below (by unfold Sees; go_grown) hb
      clear hb
      go_wp2_with fail
      go_ret
      exact ⟨ret_bool HD.out.symm, B1⟩
    · obtain ⟨b1, o1, rfl, hat⟩ := hl (by intro h; cases h)
      obtain ⟨d0, d1, ⟨A1, C1, d2, l1⟩, g0, g1, ⟨A2, C2, g2, l2⟩, _⟩ := hat
      obtain ⟨q, hq⟩ : ∃ q : Bool, q = (ndE f1 k1 n1).emptyB x := ⟨_, rfl⟩
      obtain ⟨r, hr⟩ : ∃ r : Bool, r = (ndE f2 k2 n2).emptyB x := ⟨_, rfl⟩
      have K1 : Hid (∀ W : World, Sees w W → Calls Try.prog 139 #[.pointer (some ⟨b1, o1, none⟩), .int .i64 x] W fun e w' => e = .returned (.bool q) ∧ Below W.heap.size W w') :=
        fun W hW => by rw [hq]; exact ih f1 (by simp only [Fo.nodes] at hN; omega) t a k1 n1 _ A1 C1 b1 o1 W ht (Fo.Lies.sees (w := w) l1 hW) v1 c1 (kc hW d0) (kc hW d1) (kc hW d2)
      have K2 : Hid (∀ W : World, Sees w W → Calls Try.prog 139 #[.pointer (some ⟨b1, o1 + 3, none⟩), .int .i64 x] W fun e w' => e = .returned (.bool r) ∧ Below W.heap.size W w') :=
        fun W hW => by rw [hr]; exact ih f2 (by simp only [Fo.nodes] at hN; omega) t a k2 n2 _ A2 C2 b1 (o1 + 3) W ht (Fo.Lies.sees (w := w) l2 hW) v2 c2 (kc hW g0) (kc hW g1) (kc hW g2)
      clear ih hN hv hc v1 v2 c1 c2 d0 d1 d2 g0 g1 g2 l1 l2 ht
      simp only [Fo.len] at h2
      rcases hk with rfl | rfl
      · have HD : Hid ((ndE (.cons k1 n1 f1 (.cons k2 n2 f2 .nil)) 6 n).emptyB x = (q || r)) := by show _ = _; rw [hq, hr]; rfl
        clear hq hr
        cases q
        all_goals
          go_enter Try.func139, Try.ntmps139
          go_wp2_with fail
          refine (K1.out _ (by unfold Sees; go_grown)).mono ?_
          rintro e w1 ⟨rfl, hb⟩
          have B1 : Sees w w1 := Sees.below (by unfold Sees; go_grown) hb
          have y2 := kc B1 h2
          clear hb
          go_wp2_with fail
        · refine (K2.out _ B1).mono ?_
          rintro e w2 ⟨rfl, hb⟩
          have B2 := B1.below hb
          clear hb
          go_wp2_with fail
          go_ret
          exact ⟨ret_bool HD.out.symm, B2⟩
        · go_ret
          exact ⟨ret_bool HD.out.symm, B1⟩
      · have HD : Hid ((ndE (.cons k1 n1 f1 (.cons k2 n2 f2 .nil)) 7 n).emptyB x = (q && r)) := by show _ = _; rw [hq, hr]; rfl
        clear hq hr
        cases q
        all_goals
          go_enter Try.func139, Try.ntmps139
          go_wp2_with fail
          refine (K1.out _ (by unfold Sees; go_grown)).mono ?_
          rintro e w1 ⟨rfl, hb⟩
          have B1 : Sees w w1 := Sees.below (by unfold Sees; go_grown) hb
          have y2 := kc B1 h2
          clear hb
          go_wp2_with fail
        · go_ret
          exact ⟨ret_bool HD.out.symm, B1⟩
        · refine (K2.out _ B1).mono ?_
          rintro e w2 ⟨rfl, hb⟩
          have B2 := B1.below hb
          clear hb
          go_wp2_with fail
          go_ret
          exact ⟨ret_bool HD.out.symm, B2⟩

end Go.Proofs.Ytmblgkpgfofceaa
