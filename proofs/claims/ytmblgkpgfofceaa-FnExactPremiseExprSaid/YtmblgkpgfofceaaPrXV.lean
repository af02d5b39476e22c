/- A premise by value in laws that hand something back: copies, marks. -/
import Derived.Test.YtmblgkpgfofceaaPrXT
import Derived.Test.YtmblgkpgfofceaaMarkE
import Derived.Test.YtmblgkpgfofceaaGenX
namespace Go.Proofs.Ytmblgkpgfofceaa
open Go.RowKit
set_option linter.unusedVariables false

/-- Its conditions lie one behind the other, in blocks from lo on, below hi. -/
def PmO (W : World) (x : Pm) (lo hi : Nat) (Z Y : Option Addr) : Prop := ∃ m, x.pf.XIn W lo m Z ∧ x.qf.XIn W m hi Y
theorem PmO.agree {w w' : World} {x : Pm} {lo hi : Nat} {Z Y : Option Addr} (h : PmO w x lo hi Z Y) (ha : Fo.Agree w w' lo hi) : PmO w' x lo hi Z Y :=
  let ⟨m, h1, h2⟩ := h
  ⟨m, h1.agree (ha.mono (Nat.le_refl _) h2.1), h2.agree (ha.mono h1.1 (Nat.le_refl _))⟩
def ownX (x : Pm) (lo hi : Nat) (Z Y : Option Addr) : Own1 := ⟨fun W => PmO W x lo hi Z Y, lo, hi, fun h a => PmO.agree h a⟩
section
variable {w W W' : World} {L : List (Nat × Nat × Value)} {O : List Own1} {b : Nat} {T : TypeId} {x : Pm} {A B : Option Addr} {lo hi : Nat} {cs : Array Value} {v0 v1 v2 v3 v4 v5 v6 : Value}
theorem Gs.resX (h : Gs w L O W) (hi : PmO W' x W.heap.size W'.heap.size A B) (hb : Below W.heap.size W W') : Gs w L (ownX x W.heap.size W'.heap.size A B :: O) W' := h.result _ hi rfl rfl hb
theorem GB.resX (h : GB w L O b cs T W) (hi : PmO W' x W.heap.size W'.heap.size A B) (hb : Below W.heap.size W W') : GB w L (ownX x W.heap.size W'.heap.size A B :: O) b cs T W' := h.result _ hi rfl rfl hb
theorem Gs.x1 (h : Gs w L (ownX x lo hi A B :: O) W) : x.pf.Lies W A := by
  obtain ⟨m, h1, h2⟩ : PmO W x lo hi A B := h.hd
  exact h1.lies
theorem Gs.x2 (h : Gs w L (ownX x lo hi A B :: O) W) : x.qf.Lies W B := by
  obtain ⟨m, h1, h2⟩ : PmO W x lo hi A B := h.hd
  exact h2.lies
theorem GB.x1 (h : GB w L (ownX x lo hi A B :: O) b cs T W) : x.pf.Lies W A := h.gs.x1
theorem GB.x2 (h : GB w L (ownX x lo hi A B :: O) b cs T W) : x.qf.Lies W B := h.gs.x2
theorem GB.open7 (h : GB w L O b #[v0, v1, v2, v3, v4, v5, v6] T W) : Gs w ((b, 0, v0) :: (b, 1, v1) :: (b, 2, v2) :: (b, 3, v3) :: (b, 4, v4) :: (b, 5, v5) :: (b, 6, v6) :: L) O W := h.rg
end
set_option maxHeartbeats 2000000 in
set_option maxRecDepth 100000 in
theorem markPremise_any (x : Pm) (hm : x.pf.nodes + x.qf.nodes ≤ 1048576) (k : Int) (hk0 : 0 ≤ k) (hk1 : k ≤ 1048576) (lo hi : Nat) (A B : Option Addr) (C D : Nat) (w : World) (hX : PmO w x lo hi A B) (hz : hi ≤ w.heap.size) :
    Calls Try.prog 25 #[.agg #[.int .i64 x.pk, .int .i64 x.pn, .slice A x.pf.len C, .int .i64 x.act, .int .i64 x.qk, .int .i64 x.qn, .slice B x.qf.len D], .int .i64 k] w fun e w' => e = .returned (.int .i64 (k + (2 * (x.pf.nodes : Int) + 2 * (x.qf.nodes : Int)))) ∧ ButIn lo hi w w' := by
  obtain ⟨m, h1, h2⟩ := hX
  have e1 := h1.1; have e2 := h2.1
  obtain ⟨y, hy⟩ : ∃ y : Int, y = k + 2 * (x.pf.nodes : Int) := ⟨_, rfl⟩
  obtain ⟨z, hz2⟩ : ∃ z : Int, z = k + (2 * (x.pf.nodes : Int) + 2 * (x.qf.nodes : Int)) := ⟨_, rfl⟩
  rw [← hz2]
  have K1 : Hid (∀ W : World, Sees w W → Calls Try.prog 26 #[.agg #[.int .i64 x.pk, .int .i64 x.pn, .slice A x.pf.len C], .int .i64 k] W fun e w' => e = .returned (.int .i64 y) ∧ (x.pf.mark k).XIn w' lo m A ∧ ButIn lo m W w') := fun W h => by
    rw [hy]; exact markExpr_any x.pf (by omega) k hk0 (by omega) x.pk x.pn lo m A C W (h1.agree ((Fo.Agree.of_below (show Below w.heap.size w W from h)).mono (Nat.zero_le _) (by omega))) (by have := Below.size h; omega)
  have K2 : Hid (∀ W : World, x.qf.XIn W m hi B → hi ≤ W.heap.size → Calls Try.prog 26 #[.agg #[.int .i64 x.qk, .int .i64 x.qn, .slice B x.qf.len D], .int .i64 y] W fun e w' => e = .returned (.int .i64 z) ∧ (x.qf.mark y).XIn w' m hi B ∧ ButIn m hi W w') := fun W h g => by
    have hr := markExpr_any x.qf (by omega) y (by omega) (by omega) x.qk x.qn m hi B D W h g
    rw [show y + 2 * (x.qf.nodes : Int) = z by omega] at hr
    exact hr
  obtain ⟨W0, hW0⟩ : ∃ W0, W0 = w.alloc (.cells #[.int .i64 x.pk, .int .i64 x.pn, .slice A x.pf.len C, .int .i64 x.act, .int .i64 x.qk, .int .i64 x.qn, .slice B x.qf.len D] 50) := ⟨_, rfl⟩
  have hb0 : W0.heap[w.heap.size]? = some (.cells #[.int .i64 x.pk, .int .i64 x.pn, .slice A x.pf.len C, .int .i64 x.act, .int .i64 x.qk, .int .i64 x.qn, .slice B x.qf.len D] 50 (0, 0)) := by rw [hW0]; exact heap_new _ _ _ rfl
  have HS : Hid (Sees w W0) := by show Sees _ _; rw [hW0]; exact (Sees.refl w).alloc _
  have HB := Lib.hid hb0
  have HX := Lib.hid (And.intro h1 h2); have HE := Lib.hid (And.intro e1 (And.intro e2 hz))
  have hW2 := Lib.hid hW0
  clear hb0 h1 h2 e1 e2 hz hy hz2
  go_enter Try.func25, Try.ntmps25
  go_wp2_with fail
  rw [← hW0]
  clear hW0
  refine (K1.out _ HS.out).mono ?_
  rintro e w1 ⟨rfl, _, hb⟩
  have hz := HE.out
  have hsz := Below.size HS.out
  have hl : w.heap.size < W0.heap.size := (Array.getElem?_eq_some_iff.1 HB.out).1
  have kb := (hb.block w.heap.size hl (Or.inr (by omega))).trans HB.out
  obtain ⟨p0, p1, p2, p3, p4, p5, p6, _⟩ := pm_facts kb
  have HQ : Hid (x.qf.XIn w1 m hi B) := HX.out.2.agree (fun j g1 g2 => (hb.block j (by omega) (Or.inr g1)).trans (Below.block HS.out j (by omega)))
  have HZ1 : Hid (hi ≤ w1.heap.size) := by have := hb.size; show _ ≤ _; omega
  have HB1 := Lib.hid hb
  clear hb kb hz hsz hl
  go_wp2_with fail
  refine (K2.out _ HQ.out HZ1.out).mono ?_
  rintro e w2 ⟨rfl, _, hb⟩
  have hz := HE.out
  have HF : Hid (ButIn lo hi w w2) := ⟨(hb.os.trans HB1.out.os).trans HS.out.os, (hb.tape.trans HB1.out.tape).trans HS.out.tape, (hb.output.trans HB1.out.output).trans HS.out.output, Nat.le_trans (Below.size HS.out) (Nat.le_trans HB1.out.size hb.size), fun j g1 g2 => by
    have z0 := Below.size HS.out; have z1 := HB1.out.size
    exact ((hb.block j (by omega) (by omega)).trans (HB1.out.block j (by omega) (by omega))).trans (Below.block HS.out j g1)⟩
  clear hb p0 p1 p2 p3 p4 p5 p6
  go_wp2_with fail
  go_ret
  exact ⟨rfl, HF.out⟩
end Go.Proofs.Ytmblgkpgfofceaa
