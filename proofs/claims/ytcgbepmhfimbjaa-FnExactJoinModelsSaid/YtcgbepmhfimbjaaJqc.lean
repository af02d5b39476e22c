/- A model under way: its box at a block of its own, its table of tests somewhere beside it, its actions grown by append. Plain facts. Contracts of impl.falseAt and of tables in which nothing holds. Contract of impl.emptyModel. impl.every at bool: every$1, slices.IndexFunc, slices.ContainsFunc. impl.every at [][]bool: every$1, slices.IndexFunc, slices.ContainsFunc. -/
import Derived.Test.YtcgbepmhfimbjaaJqb
import Derived.Test.YtcgbepmhfimbjaaTab
import Derived.Test.YtcgbepmhfimbjaaSupB
import Derived.Deep.RegionLaw
import Derived.Deep.RegionHeld3
import Derived.Deep.DrawnRows
import Derived.Deep.DeepCutAuto
import Derived.Test.YtcgbepmhfimbjaaJqa
namespace Go.Proofs.Ytcgbepmhfimbjaa
open Go.RowKit
set_option linter.unusedVariables false

/-- What a call hands back that answers a model alone, whose tables' rows have no spare room. -/
def MRetX (t a n : Nat) (ts : List (List Bool)) (acts : List (List (List Bool))) (w : World) (e : Ending) (w' : World) : Prop :=
  ∃ (A B : Option Addr) (C D m : Nat), e = .returned (.agg #[.int .i64 (t : Int), .int .i64 (a : Int), .int .i64 (n : Int), .slice A ts.length C, .slice B acts.length D]) ∧ w.heap.size ≤ m ∧ m ≤ w'.heap.size ∧ BBX w' ts A (rng w.heap.size m) ∧ BBBX w' acts B (rng m w'.heap.size) ∧ Below w.heap.size w w'
theorem MRetX.toM {t a n : Nat} {ts : List (List Bool)} {acts : List (List (List Bool))} {w w' : World} {e : Ending} (h : MRetX t a n ts acts w e w') : MRet t a n ts acts w e w' :=
  let ⟨A, B, C, D, m, h1, h2, h3, h4, h5, h6⟩ := h; ⟨A, B, C, D, m, h1, h2, h3, h4.toF, BBBX.toF h5, h6⟩
/-- The state of a loop that appends actions to a model in block bm; w1 is the world ahead of the model, s2 where the actions' blocks begin. -/
structure Emp (w1 : World) (bm s2 t a p : Nat) (ts : List (List Bool)) (A1 : Option Addr) (acts : List (List (List Bool))) (v : Value) (W : World) : Prop where
  box : W.heap[bm]? = some (.cells #[.int .i64 (t : Int), .int .i64 (a : Int), .int .i64 (p : Int), .slice A1 t t, v] 31 (0, 0))
  acc : Acc 24 BBX List.length s2 W v acts
  tests : ∃ G : FP, BBX W ts A1 G ∧ ∀ k, G k → w1.heap.size ≤ k ∧ k < s2 ∧ k ≠ bm
  below : Below w1.heap.size w1 W
  size : s2 ≤ W.heap.size
  low : w1.heap.size ≤ bm ∧ bm < s2
theorem Emp.grow {w1 W W' : World} {bm s2 t a p : Nat} {ts : List (List Bool)} {A1 : Option Addr} {acts : List (List (List Bool))} {v : Value} (h : Emp w1 bm s2 t a p ts A1 acts v W) (hb : Below W.heap.size W W') : Emp w1 bm s2 t a p ts A1 acts v W' := by
  obtain ⟨G, hG, hk⟩ := h.tests
  exact ⟨(hb.block _ (by have := h.size; have := h.low; omega)).trans h.box, h.acc.below bbX_ok hb, ⟨G, bbX_ok.keep hG fun k hg => hb.block k (by have := hk k hg; have := h.size; omega), hk⟩, h.below.trans (hb.mono h.below.size), Nat.le_trans h.size hb.size, h.low⟩
/-- With no action: the table made first, or the box made first. -/
theorem Emp.start {w1 W : World} {bm t a p : Nat} {ts : List (List Bool)} {A1 : Option Addr} {G : FP} (hbx : W.heap[bm]? = some (.cells #[.int .i64 (t : Int), .int .i64 (a : Int), .int .i64 (p : Int), .slice A1 t t, .slice none 0 0] 31 (0, 0))) (hG : BBX W ts A1 G) (hk : ∀ k, G k → w1.heap.size ≤ k ∧ k < W.heap.size ∧ k ≠ bm) (hb : Below w1.heap.size w1 W) (hl : w1.heap.size ≤ bm) : Emp w1 bm W.heap.size t a p ts A1 [] (.slice none 0 0) W :=
  ⟨hbx, Acc.start, ⟨G, hG, hk⟩, hb, Nat.le_refl _, hl, (Array.getElem?_eq_some_iff.1 hbx).1⟩
theorem Emp.boxfirst {w0 wa : World} {t a p lo : Nat} {ts : List (List Bool)} {A1 : Option Addr} {u0 u1 u2 u3 u4 : Value} (hbx : wa.heap[w0.heap.size]? = some (.cells #[u0, u1, u2, u3, u4] 31 (0, 0))) (hQ : BBX wa ts A1 (rng lo wa.heap.size)) (hlo : w0.heap.size < lo) (hs : Sees w0 wa) :
    Emp w0 w0.heap.size (((((wa.setCell ⟨w0.heap.size, 0, none⟩ (.int .i64 (t : Int))).setCell ⟨w0.heap.size, 1, none⟩ (.int .i64 (a : Int))).setCell ⟨w0.heap.size, 2, none⟩ (.int .i64 (p : Int))).setCell ⟨w0.heap.size, 3, none⟩ (.slice A1 t t)).setCell ⟨w0.heap.size, 4, none⟩ (.slice none 0 0)).heap.size t a p ts A1 [] (.slice none 0 0) (((((wa.setCell ⟨w0.heap.size, 0, none⟩ (.int .i64 (t : Int))).setCell ⟨w0.heap.size, 1, none⟩ (.int .i64 (a : Int))).setCell ⟨w0.heap.size, 2, none⟩ (.int .i64 (p : Int))).setCell ⟨w0.heap.size, 3, none⟩ (.slice A1 t t)).setCell ⟨w0.heap.size, 4, none⟩ (.slice none 0 0)) :=
  Emp.start (five_block hbx _ _ _ _ _) (bbX_ok.keep hQ fun k hk => five_keep wa w0.heap.size k _ _ _ _ _ (by have := hk.1; omega)) (fun k hk => ⟨by have := hk.1; omega, by simpa using hk.2, by have := hk.1; omega⟩) (five_below hs (Nat.le_refl _) _ _ _ _ _) (Nat.le_refl _)
theorem Emp.tabfirst {w0 wa : World} {t a p lo : Nat} {ts : List (List Bool)} {A1 : Option Addr} (hQ : BBX wa ts A1 (rng lo wa.heap.size)) (hlo : w0.heap.size ≤ lo) (hs : Sees w0 wa) :
    Emp w0 wa.heap.size (wa.alloc (.cells #[.int .i64 (t : Int), .int .i64 (a : Int), .int .i64 (p : Int), .slice A1 t t, .slice none 0 0] 31)).heap.size t a p ts A1 [] (.slice none 0 0) (wa.alloc (.cells #[.int .i64 (t : Int), .int .i64 (a : Int), .int .i64 (p : Int), .slice A1 t t, .slice none 0 0] 31)) :=
  Emp.start (heap_new _ _ _ rfl) (bbX_ok.keep hQ fun k hk => Below.heap_alloc _ _ _ hk.2) (fun k hk => ⟨by have := hk.1; omega, by have := hk.2; simp; omega, by have := hk.2; omega⟩) (hs.alloc _) hs.size
theorem Emp.tabfirst' {w0 wa : World} {t a p lo : Nat} {ts : List (List Bool)} {A1 : Option Addr} {u0 u1 u2 u3 u4 : Value} (hQ : BBX wa ts A1 (rng lo wa.heap.size)) (hlo : w0.heap.size ≤ lo) (hs : Sees w0 wa) :
    Emp w0 wa.heap.size ((((((wa.alloc (.cells #[u0, u1, u2, u3, u4] 31)).setCell ⟨wa.heap.size, 0, none⟩ (.int .i64 (t : Int))).setCell ⟨wa.heap.size, 1, none⟩ (.int .i64 (a : Int))).setCell ⟨wa.heap.size, 2, none⟩ (.int .i64 (p : Int))).setCell ⟨wa.heap.size, 3, none⟩ (.slice A1 t t)).setCell ⟨wa.heap.size, 4, none⟩ (.slice none 0 0)).heap.size t a p ts A1 [] (.slice none 0 0) ((((((wa.alloc (.cells #[u0, u1, u2, u3, u4] 31)).setCell ⟨wa.heap.size, 0, none⟩ (.int .i64 (t : Int))).setCell ⟨wa.heap.size, 1, none⟩ (.int .i64 (a : Int))).setCell ⟨wa.heap.size, 2, none⟩ (.int .i64 (p : Int))).setCell ⟨wa.heap.size, 3, none⟩ (.slice A1 t t)).setCell ⟨wa.heap.size, 4, none⟩ (.slice none 0 0)) :=
  Emp.start (five_block (heap_new wa _ _ rfl) _ _ _ _ _) (bbX_ok.keep hQ fun k hk => (five_keep _ wa.heap.size k _ _ _ _ _ (by have := hk.2; omega)).trans (Below.heap_alloc _ _ _ hk.2)) (fun k hk => ⟨by have := hk.1; omega, by have := hk.2; simp; omega, by have := hk.2; omega⟩) (five_below (hs.alloc _) hs.size _ _ _ _ _) hs.size
theorem Emp.push {w1 Wa w' : World} {bm s2 t a p : Nat} {ts : List (List Bool)} {A1 : Option Addr} {acts acts' : List (List (List Bool))} {v v' : Value} (h : Emp w1 bm s2 t a p ts A1 acts v Wa) (hacc : Acc 24 BBX List.length s2 w' v' acts') (hg : Wa.grownBy w' v.ownBlock) :
    Emp w1 bm s2 t a p ts A1 acts' v' (w'.setCell ⟨bm, 4, none⟩ v') ∧ w'.heap[bm]? = some (.cells #[.int .i64 (t : Int), .int .i64 (a : Int), .int .i64 (p : Int), .slice A1 t t, v] 31 (0, 0)) := by
  obtain ⟨vals, G, h1, _⟩ := h.acc
  obtain ⟨G0, hG0, hk0⟩ := h.tests
  have hlt := h1.lt
  have z1 := h.size; have z2 := h.low; have z3 := hg.size
  have hk : ∀ k, k < s2 → w'.heap[k]? = Wa.heap[k]? := fun k hk => hg.block k (by omega) (fun he => by have := (hlt k he.symm).1; omega)
  have hbx := (hk bm (by omega)).trans h.box
  have hks : ∀ k, k ≠ bm → (w'.setCell ⟨bm, 4, none⟩ v').heap[k]? = w'.heap[k]? := fun k hk2 => Below.heap_setCell _ _ _ _ hk2
  have hsz : (w'.setCell ⟨bm, 4, none⟩ v').heap.size = w'.heap.size := by simp
  refine ⟨⟨by rw [Fo.block_setCell hbx _]; rfl, hacc.keep bbX_ok (by rw [hsz]; exact Nat.le_refl _) (fun k hk2 _ => hks k (by omega)), ⟨G0, bbX_ok.keep hG0 fun k hg0 => (hks k (hk0 k hg0).2.2).trans (hk k (hk0 k hg0).2.1), hk0⟩, ?_, by rw [hsz]; omega, h.low⟩, hbx⟩
  exact Below.setCell (h.below.trans ⟨hg.os, hg.tape, hg.output, hg.size, fun k hk2 => hk k (by omega)⟩) h.low.1 _
/-- Copied into the result's box b, which lies ahead of w1. -/
theorem Emp.mret {w1 W : World} {bm s2 t a p n b : Nat} {ts : List (List Bool)} {A1 A2 : Option Addr} {acts : List (List (List Bool))} {v : Value} {w : World} (h : Emp w1 bm s2 t a p ts A1 acts v W) (hR : RowsF BBX List.length W acts A2 (rng s2 W.heap.size)) (hn : w.heap.size ≤ b) (hb : b < w1.heap.size) (hw : Below w.heap.size w W) (v0 v1 v2 v3 v4 : Value) {C1 C2 : Nat} (ht : ts.length = t) (ha : acts.length = n) :
    MRetX t a p ts acts w (.returned (.agg #[.int .i64 (t : Int), .int .i64 (a : Int), .int .i64 (p : Int), .slice A1 t C1, .slice A2 n C2])) (((((W.setCell ⟨b, 0, none⟩ v0).setCell ⟨b, 1, none⟩ v1).setCell ⟨b, 2, none⟩ v2).setCell ⟨b, 3, none⟩ v3).setCell ⟨b, 4, none⟩ v4) := by
  subst ha
  obtain ⟨G, hG, hk⟩ := h.tests
  have z1 := h.low; have z2 := h.size
  have zs : (((((W.setCell ⟨b, 0, none⟩ v0).setCell ⟨b, 1, none⟩ v1).setCell ⟨b, 2, none⟩ v2).setCell ⟨b, 3, none⟩ v3).setCell ⟨b, 4, none⟩ v4).heap.size = W.heap.size := by simp
  refine ⟨A1, A2, C1, C2, s2, by rw [ht], by omega, by rw [zs]; omega, bbX_ok.mono (bbX_ok.keep hG fun k hg => five_keep W b k _ _ _ _ _ (by have := hk k hg; omega)) (fun k hg => ⟨by have := hk k hg; omega, (hk k hg).2.1⟩), ?_, five_below hw hn _ _ _ _ _⟩
  rw [zs]
  exact (rowsF_ok bbX_ok List.length).keep hR fun k hk => five_keep W b k _ _ _ _ _ (by have := hk.1; omega)
end Go.Proofs.Ytcgbepmhfimbjaa

namespace Go.Proofs.Ytcgbepmhfimbjaa
open Go.RowKit
set_option linter.unusedVariables false

theorem falseAt_any (x y : Int) (w : World) : Calls Try.prog 142 #[.int .i64 x, .int .i64 y] w fun e w' => e = .returned (.bool false) ∧ Below w.heap.size w w' := by
  go_enter Try.func142, Try.ntmps142
  go_wp2_with fail
  go_ret
  exact ⟨rfl, by go_grown⟩
theorem emptyTabX_any (t n : Nat) (ht : t ≤ 8) (hn : n ≤ 8) (W : World) :
    Calls Try.prog 141 #[.int .i64 (t : Int), .int .i64 (n : Int), .func (.func 142) #[] #[]] W fun e w' => ∃ A1, e = .returned (.slice A1 t t) ∧ BBX w' (tab t n fun _ _ => false) A1 (rng W.heap.size w'.heap.size) ∧ Below W.heap.size W w' :=
  tableOfX_any 142 #[] (enters_of Try.func142 (by kernel_rfl) rfl) t n (by omega) (by omega) _ W (fun W2 x y h3 hx hy => falseAt_any x y W2)
theorem emptyTab_any (t n : Nat) (ht : t ≤ 8) (hn : n ≤ 8) (W : World) :
    Calls Try.prog 141 #[.int .i64 (t : Int), .int .i64 (n : Int), .func (.func 142) #[] #[]] W fun e w' => ∃ A1, e = .returned (.slice A1 t t) ∧ BBF w' (tab t n fun _ _ => false) A1 (rng W.heap.size w'.heap.size) ∧ Below W.heap.size W w' :=
  tableOf_any 142 #[] (enters_of Try.func142 (by kernel_rfl) rfl) t n (by omega) (by omega) _ W (fun W2 x y h3 hx hy => falseAt_any x y W2)
end Go.Proofs.Ytcgbepmhfimbjaa

namespace Go.Proofs.Ytcgbepmhfimbjaa
open Go.RowKit
set_option linter.unusedVariables false

set_option maxHeartbeats 4000000 in
set_option maxRecDepth 100000 in
theorem emptyModelX_any (t a p : Nat) (ht : t ≤ 3) (ha : a ≤ 4) (hp : p ≤ 8) (w : World) :
    Calls Try.prog 66 #[.agg #[.int .i64 (t : Int), .int .i64 (a : Int)], .int .i64 (p : Int)] w (MRetX t a p (tab t p fun _ _ => false) (List.replicate a (tab p p fun _ _ => false)) w) := by
  obtain ⟨w0, hw0⟩ : ∃ w0, w0 = (w.alloc (.cells #[.int .i64 (t : Int), .int .i64 (a : Int)] 29)).alloc (.cells #[.int .i64 0, .int .i64 0, .int .i64 0, .slice none 0 0, .slice none 0 0] 31) := ⟨_, rfl⟩
  have B0 : Sees w w0 := by rw [hw0]; exact ((Sees.refl w).alloc _).alloc _
  have hc0 : w0.heap[w.heap.size]? = some (.cells #[.int .i64 (t : Int), .int .i64 (a : Int)] 29 (0, 0)) := by
    rw [hw0]; exact (Below.heap_alloc _ _ _ (by simp)).trans (heap_new _ _ _ rfl)
  have hr0 : w0.heap[w.heap.size + 1]? = some (.cells #[.int .i64 0, .int .i64 0, .int .i64 0, .slice none 0 0, .slice none 0 0] 31 (0, 0)) := by
    rw [hw0]; exact heap_new _ _ _ (by simp)
  have z0 : w.heap.size + 2 ≤ w0.heap.size := by rw [hw0]; simp
  obtain ⟨ts, hts⟩ : ∃ ts : List (List Bool), ts = tab t p fun _ _ => false := ⟨_, rfl⟩
  obtain ⟨rows, hrows⟩ : ∃ rows : List (List Bool), rows = tab p p fun _ _ => false := ⟨_, rfl⟩
  have KT1 : Hid (∀ W : World, Calls Try.prog 141 #[.int .i64 (t : Int), .int .i64 (p : Int), .func (.func 142) #[] #[]] W fun e w' => ∃ A1, e = .returned (.slice A1 t t) ∧ BBX w' ts A1 (rng W.heap.size w'.heap.size) ∧ Below W.heap.size W w') := fun W => by rw [hts]; exact emptyTabX_any t p (by omega) hp W
  have KT2 : Hid (∀ W : World, Calls Try.prog 141 #[.int .i64 (p : Int), .int .i64 (p : Int), .func (.func 142) #[] #[]] W fun e w' => ∃ A1, e = .returned (.slice A1 p p) ∧ BBX w' rows A1 (rng W.heap.size w'.heap.size) ∧ Below W.heap.size W w') := fun W => by rw [hrows]; exact emptyTabX_any p p hp hp W
  have HC0 := Lib.hid hc0; have HR0 := Lib.hid hr0
  have FIN : Hid (∀ W : World, Below w0.heap.size w0 W → Sees w W) := fun W h => B0.below h
  have HTS : Hid (ts.length = t) := by show _ = _; rw [hts]; exact tab_len _ _ _
  have HRL : Hid (rows.length = p) := by show _ = _; rw [hrows]; exact tab_len _ _ _
  rw [← hts, ← hrows]
  clear hts hrows hc0 hr0 B0
  go_enter Try.func66, Try.ntmps66
  have c0 := Fo.cell_of_block HC0.out 0; have c1 := Fo.cell_of_block HC0.out 1
  have HW0 := Lib.hid hw0
  go_wp2_with fail
  rw [← hw0]
  clear hw0
  have ca0 := kc ((Sees.refl w0).alloc (.cells #[.int .i64 0, .int .i64 0, .int .i64 0, .slice none 0 0, .slice none 0 0] 31)) c0
  have ca1 := kc ((Sees.refl w0).alloc (.cells #[.int .i64 0, .int .i64 0, .int .i64 0, .slice none 0 0, .slice none 0 0] 31)) c1
  have zc : w.heap.size < w0.heap.size := by omega
  go_cut [5] (fun sp wx => ∃ (bm : Nat) (A1 : Option Addr), sp = .pointer (some ⟨bm, 0, none⟩) ∧ Emp w0 bm wx.heap.size t a p ts A1 [] (.slice none 0 0) wx)
  case first =>
    go_region_law (first
      | (go_simp; go_at_call 141; refine (KT1.out _).mono ?_; rintro e wa ⟨A1, rfl, hQ, hb⟩; have HQ := Lib.hid hQ; have HBA := Lib.hid hb; have SA : Sees w0 wa := (by first | exact (Sees.refl w0).below hb | exact (Sees.refl w0).drew.below hb | exact ((Sees.refl w0).alloc _).below hb | exact ((Sees.refl w0).alloc _).drew.below hb | exact ((Sees.refl w0).drew.alloc _).below hb); have d0 := kc SA c0; have d1 := kc SA c1; have da0 := kc ((Sees.refl wa).alloc (.cells #[.int .i64 0, .int .i64 0, .int .i64 0, .slice none 0 0, .slice none 0 0] 31)) d0; have da1 := kc ((Sees.refl wa).alloc (.cells #[.int .i64 0, .int .i64 0, .int .i64 0, .slice none 0 0, .slice none 0 0] 31)) d1; have SAH := Lib.hid SA; (first | (have BX := (hb.block w0.heap.size (by simp)).trans (heap_new _ _ _ rfl); obtain ⟨m0, m1, m2, m3, m4, n0, n1, n2, n3, n4⟩ := five_facts BX; have BXH := Lib.hid BX; clear BX) | skip); clear hQ hb SA)
      | fail)

    all_goals
      go_wp2_with fail
      go_meet
      first
        | exact ⟨_, _, rfl, Emp.boxfirst BXH.out HQ.out (by simp) SAH.out⟩
        | exact ⟨_, _, rfl, Emp.tabfirst HQ.out (by simp) SAH.out⟩
        | exact ⟨_, _, rfl, Emp.tabfirst' HQ.out (by simp) SAH.out⟩
  case rest =>
  obtain ⟨bm, A1, rfl, T⟩ := hcut
  clear ca0 ca1
  have HT := Lib.hid T
  have S0 : Hid (Sees w0 wc) := T.below
  obtain ⟨s2, hs2⟩ : ∃ s2, s2 = wc.heap.size := ⟨_, rfl⟩
  have H0 : Hid (∃ v : Value, Emp w0 bm s2 t a p ts A1 (List.replicate 0 rows) v wc) := ⟨_, by rw [hs2]; exact T⟩
  have d1 := kc S0.out c1
  have HA4 := Lib.hid ha
  clear T hs2 c0 c1 ha
  have ha := HA4.out
  go_wp2_with fail
  clear d1
  go_loopw [15] (fun i wr => ∃ (j : Nat) (v : Value), j ≤ a ∧ i = .int .i64 j ∧ Hid (Emp w0 bm s2 t a p ts A1 (List.replicate j rows) v wr)) (fun i _ => a - (intOf i).toNat)
  case atStart => obtain ⟨v, hv⟩ := H0.out; exact ⟨0, v, Nat.zero_le _, rfl, hv⟩
  case round =>
    obtain ⟨j, v, hj, rfl, hS⟩ := hrel
    clear H0 HT
    obtain ⟨m0, m1, m2, m3, m4, n0, n1, n2, n3, n4⟩ := five_facts hS.out.box
    have zw1 : bm < wr.heap.size := by have := hS.out.size; have := hS.out.low; omega
    by_cases hjn : j < a
    · have KJ2 : Hid (∀ W : World, Sees wr W → Calls Try.prog 141 #[.int .i64 (p : Int), .int .i64 (p : Int), .func (.func 142) #[] #[]] W fun e w' => ∃ A2, e = .returned (.slice A2 p p) ∧ BBX w' rows A2 (rng wr.heap.size w'.heap.size) ∧ Sees wr w') := fun W h =>
        (KT2.out W).mono fun e w' ⟨A2, he, hQ, hb⟩ => ⟨A2, he, bbX_ok.mono hQ fun k hk => ⟨Nat.le_trans h.size hk.1, hk.2⟩, h.below hb⟩
      have HLEN : Hid ((List.replicate j rows).length = j) := List.length_replicate
      have HST : Hid (List.replicate (j + 1) rows = List.replicate j rows ++ [rows]) := List.replicate_succ'
      have JL := Lib.hid hjn
      have j0 : (0 : Int) ≤ (j : Int) := Int.natCast_nonneg _
      have j1 : decide ((j : Int) < (a : Int)) = true := decide_eq_true (by omega)
      have j4 : j ≤ 1048576 := by omega
      go_wp2_with fail
      go_region_law (first
        | (go_simp; go_at_call 141; refine (KJ2.out _ ?_).mono ?_; (first | exact Sees.refl _ | exact (Sees.refl _).drew | exact (Sees.refl _).drew.drew); rintro e wa ⟨A2, rfl, hQ2, hsa⟩; have HQ2 := Lib.hid hQ2; have HSA := Lib.hid hsa; have HU := Lib.hid (hS.out.grow hsa); obtain ⟨p0, p1, p2, p3, p4, o0, o1, o2, o3, o4⟩ := five_facts HU.out.box; obtain ⟨vals, hvl, hown, hp2⟩ := Acc.push bbX_ok hS.out.acc hS.out.size hsa hQ2 (Wa := wa.alloc (.cells #[.slice A2 p p] 24)) (C := p) ((Below.refl _ _).alloc (Nat.le_refl _) _); have hln : List.length rows = p := HRL.out; rw [hln, HLEN.out] at hp2; rw [HLEN.out] at hown; have HOWN := Lib.hid hown; have HP := Lib.hid hp2; have zwa : bm < wa.heap.size := (Nat.lt_of_lt_of_le zw1 hsa.size); clear hown hp2 hQ2 hsa)
        | (refine step_one Try.elBBB (wa.alloc (.cells #[.slice A2 p p] 24)) (by rfl) _ _ (by rfl) s2 j wa.heap.size v (.slice A2 p p) vals (by rfl) (by rfl) HOWN.out (by simp [go_sem]) rfl j4 (by have := HU.out.size; simp; omega) ?_; intro v' w' ho hg hat; have hacc := HP.out v' w' ho hg hat; obtain ⟨Zv, lv, Cv, hvf⟩ := hacc.form; subst hvf; obtain ⟨hX, hbx⟩ := (HU.out.grow ((Below.refl _ _).alloc (Nat.le_refl _) _)).push hacc hg; have HX := Lib.hid hX; obtain ⟨q0, q1, q2, q3, q4, t0, t1, t2, t3, t4⟩ := five_facts hbx; clear hX hacc ho hg hat))
      all_goals
        have HX2 : Hid (Emp w0 bm s2 t a p ts A1 (List.replicate (j + 1) rows) (.slice Zv lv Cv) (w'.setCell ⟨bm, 4, none⟩ (.slice Zv lv Cv))) := by rw [HST.out]; exact HX.out
        go_wp2_with fail
        go_roundw
        case rel => exact ⟨j + 1, _, JL.out, by go_num, HX2.out⟩
        case measure => have := JL.out; simp [intOf]; omega
    · obtain rfl : j = a := by omega
      have HRr := (hS.out.below.block (w.heap.size + 1) (by omega)).trans HR0.out
      obtain ⟨u0, u1, u2, u3, u4, x0, x1, x2, x3, x4⟩ := five_facts HRr
      have hdone := hS.out.acc.done
      rw [List.length_replicate] at hdone
      obtain ⟨A2, C2, hv2, hR2⟩ := hdone
      subst hv2
      have HR2 := Lib.hid hR2
      clear hR2
      go_wp2_with fail
      obtain ⟨y0, y1, y2, y3, y4, _, _, _, _, _⟩ := five_facts (five_block HRr (.int .i64 (t : Int)) (.int .i64 (j : Int)) (.int .i64 (p : Int)) (.slice A1 t t) (.slice A2 j C2))
      refine bodyPost_ret (v := .agg #[.int .i64 (t : Int), .int .i64 (j : Int), .int .i64 (p : Int), .slice A1 t t, .slice A2 j C2]) (by simp [results, Try.results66, go_sem, y0, y1, y2, y3, y4]) rfl ?_
      exact hS.out.mret HR2.out (by omega) (by omega) (FIN.out _ hS.out.below) _ _ _ _ _ HTS.out List.length_replicate
theorem emptyModel_any (t a p : Nat) (ht : t ≤ 3) (ha : a ≤ 4) (hp : p ≤ 8) (w : World) :
    Calls Try.prog 66 #[.agg #[.int .i64 (t : Int), .int .i64 (a : Int)], .int .i64 (p : Int)] w (MRet t a p (tab t p fun _ _ => false) (List.replicate a (tab p p fun _ _ => false)) w) := (emptyModelX_any t a p ht ha hp w).mono fun _ _ h => h.toM
end Go.Proofs.Ytcgbepmhfimbjaa

namespace Go.Proofs.Ytcgbepmhfimbjaa
open Go.RowKit

set_option maxHeartbeats 400000 in
theorem every1b_any (q : Bool) (N : Nat) (caps : Array Value) (eg : ∀ args w, (callFunc N args).run Try.prog w = .ok (.enter N args) w) (bh : Nat) (v : Value) (w : World) (hc : w.cell? ⟨bh, 0, none⟩ = some (.func (.func N) #[] caps))
    (KC : Hid (∀ W : World, Sees w W → Calls Try.prog N (#[v] ++ caps) W fun e w' => e = .returned (.bool q) ∧ Below W.heap.size W w')) :
    Calls Try.prog 228 #[v, .pointer (some ⟨bh, 0, none⟩)] w fun e w' => e = .returned (.bool (!q)) ∧ Below w.heap.size w w' := by
  cases q
  all_goals
    go_enter Try.func228, Try.ntmps228
    go_wp2_with (go_at_fn N; refine (KC.out _ (Sees.refl _)).mono ?_; rintro e w1 ⟨rfl, hb⟩)
    go_ret
    exact ⟨rfl, by assumption⟩

set_option maxHeartbeats 1000000 in
theorem indexb_any (G : Bool → Bool) (bh : Nat) (xs : List (Bool)) (hm : xs.length ≤ 9223372036854775807) (A : Option Addr) (C : Nat) (w : World) (hl : BoolsL 0 w xs A)
    (KC : Hid (∀ (W : World) (x : Bool), Sees w W → x ∈ xs → Calls Try.prog 228 #[.bool x, .pointer (some ⟨bh, 0, none⟩)] W fun e w' => e = .returned (.bool (!G x)) ∧ Below W.heap.size W w')) :
    Calls Try.prog 237 #[.slice A xs.length C, .func (.func 228) #[] #[.pointer (some ⟨bh, 0, none⟩)]] w fun e w' => (∃ i : Int, e = .returned (.int .i64 i) ∧ decide (0 ≤ i) = !(xs.all G)) ∧ Below w.heap.size w w' := by
  have HD : Hid (xs.all G = allG G xs 0) := allG_zero G xs
  have HH := Lib.hid hl
  clear hl
  go_enter Try.func237, Try.ntmps237
  go_wp2_with fail
  go_loopw [8] (fun i wr => ∃ j : Nat, j ≤ xs.length ∧ i = .int .i64 j ∧ Hid (xs.all G = allG G xs j) ∧ Hid (Below w.heap.size w wr)) (fun i _ => xs.length - (intOf i).toNat)
  case atStart => exact ⟨0, Nat.zero_le _, rfl, HD, Below.refl _ _⟩
  case round =>
    obtain ⟨j, hj, rfl, hq, hw⟩ := hrel
    clear HD
    by_cases hjl : j < xs.length
    · obtain ⟨b, o, _, rfl, hat⟩ := HH.out (by rintro rfl; simp at hjl)
      have c0' := hat j xs[j] (List.getElem?_eq_getElem hjl)
      have hst0 := allG_step G xs hjl
      have hin := List.getElem_mem hjl
      obtain ⟨x, hx⟩ : ∃ x, x = xs[j] := ⟨_, rfl⟩
      rw [← hx] at c0' hst0 hin
      have c0 := kc hw.out c0'
      have KX := Lib.hid (KC.out wr x hw.out hin)
      have HA := Lib.hid hat
      have hst : Hid (xs.all G = (G x && allG G xs (j + 1))) := hq.out.trans hst0
      obtain ⟨q, hqe⟩ : ∃ q : Bool, q = G x := ⟨_, rfl⟩
      rw [← hqe] at KX hst
      clear hat hst0 c0' hx hin hqe hq
      have hj0 : (0 : Int) ≤ (j : Int) := Int.natCast_nonneg _
      have hj1 : (j : Int) < (xs.length : Int) := by omega
      cases q
      · have hq2 : Hid (decide ((0 : Int) ≤ (j : Int)) = !(xs.all G)) := by show _ = _; rw [hst.out, decide_eq_true hj0]; rfl
        go_wp2_with fail
        refine KX.out.mono ?_
        rintro e w1 ⟨rfl, hb1⟩
        have hw2 := Sees.below hw.out hb1
        clear hb1 c0
        go_wp2_with fail
        go_ret
        exact ⟨⟨_, rfl, hq2.out⟩, hw2⟩
      · have hq2 : Hid (xs.all G = allG G xs (j + 1)) := by show _ = _; rw [hst.out]; rfl
        go_wp2_with fail
        refine KX.out.mono ?_
        rintro e w1 ⟨rfl, hb1⟩
        have hw2 := Lib.hid (Sees.below hw.out hb1)
        clear hb1 c0
        go_wp2_with fail
        go_roundw
        case rel => exact ⟨j + 1, by omega, by go_num, hq2, hw2⟩
        case measure => simp [intOf]; omega
    · obtain rfl : j = xs.length := by omega
      have hq2 : Hid (decide ((0 : Int) ≤ -1) = !(xs.all G)) := by show _ = _; rw [hq.out, allG_end]; rfl
      clear hq
      go_wp2_with fail
      go_ret
      exact ⟨⟨_, rfl, hq2.out⟩, hw.out⟩

set_option maxHeartbeats 400000 in
theorem containsb_any (G : Bool → Bool) (bh : Nat) (xs : List (Bool)) (hm : xs.length ≤ 9223372036854775807) (A : Option Addr) (C : Nat) (w : World) (hl : BoolsL 0 w xs A)
    (KC : Hid (∀ (W : World) (x : Bool), Sees w W → x ∈ xs → Calls Try.prog 228 #[.bool x, .pointer (some ⟨bh, 0, none⟩)] W fun e w' => e = .returned (.bool (!G x)) ∧ Below W.heap.size W w')) :
    Calls Try.prog 227 #[.slice A xs.length C, .func (.func 228) #[] #[.pointer (some ⟨bh, 0, none⟩)]] w fun e w' => e = .returned (.bool (!(xs.all G))) ∧ Below w.heap.size w w' := by
  have KI := Lib.hid (indexb_any G bh xs hm A C w hl KC)
  clear hl
  obtain ⟨q, hq⟩ : ∃ q : Bool, q = xs.all G := ⟨_, rfl⟩
  rw [← hq] at KI ⊢
  clear hq
  go_enter Try.func227, Try.ntmps227
  go_wp2_with fail
  refine KI.out.mono ?_
  rintro e w1 ⟨⟨i, rfl, hi⟩, hb⟩
  by_cases h0 : 0 ≤ i
  · have hi' : q = false := by rw [decide_eq_true h0] at hi; simpa using hi.symm
    subst hi'
    clear hi
    go_wp2_with fail
    go_ret
    exact ⟨rfl, hb⟩
  · have hi' : q = true := by rw [decide_eq_false h0] at hi; simpa using hi.symm
    subst hi'
    clear hi
    have hd : Hid (decide (0 ≤ i) = !true) := decide_eq_false h0
    go_wp2_with fail
    go_ret
    exact ⟨ret_bool hd.out, hb⟩

set_option maxHeartbeats 400000 in
theorem everyb_any (G : Bool → Bool) (N : Nat) (caps : Array Value) (eg : ∀ args w, (callFunc N args).run Try.prog w = .ok (.enter N args) w) (xs : List (Bool)) (hm : xs.length ≤ 9223372036854775807) (A : Option Addr) (C : Nat) (w : World) (hl : BoolsL 0 w xs A)
    (KC : Hid (∀ (W : World) (x : Bool), Sees w W → x ∈ xs → Calls Try.prog N (#[.bool x] ++ caps) W fun e w' => e = .returned (.bool (G x)) ∧ Below W.heap.size W w')) :
    Calls Try.prog 207 #[.slice A xs.length C, .func (.func N) #[] caps] w fun e w' => e = .returned (.bool (xs.all G)) ∧ Below w.heap.size w w' := by
  have KI : Hid (∀ W : World, Sees w W → W.cell? ⟨w.heap.size, 0, none⟩ = some (.func (.func N) #[] caps) → Calls Try.prog 227 #[.slice A xs.length C, .func (.func 228) #[] #[.pointer (some ⟨w.heap.size, 0, none⟩)]] W fun e w' => e = .returned (.bool (!(xs.all G))) ∧ Below W.heap.size W w') := fun W h hc =>
    containsb_any G w.heap.size xs hm A C W (bools_ok.below hl h) (fun W' x h' hx => every1b_any (G x) N caps eg w.heap.size _ W' (kc h' hc) (fun W2 h2 => KC.out W2 x (Sees.below h (Sees.below h' h2)) hx))
  clear hl
  obtain ⟨q, hq⟩ : ∃ q : Bool, q = xs.all G := ⟨_, rfl⟩
  rw [← hq] at KI ⊢
  clear hq
  cases q
  all_goals
    go_enter Try.func207, Try.ntmps207
    go_wp2_with fail
    refine (KI.out _ (by unfold Sees; go_grown) (by simp [go_sem])).mono ?_
    rintro e w1 ⟨rfl, hb⟩
    have B1 : Sees w w1 := Sees.below (by unfold Sees; go_grown) hb
    clear hb
    go_wp2_with fail
    go_ret
    exact ⟨rfl, B1⟩
end Go.Proofs.Ytcgbepmhfimbjaa

namespace Go.Proofs.Ytcgbepmhfimbjaa
open Go.RowKit

set_option maxHeartbeats 400000 in
theorem every1BB_any (q : Bool) (N : Nat) (caps : Array Value) (eg : ∀ args w, (callFunc N args).run Try.prog w = .ok (.enter N args) w) (bh : Nat) (v : Value) (w : World) (hc : w.cell? ⟨bh, 0, none⟩ = some (.func (.func N) #[] caps))
    (KC : Hid (∀ W : World, Sees w W → Calls Try.prog N (#[v] ++ caps) W fun e w' => e = .returned (.bool q) ∧ Below W.heap.size W w')) :
    Calls Try.prog 232 #[v, .pointer (some ⟨bh, 0, none⟩)] w fun e w' => e = .returned (.bool (!q)) ∧ Below w.heap.size w w' := by
  cases q
  all_goals
    go_enter Try.func232, Try.ntmps232
    go_wp2_with (go_at_fn N; refine (KC.out _ (Sees.refl _)).mono ?_; rintro e w1 ⟨rfl, hb⟩)
    go_ret
    exact ⟨rfl, by assumption⟩

set_option maxHeartbeats 1000000 in
theorem indexBB_any (G : List (List Bool) → Bool) (bh : Nat) (xs : List (List (List Bool))) (hm : xs.length ≤ 9223372036854775807) (A : Option Addr) (C : Nat) (w : World) (hl : BBB 0 w xs A)
    (KC : Hid (∀ (W : World) (x : List (List Bool)) (B : Option Addr) (D : Nat), Sees w W → x ∈ xs → BB 0 W x B → Calls Try.prog 232 #[.slice B x.length D, .pointer (some ⟨bh, 0, none⟩)] W fun e w' => e = .returned (.bool (!G x)) ∧ Below W.heap.size W w')) :
    Calls Try.prog 239 #[.slice A xs.length C, .func (.func 232) #[] #[.pointer (some ⟨bh, 0, none⟩)]] w fun e w' => (∃ i : Int, e = .returned (.int .i64 i) ∧ decide (0 ≤ i) = !(xs.all G)) ∧ Below w.heap.size w w' := by
  have HD : Hid (xs.all G = allG G xs 0) := allG_zero G xs
  have HH := Lib.hid hl
  clear hl
  go_enter Try.func239, Try.ntmps239
  go_wp2_with fail
  go_loopw [8] (fun i wr => ∃ j : Nat, j ≤ xs.length ∧ i = .int .i64 j ∧ Hid (xs.all G = allG G xs j) ∧ Hid (Below w.heap.size w wr)) (fun i _ => xs.length - (intOf i).toNat)
  case atStart => exact ⟨0, Nat.zero_le _, rfl, HD, Below.refl _ _⟩
  case round =>
    obtain ⟨j, hj, rfl, hq, hw⟩ := hrel
    clear HD
    by_cases hjl : j < xs.length
    · obtain ⟨b, o, _, rfl, hat⟩ := HH.out (by rintro rfl; simp at hjl)
      obtain ⟨B, D, c0', hQ⟩ := hat j xs[j] (List.getElem?_eq_getElem hjl)
      have hst0 := allG_step G xs hjl
      have hin := List.getElem_mem hjl
      obtain ⟨x, hx⟩ : ∃ x, x = xs[j] := ⟨_, rfl⟩
      rw [← hx] at c0' hst0 hin hQ
      have c0 := kc hw.out c0'
      have KX := Lib.hid (KC.out wr x B D hw.out hin (bb_ok.below hQ hw.out))
      have HA := Lib.hid hat
      have hst : Hid (xs.all G = (G x && allG G xs (j + 1))) := hq.out.trans hst0
      obtain ⟨q, hqe⟩ : ∃ q : Bool, q = G x := ⟨_, rfl⟩
      rw [← hqe] at KX hst
      clear hat hst0 c0' hx hin hQ hqe hq
      have hj0 : (0 : Int) ≤ (j : Int) := Int.natCast_nonneg _
      have hj1 : (j : Int) < (xs.length : Int) := by omega
      cases q
      · have hq2 : Hid (decide ((0 : Int) ≤ (j : Int)) = !(xs.all G)) := by show _ = _; rw [hst.out, decide_eq_true hj0]; rfl
        go_wp2_with fail
        refine KX.out.mono ?_
        rintro e w1 ⟨rfl, hb1⟩
        have hw2 := Sees.below hw.out hb1
        clear hb1 c0
        go_wp2_with fail
        go_ret
        exact ⟨⟨_, rfl, hq2.out⟩, hw2⟩
      · have hq2 : Hid (xs.all G = allG G xs (j + 1)) := by show _ = _; rw [hst.out]; rfl
        go_wp2_with fail
        refine KX.out.mono ?_
        rintro e w1 ⟨rfl, hb1⟩
        have hw2 := Lib.hid (Sees.below hw.out hb1)
        clear hb1 c0
        go_wp2_with fail
        go_roundw
        case rel => exact ⟨j + 1, by omega, by go_num, hq2, hw2⟩
        case measure => simp [intOf]; omega
    · obtain rfl : j = xs.length := by omega
      have hq2 : Hid (decide ((0 : Int) ≤ -1) = !(xs.all G)) := by show _ = _; rw [hq.out, allG_end]; rfl
      clear hq
      go_wp2_with fail
      go_ret
      exact ⟨⟨_, rfl, hq2.out⟩, hw.out⟩

set_option maxHeartbeats 400000 in
theorem containsBB_any (G : List (List Bool) → Bool) (bh : Nat) (xs : List (List (List Bool))) (hm : xs.length ≤ 9223372036854775807) (A : Option Addr) (C : Nat) (w : World) (hl : BBB 0 w xs A)
    (KC : Hid (∀ (W : World) (x : List (List Bool)) (B : Option Addr) (D : Nat), Sees w W → x ∈ xs → BB 0 W x B → Calls Try.prog 232 #[.slice B x.length D, .pointer (some ⟨bh, 0, none⟩)] W fun e w' => e = .returned (.bool (!G x)) ∧ Below W.heap.size W w')) :
    Calls Try.prog 231 #[.slice A xs.length C, .func (.func 232) #[] #[.pointer (some ⟨bh, 0, none⟩)]] w fun e w' => e = .returned (.bool (!(xs.all G))) ∧ Below w.heap.size w w' := by
  have KI := Lib.hid (indexBB_any G bh xs hm A C w hl KC)
  clear hl
  obtain ⟨q, hq⟩ : ∃ q : Bool, q = xs.all G := ⟨_, rfl⟩
  rw [← hq] at KI ⊢
  clear hq
  go_enter Try.func231, Try.ntmps231
  go_wp2_with fail
  refine KI.out.mono ?_
  rintro e w1 ⟨⟨i, rfl, hi⟩, hb⟩
  by_cases h0 : 0 ≤ i
  · have hi' : q = false := by rw [decide_eq_true h0] at hi; simpa using hi.symm
    subst hi'
    clear hi
    go_wp2_with fail
    go_ret
    exact ⟨rfl, hb⟩
  · have hi' : q = true := by rw [decide_eq_false h0] at hi; simpa using hi.symm
    subst hi'
    clear hi
    have hd : Hid (decide (0 ≤ i) = !true) := decide_eq_false h0
    go_wp2_with fail
    go_ret
    exact ⟨ret_bool hd.out, hb⟩

set_option maxHeartbeats 400000 in
theorem everyBB_any (G : List (List Bool) → Bool) (N : Nat) (caps : Array Value) (eg : ∀ args w, (callFunc N args).run Try.prog w = .ok (.enter N args) w) (xs : List (List (List Bool))) (hm : xs.length ≤ 9223372036854775807) (A : Option Addr) (C : Nat) (w : World) (hl : BBB 0 w xs A)
    (KC : Hid (∀ (W : World) (x : List (List Bool)) (B : Option Addr) (D : Nat), Sees w W → x ∈ xs → BB 0 W x B → Calls Try.prog N (#[.slice B x.length D] ++ caps) W fun e w' => e = .returned (.bool (G x)) ∧ Below W.heap.size W w')) :
    Calls Try.prog 210 #[.slice A xs.length C, .func (.func N) #[] caps] w fun e w' => e = .returned (.bool (xs.all G)) ∧ Below w.heap.size w w' := by
  have KI : Hid (∀ W : World, Sees w W → W.cell? ⟨w.heap.size, 0, none⟩ = some (.func (.func N) #[] caps) → Calls Try.prog 231 #[.slice A xs.length C, .func (.func 232) #[] #[.pointer (some ⟨w.heap.size, 0, none⟩)]] W fun e w' => e = .returned (.bool (!(xs.all G))) ∧ Below W.heap.size W w') := fun W h hc =>
    containsBB_any G w.heap.size xs hm A C W (bbb_ok.below hl h) (fun W' x B D h' hx hQ => every1BB_any (G x) N caps eg w.heap.size _ W' (kc h' hc) (fun W2 h2 => KC.out W2 x B D (Sees.below h (Sees.below h' h2)) hx (bb_ok.below hQ h2)))
  clear hl
  obtain ⟨q, hq⟩ : ∃ q : Bool, q = xs.all G := ⟨_, rfl⟩
  rw [← hq] at KI ⊢
  clear hq
  cases q
  all_goals
    go_enter Try.func210, Try.ntmps210
    go_wp2_with fail
    refine (KI.out _ (by unfold Sees; go_grown) (by simp [go_sem])).mono ?_
    rintro e w1 ⟨rfl, hb⟩
    have B1 : Sees w w1 := Sees.below (by unfold Sees; go_grown) hb
    clear hb
    go_wp2_with fail
    go_ret
    exact ⟨rfl, B1⟩
end Go.Proofs.Ytcgbepmhfimbjaa
