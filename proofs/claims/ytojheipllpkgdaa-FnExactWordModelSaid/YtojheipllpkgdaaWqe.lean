/- WordModel: contract of impl.WordModel. How a law's row is closed: a law that answers true and changes nothing that was there. No walk. An automaton that is handed to a law, opened. Models and costs that are handed to a law, opened. -/
import Derived.Test.YtojheipllpkgdaaWqd
import Derived.Deep.RegionLaw
import Derived.Test.YtojheipllpkgdaaRows
import Derived.Test.YtojheipllpkgdaaFo
import Derived.Test.YtojheipllpkgdaaInts
import Derived.ProofKit
import Derived.OpenShut
import Derived.Below
import Derived.ChangeSame
import Derived.Lib.SmallJoins
import Derived.WideKeyArgs
import Derived.Deep.Slices
import Derived.Test.YtojheipllpkgdaaAut
import Derived.Test.YtojheipllpkgdaaMod
namespace Go.Proofs.Ytojheipllpkgdaa
open Go.RowKit
set_option linter.unusedVariables false

/-- Put into the result's box: the list of actions lies ahead of the tests. -/
theorem mend5b {t a p : Int} {w W : World} {b lo1 hi1 lo2 hi2 n m : Nat} {ts : List (List Bool)} {acts : List (List (List Bool))} {A1 A2 : Option Addr} {C1 C2 : Nat} (h1 : BBF W ts A1 (rng lo1 hi1)) (h2 : BBBF W acts A2 (rng lo2 hi2)) (hw : Below w.heap.size w W) (hn : w.heap.size ≤ b) (hb : b < lo2) (hl : lo2 ≤ hi2) (hm : hi2 ≤ lo1) (hh : lo1 ≤ hi1) (hz : hi1 ≤ W.heap.size) (ht : ts.length = n) (ha : acts.length = m) (v0 v1 v2 v3 v4 : Value) :
    MEnd t a p ts acts 0 w (.returned (.tuple #[.agg #[.int .i64 t, .int .i64 a, .int .i64 p, .slice A1 n C1, .slice A2 m C2], .int .i64 0])) (((((W.setCell ⟨b, 0, none⟩ v0).setCell ⟨b, 1, none⟩ v1).setCell ⟨b, 2, none⟩ v2).setCell ⟨b, 3, none⟩ v3).setCell ⟨b, 4, none⟩ v4) := by
  subst ht ha
  have zs : (((((W.setCell ⟨b, 0, none⟩ v0).setCell ⟨b, 1, none⟩ v1).setCell ⟨b, 2, none⟩ v2).setCell ⟨b, 3, none⟩ v3).setCell ⟨b, 4, none⟩ v4).heap.size = W.heap.size := by simp
  refine ⟨A1, A2, C1, C2, rfl, ⟨by rw [zs]; omega, rng lo1 hi1, rng lo2 hi2, bbF_ok.keep h1 fun k hk => five_keep W b k _ _ _ _ _ (by have := hk.1; omega), bbbF_ok.keep h2 fun k hk => five_keep W b k _ _ _ _ _ (by have := hk.1; omega), fun k hk => ⟨by have := hk.1; omega, by rw [zs]; have := hk.2; omega⟩, fun k hk => ⟨by have := hk.1; omega, by rw [zs]; have := hk.2; omega⟩, fun k h3 h4 => by have := h3.1; have := h4.2; omega⟩, five_below hw hn _ _ _ _ _⟩

set_option maxHeartbeats 4000000 in
set_option maxRecDepth 100000 in
theorem implWordModel_no (t a : Int) (p r : List Int) (hx : p.length + r.length ≤ 1048576) (hv : validW t a p r = false) (A B : Option Addr) (C D : Nat) (w : World) (hA0 : Ints w p A) (hB0 : Ints w r B) :
    Calls Try.prog 13 #[.agg #[.int .i64 t, .int .i64 a], .agg #[.slice A p.length C, .slice B r.length D]] w (MEnd 0 0 0 [] [] 1 w) := by
  obtain ⟨w0, hw0⟩ : ∃ w0, w0 = ((w.alloc (.cells #[.int .i64 t, .int .i64 a] 28)).alloc (.cells #[.slice A p.length C, .slice B r.length D] 36)).alloc (.cells #[.int .i64 0, .int .i64 0, .int .i64 0, .slice none 0 0, .slice none 0 0] 32) := ⟨_, rfl⟩
  have B0 : Sees w w0 := by rw [hw0]; exact (((Sees.refl w).alloc _).alloc _).alloc _
  have hA := hA0.sees B0; have hB := hB0.sees B0
  have hg0 : w0.heap[w.heap.size]? = some (.cells #[.int .i64 t, .int .i64 a] 28 (0, 0)) := by
    rw [hw0]; exact (Below.heap_alloc _ _ _ (by simp; omega)).trans ((Below.heap_alloc _ _ _ (by simp)).trans (heap_new _ _ _ rfl))
  have hc0 : w0.heap[w.heap.size + 1]? = some (.cells #[.slice A p.length C, .slice B r.length D] 36 (0, 0)) := by
    rw [hw0]; exact (Below.heap_alloc _ _ _ (by simp)).trans (heap_new _ _ _ (by simp))
  have hr0 : w0.heap[w.heap.size + 1 + 1]? = some (.cells #[.int .i64 0, .int .i64 0, .int .i64 0, .slice none 0 0, .slice none 0 0] 32 (0, 0)) := by
    rw [hw0]; exact heap_new _ _ _ (by simp)
  have z0 : w.heap.size + 3 ≤ w0.heap.size := by rw [hw0]; simp
  have FIN : Hid (∀ W : World, Below w0.heap.size w0 W → Sees w W) := fun W h => B0.below h
  have K1 : Hid (∀ W : World, Sees w0 W → Calls Try.prog 53 #[.agg #[.int .i64 t, .int .i64 a], .agg #[.slice A p.length C, .slice B r.length D]] W fun e w' => e = .returned (.bool false) ∧ Below W.heap.size W w') := fun W h => by
    rw [← hv]; exact implValidWord_any t a p r hx A B C D W (hA.sees h) (hB.sees h)
  have HG0 := Lib.hid hg0; have HC0 := Lib.hid hc0; have HR0 := Lib.hid hr0
  clear hA hB hA0 hB0 hv B0 hg0 hc0 hr0
  have a0 := Fo.cell_of_block HG0.out 0; have a1 := Fo.cell_of_block HG0.out 1; have c0 := Fo.cell_of_block HC0.out 0; have c1 := Fo.cell_of_block HC0.out 1
  go_enter Try.func13, Try.ntmps13
  have HW0 := Lib.hid hw0
  go_wp2_with fail
  rw [← hw0]
  clear hw0
  refine (K1.out _ (Sees.refl _)).mono ?_
  rintro e w1 ⟨rfl, hb⟩
  have HB1 := Lib.hid hb
  have HG1 := Lib.hid ((hb.block _ (by omega)).trans HG0.out)
  have HC1 := Lib.hid ((hb.block _ (by omega)).trans HC0.out)
  have HR1 := Lib.hid ((hb.block _ (by omega)).trans HR0.out)
  have z1 : w.heap.size + 3 ≤ w1.heap.size := Nat.le_trans z0 hb.size
  clear hb K1 a0 a1 c0 c1
  have a0 := Fo.cell_of_block HG1.out 0; have a1 := Fo.cell_of_block HG1.out 1; have c0 := Fo.cell_of_block HC1.out 0; have c1 := Fo.cell_of_block HC1.out 1
  obtain ⟨u0, u1, u2, u3, u4, x0, x1, x2, x3, x4⟩ := five_facts HR1.out
  go_wp2_with fail
  obtain ⟨y0, y1, y2, y3, y4, _, _, _, _, _⟩ := five_facts (five_block HR1.out (.int .i64 0) (.int .i64 0) (.int .i64 0) (.slice none 0 0) (.slice none 0 0))
  refine bodyPost_ret (v := .tuple #[.agg #[.int .i64 0, .int .i64 0, .int .i64 0, .slice none 0 0, .slice none 0 0], .int .i64 1]) (by simp [results, Try.results13, go_sem, y0, y1, y2, y3, y4]) rfl ?_
  exact MEnd.no (five_below (FIN.out _ HB1.out) (by omega) _ _ _ _ _)
set_option maxHeartbeats 4000000 in
set_option maxRecDepth 100000 in
theorem implWordModel_far (t a : Int) (p r : List Int) (hx : p.length + r.length ≤ 1048576) (hv : validW t a p r = true) (h8 : ¬ p.length ≤ 8) (A B : Option Addr) (C D : Nat) (w : World) (hA0 : Ints w p A) (hB0 : Ints w r B) :
    Calls Try.prog 13 #[.agg #[.int .i64 t, .int .i64 a], .agg #[.slice A p.length C, .slice B r.length D]] w (MEnd 0 0 0 [] [] 3 w) := by
  have t8 : decide ((8 : Int) < (p.length : Int)) = true := decide_eq_true (by omega)
  obtain ⟨w0, hw0⟩ : ∃ w0, w0 = ((w.alloc (.cells #[.int .i64 t, .int .i64 a] 28)).alloc (.cells #[.slice A p.length C, .slice B r.length D] 36)).alloc (.cells #[.int .i64 0, .int .i64 0, .int .i64 0, .slice none 0 0, .slice none 0 0] 32) := ⟨_, rfl⟩
  have B0 : Sees w w0 := by rw [hw0]; exact (((Sees.refl w).alloc _).alloc _).alloc _
  have hA := hA0.sees B0; have hB := hB0.sees B0
  have hg0 : w0.heap[w.heap.size]? = some (.cells #[.int .i64 t, .int .i64 a] 28 (0, 0)) := by
    rw [hw0]; exact (Below.heap_alloc _ _ _ (by simp; omega)).trans ((Below.heap_alloc _ _ _ (by simp)).trans (heap_new _ _ _ rfl))
  have hc0 : w0.heap[w.heap.size + 1]? = some (.cells #[.slice A p.length C, .slice B r.length D] 36 (0, 0)) := by
    rw [hw0]; exact (Below.heap_alloc _ _ _ (by simp)).trans (heap_new _ _ _ (by simp))
  have hr0 : w0.heap[w.heap.size + 1 + 1]? = some (.cells #[.int .i64 0, .int .i64 0, .int .i64 0, .slice none 0 0, .slice none 0 0] 32 (0, 0)) := by
    rw [hw0]; exact heap_new _ _ _ (by simp)
  have z0 : w.heap.size + 3 ≤ w0.heap.size := by rw [hw0]; simp
  have FIN : Hid (∀ W : World, Below w0.heap.size w0 W → Sees w W) := fun W h => B0.below h
  have K1 : Hid (∀ W : World, Sees w0 W → Calls Try.prog 53 #[.agg #[.int .i64 t, .int .i64 a], .agg #[.slice A p.length C, .slice B r.length D]] W fun e w' => e = .returned (.bool true) ∧ Below W.heap.size W w') := fun W h => by
    rw [← hv]; exact implValidWord_any t a p r hx A B C D W (hA.sees h) (hB.sees h)
  have HG0 := Lib.hid hg0; have HC0 := Lib.hid hc0; have HR0 := Lib.hid hr0
  clear hA hB hA0 hB0 hv B0 hg0 hc0 hr0
  have a0 := Fo.cell_of_block HG0.out 0; have a1 := Fo.cell_of_block HG0.out 1; have c0 := Fo.cell_of_block HC0.out 0; have c1 := Fo.cell_of_block HC0.out 1
  go_enter Try.func13, Try.ntmps13
  have HW0 := Lib.hid hw0
  go_wp2_with fail
  rw [← hw0]
  clear hw0
  refine (K1.out _ (Sees.refl _)).mono ?_
  rintro e w1 ⟨rfl, hb⟩
  have HB1 := Lib.hid hb
  have HG1 := Lib.hid ((hb.block _ (by omega)).trans HG0.out)
  have HC1 := Lib.hid ((hb.block _ (by omega)).trans HC0.out)
  have HR1 := Lib.hid ((hb.block _ (by omega)).trans HR0.out)
  have z1 : w.heap.size + 3 ≤ w1.heap.size := Nat.le_trans z0 hb.size
  clear hb K1 a0 a1 c0 c1
  have a0 := Fo.cell_of_block HG1.out 0; have a1 := Fo.cell_of_block HG1.out 1; have c0 := Fo.cell_of_block HC1.out 0; have c1 := Fo.cell_of_block HC1.out 1
  obtain ⟨u0, u1, u2, u3, u4, x0, x1, x2, x3, x4⟩ := five_facts HR1.out
  go_wp2_with fail
  obtain ⟨y0, y1, y2, y3, y4, _, _, _, _, _⟩ := five_facts (five_block HR1.out (.int .i64 0) (.int .i64 0) (.int .i64 0) (.slice none 0 0) (.slice none 0 0))
  refine bodyPost_ret (v := .tuple #[.agg #[.int .i64 0, .int .i64 0, .int .i64 0, .slice none 0 0, .slice none 0 0], .int .i64 3]) (by simp [results, Try.results13, go_sem, y0, y1, y2, y3, y4]) rfl ?_
  exact MEnd.no (five_below (FIN.out _ HB1.out) (by omega) _ _ _ _ _)
set_option maxHeartbeats 4000000 in
set_option maxRecDepth 100000 in
theorem implWordModel_yes (t a : Nat) (p r : List Int) (hx : p.length + r.length ≤ 1048576) (hv : validW t a p r = true) (h8 : p.length ≤ 8) (A B : Option Addr) (C D : Nat) (w : World) (hA0 : Ints w p A) (hB0 : Ints w r B) :
    Calls Try.prog 13 #[.agg #[.int .i64 (t : Int), .int .i64 (a : Int)], .agg #[.slice A p.length C, .slice B r.length D]] w (MEnd t a p.length (wmT t p) (wmA a p.length r) 0 w) := by
  obtain ⟨_, ht3, _, ha4, hlen, hpb, hrb⟩ := wmOk_of hv
  have t8 : decide ((8 : Int) < (p.length : Int)) = false := decide_eq_false (by omega)
  obtain ⟨w0, hw0⟩ : ∃ w0, w0 = ((w.alloc (.cells #[.int .i64 (t : Int), .int .i64 (a : Int)] 28)).alloc (.cells #[.slice A p.length C, .slice B r.length D] 36)).alloc (.cells #[.int .i64 0, .int .i64 0, .int .i64 0, .slice none 0 0, .slice none 0 0] 32) := ⟨_, rfl⟩
  have B0 : Sees w w0 := by rw [hw0]; exact (((Sees.refl w).alloc _).alloc _).alloc _
  have hA := hA0.sees B0; have hB := hB0.sees B0
  have hg0 : w0.heap[w.heap.size]? = some (.cells #[.int .i64 (t : Int), .int .i64 (a : Int)] 28 (0, 0)) := by
    rw [hw0]; exact (Below.heap_alloc _ _ _ (by simp; omega)).trans ((Below.heap_alloc _ _ _ (by simp)).trans (heap_new _ _ _ rfl))
  have hc0 : w0.heap[w.heap.size + 1]? = some (.cells #[.slice A p.length C, .slice B r.length D] 36 (0, 0)) := by
    rw [hw0]; exact (Below.heap_alloc _ _ _ (by simp)).trans (heap_new _ _ _ (by simp))
  have hr0 : w0.heap[w.heap.size + 1 + 1]? = some (.cells #[.int .i64 0, .int .i64 0, .int .i64 0, .slice none 0 0, .slice none 0 0] 32 (0, 0)) := by
    rw [hw0]; exact heap_new _ _ _ (by simp)
  have z0 : w.heap.size + 3 ≤ w0.heap.size := by rw [hw0]; simp
  have FIN : Hid (∀ W : World, Below w0.heap.size w0 W → Sees w W) := fun W h => B0.below h
  have K1 : Hid (∀ W : World, Sees w0 W → Calls Try.prog 53 #[.agg #[.int .i64 (t : Int), .int .i64 (a : Int)], .agg #[.slice A p.length C, .slice B r.length D]] W fun e w' => e = .returned (.bool true) ∧ Below W.heap.size W w') := fun W h => by
    rw [← hv]; exact implValidWord_any (t : Int) (a : Int) p r hx A B C D W (hA.sees h) (hB.sees h)
  have K2 : Hid (∀ W : World, Calls Try.prog 54 #[.agg #[.int .i64 (t : Int), .int .i64 (a : Int)], .int .i64 (p.length : Int)] W fun e w' => ∃ (A1 B1 : Option Addr) (C1 D1 m : Nat), e = .returned (.agg #[.int .i64 (t : Int), .int .i64 (a : Int), .int .i64 (p.length : Int), .slice A1 t C1, .slice B1 a D1]) ∧ W.heap.size ≤ m ∧ m ≤ w'.heap.size ∧ BBBF w' (wmV a p.length r 0) B1 (rng m w'.heap.size) ∧ Below W.heap.size W w') := fun W =>
    (emptyModel_any t a p.length (by omega) (by omega) h8 W).mono fun e w' ⟨A1, B1, C1, D1, m, h1, h2, h3, h4, h5, h6⟩ => ⟨A1, B1, C1, D1, m, by rw [h1, tab_len, List.length_replicate], h2, h3, by rw [wmV_zero]; exact h5, h6⟩
  have K3 : Hid (∀ W : World, Sees w0 W → Calls Try.prog 55 #[.int .i64 (t : Int), .int .i64 (p.length : Int), .func (.func 56) #[] #[.pointer (some ⟨w.heap.size + 1, 0, none⟩)]] W fun e w' => ∃ A1, e = .returned (.slice A1 t t) ∧ BBF w' (wmT t p) A1 (rng W.heap.size w'.heap.size) ∧ Below W.heap.size W w') := fun W h =>
    tableOf_any 56 #[.pointer (some ⟨w.heap.size + 1, 0, none⟩)] (enters_of Try.func56 (by kernel_rfl) rfl) t p.length (by omega) h8 (fun i x => bitB (nth p x) i) W (fun W2 x y h2 hx2 hy => wmClo_any p x y (by omega) hy h8 (hpb y hy) (w.heap.size + 1) A C W2 (hA.sees (h.below h2)) (Fo.cell_of_block (((h.below h2).block _ (by omega)).trans hc0) 0))
  have HB0 := Lib.hid hB0; have HL := Lib.hid hlen; have HRB := Lib.hid hrb; have H8 := Lib.hid h8; have HA4 := Lib.hid ha4
  clear hlen hrb hpb ha4 ht3
  have HG0 := Lib.hid hg0; have HC0 := Lib.hid hc0; have HR0 := Lib.hid hr0
  clear hA hB hA0 hB0 hv B0 hg0 hc0 hr0
  have a0 := Fo.cell_of_block HG0.out 0; have a1 := Fo.cell_of_block HG0.out 1; have c0 := Fo.cell_of_block HC0.out 0; have c1 := Fo.cell_of_block HC0.out 1
  go_enter Try.func13, Try.ntmps13
  have HW0 := Lib.hid hw0
  go_wp2_with fail
  rw [← hw0]
  clear hw0
  refine (K1.out _ (Sees.refl _)).mono ?_
  rintro e w1 ⟨rfl, hb⟩
  have HB1 := Lib.hid hb
  have HG1 := Lib.hid ((hb.block _ (by omega)).trans HG0.out)
  have HC1 := Lib.hid ((hb.block _ (by omega)).trans HC0.out)
  have HR1 := Lib.hid ((hb.block _ (by omega)).trans HR0.out)
  have z1 : w.heap.size + 3 ≤ w1.heap.size := Nat.le_trans z0 hb.size
  clear hb K1 a0 a1 c0 c1
  have a0 := Fo.cell_of_block HG1.out 0; have a1 := Fo.cell_of_block HG1.out 1; have c0 := Fo.cell_of_block HC1.out 0; have c1 := Fo.cell_of_block HC1.out 1
  go_wp2_with fail
  refine (K2.out _).mono ?_
  rintro e w2 ⟨A1, B1, C1, D1, m, rfl, hm1, hm2, hacts, hb⟩
  have HB2 := Lib.hid (HB1.out.trans (hb.mono HB1.out.size))
  have HM := Lib.hid (And.intro hm1 hm2)
  obtain ⟨bm, hbm⟩ : ∃ bm, bm = w2.heap.size := ⟨_, rfl⟩
  obtain ⟨w3, hw3⟩ : ∃ w3, w3 = w2.alloc (.cells #[.int .i64 (t : Int), .int .i64 (a : Int), .int .i64 (p.length : Int), .slice A1 t C1, .slice B1 a D1] 32) := ⟨_, rfl⟩
  have z2 : w1.heap.size ≤ w2.heap.size := hb.size
  have hb3 : Below w2.heap.size w2 w3 := by rw [hw3]; exact (Below.refl _ _).alloc (Nat.le_refl _) _
  have HB3 := Lib.hid (HB2.out.trans (hb3.mono HB2.out.size))
  have hz3 : bm < w3.heap.size := by rw [hw3, hbm]; simp
  have hk3 : w3.heap[bm]? = some (.cells #[.int .i64 (t : Int), .int .i64 (a : Int), .int .i64 (p.length : Int), .slice A1 t C1, .slice B1 a D1] 32 (0, 0)) := by rw [hw3]; exact heap_new _ _ _ hbm
  have hacts3 : BBBF w3 (wmV a p.length r 0) B1 (rng m bm) := by rw [hbm]; exact bbbF_ok.keep hacts fun k hk => hb3.block k hk.2
  have HK3 := Lib.hid hk3; have HA3 := Lib.hid hacts3
  have HG3 := Lib.hid ((HB3.out.block _ (by omega)).trans HG0.out)
  have HC3 := Lib.hid ((HB3.out.block _ (by omega)).trans HC0.out)
  have HR3 := Lib.hid ((HB3.out.block _ (by omega)).trans HR0.out)
  have zm : w.heap.size + 3 ≤ bm := by rw [hbm]; omega
  have hmb : m ≤ bm := by rw [hbm]; exact hm2
  have HZ3 := Lib.hid hz3
  clear hb K2 hacts hacts3 hk3 hm1 hm2 hb3
  clear a0 a1 c0 c1
  have a0 := Fo.cell_of_block HG3.out 0; have c1 := Fo.cell_of_block HC3.out 1
  rw [hw3] at a0
  go_wp2_with fail
  rw [← hw3, ← hbm]
  rw [← hw3] at a0
  have HHW := Lib.hid hw3; have HHB := Lib.hid hbm
  clear hw3 hbm
  refine (K3.out _ HB3.out).mono ?_
  rintro e w4 ⟨A2, rfl, hQ, hb⟩
  have HB4 := Lib.hid (HB3.out.trans (hb.mono HB3.out.size))
  have hk4 := (hb.block _ HZ3.out).trans HK3.out
  have HA4' : Hid (BBBF w4 (wmV a p.length r 0) B1 (rng m bm)) := bbbF_ok.keep HA3.out fun k hk => hb.block k (Nat.lt_trans hk.2 HZ3.out)
  obtain ⟨w5, hw5⟩ : ∃ w5, w5 = w4.setCell ⟨bm, 3, none⟩ (.slice A2 t t) := ⟨_, rfl⟩
  have hs5 : w5.heap.size = w4.heap.size := by rw [hw5]; simp
  have hk5 : ∀ k, k ≠ bm → w5.heap[k]? = w4.heap[k]? := fun k hk => by rw [hw5]; exact Below.heap_setCell _ _ _ _ hk
  have HK5 : Hid (w5.heap[bm]? = some (.cells #[.int .i64 (t : Int), .int .i64 (a : Int), .int .i64 (p.length : Int), .slice A2 t t, .slice B1 a D1] 32 (0, 0))) := by show _ = _; rw [hw5, Fo.block_setCell hk4 _]; rfl
  have HA5 : Hid (BBBF w5 (wmV a p.length r 0) B1 (rng m bm)) := bbbF_ok.keep HA4'.out fun k hk => hk5 k (by have := hk.2; omega)
  have HT5 : Hid (BBF w5 (wmT t p) A2 (rng w3.heap.size w4.heap.size)) := bbF_ok.keep hQ fun k hk => hk5 k (by have := hk.1; have := HZ3.out; omega)
  have HB5 : Hid (Sees w w5) := by
    have h := FIN.out _ HB4.out
    show Sees w w5
    rw [hw5]
    exact Below.setCell h (show w.heap.size ≤ bm by omega) _
  have HC5 := Lib.hid ((hk5 (w.heap.size + 1) (by omega)).trans ((HB4.out.block _ (by omega)).trans HC0.out))
  have HR5 := Lib.hid ((hk5 (w.heap.size + 1 + 1) (by omega)).trans ((HB4.out.block _ (by omega)).trans HR0.out))
  have hz4 : w3.heap.size ≤ w4.heap.size := hb.size
  have lm4 : bm < w5.heap.size := by rw [hs5]; exact Nat.lt_of_lt_of_le HZ3.out hb.size
  have HI5 : Hid (Ints w5 r B) := HB0.out.sees HB5.out
  have hm4 := Fo.cell_of_block hk4 3
  have hf4 := Fo.unfrozen_of_block hk4 3
  have c1 := Fo.cell_of_block HC5.out 1
  clear hb K3 hQ hk4 hk5 a0
  rw [hw5] at c1
  go_wp2_with fail
  rw [← hw5]
  clear hm4 hf4 c1
  have HW5 := Lib.hid hw5
  clear hw5
  go_loopw [35] (fun i wr => ∃ x : Nat, x ≤ r.length ∧ i = .int .i64 x ∧ Hid (BBBF wr (wmV a p.length r x) B1 (rng m bm)) ∧ Hid (ButF (rng m bm) w5 wr)) (fun i _ => r.length - (intOf i).toNat)
  case atStart => exact ⟨0, Nat.zero_le _, rfl, HA5.out, ButF.refl _ _⟩
  case round =>
    obtain ⟨x, hx, rfl, hP, hW⟩ := hrel
    clear HA5
    have kb := (hW.out.block bm lm4 (fun h => by have := h.2; omega)).trans HK5.out
    by_cases hxr : x < r.length
    · have XR := Lib.hid hxr
      have hxn : x + 1 < p.length := by have := HL.out; omega
      obtain ⟨hc0, hca⟩ := HRB.out x hxr
      obtain ⟨c, hc⟩ : ∃ c : Nat, nth r x = (c : Int) := ⟨(nth r x).toNat, by omega⟩
      have hca' : c < a := by omega
      obtain ⟨yo, zo, hOe, hato⟩ := HI5.out (by rintro rfl; simp at hxr)
      have co0 := hato x hxr
      rw [hc] at co0
      have lyo : yo < w.heap.size := World.block_lt_of_cell? _ (⟨yo, zo + x, none⟩ : Addr) (by
        obtain ⟨y', z', he, hat'⟩ := HB0.out (by rintro rfl; simp at hxr)
        rw [hOe] at he
        obtain ⟨rfl, rfl⟩ : yo = y' ∧ zo = z' := by injection he with he; injection he with h1 h2; exact ⟨h1, h2⟩
        exact hat' x hxr)
      have co : wr.cell? ⟨yo, zo + x, none⟩ = some (.int .i64 (c : Int)) := (World.cell?_of_block (a := ⟨yo, zo + x, none⟩) (hW.out.block yo (by have := HB5.out.size; omega) (fun h => by have := h.1; have := HM.out.1; omega))).trans co0
      obtain ⟨a1, b, q, C3, D3, old, hA2, hF0, hF1, hF2, e0, e1, e2, e3, hput⟩ := wmV_put hP.out hxn hc hca'
      have HPUT := Lib.hid hput
      have HBUT := Lib.hid (hW.out.set (i := x + 1) hF2 (.bool true))
      obtain ⟨m0, m1, m2, m3, m4, _, _, _, _, _⟩ := five_facts kb
      have x0 : (0 : Int) ≤ (x : Int) := Int.natCast_nonneg _
      have x1 : (x : Int) < (r.length : Int) := by omega
      have x2 : (x : Int) < (p.length : Int) := by omega
      have x3 : (x : Int) + 1 < (p.length : Int) := by omega
      have x4 : (0 : Int) ≤ (x : Int) + 1 := by omega
      have y0 : (0 : Int) ≤ (c : Int) := Int.natCast_nonneg _
      have y1 : (c : Int) < (a : Int) := by omega
      have x9 : IntKind.i64.wrap ((x : Int) + 1) = (x : Int) + 1 := IntWalk.i64_in _ (by omega)
      subst hA2 hOe
      clear hato co0 hc hca hca' hc0 hxn hxr hF0 hF1 hF2 hput hP hW kb lyo hx
      go_wp2_with fail
      go_roundw
      case rel => exact ⟨x + 1, XR.out, by go_num, HPUT.out, HBUT.out⟩
      case measure => have := XR.out; simp [intOf]; omega
    · have hxe : x = r.length := by omega
      have hall : wmV a p.length r x = wmA a p.length r := wmV_all (by have := HL.out; omega)
      have hAA : BBBF wr (wmA a p.length r) B1 (rng m bm) := by rw [← hall]; exact hP.out
      have HAA := Lib.hid hAA
      have HTT : Hid (BBF wr (wmT t p) A2 (rng w3.heap.size w4.heap.size)) := bbF_ok.keep HT5.out fun k hk => hW.out.block k (by rw [hs5]; exact hk.2) (fun h => by have := h.2; have := hk.1; have := HZ3.out; omega)
      have hbr := (hW.out.block (w.heap.size + 1 + 1) (by omega) (fun h => by have := h.1; have := HM.out.1; omega)).trans HR5.out
      have HSW : Hid (Sees w wr) := ⟨hW.out.os.trans HB5.out.os, hW.out.tape.trans HB5.out.tape, hW.out.output.trans HB5.out.output, Nat.le_trans HB5.out.size hW.out.size, fun k hk => (hW.out.block k (by have := HB5.out.size; omega) (fun h => by have := h.1; have := HM.out.1; omega)).trans (HB5.out.block k hk)⟩
      have zw : w5.heap.size ≤ wr.heap.size := hW.out.size
      obtain ⟨m0, m1, m2, m3, m4, _, _, _, _, _⟩ := five_facts kb
      obtain ⟨u0, u1, u2, u3, u4, x0, x1, x2, x3, x4⟩ := five_facts hbr
      have HBR := Lib.hid hbr
      have t9 : decide ((x : Int) < (r.length : Int)) = false := decide_eq_false (by omega)
      clear hAA hall hP hW kb hbr hxe
      go_wp2_with fail
      obtain ⟨y0, y1, y2, y3, y4, _, _, _, _, _⟩ := five_facts (five_block HBR.out (.int .i64 (t : Int)) (.int .i64 (a : Int)) (.int .i64 (p.length : Int)) (.slice A2 t t) (.slice B1 a D1))
      refine bodyPost_ret (v := .tuple #[.agg #[.int .i64 (t : Int), .int .i64 (a : Int), .int .i64 (p.length : Int), .slice A2 t t, .slice B1 a D1], .int .i64 0]) (by simp [results, Try.results13, go_sem, y0, y1, y2, y3, y4]) rfl ?_
      exact mend5b HTT.out HAA.out HSW.out (show w.heap.size ≤ w.heap.size + 1 + 1 by omega) (by have := HM.out.1; omega) hmb (by have := HZ3.out; omega) hz4 (by rw [← hs5]; exact zw) (wmT_len _ _) (wmA_len _ _ _) _ _ _ _ _
theorem implWordModel_any (t a : Int) (p r : List Int) (hx : p.length + r.length ≤ 1048576) (A B : Option Addr) (C D : Nat) (w : World) (hA0 : Ints w p A) (hB0 : Ints w r B) :
    Calls Try.prog 13 #[.agg #[.int .i64 t, .int .i64 a], .agg #[.slice A p.length C, .slice B r.length D]] w (WEnd t a p r w) := by
  by_cases hv : validW t a p r = true
  · have ok := wmOk_of hv
    by_cases h8 : p.length ≤ 8
    · obtain ⟨t, rfl⟩ := Int.eq_ofNat_of_zero_le ok.t0
      obtain ⟨a, rfl⟩ := Int.eq_ofNat_of_zero_le ok.a0
      exact (implWordModel_yes t a p r hx hv h8 A B C D w hA0 hB0).mono fun e w' h => WEnd.yes hv h8 h
    · exact (implWordModel_far t a p r hx hv h8 A B C D w hA0 hB0).mono fun e w' h => WEnd.far hv h8 h
  · have hv : validW t a p r = false := by simpa using hv
    exact (implWordModel_no t a p r hx hv A B C D w hA0 hB0).mono fun e w' h => WEnd.no hv h
end Go.Proofs.Ytojheipllpkgdaa

namespace Go.Proofs.Ytojheipllpkgdaa
open Go.RowKit Go.WideShapes Go.ChangeShapes Go.ChangeAt Go.Deep Go.WideElems

theorem Try.own : ownKnob Try.prog.godebug = none := by kernel_rfl
theorem Try.laidOut : laidOutB Try.prog = true := by kernel_rfl
theorem Try.kids : Go.Kids Try.prog (· < Try.prog.types.size) := kids_rows (by kernel_rfl) (by kernel_rfl)
theorem Try.full : ∀ t e, t < Try.prog.types.size → Try.prog.underlying t = some (.slice e) → 0 < Try.prog.cellsOf e := slices_full_of Try.prog (by kernel_rfl)

section
variable {H : Type} {enc : TypeId × Value → H} {P : Program}

theorem post_of_below {f : Func} {s : ChangeSpec} {apart fresh handsOn again : Bool} {W W' : World} {args : Array Value} {v : Value} {ds gs : List (DataW H)} {before pa pv : List MemPlace}
    (hW : DataW.Whole enc P f.params.toList s.vars apart W args.toList ds gs before)
    (hres : ∀ (b : Nat) (sp : Nat → Bool) (hd : Bool), DataW.TrodAll enc P W' b sp hd f.resultTypes.toList (v.resultList f.resultTypes.size) (s.fn H (ds ++ gs)).results [])
    (hargs : ∀ sp : Nat → Bool, (∀ p ∈ before, sp p.block = true) → DataW.TrodAll enc P W' 0 sp true f.params.toList args.toList (s.fn H (ds ++ gs)).args pa)
    (hvars : ∀ sp : Nat → Bool, (∀ p ∈ before, sp p.block = true) → DataW.TrodVars enc P W' sp s.vars (s.fn H (ds ++ gs)).vars pv)
    (hps : before = pa ++ pv) (hb : Below W.heap.size W W')
    (hok : ∀ (j : Nat) (t : TypeId) (r : Value), f.resultTypes[j]? = some t → (v.resultList f.resultTypes.size)[j]? = some r → Value.okWide P W' .any 0 t r) :
    s.post enc P f apart fresh handsOn again W args v W' := by
  have hlt : ∀ p ∈ before, p.block < W.heap.size := fun p hp => hW.lt p hp
  have hold : ∀ p ∈ before, (fun b => decide (b < W.heap.size)) p.block = true := fun p hp => by simpa using hlt p hp
  refine ⟨ds, gs, before, [], pa, pv, hW, hres _ _ _, hargs _ hold, hvars _ hold, World.keptBut_mono (fun p hp => ⟨hp, ?_⟩) (hb.frame (· ∈ before)), fun _ => ?_⟩
  · rw [hps, List.mem_append] at hp
    exact Or.inr hp
  · obtain ⟨_, _, _, _, _, hz, hn⟩ := hW
    refine ⟨hok, _, _, ([] ++ pa) ++ pv, ⟨[] ++ pa, pv, trodAll_append (hargs _ (fun _ _ => rfl)) (hres _ _ _), hvars _ (fun _ _ => rfl), rfl, ?_, ?_⟩, ?_⟩
    · intro b off hp
      have hin : MemPlace.cell b off ∈ before := by rw [hps]; simpa using hp
      rw [hb.frozen (hlt _ hin)]
      exact hz b off hin
    · intro ha
      have := hn ha
      rw [hps] at this
      simpa using this
    · intro p hp _
      rw [hps]
      simpa using hp

/-- Arguments read behind the call as they did, where nothing that was there has changed. -/
theorem trodAll_stays (hl : laidOutB P = true) {W W' : World} {sp : Nat → Bool} (hb : Below W.heap.size W W') :
    ∀ {ts : List TypeId} {vs : List Value} {ds : List (DataW H)} {ps : List MemPlace}, (∀ t ∈ ts, P.readableRec t = true ∧ t < P.types.size) →
      DataW.TrodAll enc P W 0 (fun _ => true) true ts vs ds ps → (∀ x ∈ ps, x.block < W.heap.size) → (∀ x ∈ ps, sp x.block = true) → DataW.TrodAll enc P W' 0 sp true ts vs ds ps
  | [], [], [], _, _, h, _, _ => h
  | _ :: _, _ :: _, _ :: _, _, hT, ⟨p, q, h1, h2, e⟩, hlt, hs => ⟨p, q,
      WideElems.Trod_stays hl (hT _ (List.mem_cons.2 (Or.inl rfl))).1 (hT _ (List.mem_cons.2 (Or.inl rfl))).2 h1 (fun x hx => hb.same (hlt x (by rw [e]; exact List.mem_append_left _ hx))) (fun x hx => hs x (by rw [e]; exact List.mem_append_left _ hx)),
      trodAll_stays hl hb (fun t ht => hT t (List.mem_cons.2 (Or.inr ht))) h2 (fun x hx => hlt x (by rw [e]; exact List.mem_append_right _ hx)) (fun x hx => hs x (by rw [e]; exact List.mem_append_right _ hx)), e⟩

/-- A LAW's END: it answers true, and nothing that was there has changed. -/
theorem law_end {f : Func} {s : ChangeSpec} {W W' : World} {args : Array Value} {ds gs : List (DataW H)} {before : List MemPlace} {tb : TypeId}
    (hl : laidOutB P = true) (ub : P.underlying tb = some .bool) (hv : s.vars = []) (hr : f.resultTypes = #[tb]) (hp : ∀ t ∈ f.params.toList, P.readableRec t = true ∧ t < P.types.size)
    (hfn : (s.fn H (ds ++ gs)).results = [.lit (.bool true)]) (hfa : (s.fn H (ds ++ gs)).args = ds) (hfv : (s.fn H (ds ++ gs)).vars = [])
    (hW : DataW.Whole enc P f.params.toList s.vars false W args.toList ds gs before) (hb : Below W.heap.size W W') : s.post enc P f false true false false W args (.bool true) W' := by
  have hW' := hW
  obtain ⟨p, q, hA, hV, hpq, _, _⟩ := hW
  rw [hv] at hV
  obtain ⟨rfl, rfl⟩ := trodVars_none hV
  refine post_of_below (pa := p) (pv := []) hW' ?_ ?_ ?_ hpq hb ?_
  · intro b sp hd
    rw [hr, hfn]
    exact trodAll_mk1 (shut_bool ub _)
  · intro sp hsp
    rw [hfa]
    exact trodAll_stays hl hb hp hA (fun x hx => hW'.lt x (by rw [hpq]; exact List.mem_append_left _ hx)) (fun x hx => hsp x (by rw [hpq]; exact List.mem_append_left _ hx))
  · intro sp _
    rw [hv, hfv]
    exact rfl
  · exact ok_one hr rfl (okWide_bool_mk ub _)

/-- A signature handed by value: two integers. -/
theorem open_sig {W : World} {base : Nat} {t : TypeId} {v : Value} {d : DataW H} {p : List MemPlace} {f0 f1 : Field} (hs : P.underlying t = some (.struct #[f0, f1])) (hone : oneCellFields P #[f0, f1] = true) (hC : P.cellsOf t = 2)
    (u0 : P.underlying f0.type = some (.int .i64)) (u1 : P.underlying f1.type = some (.int .i64)) (hok : Value.okWide P W .any base t v) (h : DataW.Trod enc P W 0 (fun _ => true) true t v d p) :
    ∃ x y : Int, v = .agg #[.int .i64 x, .int .i64 y] ∧ (Lit.int .i64 x).wf = true ∧ (Lit.int .i64 y).wf = true := by
  obtain ⟨c0, c1, y0, y1, m, rfl, rfl, rfl, hy0, hy1⟩ := Joins.open_agg2 hs hone hC hok h
  obtain ⟨x, hx, _, wx⟩ := DataW.trod_int u0 hy0
  obtain ⟨y, hy, _, wy⟩ := DataW.trod_int u1 hy1
  simp at hx hy
  subst hx; subst hy
  exact ⟨x, y, rfl, wx, wy⟩
end

set_option maxRecDepth 100000 in
theorem lsig_open {H : Type} {enc : TypeId × Value → H} {W : World} {base : Nat} {v : Value} {d : DataW H} {p : List MemPlace} (hok : Value.okWide Try.prog W .any base 23 v) (h : DataW.Trod enc Try.prog W 0 (fun _ => true) true 23 v d p) :
    ∃ x y : Int, v = .agg #[.int .i64 x, .int .i64 y] ∧ (Lit.int .i64 x).wf = true ∧ (Lit.int .i64 y).wf = true :=
  open_sig Try.underlying23 (by kernel_rfl) (by kernel_rfl) Try.underlying2 Try.underlying2 hok h

theorem Try.cellsE : Try.prog.cellsOf 51 = 3 := by kernel_rfl

/-- A list of rows out of its rows, from the last one on. -/
theorem forest_of_rows {W : World} {b o len : Nat} {K N : Nat → Int} {S : Nat → Fo} {A : Nat → Option Addr} {C : Nat → Nat}
    (h : ∀ i, i < len → W.cell? ⟨b, o + i * 3, none⟩ = some (.int .i64 (K i)) ∧ W.cell? ⟨b, o + i * 3 + 1, none⟩ = some (.int .i64 (N i)) ∧ W.cell? ⟨b, o + i * 3 + 2, none⟩ = some (.slice (A i) (S i).len (C i)) ∧ (S i).Lies W (A i) ∧ (S i).len ≤ 9223372036854775807 ∧ (S i).Fits) :
    ∀ j, j ≤ len → ∃ f : Fo, f.len = j ∧ f.At W b (o + (len - j) * 3) ∧ f.Fits := by
  intro j
  induction j with
  | zero => intro _; exact ⟨.nil, rfl, trivial, trivial⟩
  | succ j ih =>
    intro hj
    obtain ⟨f, h1, h2, h3⟩ := ih (by omega)
    obtain ⟨g0, g1, g2, g3, g4, g5⟩ := h (len - (j + 1)) (by omega)
    refine ⟨.cons (K (len - (j + 1))) (N (len - (j + 1))) (S (len - (j + 1))) f, by simp [Fo.len, h1], ⟨g0, g1, ⟨A _, C _, g2, g3⟩, ?_⟩, g4, g5, h3⟩
    rw [show o + (len - (j + 1)) * 3 + 3 = o + (len - j) * 3 from by omega]
    exact h2

set_option maxRecDepth 100000 in
theorem lforest_open {H : Type} {enc : TypeId × Value → H} {W : World} : ∀ (fuel : Nat) (cs : List Value) (x : DataW H × List MemPlace),
    DataW.trod enc Try.prog W 0 (fun _ => true) true fuel 49 cs = some x → ∃ (f : Fo) (A : Option Addr) (C : Nat), cs = [.slice A f.len C] ∧ f.Lies W A ∧ f.len ≤ 9223372036854775807 ∧ f.Fits := by
  intro fuel
  induction fuel using Nat.strongRecOn with
  | _ fuel ih =>
    intro cs x h
    rcases DataW.trod_slice Try.underlying49 h with ⟨rfl, _⟩ | ⟨a, len, cap, elems, rest, n, hn, rfl, rfl, hb, hl, hm, hlen, hel, hsp, hns⟩
    · exact ⟨.nil, none, 0, rfl, fun h => absurd rfl h, Nat.zero_le _, trivial⟩
    · have one : ∀ i, i < len → ∃ z : Int × Int × Fo × Option Addr × Nat, W.cell? (a.add (i * 3)) = some (.int .i64 z.1) ∧ W.cell? (a.add (i * 3 + 1)) = some (.int .i64 z.2.1) ∧
          W.cell? (a.add (i * 3 + 2)) = some (.slice z.2.2.2.1 z.2.2.1.len z.2.2.2.2) ∧ z.2.2.1.Lies W z.2.2.2.1 ∧ z.2.2.1.len ≤ 9223372036854775807 ∧ z.2.2.1.Fits := by
        intro i hi
        have key := hel i hi
        rw [List.getElem?_eq_getElem (by omega), Try.cellsE] at key
        obtain ⟨cs', h1, h2⟩ := Option.bind_eq_some_iff.1 key
        obtain ⟨_, hl3, hc⟩ := World.cells?_some h1
        obtain ⟨xs, m, rfl, _, _, hxl, hf⟩ := DataW.trod_struct Try.underlying51 h2
        match xs, hxl, cs', hl3 with
        | [y0, y1, y2], _, [v0, v1, v2], _ =>
          have g0 : DataW.trod enc Try.prog W 0 (fun _ => true) true m 2 [v0] = some y0 := hf 0 _ rfl
          have g1 : DataW.trod enc Try.prog W 0 (fun _ => true) true m 2 [v1] = some y1 := hf 1 _ rfl
          have g2 : DataW.trod enc Try.prog W 0 (fun _ => true) true m 49 [v2] = some y2 := hf 2 _ rfl
          obtain ⟨k, hk, _, _⟩ := DataW.trod_int Try.underlying2 g0
          obtain ⟨nn, hnn, _, _⟩ := DataW.trod_int Try.underlying2 g1
          obtain ⟨f, A, C, hf2, l1, l2, l3⟩ := ih m (by omega) _ _ g2
          simp at hk hnn hf2
          subst hk; subst hnn; subst hf2
          have c0 := hc 0 (by omega)
          have c1 := hc 1 (by omega)
          have c2 := hc 2 (by omega)
          rw [add_add] at c0 c1 c2
          exact ⟨(k, nn, f, A, C), c0, c1, c2, l1, l2, l3⟩
      obtain ⟨b, o, spot⟩ := a
      by_cases h0 : len = 0
      · subst h0
        exact ⟨.nil, _, _, rfl, fun h => absurd rfl h, Nat.zero_le _, trivial⟩
      have : Inhabited (Option Addr × Nat) := ⟨(none, 0)⟩
      have : Inhabited (Int × Int × Fo × Option Addr × Nat) := ⟨(0, 0, .nil, none, 0)⟩
      obtain ⟨Z, hZ⟩ := choose_lt one
      have hspot : spot = none := by
        have := (hZ 0 (by omega)).1
        simpa [Addr.add] using World.cell?_spot this
      subst hspot
      obtain ⟨f, e1, e2, e3⟩ := forest_of_rows (W := W) (b := b) (o := o) (len := len) (K := fun i => (Z i).1) (N := fun i => (Z i).2.1) (S := fun i => (Z i).2.2.1) (A := fun i => (Z i).2.2.2.1) (C := fun i => (Z i).2.2.2.2)
        (fun i hi => by
          obtain ⟨q0, q1, q2, q3, q4, q5⟩ := hZ i hi
          rw [add_plain] at q0 q1 q2
          exact ⟨q0, q1, q2, q3, q4, q5⟩) len (Nat.le_refl _)
      rw [Nat.sub_self, Nat.zero_mul] at e2
      subst e1
      exact ⟨f, some ⟨b, o, none⟩, cap, rfl, fun _ => ⟨b, o, rfl, e2⟩, by unfold maxLen at hm; omega, e3⟩

set_option maxRecDepth 100000 in
/-- An expression handed by value. -/
theorem lexpr_open {H : Type} {enc : TypeId × Value → H} {W : World} {base : Nat} {v : Value} {d : DataW H} {p : List MemPlace} (hok : Value.okWide Try.prog W .any base 51 v) (h : DataW.Trod enc Try.prog W 0 (fun _ => true) true 51 v d p) :
    ∃ (k n : Int) (f : Fo) (A : Option Addr) (C : Nat), v = .agg #[.int .i64 k, .int .i64 n, .slice A f.len C] ∧ f.Lies W A ∧ f.len ≤ 9223372036854775807 ∧ f.Fits ∧ (Lit.int .i64 k).wf = true ∧ (Lit.int .i64 n).wf = true := by
  obtain ⟨c0, c1, c2, y0, y1, y2, m, rfl, _, _, g0, g1, g2⟩ := Joins.open_agg3 Try.underlying51 (by kernel_rfl) Try.cellsE hok h
  obtain ⟨k, hk, _, wk⟩ := DataW.trod_int Try.underlying2 g0
  obtain ⟨n, hn, _, wn⟩ := DataW.trod_int Try.underlying2 g1
  obtain ⟨f, A, C, hf, l1, l2, l3⟩ := lforest_open _ _ _ g2
  simp at hk hn hf
  subst hk; subst hn; subst hf
  exact ⟨k, n, f, A, C, rfl, l1, l2, l3, wk, wn⟩

/-- A list of integers, read. -/
theorem ints_open {H : Type} {enc : TypeId × Value → H} {W : World} {fuel : Nat} {cs : List Value} {x : DataW H × List MemPlace} (h : DataW.trod enc Try.prog W 0 (fun _ => true) true fuel 24 cs = some x) :
    ∃ (xs : List Int) (A : Option Addr) (C : Nat), cs = [.slice A xs.length C] ∧ Ints W xs A ∧ xs.length ≤ 9223372036854775807 ∧ ∀ v ∈ xs, (Lit.int .i64 v).wf = true := by
  rcases open_slice1 Try.underlying24 (by kernel_rfl) h with ⟨rfl, _⟩ | ⟨a, len, cap, m, n, V, D, Pl, rfl, hb, hl, hm, hmm, rfl, hx⟩
  · exact ⟨[], none, 0, rfl, fun h => absurd rfl h, Nat.zero_le _, fun v hv => absurd hv (by simp)⟩
  · simp only [if_true] at hmm
    have one : ∀ i, i < len → ∃ z : Int, W.cell? (a.add i) = some (.int .i64 z) ∧ (Lit.int .i64 z).wf = true := fun i hi => by
      obtain ⟨h1, h2⟩ := hx i (by omega)
      obtain ⟨z, hz, _, wz⟩ := DataW.trod_int Try.underlying2 h2
      simp at hz
      exact ⟨z, by rw [h1, hz], wz⟩
    obtain ⟨Z, hZ⟩ := choose_lt one
    refine ⟨(List.range len).map Z, some a, cap, by simp, ?_, by simp; unfold maxLen at hm; omega, ?_⟩
    · intro hne
      have hpos : 0 < len := by
        rcases Nat.eq_zero_or_pos len with h0 | h0
        · subst h0; simp at hne
        · exact h0
      obtain ⟨b, o, spot⟩ := a
      have hspot : spot = none := by simpa [Addr.add] using World.cell?_spot (hZ 0 hpos).1
      subst hspot
      refine ⟨b, o, rfl, fun i hi => ?_⟩
      have hi' : i < len := by simpa using hi
      have := (hZ i hi').1
      rw [add_plain] at this
      rw [this]
      simp [nth, List.getD, hi']
    · intro v hv
      obtain ⟨i, hi, rfl⟩ := List.mem_map.1 hv
      exact (hZ i (by simpa using hi)).2

set_option maxRecDepth 100000 in
/-- A word handed by value. -/
theorem lword_open {H : Type} {enc : TypeId × Value → H} {W : World} {base : Nat} {v : Value} {d : DataW H} {p : List MemPlace} (hok : Value.okWide Try.prog W .any base 26 v) (h : DataW.Trod enc Try.prog W 0 (fun _ => true) true 26 v d p) :
    ∃ (xs ys : List Int) (A B : Option Addr) (C D : Nat), v = .agg #[.slice A xs.length C, .slice B ys.length D] ∧ Ints W xs A ∧ Ints W ys B ∧ (xs.length ≤ 9223372036854775807 ∧ ys.length ≤ 9223372036854775807) ∧ ((∀ v ∈ xs, (Lit.int .i64 v).wf = true) ∧ ∀ v ∈ ys, (Lit.int .i64 v).wf = true) := by
  obtain ⟨c0, c1, y0, y1, m, rfl, _, _, g0, g1⟩ := Joins.open_agg2 Try.underlying26 (by kernel_rfl) (by kernel_rfl) hok h
  obtain ⟨xs, A, C, hx, l1, l2, l3⟩ := ints_open g0
  obtain ⟨ys, B, D, hy, m1, m2, m3⟩ := ints_open g1
  simp at hx hy
  subst hx; subst hy
  exact ⟨xs, ys, A, B, C, D, rfl, l1, m1, ⟨l2, m2⟩, l3, m3⟩

end Go.Proofs.Ytojheipllpkgdaa

namespace Go.Proofs.Ytojheipllpkgdaa
open Go.RowKit Go.WideShapes Go.ChangeShapes Go.ChangeAt Go.Deep Go.WideElems

theorem list_open {H : Type} {enc : TypeId × Value → H} {W : World} {t e : TypeId} (ht : Try.prog.underlying t = some (.slice e)) (hc : Try.prog.cellsOf e = 1) {α : Type} [Inhabited α] {Fit : α → Prop} {G : α → Value → Prop}
    (one : ∀ n v y, DataW.trod enc Try.prog W 0 (fun _ => true) true n e [v] = some y → ∃ x : α, G x v ∧ Fit x)
    {fuel : Nat} {cs : List Value} {x : DataW H × List MemPlace} (h : DataW.trod enc Try.prog W 0 (fun _ => true) true fuel t cs = some x) :
    ∃ (xs : List α) (A : Option Addr) (C : Nat), cs = [.slice A xs.length C] ∧ xs.length ≤ 9223372036854775807 ∧ (∀ x ∈ xs, Fit x) ∧ (xs ≠ [] → ∃ b o, A = some ⟨b, o, none⟩ ∧ ∀ i x, xs[i]? = some x → ∃ v, W.cell? ⟨b, o + i, none⟩ = some v ∧ G x v) := by
  rcases open_slice1 ht hc h with ⟨rfl, _⟩ | ⟨a, len, cap, m, n, V, D, Pl, rfl, hb, hl, hm, hmm, rfl, hx⟩
  · exact ⟨[], none, 0, rfl, Nat.zero_le _, fun x hx => absurd hx (by simp), fun h => absurd rfl h⟩
  · simp only [if_true] at hmm
    have each : ∀ i, i < len → ∃ z : α, G z (V i) ∧ Fit z := fun i hi => one n (V i) _ (hx i (by omega)).2
    obtain ⟨Z, hZ⟩ := choose_lt each
    refine ⟨(List.range len).map Z, some a, cap, by simp, by simp; unfold maxLen at hm; omega, ?_, ?_⟩
    · intro x hx
      obtain ⟨i, hi, rfl⟩ := List.mem_map.1 hx
      exact (hZ i (by simpa using hi)).2
    · intro hne
      have hpos : 0 < len := by
        rcases Nat.eq_zero_or_pos len with h0 | h0
        · subst h0; simp at hne
        · exact h0
      obtain ⟨b, o, spot⟩ := a
      have hspot : spot = none := by simpa [Addr.add] using World.cell?_spot (hx 0 (by omega)).1
      subst hspot
      refine ⟨b, o, rfl, fun i x hi => ?_⟩
      obtain ⟨hil, he⟩ := List.getElem?_eq_some_iff.1 hi
      have hi' : i < len := by simpa using hil
      have hz : Z i = x := by rw [← he]; simp
      have := (hx i (by omega)).1
      rw [add_plain] at this
      exact ⟨V i, this, by rw [← hz]; exact (hZ i hi').1⟩

section
variable {H : Type} {enc : TypeId × Value → H} {W : World} {fuel : Nat} {cs : List Value} {x : DataW H × List MemPlace}
theorem boolsL_open (h : DataW.trod enc Try.prog W 0 (fun _ => true) true fuel 91 cs = some x) : ∃ (xs : List Bool) (A : Option Addr) (C : Nat), cs = [.slice A xs.length C] ∧ BoolsL 0 W xs A ∧ xs.length ≤ 9223372036854775807 := by
  obtain ⟨xs, A, C, e, hl, _, hc⟩ := list_open (Fit := fun _ => True) (G := fun b v => v = .bool b) Try.underlying91 (by kernel_rfl) (fun n v y h => by
    obtain ⟨b, hb, _⟩ := DataW.trod_bool Try.underlying4 h
    simp at hb
    exact ⟨b, hb, trivial⟩) h
  exact ⟨xs, A, C, e, fun hn => let ⟨b, o, hA, hh⟩ := hc hn; ⟨b, o, Nat.zero_le _, hA, fun i x hi => let ⟨v, h1, h2⟩ := hh i x hi; by rw [← h2]; exact h1⟩, hl⟩
theorem intsL_open (h : DataW.trod enc Try.prog W 0 (fun _ => true) true fuel 24 cs = some x) : ∃ (xs : List Int) (A : Option Addr) (C : Nat), cs = [.slice A xs.length C] ∧ IntsL 0 W xs A ∧ xs.length ≤ 9223372036854775807 := by
  obtain ⟨xs, A, C, e, h1, h2, _⟩ := ints_open h
  exact ⟨xs, A, C, e, IntsL.of h1, h2⟩
theorem rows3_open {t e : TypeId} (ht : Try.prog.underlying t = some (.slice e)) (hc : Try.prog.cellsOf e = 1) {β : Type} {Q : Nat → World → List β → Option Addr → Prop} {Fit : List β → Prop}
    (one : ∀ n v y, DataW.trod enc Try.prog W 0 (fun _ => true) true n e [v] = some y → ∃ (xs : List β) (A : Option Addr) (C : Nat), [v] = [.slice A xs.length C] ∧ Q 0 W xs A ∧ Fit xs)
    (h : DataW.trod enc Try.prog W 0 (fun _ => true) true fuel t cs = some x) :
    ∃ (xs : List (List β)) (A : Option Addr) (C : Nat), cs = [.slice A xs.length C] ∧ Rows3 Q List.length 0 W xs A ∧ (xs.length ≤ 9223372036854775807 ∧ ∀ x ∈ xs, Fit x) := by
  obtain ⟨xs, A, C, e, hl, hf, hh⟩ := list_open (Fit := Fit) (G := fun (x : List β) v => ∃ B C, v = .slice B x.length C ∧ Q 0 W x B) ht hc (fun n v y h => by
    obtain ⟨xs, A, C, hv, hq, hf⟩ := one n v y h
    simp at hv
    exact ⟨xs, ⟨A, C, hv, hq⟩, hf⟩) h
  exact ⟨xs, A, C, e, fun hn => let ⟨b, o, hA, hk⟩ := hh hn; ⟨b, o, Nat.zero_le _, hA, fun i x hi => let ⟨v, h1, B, C, h2, h3⟩ := hk i x hi; ⟨B, C, by rw [← h2]; exact h1, h3⟩⟩, hl, hf⟩
theorem bb_open (h : DataW.trod enc Try.prog W 0 (fun _ => true) true fuel 29 cs = some x) : ∃ (xs : List (List Bool)) (A : Option Addr) (C : Nat), cs = [.slice A xs.length C] ∧ BB 0 W xs A ∧ (xs.length ≤ 9223372036854775807 ∧ ∀ x ∈ xs, x.length ≤ 9223372036854775807) :=
  rows3_open Try.underlying29 (by kernel_rfl) (fun _ _ _ h => boolsL_open h) h
end

end Go.Proofs.Ytojheipllpkgdaa

namespace Go.Proofs.Ytojheipllpkgdaa
open Go.RowKit Go.WideShapes Go.ChangeShapes Go.ChangeAt Go.Deep Go.WideElems

theorem array_five {α : Type} {cs : Array α} (h : cs.size = 5) : ∃ a b c d e, cs = #[a, b, c, d, e] := by
  obtain ⟨l⟩ := cs
  match l, h with
  | [a, b, c, d, e], _ => exact ⟨a, b, c, d, e, rfl⟩
theorem bbb_open {H : Type} {enc : TypeId × Value → H} {W : World} {fuel : Nat} {cs : List Value} {x : DataW H × List MemPlace} (h : DataW.trod enc Try.prog W 0 (fun _ => true) true fuel 30 cs = some x) : ∃ (xs : List (List (List Bool))) (A : Option Addr) (C : Nat), cs = [.slice A xs.length C] ∧ BBB 0 W xs A ∧ (xs.length ≤ 9223372036854775807 ∧ ∀ x ∈ xs, x.length ≤ 9223372036854775807 ∧ ∀ y ∈ x, y.length ≤ 9223372036854775807) :=
  rows3_open Try.underlying30 (by kernel_rfl) (fun _ _ _ h => bb_open h) h

set_option maxRecDepth 100000 in
theorem lmodel_open {H : Type} {enc : TypeId × Value → H} {W : World} {base : Nat} {v : Value} {d : DataW H} {p : List MemPlace} (hok : Value.okWide Try.prog W .any base 44 v) (h : DataW.Trod enc Try.prog W 0 (fun _ => true) true 44 v d p) :
    ∃ (t a q : Int) (ac : List (List Bool)) (nx : List (List (List Bool))) (A B : Option Addr) (C D : Nat), v = .agg #[.int .i64 t, .int .i64 a, .int .i64 q, .slice A ac.length C, .slice B nx.length D] ∧ BB 0 W ac A ∧ BBB 0 W nx B ∧ FitM ac nx ∧ (Lit.int .i64 t).wf = true ∧ (Lit.int .i64 a).wf = true ∧ (Lit.int .i64 q).wf = true := by
  obtain ⟨cs, rfl, hsz⟩ := okWide_struct Try.underlying44 hok
  obtain ⟨c0, c1, c2, c3, c4, rfl⟩ := array_five (hsz.trans (by kernel_rfl : Try.prog.cellsOf 44 = 5))
  obtain ⟨fuel, hf⟩ := h
  obtain ⟨y0, y1, y2, y3, n, _, _, h0, h1, h2, h3⟩ := Joins.trod_struct4 Try.underlying44 hf
  have s0 : Try.prog.cellsOf 23 = 2 := by kernel_rfl
  have s1 : Try.prog.cellsOf 29 = 1 := by kernel_rfl
  have s2 : Try.prog.cellsOf 30 = 1 := by kernel_rfl
  have i1 : Try.prog.cellsOf 2 = 1 := by kernel_rfl
  simp only [Value.cells, s0, s1, s2, i1] at h0 h1 h2 h3
  simp at h0 h1 h2 h3
  obtain ⟨u0, u1, n2, _, _, g0, g1⟩ := trod_struct2 Try.underlying23 h0
  simp only [i1] at g0 g1
  simp at g0 g1
  obtain ⟨t, ht, _, wt⟩ := DataW.trod_int Try.underlying2 g0
  obtain ⟨a, ha, _, wa⟩ := DataW.trod_int Try.underlying2 g1
  obtain ⟨q, hq, _, wq⟩ := DataW.trod_int Try.underlying2 h1
  obtain ⟨ac, A, C, hac, l1, l2⟩ := bb_open h2
  obtain ⟨nx, B, D, hnx, m1, m2⟩ := bbb_open h3
  simp at ht ha hq hac hnx
  subst ht; subst ha; subst hq; subst hac; subst hnx
  exact ⟨t, a, q, ac, nx, A, B, C, D, rfl, l1, m1, ⟨l2.1, l2.2, m2.1, m2.2⟩, wt, wa, wq⟩

end Go.Proofs.Ytojheipllpkgdaa
