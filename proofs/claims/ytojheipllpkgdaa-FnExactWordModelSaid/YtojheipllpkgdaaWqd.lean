/- WordModel: contract of spec.WordModel. Contracts of impl.falseAt and of tables in which nothing holds. Contract of impl.emptyModel. WordModel: contract of the program's. -/
import Derived.Test.YtojheipllpkgdaaWqc
import Derived.Deep.RegionLaw
import Derived.Test.YtojheipllpkgdaaTab
import Derived.Test.YtojheipllpkgdaaSupB
import Derived.Test.YtojheipllpkgdaaWqb
import Derived.Deep.RegionHeld3
import Derived.Deep.DrawnRows
import Derived.Deep.DeepCutAuto
namespace Go.Proofs.Ytojheipllpkgdaa
open Go.RowKit
set_option linter.unusedVariables false

set_option maxHeartbeats 4000000 in
set_option maxRecDepth 100000 in
theorem specWordModel_no (t a : Int) (p r : List Int) (hx : p.length + r.length ≤ 1048576) (hv : validW t a p r = false) (A B : Option Addr) (C D : Nat) (w : World) (hA0 : Ints w p A) (hB0 : Ints w r B) :
    Calls Try.prog 10 #[.agg #[.int .i64 t, .int .i64 a], .agg #[.slice A p.length C, .slice B r.length D]] w (MEnd 0 0 0 [] [] 1 w) := by
  obtain ⟨w0, hw0⟩ : ∃ w0, w0 = ((w.alloc (.cells #[.int .i64 t, .int .i64 a] 28)).alloc (.cells #[.slice A p.length C, .slice B r.length D] 36)).alloc (.cells #[.int .i64 0, .int .i64 0, .int .i64 0, .slice none 0 0, .slice none 0 0] 32) := ⟨_, rfl⟩
  have B0 : Sees w w0 := by rw [hw0]; exact (((Sees.refl w).alloc _).alloc _).alloc _
  have hA := hA0.sees B0; have hB := hB0.sees B0
  have hg0 : w0.heap[w.heap.size]? = some (.cells #[.int .i64 t, .int .i64 a] 28 (0, 0)) := by
    rw [hw0]; exact (Below.heap_alloc _ _ _ (by simp; omega)).trans ((Below.heap_alloc _ _ _ (by simp)).trans (heap_new _ _ _ rfl))
  have hc0 : w0.heap[w.heap.size + 1]? = some (.cells #[.slice A p.length C, .slice B r.length D] 36 (0, 0)) := by
    rw [hw0]; exact (Below.heap_alloc _ _ _ (by simp)).trans (heap_new _ _ _ (by simp))
  have hr0 : w0.heap[w.heap.size + 1 + 1]? = some (.cells #[.int .i64 0, .int .i64 0, .int .i64 0, .slice none 0 0, .slice none 0 0] 32 (0, 0)) := by
    rw [hw0]; exact heap_new _ _ _ (by simp)
  have z0 : w.heap.size + 3 ≤ w0.heap.size := by rw [hw0]; simp
  have FIN : Hid (∀ W : World, Below w0.heap.size w0 W → Sees w W) := fun W h => B0.below h
  have K1 : Hid (∀ W : World, Sees w0 W → Calls Try.prog 50 #[.agg #[.int .i64 t, .int .i64 a], .pointer (some ⟨w.heap.size + 1, 0, none⟩)] W fun e w' => e = .returned (.bool false) ∧ Below W.heap.size W w') := fun W h => by
    have hb := (h.block _ (by omega)).trans hc0
    rw [← hv]; exact l01Word_any p r hx t a A B C D _ 0 W (hA.sees h) (hB.sees h) (Fo.cell_of_block hb 0) (Fo.cell_of_block hb 1)
  have HG0 := Lib.hid hg0; have HC0 := Lib.hid hc0; have HR0 := Lib.hid hr0
  clear hA hB hA0 hB0 hv B0 hg0 hc0 hr0
  have a0 := Fo.cell_of_block HG0.out 0; have a1 := Fo.cell_of_block HG0.out 1; have c0 := Fo.cell_of_block HC0.out 0; have c1 := Fo.cell_of_block HC0.out 1
  go_enter Try.func10, Try.ntmps10
  have HW0 := Lib.hid hw0
  go_wp2_with fail
  rw [← hw0]
  clear hw0
  refine (K1.out _ (Sees.refl _)).mono ?_
  rintro e w1 ⟨rfl, hb⟩
  have HB1 := Lib.hid hb
  have HG1 := Lib.hid ((hb.block _ (by omega)).trans HG0.out)
  have HC1 := Lib.hid ((hb.block _ (by omega)).trans HC0.out)
  have HR1 := Lib.hid ((hb.block _ (by omega)).trans HR0.out)
  have z1 : w.heap.size + 3 ≤ w1.heap.size := Nat.le_trans z0 hb.size
  clear hb K1 a0 a1 c0 c1
  have a0 := Fo.cell_of_block HG1.out 0; have a1 := Fo.cell_of_block HG1.out 1; have c0 := Fo.cell_of_block HC1.out 0; have c1 := Fo.cell_of_block HC1.out 1
  obtain ⟨u0, u1, u2, u3, u4, x0, x1, x2, x3, x4⟩ := five_facts HR1.out
  go_wp2_with fail
  obtain ⟨y0, y1, y2, y3, y4, _, _, _, _, _⟩ := five_facts (five_block HR1.out (.int .i64 0) (.int .i64 0) (.int .i64 0) (.slice none 0 0) (.slice none 0 0))
  refine bodyPost_ret (v := .tuple #[.agg #[.int .i64 0, .int .i64 0, .int .i64 0, .slice none 0 0, .slice none 0 0], .int .i64 1]) (by simp [results, Try.results10, go_sem, y0, y1, y2, y3, y4]) rfl ?_
  exact MEnd.no (five_below (FIN.out _ HB1.out) (by omega) _ _ _ _ _)
set_option maxHeartbeats 4000000 in
set_option maxRecDepth 100000 in
theorem specWordModel_far (t a : Int) (p r : List Int) (hx : p.length + r.length ≤ 1048576) (hv : validW t a p r = true) (h8 : ¬ p.length ≤ 8) (A B : Option Addr) (C D : Nat) (w : World) (hA0 : Ints w p A) (hB0 : Ints w r B) :
    Calls Try.prog 10 #[.agg #[.int .i64 t, .int .i64 a], .agg #[.slice A p.length C, .slice B r.length D]] w (MEnd 0 0 0 [] [] 3 w) := by
  have t8 : decide ((8 : Int) < (p.length : Int)) = true := decide_eq_true (by omega)
  obtain ⟨w0, hw0⟩ : ∃ w0, w0 = ((w.alloc (.cells #[.int .i64 t, .int .i64 a] 28)).alloc (.cells #[.slice A p.length C, .slice B r.length D] 36)).alloc (.cells #[.int .i64 0, .int .i64 0, .int .i64 0, .slice none 0 0, .slice none 0 0] 32) := ⟨_, rfl⟩
  have B0 : Sees w w0 := by rw [hw0]; exact (((Sees.refl w).alloc _).alloc _).alloc _
  have hA := hA0.sees B0; have hB := hB0.sees B0
  have hg0 : w0.heap[w.heap.size]? = some (.cells #[.int .i64 t, .int .i64 a] 28 (0, 0)) := by
    rw [hw0]; exact (Below.heap_alloc _ _ _ (by simp; omega)).trans ((Below.heap_alloc _ _ _ (by simp)).trans (heap_new _ _ _ rfl))
  have hc0 : w0.heap[w.heap.size + 1]? = some (.cells #[.slice A p.length C, .slice B r.length D] 36 (0, 0)) := by
    rw [hw0]; exact (Below.heap_alloc _ _ _ (by simp)).trans (heap_new _ _ _ (by simp))
  have hr0 : w0.heap[w.heap.size + 1 + 1]? = some (.cells #[.int .i64 0, .int .i64 0, .int .i64 0, .slice none 0 0, .slice none 0 0] 32 (0, 0)) := by
    rw [hw0]; exact heap_new _ _ _ (by simp)
  have z0 : w.heap.size + 3 ≤ w0.heap.size := by rw [hw0]; simp
  have FIN : Hid (∀ W : World, Below w0.heap.size w0 W → Sees w W) := fun W h => B0.below h
  have K1 : Hid (∀ W : World, Sees w0 W → Calls Try.prog 50 #[.agg #[.int .i64 t, .int .i64 a], .pointer (some ⟨w.heap.size + 1, 0, none⟩)] W fun e w' => e = .returned (.bool true) ∧ Below W.heap.size W w') := fun W h => by
    have hb := (h.block _ (by omega)).trans hc0
    rw [← hv]; exact l01Word_any p r hx t a A B C D _ 0 W (hA.sees h) (hB.sees h) (Fo.cell_of_block hb 0) (Fo.cell_of_block hb 1)
  have HG0 := Lib.hid hg0; have HC0 := Lib.hid hc0; have HR0 := Lib.hid hr0
  clear hA hB hA0 hB0 hv B0 hg0 hc0 hr0
  have a0 := Fo.cell_of_block HG0.out 0; have a1 := Fo.cell_of_block HG0.out 1; have c0 := Fo.cell_of_block HC0.out 0; have c1 := Fo.cell_of_block HC0.out 1
  go_enter Try.func10, Try.ntmps10
  have HW0 := Lib.hid hw0
  go_wp2_with fail
  rw [← hw0]
  clear hw0
  refine (K1.out _ (Sees.refl _)).mono ?_
  rintro e w1 ⟨rfl, hb⟩
  have HB1 := Lib.hid hb
  have HG1 := Lib.hid ((hb.block _ (by omega)).trans HG0.out)
  have HC1 := Lib.hid ((hb.block _ (by omega)).trans HC0.out)
  have HR1 := Lib.hid ((hb.block _ (by omega)).trans HR0.out)
  have z1 : w.heap.size + 3 ≤ w1.heap.size := Nat.le_trans z0 hb.size
  clear hb K1 a0 a1 c0 c1
  have a0 := Fo.cell_of_block HG1.out 0; have a1 := Fo.cell_of_block HG1.out 1; have c0 := Fo.cell_of_block HC1.out 0; have c1 := Fo.cell_of_block HC1.out 1
  obtain ⟨u0, u1, u2, u3, u4, x0, x1, x2, x3, x4⟩ := five_facts HR1.out
  go_wp2_with fail
  obtain ⟨y0, y1, y2, y3, y4, _, _, _, _, _⟩ := five_facts (five_block HR1.out (.int .i64 0) (.int .i64 0) (.int .i64 0) (.slice none 0 0) (.slice none 0 0))
  refine bodyPost_ret (v := .tuple #[.agg #[.int .i64 0, .int .i64 0, .int .i64 0, .slice none 0 0, .slice none 0 0], .int .i64 3]) (by simp [results, Try.results10, go_sem, y0, y1, y2, y3, y4]) rfl ?_
  exact MEnd.no (five_below (FIN.out _ HB1.out) (by omega) _ _ _ _ _)
set_option maxHeartbeats 4000000 in
set_option maxRecDepth 100000 in
theorem specWordModel_yes (t a : Nat) (p r : List Int) (hx : p.length + r.length ≤ 1048576) (hv : validW t a p r = true) (h8 : p.length ≤ 8) (A B : Option Addr) (C D : Nat) (w : World) (hA0 : Ints w p A) (hB0 : Ints w r B) :
    Calls Try.prog 10 #[.agg #[.int .i64 (t : Int), .int .i64 (a : Int)], .agg #[.slice A p.length C, .slice B r.length D]] w (MEnd t a p.length (wmT t p) (wmA a p.length r) 0 w) := by
  have ok := wmOk_of hv
  have t8 : decide ((8 : Int) < (p.length : Int)) = false := decide_eq_false (by omega)
  obtain ⟨w0, hw0⟩ : ∃ w0, w0 = ((w.alloc (.cells #[.int .i64 (t : Int), .int .i64 (a : Int)] 28)).alloc (.cells #[.slice A p.length C, .slice B r.length D] 36)).alloc (.cells #[.int .i64 0, .int .i64 0, .int .i64 0, .slice none 0 0, .slice none 0 0] 32) := ⟨_, rfl⟩
  have B0 : Sees w w0 := by rw [hw0]; exact (((Sees.refl w).alloc _).alloc _).alloc _
  have hA := hA0.sees B0; have hB := hB0.sees B0
  have hg0 : w0.heap[w.heap.size]? = some (.cells #[.int .i64 (t : Int), .int .i64 (a : Int)] 28 (0, 0)) := by
    rw [hw0]; exact (Below.heap_alloc _ _ _ (by simp; omega)).trans ((Below.heap_alloc _ _ _ (by simp)).trans (heap_new _ _ _ rfl))
  have hc0 : w0.heap[w.heap.size + 1]? = some (.cells #[.slice A p.length C, .slice B r.length D] 36 (0, 0)) := by
    rw [hw0]; exact (Below.heap_alloc _ _ _ (by simp)).trans (heap_new _ _ _ (by simp))
  have hr0 : w0.heap[w.heap.size + 1 + 1]? = some (.cells #[.int .i64 0, .int .i64 0, .int .i64 0, .slice none 0 0, .slice none 0 0] 32 (0, 0)) := by
    rw [hw0]; exact heap_new _ _ _ (by simp)
  have z0 : w.heap.size + 3 ≤ w0.heap.size := by rw [hw0]; simp
  have FIN : Hid (∀ W : World, Below w0.heap.size w0 W → Sees w W) := fun W h => B0.below h
  have K1 : Hid (∀ W : World, Sees w0 W → Calls Try.prog 50 #[.agg #[.int .i64 (t : Int), .int .i64 (a : Int)], .pointer (some ⟨w.heap.size + 1, 0, none⟩)] W fun e w' => e = .returned (.bool true) ∧ Below W.heap.size W w') := fun W h => by
    have hb := (h.block _ (by omega)).trans hc0
    rw [← hv]; exact l01Word_any p r hx (t : Int) (a : Int) A B C D _ 0 W (hA.sees h) (hB.sees h) (Fo.cell_of_block hb 0) (Fo.cell_of_block hb 1)
  have K2 : Hid (∀ W : World, Sees w0 W → Calls Try.prog 51 #[.agg #[.int .i64 (t : Int), .int .i64 (a : Int)], .pointer (some ⟨w.heap.size + 1, 0, none⟩)] W (MRet t a p.length (wmT t p) (wmA a p.length r) W)) := fun W h => by
    have hb := (h.block _ (by omega)).trans hc0
    exact l05WordModel_any t a p r ok h8 A B C D _ W (hA.sees h) (hB.sees h) (Fo.cell_of_block hb 0) (Fo.cell_of_block hb 1)
  obtain ⟨ts, hts0⟩ : ∃ ts, ts = wmT t p := ⟨_, rfl⟩
  obtain ⟨acts, hacts0⟩ : ∃ acts, acts = wmA a p.length r := ⟨_, rfl⟩
  rw [← hts0, ← hacts0] at K2 ⊢
  clear hts0 hacts0 ok
  have HG0 := Lib.hid hg0; have HC0 := Lib.hid hc0; have HR0 := Lib.hid hr0
  clear hA hB hA0 hB0 hv B0 hg0 hc0 hr0
  have a0 := Fo.cell_of_block HG0.out 0; have a1 := Fo.cell_of_block HG0.out 1; have c0 := Fo.cell_of_block HC0.out 0; have c1 := Fo.cell_of_block HC0.out 1
  go_enter Try.func10, Try.ntmps10
  have HW0 := Lib.hid hw0
  go_wp2_with fail
  rw [← hw0]
  clear hw0
  refine (K1.out _ (Sees.refl _)).mono ?_
  rintro e w1 ⟨rfl, hb⟩
  have HB1 := Lib.hid hb
  have HG1 := Lib.hid ((hb.block _ (by omega)).trans HG0.out)
  have HC1 := Lib.hid ((hb.block _ (by omega)).trans HC0.out)
  have HR1 := Lib.hid ((hb.block _ (by omega)).trans HR0.out)
  have z1 : w.heap.size + 3 ≤ w1.heap.size := Nat.le_trans z0 hb.size
  clear hb K1 a0 a1 c0 c1
  have a0 := Fo.cell_of_block HG1.out 0; have a1 := Fo.cell_of_block HG1.out 1; have c0 := Fo.cell_of_block HC1.out 0; have c1 := Fo.cell_of_block HC1.out 1
  go_wp2_with fail
  refine (K2.out _ HB1.out).mono ?_
  rintro e w3 ⟨A1, B1, C1, D1, m, rfl, hm1, hm2, hts, hacts, hb⟩
  have HB3 := Lib.hid (HB1.out.trans (hb.mono HB1.out.size))
  have HR3 := Lib.hid ((hb.block _ (by omega)).trans HR1.out)
  have HT := Lib.hid hts; have HA := Lib.hid hacts
  clear hb K2 hts hacts a0 a1 c0 c1
  obtain ⟨u0, u1, u2, u3, u4, x0, x1, x2, x3, x4⟩ := five_facts HR3.out
  go_wp2_with fail
  obtain ⟨y0, y1, y2, y3, y4, _, _, _, _, _⟩ := five_facts (five_block HR3.out (.int .i64 (t : Int)) (.int .i64 (a : Int)) (.int .i64 (p.length : Int)) (.slice A1 ts.length C1) (.slice B1 acts.length D1))
  refine bodyPost_ret (v := .tuple #[.agg #[.int .i64 (t : Int), .int .i64 (a : Int), .int .i64 (p.length : Int), .slice A1 ts.length C1, .slice B1 acts.length D1], .int .i64 0]) (by simp [results, Try.results10, go_sem, y0, y1, y2, y3, y4]) rfl ?_
  exact mend5 HT.out HA.out (FIN.out _ HB3.out) (show w.heap.size ≤ w.heap.size + 1 + 1 by omega) (by omega) hm1 (Nat.le_refl _) hm2 (Nat.le_refl _) rfl rfl _ _ _ _ _
theorem specWordModel_any (t a : Int) (p r : List Int) (hx : p.length + r.length ≤ 1048576) (A B : Option Addr) (C D : Nat) (w : World) (hA0 : Ints w p A) (hB0 : Ints w r B) :
    Calls Try.prog 10 #[.agg #[.int .i64 t, .int .i64 a], .agg #[.slice A p.length C, .slice B r.length D]] w (WEnd t a p r w) := by
  by_cases hv : validW t a p r = true
  · have ok := wmOk_of hv
    by_cases h8 : p.length ≤ 8
    · obtain ⟨t, rfl⟩ := Int.eq_ofNat_of_zero_le ok.t0
      obtain ⟨a, rfl⟩ := Int.eq_ofNat_of_zero_le ok.a0
      exact (specWordModel_yes t a p r hx hv h8 A B C D w hA0 hB0).mono fun e w' h => WEnd.yes hv h8 h
    · exact (specWordModel_far t a p r hx hv h8 A B C D w hA0 hB0).mono fun e w' h => WEnd.far hv h8 h
  · have hv : validW t a p r = false := by simpa using hv
    exact (specWordModel_no t a p r hx hv A B C D w hA0 hB0).mono fun e w' h => WEnd.no hv h
end Go.Proofs.Ytojheipllpkgdaa

namespace Go.Proofs.Ytojheipllpkgdaa
open Go.RowKit
set_option linter.unusedVariables false

theorem falseAt_any (x y : Int) (w : World) : Calls Try.prog 115 #[.int .i64 x, .int .i64 y] w fun e w' => e = .returned (.bool false) ∧ Below w.heap.size w w' := by
  go_enter Try.func115, Try.ntmps115
  go_wp2_with fail
  go_ret
  exact ⟨rfl, by go_grown⟩
theorem emptyTab_any (t n : Nat) (ht : t ≤ 8) (hn : n ≤ 8) (W : World) :
    Calls Try.prog 55 #[.int .i64 (t : Int), .int .i64 (n : Int), .func (.func 115) #[] #[]] W fun e w' => ∃ A1, e = .returned (.slice A1 t t) ∧ BBF w' (tab t n fun _ _ => false) A1 (rng W.heap.size w'.heap.size) ∧ Below W.heap.size W w' :=
  tableOf_any 115 #[] (enters_of Try.func115 (by kernel_rfl) rfl) t n (by omega) (by omega) _ W (fun W2 x y h3 hx hy => falseAt_any x y W2)
end Go.Proofs.Ytojheipllpkgdaa

namespace Go.Proofs.Ytojheipllpkgdaa
open Go.RowKit
set_option linter.unusedVariables false

set_option maxHeartbeats 4000000 in
set_option maxRecDepth 100000 in
theorem emptyModel_any (t a p : Nat) (ht : t ≤ 3) (ha : a ≤ 4) (hp : p ≤ 8) (w : World) :
    Calls Try.prog 54 #[.agg #[.int .i64 (t : Int), .int .i64 (a : Int)], .int .i64 (p : Int)] w (MRet t a p (tab t p fun _ _ => false) (List.replicate a (tab p p fun _ _ => false)) w) := by
  obtain ⟨w0, hw0⟩ : ∃ w0, w0 = (w.alloc (.cells #[.int .i64 (t : Int), .int .i64 (a : Int)] 28)).alloc (.cells #[.int .i64 0, .int .i64 0, .int .i64 0, .slice none 0 0, .slice none 0 0] 32) := ⟨_, rfl⟩
  have B0 : Sees w w0 := by rw [hw0]; exact ((Sees.refl w).alloc _).alloc _
  have hc0 : w0.heap[w.heap.size]? = some (.cells #[.int .i64 (t : Int), .int .i64 (a : Int)] 28 (0, 0)) := by
    rw [hw0]; exact (Below.heap_alloc _ _ _ (by simp)).trans (heap_new _ _ _ rfl)
  have hr0 : w0.heap[w.heap.size + 1]? = some (.cells #[.int .i64 0, .int .i64 0, .int .i64 0, .slice none 0 0, .slice none 0 0] 32 (0, 0)) := by
    rw [hw0]; exact heap_new _ _ _ (by simp)
  have z0 : w.heap.size + 2 ≤ w0.heap.size := by rw [hw0]; simp
  obtain ⟨ts, hts⟩ : ∃ ts : List (List Bool), ts = tab t p fun _ _ => false := ⟨_, rfl⟩
  obtain ⟨rows, hrows⟩ : ∃ rows : List (List Bool), rows = tab p p fun _ _ => false := ⟨_, rfl⟩
  have KT1 : Hid (∀ W : World, Calls Try.prog 55 #[.int .i64 (t : Int), .int .i64 (p : Int), .func (.func 115) #[] #[]] W fun e w' => ∃ A1, e = .returned (.slice A1 t t) ∧ BBF w' ts A1 (rng W.heap.size w'.heap.size) ∧ Below W.heap.size W w') := fun W => by rw [hts]; exact emptyTab_any t p (by omega) hp W
  have KT2 : Hid (∀ W : World, Calls Try.prog 55 #[.int .i64 (p : Int), .int .i64 (p : Int), .func (.func 115) #[] #[]] W fun e w' => ∃ A1, e = .returned (.slice A1 p p) ∧ BBF w' rows A1 (rng W.heap.size w'.heap.size) ∧ Below W.heap.size W w') := fun W => by rw [hrows]; exact emptyTab_any p p hp hp W
  have HC0 := Lib.hid hc0; have HR0 := Lib.hid hr0
  have FIN : Hid (∀ W : World, Below w0.heap.size w0 W → Sees w W) := fun W h => B0.below h
  have HTS : Hid (ts.length = t) := by show _ = _; rw [hts]; exact tab_len _ _ _
  have HRL : Hid (rows.length = p) := by show _ = _; rw [hrows]; exact tab_len _ _ _
  rw [← hts, ← hrows]
  clear hts hrows hc0 hr0 B0
  go_enter Try.func54, Try.ntmps54
  have c0 := Fo.cell_of_block HC0.out 0; have c1 := Fo.cell_of_block HC0.out 1
  have HW0 := Lib.hid hw0
  go_wp2_with fail
  rw [← hw0]
  clear hw0
  have ca0 := kc ((Sees.refl w0).alloc (.cells #[.int .i64 0, .int .i64 0, .int .i64 0, .slice none 0 0, .slice none 0 0] 32)) c0
  have ca1 := kc ((Sees.refl w0).alloc (.cells #[.int .i64 0, .int .i64 0, .int .i64 0, .slice none 0 0, .slice none 0 0] 32)) c1
  have zc : w.heap.size < w0.heap.size := by omega
  go_cut [5] (fun sp wx => ∃ (bm : Nat) (A1 : Option Addr), sp = .pointer (some ⟨bm, 0, none⟩) ∧ Emp w0 bm wx.heap.size t a p ts A1 [] (.slice none 0 0) wx)
  case first =>
    go_region_law (first
      | (go_simp; go_at_call 55; refine (KT1.out _).mono ?_; rintro e wa ⟨A1, rfl, hQ, hb⟩; have HQ := Lib.hid hQ; have HBA := Lib.hid hb; have SA : Sees w0 wa := (by first | exact (Sees.refl w0).below hb | exact (Sees.refl w0).drew.below hb | exact ((Sees.refl w0).alloc _).below hb | exact ((Sees.refl w0).alloc _).drew.below hb | exact ((Sees.refl w0).drew.alloc _).below hb); have d0 := kc SA c0; have d1 := kc SA c1; have da0 := kc ((Sees.refl wa).alloc (.cells #[.int .i64 0, .int .i64 0, .int .i64 0, .slice none 0 0, .slice none 0 0] 32)) d0; have da1 := kc ((Sees.refl wa).alloc (.cells #[.int .i64 0, .int .i64 0, .int .i64 0, .slice none 0 0, .slice none 0 0] 32)) d1; have SAH := Lib.hid SA; (first | (have BX := (hb.block w0.heap.size (by simp)).trans (heap_new _ _ _ rfl); obtain ⟨m0, m1, m2, m3, m4, n0, n1, n2, n3, n4⟩ := five_facts BX; have BXH := Lib.hid BX; clear BX) | skip); clear hQ hb SA)
      | fail)

    all_goals
      go_wp2_with fail
      go_meet
      first
        | exact ⟨_, _, rfl, Emp.boxfirst BXH.out HQ.out (by simp) SAH.out⟩
        | exact ⟨_, _, rfl, Emp.tabfirst HQ.out (by simp) SAH.out⟩
        | exact ⟨_, _, rfl, Emp.tabfirst' HQ.out (by simp) SAH.out⟩
  case rest =>
  obtain ⟨bm, A1, rfl, T⟩ := hcut
  clear ca0 ca1
  have HT := Lib.hid T
  have S0 : Hid (Sees w0 wc) := T.below
  obtain ⟨s2, hs2⟩ : ∃ s2, s2 = wc.heap.size := ⟨_, rfl⟩
  have H0 : Hid (∃ v : Value, Emp w0 bm s2 t a p ts A1 (List.replicate 0 rows) v wc) := ⟨_, by rw [hs2]; exact T⟩
  have d1 := kc S0.out c1
  have HA4 := Lib.hid ha
  clear T hs2 c0 c1 ha
  have ha := HA4.out
  go_wp2_with fail
  clear d1
  go_loopw [15] (fun i wr => ∃ (j : Nat) (v : Value), j ≤ a ∧ i = .int .i64 j ∧ Hid (Emp w0 bm s2 t a p ts A1 (List.replicate j rows) v wr)) (fun i _ => a - (intOf i).toNat)
  case atStart => obtain ⟨v, hv⟩ := H0.out; exact ⟨0, v, Nat.zero_le _, rfl, hv⟩
  case round =>
    obtain ⟨j, v, hj, rfl, hS⟩ := hrel
    clear H0 HT
    obtain ⟨m0, m1, m2, m3, m4, n0, n1, n2, n3, n4⟩ := five_facts hS.out.box
    have zw1 : bm < wr.heap.size := by have := hS.out.size; have := hS.out.low; omega
    by_cases hjn : j < a
    · have KJ2 : Hid (∀ W : World, Sees wr W → Calls Try.prog 55 #[.int .i64 (p : Int), .int .i64 (p : Int), .func (.func 115) #[] #[]] W fun e w' => ∃ A2, e = .returned (.slice A2 p p) ∧ BBF w' rows A2 (rng wr.heap.size w'.heap.size) ∧ Sees wr w') := fun W h =>
        (KT2.out W).mono fun e w' ⟨A2, he, hQ, hb⟩ => ⟨A2, he, bbF_ok.mono hQ fun k hk => ⟨Nat.le_trans h.size hk.1, hk.2⟩, h.below hb⟩
      have HLEN : Hid ((List.replicate j rows).length = j) := List.length_replicate
      have HST : Hid (List.replicate (j + 1) rows = List.replicate j rows ++ [rows]) := List.replicate_succ'
      have JL := Lib.hid hjn
      have j0 : (0 : Int) ≤ (j : Int) := Int.natCast_nonneg _
      have j1 : decide ((j : Int) < (a : Int)) = true := decide_eq_true (by omega)
      have j4 : j ≤ 1048576 := by omega
      go_wp2_with fail
      go_region_law (first
        | (go_simp; go_at_call 55; refine (KJ2.out _ ?_).mono ?_; (first | exact Sees.refl _ | exact (Sees.refl _).drew | exact (Sees.refl _).drew.drew); rintro e wa ⟨A2, rfl, hQ2, hsa⟩; have HQ2 := Lib.hid hQ2; have HSA := Lib.hid hsa; have HU := Lib.hid (hS.out.grow hsa); obtain ⟨p0, p1, p2, p3, p4, o0, o1, o2, o3, o4⟩ := five_facts HU.out.box; obtain ⟨vals, hvl, hown, hp2⟩ := Acc.push bbF_ok hS.out.acc hS.out.size hsa hQ2 (Wa := wa.alloc (.cells #[.slice A2 p p] 29)) (C := p) ((Below.refl _ _).alloc (Nat.le_refl _) _); have hln : List.length rows = p := HRL.out; rw [hln, HLEN.out] at hp2; rw [HLEN.out] at hown; have HOWN := Lib.hid hown; have HP := Lib.hid hp2; have zwa : bm < wa.heap.size := (Nat.lt_of_lt_of_le zw1 hsa.size); clear hown hp2 hQ2 hsa)
        | (refine step_one Try.elBBB (wa.alloc (.cells #[.slice A2 p p] 29)) (by rfl) _ _ (by rfl) s2 j wa.heap.size v (.slice A2 p p) vals (by rfl) (by rfl) HOWN.out (by simp [go_sem]) rfl j4 (by have := HU.out.size; simp; omega) ?_; intro v' w' ho hg hat; have hacc := HP.out v' w' ho hg hat; obtain ⟨Zv, lv, Cv, hvf⟩ := hacc.form; subst hvf; obtain ⟨hX, hbx⟩ := (HU.out.grow ((Below.refl _ _).alloc (Nat.le_refl _) _)).push hacc hg; have HX := Lib.hid hX; obtain ⟨q0, q1, q2, q3, q4, t0, t1, t2, t3, t4⟩ := five_facts hbx; clear hX hacc ho hg hat))
      all_goals
        have HX2 : Hid (Emp w0 bm s2 t a p ts A1 (List.replicate (j + 1) rows) (.slice Zv lv Cv) (w'.setCell ⟨bm, 4, none⟩ (.slice Zv lv Cv))) := by rw [HST.out]; exact HX.out
        go_wp2_with fail
        go_roundw
        case rel => exact ⟨j + 1, _, JL.out, by go_num, HX2.out⟩
        case measure => have := JL.out; simp [intOf]; omega
    · obtain rfl : j = a := by omega
      have HRr := (hS.out.below.block (w.heap.size + 1) (by omega)).trans HR0.out
      obtain ⟨u0, u1, u2, u3, u4, x0, x1, x2, x3, x4⟩ := five_facts HRr
      have hdone := hS.out.acc.done
      rw [List.length_replicate] at hdone
      obtain ⟨A2, C2, hv2, hR2⟩ := hdone
      subst hv2
      have HR2 := Lib.hid hR2
      clear hR2
      go_wp2_with fail
      obtain ⟨y0, y1, y2, y3, y4, _, _, _, _, _⟩ := five_facts (five_block HRr (.int .i64 (t : Int)) (.int .i64 (j : Int)) (.int .i64 (p : Int)) (.slice A1 t t) (.slice A2 j C2))
      refine bodyPost_ret (v := .agg #[.int .i64 (t : Int), .int .i64 (j : Int), .int .i64 (p : Int), .slice A1 t t, .slice A2 j C2]) (by simp [results, Try.results54, go_sem, y0, y1, y2, y3, y4]) rfl ?_
      exact hS.out.mret HR2.out (by omega) (by omega) (FIN.out _ hS.out.below) _ _ _ _ _ HTS.out List.length_replicate
end Go.Proofs.Ytojheipllpkgdaa

namespace Go.Proofs.Ytojheipllpkgdaa
open Go.RowKit
set_option linter.unusedVariables false

set_option maxHeartbeats 1000000 in
theorem wmClo_any (p : List Int) (i x : Nat) (hi : i ≤ 2) (hx : x < p.length) (h8 : p.length ≤ 8) (hv : 0 ≤ nth p x ∧ nth p x ≤ 7) (b : Nat) (A : Option Addr) (C : Nat) (w : World) (hA : Ints w p A) (g : w.cell? ⟨b, 0, none⟩ = some (.slice A p.length C)) :
    Calls Try.prog 56 #[.int .i64 (i : Int), .int .i64 (x : Int), .pointer (some ⟨b, 0, none⟩)] w fun e w' => e = .returned (.bool (bitB (nth p x) i)) ∧ Below w.heap.size w w' := by
  obtain ⟨y, z, rfl, hat⟩ := hA (by rintro rfl; simp at hx)
  have c := hat x hx
  obtain ⟨v, hvv⟩ : ∃ v, v = nth p x := ⟨_, rfl⟩
  rw [← hvv] at c hv ⊢
  have K : Hid (∀ W : World, Calls Try.prog 57 #[.int .i64 (i : Int), .int .i64 v] W fun e w' => e = .returned (.bool (bitB v i)) ∧ Below W.heap.size W w') := fun W => holdsAt_any i v (by omega) (by omega) hv.1 hv.2 W
  obtain ⟨q, hq⟩ : ∃ q, q = bitB v i := ⟨_, rfl⟩
  rw [← hq] at K ⊢
  have x0 : (0 : Int) ≤ (x : Int) := Int.natCast_nonneg _
  have x1 : (x : Int) < (p.length : Int) := by omega
  clear hat hvv hv hi hx hq
  go_enter Try.func56, Try.ntmps56
  go_wp2_with fail
  refine (K.out _).mono ?_
  rintro e w1 ⟨rfl, hb⟩
  have HB := Lib.hid hb
  clear hb
  go_wp2_with fail
  go_ret
  exact ⟨rfl, HB.out⟩
end Go.Proofs.Ytojheipllpkgdaa
