/- impl.haveShape at bool; impl.ValidModel. RestrictModel: contract of the program's. Contract of spec.l05Pick. Conditions: which are valid; all of a list from a place on. Plain facts. -/
import Derived.Test.YtmblgkpgfofceaaRma
import Derived.Laws.EntriesVeiled
import Derived.Test.YtmblgkpgfofceaaRmc
import Derived.Test.YtmblgkpgfofceaaRmb
import Derived.Test.YtmblgkpgfofceaaRsMD
import Derived.Test.YtmblgkpgfofceaaRsD
import Derived.Test.YtmblgkpgfofceaaQuietC
import Derived.Deep.RegionLaw
import Derived.Deep.RegionHeld3
import Derived.Deep.DrawnRows
import Derived.Deep.AppendLies
import Derived.Test.YtmblgkpgfofceaaSig
import Derived.Test.YtmblgkpgfofceaaTreeD
namespace Go.Proofs.Ytmblgkpgfofceaa
open Go.RowKit

theorem validB_any (x : Bool) (w : World) : Calls Try.prog 128 #[.bool x] w fun e w' => e = .returned (.bool ((fun _ : Bool => true) x)) ∧ Below w.heap.size w w' := by
  go_enter Try.func128, Try.ntmps128
  go_wp2_with fail
  go_ret
  exact ⟨rfl, Below.refl _ _⟩

theorem shape1B_any (p : Int) (bp : Nat) (row : List Bool) (B : Option Addr) (D : Nat) (w : World) (hp : w.cell? ⟨bp, 0, none⟩ = some (.int .i64 p)) :
    Calls Try.prog 156 #[.slice B row.length D, .pointer (some ⟨bp, 0, none⟩)] w fun e w' => e = .returned (.bool (isRow p row)) ∧ Below w.heap.size w w' := by
  by_cases h : (row.length : Int) = p
  · have HE : Hid (isRow p row = true) := isRow_pos h
    have te : ((row.length : Int) == p) = true := by simp [h]
    clear h
    go_enter Try.func156, Try.ntmps156
    go_wp2_with fail
    go_ret
    exact ⟨ret_bool HE.out.symm, Below.refl _ _⟩
  · have HE : Hid (isRow p row = false) := isRow_neg h
    have te : ((row.length : Int) == p) = false := by rw [beq_eq_false_iff_ne]; exact h
    clear h
    go_enter Try.func156, Try.ntmps156
    go_wp2_with fail
    go_ret
    exact ⟨ret_bool HE.out.symm, Below.refl _ _⟩

set_option maxHeartbeats 400000 in
theorem shape2B_any (p : Int) (bp bv : Nat) (row : List (Bool)) (hm : row.length ≤ 9223372036854775807) (B : Option Addr) (D : Nat) (w : World) (hp : w.cell? ⟨bp, 0, none⟩ = some (.int .i64 p)) (hv : w.cell? ⟨bv, 0, none⟩ = some (.func (.func 128) #[] #[])) (hl : BoolsL 0 w row B) :
    Calls Try.prog 157 #[.slice B row.length D, .pointer (some ⟨bp, 0, none⟩), .pointer (some ⟨bv, 0, none⟩)] w fun e w' => e = .returned (.bool (rowH p (fun _ : Bool => true) row)) ∧ Below w.heap.size w w' := by
  have KE : Hid (∀ W : World, Sees w W → Calls Try.prog 158 #[.slice B row.length D, .func (.func 128) #[] #[]] W fun e w' => e = .returned (.bool (row.all (fun _ : Bool => true))) ∧ Below W.heap.size W w') := fun W h => everyb_any (fun _ : Bool => true) 128 #[] (enters_of Try.func128 (by kernel_rfl) rfl) row hm B D W (bools_ok.below hl h) (fun W2 x h2 _ => validB_any x W2)
  by_cases h : (row.length : Int) = p
  · obtain ⟨q, hq⟩ : ∃ q : Bool, q = row.all (fun _ : Bool => true) := ⟨_, rfl⟩
    have HE : Hid (rowH p (fun _ : Bool => true) row = q) := by show _ = _; unfold rowH; rw [isRow_pos h, hq]; rfl
    have te : ((row.length : Int) == p) = true := by simp [h]
    rw [← hq] at KE
    clear h hq hl
    go_enter Try.func157, Try.ntmps157
    go_wp2_with fail
    refine (KE.out _ (Sees.refl _)).mono ?_
    rintro e w1 ⟨rfl, hb⟩
    go_wp2_with fail
    go_ret
    exact ⟨ret_bool HE.out.symm, hb⟩
  · have HE : Hid (rowH p (fun _ : Bool => true) row = false) := by show _ = _; unfold rowH; rw [isRow_neg h]; rfl
    have te : ((row.length : Int) == p) = false := by rw [beq_eq_false_iff_ne]; exact h
    clear h hl
    go_enter Try.func157, Try.ntmps157
    go_wp2_with fail
    go_ret
    exact ⟨ret_bool HE.out.symm, Below.refl _ _⟩

set_option maxHeartbeats 400000 in
theorem shape3B_any (p : Int) (bp br : Nat) (bv : Nat) (row : List (List Bool)) (hm : row.length ≤ 9223372036854775807) (B : Option Addr) (D : Nat) (w : World) (hp : w.cell? ⟨bp, 0, none⟩ = some (.int .i64 p)) (hv : w.cell? ⟨br, 0, none⟩ = some (.func (.func 157) #[] #[.pointer (some ⟨bp, 0, none⟩), .pointer (some ⟨bv, 0, none⟩)])) (hl : BB 0 w row B) (hv2 : w.cell? ⟨bv, 0, none⟩ = some (.func (.func 128) #[] #[])) (hf : ∀ x ∈ row, x.length ≤ 9223372036854775807) :
    Calls Try.prog 159 #[.slice B row.length D, .pointer (some ⟨bp, 0, none⟩), .pointer (some ⟨br, 0, none⟩)] w fun e w' => e = .returned (.bool (actH p (fun _ : Bool => true) row)) ∧ Below w.heap.size w w' := by
  have KE : Hid (∀ W : World, Sees w W → Calls Try.prog 160 #[.slice B row.length D, .func (.func 157) #[] #[.pointer (some ⟨bp, 0, none⟩), .pointer (some ⟨bv, 0, none⟩)]] W fun e w' => e = .returned (.bool (row.all (rowH p (fun _ : Bool => true)))) ∧ Below W.heap.size W w') := fun W h => everyB_any (rowH p (fun _ : Bool => true)) 157 #[.pointer (some ⟨bp, 0, none⟩), .pointer (some ⟨bv, 0, none⟩)] (enters_of Try.func157 (by kernel_rfl) rfl) row hm B D W (bb_ok.below hl h) (fun W2 x B2 D2 h2 hx hx2 => shape2B_any p bp bv x (hf x hx) B2 D2 W2 (kc (Sees.below h h2) hp) (kc (Sees.below h h2) hv2) hx2)
  by_cases h : (row.length : Int) = p
  · obtain ⟨q, hq⟩ : ∃ q : Bool, q = row.all (rowH p (fun _ : Bool => true)) := ⟨_, rfl⟩
    have HE : Hid (actH p (fun _ : Bool => true) row = q) := by show _ = _; unfold actH; rw [isRow_pos h, hq]; rfl
    have te : ((row.length : Int) == p) = true := by simp [h]
    rw [← hq] at KE
    clear h hq hl
    go_enter Try.func159, Try.ntmps159
    go_wp2_with fail
    refine (KE.out _ (Sees.refl _)).mono ?_
    rintro e w1 ⟨rfl, hb⟩
    go_wp2_with fail
    go_ret
    exact ⟨ret_bool HE.out.symm, hb⟩
  · have HE : Hid (actH p (fun _ : Bool => true) row = false) := by show _ = _; unfold actH; rw [isRow_neg h]; rfl
    have te : ((row.length : Int) == p) = false := by rw [beq_eq_false_iff_ne]; exact h
    clear h hl
    go_enter Try.func159, Try.ntmps159
    go_wp2_with fail
    go_ret
    exact ⟨ret_bool HE.out.symm, Below.refl _ _⟩

set_option maxHeartbeats 2000000 in
set_option maxRecDepth 100000 in
theorem haveShapeB_any (t a p : Int) (ac : List (List Bool)) (nx : List (List (List Bool))) (hs : SmallM ac nx) (A B : Option Addr) (C D : Nat) (w : World) (hA : BB 0 w ac A) (hB : BBB 0 w nx B) :
    Calls Try.prog 127 #[.agg #[.int .i64 t, .int .i64 a], .int .i64 p, .slice A ac.length C, .slice B nx.length D, (.func (.func 128) #[] #[])] w fun e w' => e = .returned (.bool (validH (fun _ : Bool => true) t a p ac nx)) ∧ Below w.heap.size w w' := by
  obtain ⟨f1, f2, f3, f4⟩ := hs
  obtain ⟨q1, hq1⟩ : ∃ q1 : Bool, q1 = sigOk t a := ⟨_, rfl⟩
  have K1 : Hid (∀ W : World, Calls Try.prog 105 #[.agg #[.int .i64 t, .int .i64 a]] W fun e w' => e = .returned (.bool q1) ∧ Below W.heap.size W w') := fun W => by rw [hq1]; exact implValidSig_any t a W
  obtain ⟨q2, hq2⟩ : ∃ q2 : Bool, q2 = ac.all (isRow p) := ⟨_, rfl⟩
  obtain ⟨q3, hq3⟩ : ∃ q3 : Bool, q3 = nx.all (actH p (fun _ : Bool => true)) := ⟨_, rfl⟩
  have K2 : Hid (∀ (W : World) (bp : Nat), Sees w W → W.cell? ⟨bp, 0, none⟩ = some (.int .i64 p) → Calls Try.prog 160 #[.slice A ac.length C, .func (.func 156) #[] #[.pointer (some ⟨bp, 0, none⟩)]] W fun e w' => e = .returned (.bool q2) ∧ Below W.heap.size W w') := fun W bp h hp => by
    rw [hq2]
    exact everyB_any (isRow p) 156 #[.pointer (some ⟨bp, 0, none⟩)] (enters_of Try.func156 (by kernel_rfl) rfl) ac (by omega) A C W (bb_ok.below hA h) (fun W2 x B2 D2 h2 _ _ => shape1B_any p bp x B2 D2 W2 (kc h2 hp))
  have K3 : Hid (∀ (W : World) (bp bv br : Nat), Sees w W → W.cell? ⟨bp, 0, none⟩ = some (.int .i64 p) → W.cell? ⟨bv, 0, none⟩ = some (.func (.func 128) #[] #[]) → W.cell? ⟨br, 0, none⟩ = some (.func (.func 157) #[] #[.pointer (some ⟨bp, 0, none⟩), .pointer (some ⟨bv, 0, none⟩)]) → Calls Try.prog 161 #[.slice B nx.length D, .func (.func 159) #[] #[.pointer (some ⟨bp, 0, none⟩), .pointer (some ⟨br, 0, none⟩)]] W fun e w' => e = .returned (.bool q3) ∧ Below W.heap.size W w') := fun W bp bv br h hp hv hr => by
    rw [hq3]
    exact everyBB_any (actH p (fun _ : Bool => true)) 159 #[.pointer (some ⟨bp, 0, none⟩), .pointer (some ⟨br, 0, none⟩)] (enters_of Try.func159 (by kernel_rfl) rfl) nx (by omega) B D W (bbb_ok.below hB h) (fun W2 x B2 D2 h2 hx hx2 => shape3B_any p bp br bv x (Nat.le_trans (f4 x hx).1 (by decide)) B2 D2 W2 (kc h2 hp) (kc h2 hr) hx2 (kc h2 hv) (fun y hy => Nat.le_trans ((f4 x hx).2 y hy) (by decide)))
  have hvalid : Hid (validH (fun _ : Bool => true) t a p ac nx = (q1 && (inB p 1 8 && (decide ((ac.length : Int) = t) && (decide ((nx.length : Int) = a) && (q2 && q3)))))) := by show _ = _; unfold validH; rw [hq1, hq2, hq3]
  obtain ⟨w0, hw0⟩ : ∃ w0, w0 = ((w.alloc (.cells #[.int .i64 t, .int .i64 a] 29)).alloc (.cells #[.int .i64 p] 2)).alloc (.cells #[.func (.func 128) #[] #[]] 166) := ⟨_, rfl⟩
  have B0 : Sees w w0 := by rw [hw0]; exact (((Sees.refl w).alloc _).alloc _).alloc _
  have g0 : w0.cell? ⟨w.heap.size, 0, none⟩ = some (.int .i64 t) := by rw [hw0]; simp [go_sem]
  have g1 : w0.cell? ⟨w.heap.size, 1, none⟩ = some (.int .i64 a) := by rw [hw0]; simp [go_sem]
  have g2 : w0.cell? ⟨w.heap.size + 1, 0, none⟩ = some (.int .i64 p) := by rw [hw0]; simp [go_sem]
  have g3 : w0.cell? ⟨w.heap.size + 1 + 1, 0, none⟩ = some (.func (.func 128) #[] #[]) := by rw [hw0]; simp [go_sem]
  clear hq1 hq2 hq3 hA hB f1 f2 f3 f4
  cases q1
  · have HD : Hid (validH (fun _ : Bool => true) t a p ac nx = false) := by show _ = _; rw [hvalid.out]; rfl
    clear hvalid
    go_enter Try.func127, Try.ntmps127
    go_wp2_with fail
    rw [← hw0]
    refine (K1.out _).mono ?_
    rintro e w1 ⟨rfl, hb⟩
    have x0 := kc hb g0; have x1 := kc hb g1; have x2 := kc hb g2; have x3 := kc hb g3
    have B1 : Sees w w1 := B0.below hb
    clear hw0 g0 g1 g2 g3 hb B0
    go_wp2_with fail
    go_ret
    exact ⟨ret_bool HD.out.symm, B1⟩
  by_cases hlo : p < 1
  · have HD : Hid (validH (fun _ : Bool => true) t a p ac nx = false) := by show _ = _; rw [hvalid.out, show inB p 1 8 = false from by unfold inB; simp; omega]; rfl
    have t1 : decide (p < 1) = true := decide_eq_true hlo
    clear hvalid
    go_enter Try.func127, Try.ntmps127
    go_wp2_with fail
    rw [← hw0]
    refine (K1.out _).mono ?_
    rintro e w1 ⟨rfl, hb⟩
    have x0 := kc hb g0; have x1 := kc hb g1; have x2 := kc hb g2; have x3 := kc hb g3
    have B1 : Sees w w1 := B0.below hb
    clear hw0 g0 g1 g2 g3 hb B0
    go_wp2_with fail
    go_ret
    exact ⟨ret_bool HD.out.symm, B1⟩
  have t1 : decide (p < 1) = false := decide_eq_false hlo
  by_cases hhi : (8 : Int) < p
  · have HD : Hid (validH (fun _ : Bool => true) t a p ac nx = false) := by show _ = _; rw [hvalid.out, show inB p 1 8 = false from by unfold inB; simp; omega]; rfl
    have t2 : decide ((8 : Int) < p) = true := decide_eq_true hhi
    clear hvalid
    go_enter Try.func127, Try.ntmps127
    go_wp2_with fail
    rw [← hw0]
    refine (K1.out _).mono ?_
    rintro e w1 ⟨rfl, hb⟩
    have x0 := kc hb g0; have x1 := kc hb g1; have x2 := kc hb g2; have x3 := kc hb g3
    have B1 : Sees w w1 := B0.below hb
    clear hw0 g0 g1 g2 g3 hb B0
    go_wp2_with fail
    go_ret
    exact ⟨ret_bool HD.out.symm, B1⟩
  have t2 : decide ((8 : Int) < p) = false := decide_eq_false hhi
  have hb18 : inB p 1 8 = true := by unfold inB; simp; omega
  rw [hb18] at hvalid
  by_cases hl1 : (ac.length : Int) = t
  case neg =>
    have HD : Hid (validH (fun _ : Bool => true) t a p ac nx = false) := by show _ = _; rw [hvalid.out, decide_eq_false hl1]; rfl
    have tn : ((ac.length : Int) != t) = true := by rw [bne_iff_ne]; exact hl1
    clear hvalid hb18 hl1
    go_enter Try.func127, Try.ntmps127
    go_wp2_with fail
    rw [← hw0]
    refine (K1.out _).mono ?_
    rintro e w1 ⟨rfl, hb⟩
    have x0 := kc hb g0; have x1 := kc hb g1; have x2 := kc hb g2; have x3 := kc hb g3
    have B1 : Sees w w1 := B0.below hb
    clear hw0 g0 g1 g2 g3 hb B0
    go_wp2_with fail
    go_ret
    exact ⟨ret_bool HD.out.symm, B1⟩
  have tl1 : ((ac.length : Int) != t) = false := by simp [hl1]
  rw [decide_eq_true hl1] at hvalid
  clear hl1
  by_cases hl2 : (nx.length : Int) = a
  case neg =>
    have HD : Hid (validH (fun _ : Bool => true) t a p ac nx = false) := by show _ = _; rw [hvalid.out, decide_eq_false hl2]; rfl
    have tn : ((nx.length : Int) != a) = true := by rw [bne_iff_ne]; exact hl2
    clear hvalid hb18 hl2
    go_enter Try.func127, Try.ntmps127
    go_wp2_with fail
    rw [← hw0]
    refine (K1.out _).mono ?_
    rintro e w1 ⟨rfl, hb⟩
    have x0 := kc hb g0; have x1 := kc hb g1; have x2 := kc hb g2; have x3 := kc hb g3
    have B1 : Sees w w1 := B0.below hb
    clear hw0 g0 g1 g2 g3 hb B0
    go_wp2_with fail
    go_ret
    exact ⟨ret_bool HD.out.symm, B1⟩
  have tl2 : ((nx.length : Int) != a) = false := by simp [hl2]
  rw [decide_eq_true hl2] at hvalid
  clear hl2
  cases q2
  · have HD : Hid (validH (fun _ : Bool => true) t a p ac nx = false) := by show _ = _; rw [hvalid.out]; rfl
    clear hvalid hb18
    go_enter Try.func127, Try.ntmps127
    go_wp2_with fail
    rw [← hw0]
    refine (K1.out _).mono ?_
    rintro e w1 ⟨rfl, hb⟩
    have x0 := kc hb g0; have x1 := kc hb g1; have x2 := kc hb g2; have x3 := kc hb g3
    have B1 : Sees w w1 := B0.below hb
    clear hw0 g0 g1 g2 g3 hb B0
    go_wp2_with fail
    refine (K2.out _ (w.heap.size + 1) (B1.alloc _) (ka _ x2)).mono ?_
    rintro e w2 ⟨rfl, hb⟩
    have B2 : Sees w w2 := Sees.below (B1.alloc _) hb
    clear hb
    go_wp2_with fail
    go_ret
    exact ⟨ret_bool HD.out.symm, B2⟩
  have HD : Hid (validH (fun _ : Bool => true) t a p ac nx = q3) := by show _ = _; rw [hvalid.out]; rfl
  clear hvalid hb18
  go_enter Try.func127, Try.ntmps127
  go_wp2_with fail
  rw [← hw0]
  refine (K1.out _).mono ?_
  rintro e w1 ⟨rfl, hb⟩
  have x0 := kc hb g0; have x1 := kc hb g1; have x2 := kc hb g2; have x3 := kc hb g3
  have B1 : Sees w w1 := B0.below hb
  clear hw0 g0 g1 g2 g3 hb B0
  go_wp2_with fail
  refine (K2.out _ (w.heap.size + 1) (B1.alloc _) (ka _ x2)).mono ?_
  rintro e w2 ⟨rfl, hb⟩
  have B2 : Sees w w2 := Sees.below (B1.alloc _) hb
  have y2 := kc hb (ka _ x2); have y3 := kc hb (ka _ x3)
  have y4 := kc hb (show (w1.alloc _).cell? ⟨w1.heap.size, 0, none⟩ = some (.func (.func 157) #[] #[.pointer (some ⟨w.heap.size + 1, 0, none⟩), .pointer (some ⟨w.heap.size + 1 + 1, 0, none⟩)]) from by simp [go_sem])
  clear hb x0 x1 x2 x3 B1
  go_wp2_with fail
  refine (K3.out _ (w.heap.size + 1) (w.heap.size + 1 + 1) w1.heap.size B2 y2 y3 y4).mono ?_
  rintro e w3 ⟨rfl, hb⟩
  have B3 : Sees w w3 := B2.below hb
  clear hb
  go_wp2_with fail
  go_ret
  exact ⟨ret_bool HD.out.symm, B3⟩

set_option maxRecDepth 100000 in
theorem implValidModel_any (t a p : Int) (ac : List (List Bool)) (nx : List (List (List Bool))) (hs : SmallM ac nx) (A B : Option Addr) (C D : Nat) (w : World) (hA : BB 0 w ac A) (hB : BBB 0 w nx B) :
    Calls Try.prog 78 #[.agg #[.int .i64 t, .int .i64 a, .int .i64 p, .slice A ac.length C, .slice B nx.length D]] w fun e w' => e = .returned (.bool (validM t a p ac nx)) ∧ Below w.heap.size w w' := by
  obtain ⟨q, hq⟩ : ∃ q : Bool, q = validM t a p ac nx := ⟨_, rfl⟩
  have K : Hid (∀ W : World, Sees w W → Calls Try.prog 127 #[.agg #[.int .i64 t, .int .i64 a], .int .i64 p, .slice A ac.length C, .slice B nx.length D, (.func (.func 128) #[] #[])] W fun e w' => e = .returned (.bool q) ∧ Below W.heap.size W w') := fun W h => by
    rw [hq, ← validH_model]
    exact haveShapeB_any t a p ac nx hs A B C D W (bb_ok.below hA h) (bbb_ok.below hB h)
  rw [← hq]
  clear hq hA hB hs
  go_enter Try.func78, Try.ntmps78
  go_wp2_with fail
  refine (K.out _ (by unfold Sees; go_grown)).mono ?_
  rintro e w1 ⟨rfl, hb⟩
  have B1 : Sees w w1 := Sees.below (by unfold Sees; go_grown) hb
  clear hb
  go_wp2_with fail
  go_ret
  exact ⟨rfl, B1⟩
end Go.Proofs.Ytmblgkpgfofceaa

namespace Go.Proofs.Ytmblgkpgfofceaa
open Go.RowKit
set_option linter.unusedVariables false

set_option maxHeartbeats 4000000 in
set_option maxRecDepth 100000 in
theorem implRestrictModel_no (t a p : Int) (ac : List (List Bool)) (nx : List (List (List Bool))) (xs : List Int) (hs : SmallM ac nx) (hx : xs.length ≤ 1048576) (hv : validM t a p ac nx = false) (A B P : Option Addr) (C D PC : Nat) (w : World) (hA0 : BB 0 w ac A) (hB0 : BBB 0 w nx B) (hP0 : Ints w xs P) :
    Calls Try.prog 32 #[.agg #[.int .i64 t, .int .i64 a, .int .i64 p, .slice A ac.length C, .slice B nx.length D], .slice P xs.length PC] w (MEnd 0 0 0 [] [] 1 w) := by
  obtain ⟨w0, hw0⟩ : ∃ w0, w0 = (w.alloc (.cells #[.int .i64 t, .int .i64 a, .int .i64 p, .slice A ac.length C, .slice B nx.length D] 63)).alloc (.cells #[.int .i64 0, .int .i64 0, .int .i64 0, .slice none 0 0, .slice none 0 0] 63) := ⟨_, rfl⟩
  have B0 : Sees w w0 := by rw [hw0]; exact ((Sees.refl w).alloc _).alloc _
  have hA := hA0.sees B0; have hB := hB0.sees B0; have hP : Ints w0 xs P := hP0.sees B0
  have hc0 : w0.heap[w.heap.size]? = some (.cells #[.int .i64 t, .int .i64 a, .int .i64 p, .slice A ac.length C, .slice B nx.length D] 63 (0, 0)) := by
    rw [hw0]; exact (Below.heap_alloc _ _ _ (by simp)).trans (heap_new _ _ _ rfl)
  have hr0 : w0.heap[w.heap.size + 1]? = some (.cells #[.int .i64 0, .int .i64 0, .int .i64 0, .slice none 0 0, .slice none 0 0] 63 (0, 0)) := by
    rw [hw0]; exact heap_new _ _ _ (by simp)
  have z0 : w.heap.size + 2 ≤ w0.heap.size := by rw [hw0]; simp
  have K1 : Hid (∀ W : World, Sees w0 W → Calls Try.prog 78 #[.agg #[.int .i64 t, .int .i64 a, .int .i64 p, .slice A ac.length C, .slice B nx.length D]] W fun e w' => e = .returned (.bool false) ∧ Below W.heap.size W w') := fun W h => by
    rw [← hv]; exact implValidModel_any t a p ac nx hs A B C D W (hA.sees h) (hB.sees h)
  have HC0 := Lib.hid hc0; have HR0 := Lib.hid hr0
  have FIN : Hid (∀ W : World, Below w0.heap.size w0 W → Sees w W) := fun W h => B0.below h
  clear hA hB hP hA0 hB0 hP0 hv hs B0 hc0 hr0
  go_enter Try.func32, Try.ntmps32
  obtain ⟨c0, c1, c2, c3, c4, _, _, _, _, _⟩ := five_facts HC0.out
  have HW0 := Lib.hid hw0
  go_wp2_with fail
  rw [← hw0]
  clear hw0
  refine (K1.out _ (Sees.refl _)).mono ?_
  rintro e w1 ⟨rfl, hb⟩
  have HB1 := Lib.hid hb
  have HR1 := Lib.hid ((hb.block _ (by omega)).trans HR0.out)
  have HC1 := Lib.hid ((hb.block _ (by omega)).trans HC0.out)
  have z1 : w.heap.size + 1 < w1.heap.size := Nat.lt_of_lt_of_le (by omega) hb.size
  clear hb K1 c0 c1 c2 c3 c4
  obtain ⟨u0, u1, u2, u3, u4, x0, x1, x2, x3, x4⟩ := five_facts HR1.out
  go_wp2_with fail
  obtain ⟨y0, y1, y2, y3, y4, _, _, _, _, _⟩ := five_facts (five_block HR1.out (.int .i64 0) (.int .i64 0) (.int .i64 0) (.slice none 0 0) (.slice none 0 0))
  refine bodyPost_ret (v := .tuple #[.agg #[.int .i64 0, .int .i64 0, .int .i64 0, .slice none 0 0, .slice none 0 0], .int .i64 1]) (by simp [results, Try.results32, go_sem, y0, y1, y2, y3, y4]) rfl ?_
  exact MEnd.no (five_below (FIN.out _ HB1.out) (by omega) _ _ _ _ _)
set_option maxHeartbeats 4000000 in
set_option maxRecDepth 100000 in
theorem implRestrictModel_asc (t a p : Int) (ac : List (List Bool)) (nx : List (List (List Bool))) (xs : List Int) (hs : SmallM ac nx) (hx : xs.length ≤ 1048576) (hv : validM t a p ac nx = true) (ha : ascB p xs = false) (A B P : Option Addr) (C D PC : Nat) (w : World) (hA0 : BB 0 w ac A) (hB0 : BBB 0 w nx B) (hP0 : Ints w xs P) :
    Calls Try.prog 32 #[.agg #[.int .i64 t, .int .i64 a, .int .i64 p, .slice A ac.length C, .slice B nx.length D], .slice P xs.length PC] w (MEnd 0 0 0 [] [] 2 w) := by
  obtain ⟨_, _, _, _, hp1, hp8, _, _, _, _⟩ := validM_bd hv
  obtain ⟨w0, hw0⟩ : ∃ w0, w0 = (w.alloc (.cells #[.int .i64 t, .int .i64 a, .int .i64 p, .slice A ac.length C, .slice B nx.length D] 63)).alloc (.cells #[.int .i64 0, .int .i64 0, .int .i64 0, .slice none 0 0, .slice none 0 0] 63) := ⟨_, rfl⟩
  have B0 : Sees w w0 := by rw [hw0]; exact ((Sees.refl w).alloc _).alloc _
  have hA := hA0.sees B0; have hB := hB0.sees B0; have hP : Ints w0 xs P := hP0.sees B0
  have hc0 : w0.heap[w.heap.size]? = some (.cells #[.int .i64 t, .int .i64 a, .int .i64 p, .slice A ac.length C, .slice B nx.length D] 63 (0, 0)) := by
    rw [hw0]; exact (Below.heap_alloc _ _ _ (by simp)).trans (heap_new _ _ _ rfl)
  have hr0 : w0.heap[w.heap.size + 1]? = some (.cells #[.int .i64 0, .int .i64 0, .int .i64 0, .slice none 0 0, .slice none 0 0] 63 (0, 0)) := by
    rw [hw0]; exact heap_new _ _ _ (by simp)
  have z0 : w.heap.size + 2 ≤ w0.heap.size := by rw [hw0]; simp
  have K1 : Hid (∀ W : World, Sees w0 W → Calls Try.prog 78 #[.agg #[.int .i64 t, .int .i64 a, .int .i64 p, .slice A ac.length C, .slice B nx.length D]] W fun e w' => e = .returned (.bool true) ∧ Below W.heap.size W w') := fun W h => by
    rw [← hv]; exact implValidModel_any t a p ac nx hs A B C D W (hA.sees h) (hB.sees h)
  have K2 : Hid (∀ W : World, Sees w0 W → Calls Try.prog 79 #[.slice P xs.length PC, .int .i64 p] W fun e w' => (∃ s : Int, e = .returned (.tuple #[.int .u8 s, .bool false])) ∧ Below W.heap.size W w') := fun W h => by
    rw [← ha]; exact pointsIn_any p hp1 hp8 xs hx P PC W (hP.sees h)
  clear ha
  have HC0 := Lib.hid hc0; have HR0 := Lib.hid hr0
  have FIN : Hid (∀ W : World, Below w0.heap.size w0 W → Sees w W) := fun W h => B0.below h
  clear hA hB hP hA0 hB0 hP0 hv hs B0 hc0 hr0
  go_enter Try.func32, Try.ntmps32
  obtain ⟨c0, c1, c2, c3, c4, _, _, _, _, _⟩ := five_facts HC0.out
  have HW0 := Lib.hid hw0
  go_wp2_with fail
  rw [← hw0]
  clear hw0
  refine (K1.out _ (Sees.refl _)).mono ?_
  rintro e w1 ⟨rfl, hb⟩
  have HB1 := Lib.hid hb
  have HR1 := Lib.hid ((hb.block _ (by omega)).trans HR0.out)
  have HC1 := Lib.hid ((hb.block _ (by omega)).trans HC0.out)
  have z1 : w.heap.size + 1 < w1.heap.size := Nat.lt_of_lt_of_le (by omega) hb.size
  clear hb K1 c0 c1 c2 c3 c4
  obtain ⟨c0, c1, c2, c3, c4, _, _, _, _, _⟩ := five_facts HC1.out
  go_wp2_with fail
  refine (K2.out _ HB1.out).mono ?_
  rintro e w2 ⟨⟨s, rfl⟩, hb⟩
  have HB2 := Lib.hid (HB1.out.trans (hb.mono HB1.out.size))
  have HR2 := Lib.hid ((hb.block _ (by omega)).trans HR1.out)
  have HC2 := Lib.hid ((hb.block _ (by omega)).trans HC1.out)
  have z2 : w.heap.size + 1 < w2.heap.size := Nat.lt_of_lt_of_le z1 hb.size
  clear hb K2
  clear c0 c1 c2 c3 c4
  obtain ⟨u0, u1, u2, u3, u4, x0, x1, x2, x3, x4⟩ := five_facts HR2.out
  go_wp2_with fail
  obtain ⟨y0, y1, y2, y3, y4, _, _, _, _, _⟩ := five_facts (five_block HR2.out (.int .i64 0) (.int .i64 0) (.int .i64 0) (.slice none 0 0) (.slice none 0 0))
  refine bodyPost_ret (v := .tuple #[.agg #[.int .i64 0, .int .i64 0, .int .i64 0, .slice none 0 0, .slice none 0 0], .int .i64 2]) (by simp [results, Try.results32, go_sem, y0, y1, y2, y3, y4]) rfl ?_
  exact MEnd.no (five_below (FIN.out _ HB2.out) (by omega) _ _ _ _ _)
set_option maxHeartbeats 4000000 in
set_option maxRecDepth 100000 in
theorem implRestrictModel_nil (t a p : Int) (ac : List (List Bool)) (nx : List (List (List Bool))) (xs : List Int) (hs : SmallM ac nx) (hx : xs.length ≤ 1048576) (hv : validM t a p ac nx = true) (ha : ascB p xs = true) (he : xs.length = 0) (A B P : Option Addr) (C D PC : Nat) (w : World) (hA0 : BB 0 w ac A) (hB0 : BBB 0 w nx B) (hP0 : Ints w xs P) :
    Calls Try.prog 32 #[.agg #[.int .i64 t, .int .i64 a, .int .i64 p, .slice A ac.length C, .slice B nx.length D], .slice P xs.length PC] w (MEnd 0 0 0 [] [] 2 w) := by
  obtain ⟨_, _, _, _, hp1, hp8, _, _, _, _⟩ := validM_bd hv
  obtain rfl := List.eq_nil_of_length_eq_zero he
  clear he
  show Calls Try.prog 32 #[.agg #[.int .i64 t, .int .i64 a, .int .i64 p, .slice A ac.length C, .slice B nx.length D], .slice P 0 PC] w _
  obtain ⟨w0, hw0⟩ : ∃ w0, w0 = (w.alloc (.cells #[.int .i64 t, .int .i64 a, .int .i64 p, .slice A ac.length C, .slice B nx.length D] 63)).alloc (.cells #[.int .i64 0, .int .i64 0, .int .i64 0, .slice none 0 0, .slice none 0 0] 63) := ⟨_, rfl⟩
  have B0 : Sees w w0 := by rw [hw0]; exact ((Sees.refl w).alloc _).alloc _
  have hA := hA0.sees B0; have hB := hB0.sees B0; have hP : Ints w0 [] P := hP0.sees B0
  have hc0 : w0.heap[w.heap.size]? = some (.cells #[.int .i64 t, .int .i64 a, .int .i64 p, .slice A ac.length C, .slice B nx.length D] 63 (0, 0)) := by
    rw [hw0]; exact (Below.heap_alloc _ _ _ (by simp)).trans (heap_new _ _ _ rfl)
  have hr0 : w0.heap[w.heap.size + 1]? = some (.cells #[.int .i64 0, .int .i64 0, .int .i64 0, .slice none 0 0, .slice none 0 0] 63 (0, 0)) := by
    rw [hw0]; exact heap_new _ _ _ (by simp)
  have z0 : w.heap.size + 2 ≤ w0.heap.size := by rw [hw0]; simp
  have K1 : Hid (∀ W : World, Sees w0 W → Calls Try.prog 78 #[.agg #[.int .i64 t, .int .i64 a, .int .i64 p, .slice A ac.length C, .slice B nx.length D]] W fun e w' => e = .returned (.bool true) ∧ Below W.heap.size W w') := fun W h => by
    rw [← hv]; exact implValidModel_any t a p ac nx hs A B C D W (hA.sees h) (hB.sees h)
  have K2 : Hid (∀ W : World, Sees w0 W → Calls Try.prog 79 #[.slice P 0 PC, .int .i64 p] W fun e w' => (∃ s : Int, e = .returned (.tuple #[.int .u8 s, .bool true])) ∧ Below W.heap.size W w') := fun W h => by
    rw [← ha]; exact pointsIn_any p hp1 hp8 [] hx P PC W (hP.sees h)
  clear ha
  have HC0 := Lib.hid hc0; have HR0 := Lib.hid hr0
  have FIN : Hid (∀ W : World, Below w0.heap.size w0 W → Sees w W) := fun W h => B0.below h
  clear hA hB hP hA0 hB0 hP0 hv hs B0 hc0 hr0
  go_enter Try.func32, Try.ntmps32
  obtain ⟨c0, c1, c2, c3, c4, _, _, _, _, _⟩ := five_facts HC0.out
  have HW0 := Lib.hid hw0
  go_wp2_with fail
  rw [← hw0]
  clear hw0
  refine (K1.out _ (Sees.refl _)).mono ?_
  rintro e w1 ⟨rfl, hb⟩
  have HB1 := Lib.hid hb
  have HR1 := Lib.hid ((hb.block _ (by omega)).trans HR0.out)
  have HC1 := Lib.hid ((hb.block _ (by omega)).trans HC0.out)
  have z1 : w.heap.size + 1 < w1.heap.size := Nat.lt_of_lt_of_le (by omega) hb.size
  clear hb K1 c0 c1 c2 c3 c4
  obtain ⟨c0, c1, c2, c3, c4, _, _, _, _, _⟩ := five_facts HC1.out
  go_wp2_with fail
  refine (K2.out _ HB1.out).mono ?_
  rintro e w2 ⟨⟨s, rfl⟩, hb⟩
  have HB2 := Lib.hid (HB1.out.trans (hb.mono HB1.out.size))
  have HR2 := Lib.hid ((hb.block _ (by omega)).trans HR1.out)
  have HC2 := Lib.hid ((hb.block _ (by omega)).trans HC1.out)
  have z2 : w.heap.size + 1 < w2.heap.size := Nat.lt_of_lt_of_le z1 hb.size
  clear hb K2
  clear c0 c1 c2 c3 c4
  obtain ⟨u0, u1, u2, u3, u4, x0, x1, x2, x3, x4⟩ := five_facts HR2.out
  go_wp2_with fail
  obtain ⟨y0, y1, y2, y3, y4, _, _, _, _, _⟩ := five_facts (five_block HR2.out (.int .i64 0) (.int .i64 0) (.int .i64 0) (.slice none 0 0) (.slice none 0 0))
  refine bodyPost_ret (v := .tuple #[.agg #[.int .i64 0, .int .i64 0, .int .i64 0, .slice none 0 0, .slice none 0 0], .int .i64 2]) (by simp [results, Try.results32, go_sem, y0, y1, y2, y3, y4]) rfl ?_
  exact MEnd.no (five_below (FIN.out _ HB2.out) (by omega) _ _ _ _ _)
set_option maxHeartbeats 4000000 in
set_option maxRecDepth 100000 in
theorem implRestrictModel_yes (t a p : Nat) (ac : List (List Bool)) (nx : List (List (List Bool))) (xs : List Int) (hs : SmallM ac nx) (hx : xs.length ≤ 1048576) (hv : validM t a p ac nx = true) (ha : ascB p xs = true) (he : xs.length ≠ 0) (A B P : Option Addr) (C D PC : Nat) (w : World) (hA0 : BB 0 w ac A) (hB0 : BBB 0 w nx B) (hP0 : Ints w xs P) :
    Calls Try.prog 32 #[.agg #[.int .i64 (t : Int), .int .i64 (a : Int), .int .i64 (p : Int), .slice A ac.length C, .slice B nx.length D], .slice P xs.length PC] w (MEnd t a xs.length (rsT t xs ac) (rsA xs nx) 0 w) := by
  have ok := rsOk_of hv ha
  obtain ⟨_, _, _, _, hp1, hp8, _, _, _, _⟩ := validM_bd hv
  obtain ⟨w0, hw0⟩ : ∃ w0, w0 = (w.alloc (.cells #[.int .i64 (t : Int), .int .i64 (a : Int), .int .i64 (p : Int), .slice A ac.length C, .slice B nx.length D] 63)).alloc (.cells #[.int .i64 0, .int .i64 0, .int .i64 0, .slice none 0 0, .slice none 0 0] 63) := ⟨_, rfl⟩
  have B0 : Sees w w0 := by rw [hw0]; exact ((Sees.refl w).alloc _).alloc _
  have hA := hA0.sees B0; have hB := hB0.sees B0; have hP : Ints w0 xs P := hP0.sees B0
  have hc0 : w0.heap[w.heap.size]? = some (.cells #[.int .i64 (t : Int), .int .i64 (a : Int), .int .i64 (p : Int), .slice A ac.length C, .slice B nx.length D] 63 (0, 0)) := by
    rw [hw0]; exact (Below.heap_alloc _ _ _ (by simp)).trans (heap_new _ _ _ rfl)
  have hr0 : w0.heap[w.heap.size + 1]? = some (.cells #[.int .i64 0, .int .i64 0, .int .i64 0, .slice none 0 0, .slice none 0 0] 63 (0, 0)) := by
    rw [hw0]; exact heap_new _ _ _ (by simp)
  have z0 : w.heap.size + 2 ≤ w0.heap.size := by rw [hw0]; simp
  have K1 : Hid (∀ W : World, Sees w0 W → Calls Try.prog 78 #[.agg #[.int .i64 (t : Int), .int .i64 (a : Int), .int .i64 (p : Int), .slice A ac.length C, .slice B nx.length D]] W fun e w' => e = .returned (.bool true) ∧ Below W.heap.size W w') := fun W h => by
    rw [← hv]; exact implValidModel_any t a p ac nx hs A B C D W (hA.sees h) (hB.sees h)
  have K2 : Hid (∀ W : World, Sees w0 W → Calls Try.prog 79 #[.slice P xs.length PC, .int .i64 (p : Int)] W fun e w' => (∃ s : Int, e = .returned (.tuple #[.int .u8 s, .bool true])) ∧ Below W.heap.size W w') := fun W h => by
    rw [← ha]; exact pointsIn_any p hp1 hp8 xs hx P PC W (hP.sees h)
  obtain ⟨ts, hts0⟩ : ∃ ts, ts = rsT t xs ac := ⟨_, rfl⟩
  obtain ⟨acts, hacts0⟩ : ∃ acts, acts = rsA xs nx := ⟨_, rfl⟩
  have K3 : Hid (∀ W : World, Sees w0 W → Calls Try.prog 80 #[.agg #[.int .i64 (t : Int), .int .i64 (a : Int), .int .i64 (p : Int), .slice A ac.length C, .slice B nx.length D], .slice P xs.length PC] W (MRet t a xs.length ts acts W)) := fun W h => by
    rw [hts0, hacts0]; exact chosen_any t a p xs ac nx ok A B P C D PC W (hA.sees h) (hB.sees h) (hP.sees h)
  rw [← hts0, ← hacts0]
  clear hts0 hacts0 ok ha
  have tl : decide (((xs.length : Nat) : Int) = 0) = false := decide_eq_false (by omega)
  have te : (((xs.length : Nat) : Int) == 0) = false := by simpa using tl
  have HC0 := Lib.hid hc0; have HR0 := Lib.hid hr0
  have FIN : Hid (∀ W : World, Below w0.heap.size w0 W → Sees w W) := fun W h => B0.below h
  clear hA hB hP hA0 hB0 hP0 hv hs B0 hc0 hr0
  go_enter Try.func32, Try.ntmps32
  obtain ⟨c0, c1, c2, c3, c4, _, _, _, _, _⟩ := five_facts HC0.out
  have HW0 := Lib.hid hw0
  go_wp2_with fail
  rw [← hw0]
  clear hw0
  refine (K1.out _ (Sees.refl _)).mono ?_
  rintro e w1 ⟨rfl, hb⟩
  have HB1 := Lib.hid hb
  have HR1 := Lib.hid ((hb.block _ (by omega)).trans HR0.out)
  have HC1 := Lib.hid ((hb.block _ (by omega)).trans HC0.out)
  have z1 : w.heap.size + 1 < w1.heap.size := Nat.lt_of_lt_of_le (by omega) hb.size
  clear hb K1 c0 c1 c2 c3 c4
  obtain ⟨c0, c1, c2, c3, c4, _, _, _, _, _⟩ := five_facts HC1.out
  go_wp2_with fail
  refine (K2.out _ HB1.out).mono ?_
  rintro e w2 ⟨⟨s, rfl⟩, hb⟩
  have HB2 := Lib.hid (HB1.out.trans (hb.mono HB1.out.size))
  have HR2 := Lib.hid ((hb.block _ (by omega)).trans HR1.out)
  have HC2 := Lib.hid ((hb.block _ (by omega)).trans HC1.out)
  have z2 : w.heap.size + 1 < w2.heap.size := Nat.lt_of_lt_of_le z1 hb.size
  clear hb K2
  clear c0 c1 c2 c3 c4
  obtain ⟨c0, c1, c2, c3, c4, _, _, _, _, _⟩ := five_facts HC2.out
  go_wp2_with fail
  refine (K3.out _ HB2.out).mono ?_
  rintro e w3 ⟨A1, B1, C1, D1, m, rfl, hm1, hm2, hts, hacts, hb⟩
  have HB3 := Lib.hid (HB2.out.trans (hb.mono HB2.out.size))
  have HR3 := Lib.hid ((hb.block _ (by omega)).trans HR2.out)
  have HT := Lib.hid hts; have HA := Lib.hid hacts
  clear hb K3 hts hacts c0 c1 c2 c3 c4
  obtain ⟨u0, u1, u2, u3, u4, x0, x1, x2, x3, x4⟩ := five_facts HR3.out
  go_wp2_with fail
  obtain ⟨y0, y1, y2, y3, y4, _, _, _, _, _⟩ := five_facts (five_block HR3.out (.int .i64 (t : Int)) (.int .i64 (a : Int)) (.int .i64 (xs.length : Int)) (.slice A1 ts.length C1) (.slice B1 acts.length D1))
  refine bodyPost_ret (v := .tuple #[.agg #[.int .i64 (t : Int), .int .i64 (a : Int), .int .i64 (xs.length : Int), .slice A1 ts.length C1, .slice B1 acts.length D1], .int .i64 0]) (by simp [results, Try.results32, go_sem, y0, y1, y2, y3, y4]) rfl ?_
  exact mend5 HT.out HA.out (FIN.out _ HB3.out) (show w.heap.size ≤ w.heap.size + 1 by omega) (by omega) hm1 (Nat.le_refl _) hm2 (Nat.le_refl _) rfl rfl _ _ _ _ _
theorem implRestrictModel_any (t a p : Int) (ac : List (List Bool)) (nx : List (List (List Bool))) (xs : List Int) (hs : SmallM ac nx) (hx : xs.length ≤ 1048576) (A B P : Option Addr) (C D PC : Nat) (w : World) (hA0 : BB 0 w ac A) (hB0 : BBB 0 w nx B) (hP0 : Ints w xs P) :
    Calls Try.prog 32 #[.agg #[.int .i64 t, .int .i64 a, .int .i64 p, .slice A ac.length C, .slice B nx.length D], .slice P xs.length PC] w (REnd t a p ac nx xs w) := by
  by_cases hv : validM t a p ac nx = true
  · by_cases ha : ascB p xs = true
    · by_cases he : xs.length = 0
      · exact (implRestrictModel_nil t a p ac nx xs hs hx hv ha he A B P C D PC w hA0 hB0 hP0).mono fun e w' h => REnd.bad hv (by simp [he]) h
      · obtain ⟨ht, _, ha0, _, hp, _⟩ := validM_bd hv
        obtain ⟨t, rfl⟩ := Int.eq_ofNat_of_zero_le ht
        obtain ⟨a, rfl⟩ := Int.eq_ofNat_of_zero_le ha0
        obtain ⟨p, rfl⟩ := Int.eq_ofNat_of_zero_le (show 0 ≤ p by omega)
        exact (implRestrictModel_yes t a p ac nx xs hs hx hv ha he A B P C D PC w hA0 hB0 hP0).mono fun e w' h => REnd.yes hv ha he h
    · have ha : ascB p xs = false := by simpa using ha
      exact (implRestrictModel_asc t a p ac nx xs hs hx hv ha A B P C D PC w hA0 hB0 hP0).mono fun e w' h => REnd.bad hv (by simp [ha]) h
  · have hv : validM t a p ac nx = false := by simpa using hv
    exact (implRestrictModel_no t a p ac nx xs hs hx hv A B P C D PC w hA0 hB0 hP0).mono fun e w' h => REnd.no hv h
end Go.Proofs.Ytmblgkpgfofceaa

namespace Go.Proofs.Ytmblgkpgfofceaa
open Go.RowKit
set_option linter.unusedVariables false

/-- A row of Booleans that a call makes by append, in blocks from lo on. -/
def OwnB (w : World) (lo : Nat) (v : Value) (xs : List Bool) : Prop := w.ownsRow lo 4 1 v xs.length (xs.map Value.bool)
theorem OwnB.made (w : World) : OwnB (w.alloc (.cells #[] 4)) w.heap.size (.slice (some ⟨w.heap.size, 0, none⟩) 0 0) [] := World.ownsRow_made w #[] 0 (Nat.le_refl _) (Nat.zero_le _) rfl
theorem OwnB.keep {w w' : World} {lo : Nat} {v : Value} {xs : List Bool} (h : OwnB w lo v xs) (hb : Below w.heap.size w w') : OwnB w' lo v xs := own_keep h fun k hk => hb.block k (World.ownsRow.lt h k hk).2
theorem OwnB.done {w : World} {lo : Nat} {v : Value} {xs : List Bool} (h : OwnB w lo v xs) : ∃ A C, v = .slice A xs.length C ∧ BoolsF w xs A (rng lo w.heap.size) := by
  have hlt := World.ownsRow.lt h
  obtain ⟨h1, h2⟩ := h
  rcases h2 with ⟨hv, h0⟩ | ⟨g, cap, cur, rfl, hb, hg, hn, _, hs, ht⟩
  · exact ⟨none, 0, by rw [h0]; exact hv, Or.inl (List.eq_nil_of_length_eq_zero h0)⟩
  · refine ⟨some ⟨g, 0, none⟩, cap, rfl, Or.inr ⟨g, rfl, hlt g rfl, fun i => Fo.unfrozen_of_block hg i, fun i x hx => ?_⟩⟩
    obtain ⟨hl, hxe⟩ := List.getElem?_eq_some_iff.1 hx
    rw [Fo.cell_of_block hg, ← Array.getElem?_toList]
    have h5 : (xs.map Value.bool)[i]? = some (.bool x) := by rw [List.getElem?_map, hx]; rfl
    rw [← ht, List.getElem?_take, if_pos (by omega)] at h5
    exact h5
theorem OwnB.push {w' : World} {lo : Nat} {v' : Value} {xs : List Bool} {q : Bool} (ho : w'.ownsRow lo 4 1 v' (xs.length + 1) (xs.map Value.bool ++ [.bool q])) : OwnB w' lo v' (xs ++ [q]) := by
  unfold OwnB
  rw [List.length_append, List.map_append]
  exact ho
theorem range_map_step {T : Nat → Bool} {x : Nat} : (List.range (x + 1)).map T = (List.range x).map T ++ [T x] := by rw [List.range_succ, List.map_append]; rfl
theorem rsT_row {t : Nat} {ord : List Int} {ac : List (List Bool)} {j : Nat} (h : j < (rsT t ord ac).length) : (rsT t ord ac)[j] = (List.range ord.length).map fun x => (ac.getD j []).getD (nth ord x).toNat false := tab_row _ _ _ h
theorem rsR_row {ord : List Int} {rows : List (List Bool)} {j : Nat} (h : j < (rsR ord rows).length) : (rsR ord rows)[j] = (List.range ord.length).map fun y => (rows.getD (nth ord j).toNat []).getD (nth ord y).toNat false := tab_row _ _ _ h
theorem rsT_step {t : Nat} {ord : List Int} {ac : List (List Bool)} {j : Nat} (h : j < t) : (rsT t ord ac).take (j + 1) = (rsT t ord ac).take j ++ [(List.range ord.length).map fun x => (ac.getD j []).getD (nth ord x).toNat false] := by
  have h1 : j < (rsT t ord ac).length := by rw [rsT_len]; exact h
  rw [List.take_succ_eq_append_getElem h1, rsT_row h1]
theorem rsR_step {ord : List Int} {rows : List (List Bool)} {j : Nat} (h : j < ord.length) : (rsR ord rows).take (j + 1) = (rsR ord rows).take j ++ [(List.range ord.length).map fun y => (rows.getD (nth ord j).toNat []).getD (nth ord y).toNat false] := by
  have h1 : j < (rsR ord rows).length := by rw [rsR_len]; exact h
  rw [List.take_succ_eq_append_getElem h1, rsR_row h1]
theorem mret5 {t a n k : Nat} {w W : World} {b lo1 hi1 : Nat} {ts : List (List Bool)} {acts : List (List (List Bool))} {A1 A2 : Option Addr} {C1 C2 : Nat} (h1 : BBF W ts A1 (rng lo1 hi1)) (h2 : BBBF W acts A2 (rng hi1 W.heap.size)) (hw : Below w.heap.size w W) (hn : w.heap.size ≤ b) (hb : b < lo1) (hl : lo1 ≤ hi1) (hz : hi1 ≤ W.heap.size) (ht : ts.length = t) (ha : acts.length = k) (v0 v1 v2 v3 v4 : Value) :
    MRet t a n ts acts w (.returned (.agg #[.int .i64 (t : Int), .int .i64 (a : Int), .int .i64 (n : Int), .slice A1 t C1, .slice A2 k C2])) (((((W.setCell ⟨b, 0, none⟩ v0).setCell ⟨b, 1, none⟩ v1).setCell ⟨b, 2, none⟩ v2).setCell ⟨b, 3, none⟩ v3).setCell ⟨b, 4, none⟩ v4) := by
  subst ha
  have zs : (((((W.setCell ⟨b, 0, none⟩ v0).setCell ⟨b, 1, none⟩ v1).setCell ⟨b, 2, none⟩ v2).setCell ⟨b, 3, none⟩ v3).setCell ⟨b, 4, none⟩ v4).heap.size = W.heap.size := by simp
  refine ⟨A1, A2, C1, C2, hi1, by rw [ht], by omega, by rw [zs]; omega, bbF_ok.mono (bbF_ok.keep h1 fun k hk => five_keep W b k _ _ _ _ _ (by have := hk.1; omega)) (fun k hk => ⟨by have := hk.1; omega, hk.2⟩), ?_, five_below hw hn _ _ _ _ _⟩
  rw [zs]
  exact bbbF_ok.keep h2 fun k hk => five_keep W b k _ _ _ _ _ (by have := hk.1; omega)
theorem elB_here : El1 124 4 (.bool false) 1 := Try.elB

set_option maxHeartbeats 20000000 in
set_option maxRecDepth 100000 in
theorem l05Pick_any (t a p : Nat) (ord : List Int) (ac : List (List Bool)) (nx : List (List (List Bool))) (h : RsOk t a p ord ac nx) (A B O : Option Addr) (C D OC bm : Nat) (w : World) (hA : BB 0 w ac A) (hB : BBB 0 w nx B) (hOr : Ints w ord O)
    (g0 : w.cell? ⟨bm, 0, none⟩ = some (.int .i64 (t : Int))) (g1 : w.cell? ⟨bm, 1, none⟩ = some (.int .i64 (a : Int))) (g3 : w.cell? ⟨bm, 3, none⟩ = some (.slice A ac.length C)) (g4 : w.cell? ⟨bm, 4, none⟩ = some (.slice B nx.length D)) :
    Calls Try.prog 75 #[.pointer (some ⟨bm, 0, none⟩), .slice O ord.length OC] w (MRet t a ord.length (rsT t ord ac) (rsA ord nx) w) := by
  obtain ⟨ht3, ha4, hp8, hn8, hal, hnl, har, hnr, hob⟩ := h
  have hkx : ∀ x, x < ord.length → nth ord x = (((nth ord x).toNat : Nat) : Int) ∧ (nth ord x).toNat < p := fun x hx => by have := hob x hx; omega
  obtain ⟨n, hn⟩ : ∃ n, n = ord.length := ⟨_, rfl⟩
  have HN8 := Lib.hid hn8; have HKX := Lib.hid hkx; have HA := Lib.hid hA; have HB := Lib.hid hB; have HOR := Lib.hid hOr
  have HAR := Lib.hid har; have HNR := Lib.hid hnr; have HAL := Lib.hid hal; have HNL := Lib.hid hnl; have HP8 := Lib.hid hp8; have HT3 := Lib.hid ht3; have HA4 := Lib.hid ha4
  have HG := Lib.hid (And.intro g0 (And.intro g1 (And.intro g3 g4)))
  have lbm : bm < w.heap.size := World.block_lt_of_cell? _ _ g0
  obtain ⟨w1, hw1⟩ : ∃ w1, w1 = w.alloc (.cells #[.int .i64 0, .int .i64 0, .int .i64 0, .slice none 0 0, .slice none 0 0] 63) := ⟨_, rfl⟩
  have hr1 : w1.heap[w.heap.size]? = some (.cells #[.int .i64 0, .int .i64 0, .int .i64 0, .slice none 0 0, .slice none 0 0] 63 (0, 0)) := by rw [hw1]; exact heap_new _ _ _ rfl
  have HR1 := Lib.hid hr1
  have S1 : Sees w w1 := by rw [hw1]; exact (Sees.refl w).alloc _
  have HS1 := Lib.hid S1
  have z1 : w1.heap.size = w.heap.size + 1 := by rw [hw1]; simp
  obtain ⟨w2, hw2⟩ : ∃ w2, w2 = w1.alloc (.cells #[.int .i64 (t : Int), .int .i64 (a : Int), .int .i64 (n : Int), .slice none 0 0, .slice none 0 0] 63) := ⟨_, rfl⟩
  have hb2 : Below w1.heap.size w1 w2 := by rw [hw2]; exact (Below.refl _ _).alloc (Nat.le_refl _) _
  have HB2_ := Lib.hid hb2
  have hz2 : w1.heap.size < w2.heap.size := by rw [hw2]; simp
  have HZ2 := Lib.hid hz2
  have H2 : Hid (BA 124 BoolsF List.length (fun v => #[.int .i64 (t : Int), .int .i64 (a : Int), .int .i64 (n : Int), v, .slice none 0 0]) w1.heap.size w2 ((rsT t ord ac).take 0) (.slice none 0 0) w2) := ⟨by rw [hw2]; exact heap_new _ _ _ rfl, Acc.start, ButF.refl _ _, hz2⟩
  have HN := Lib.hid hn
  have k0 := ka (.cells #[.int .i64 0, .int .i64 0, .int .i64 0, .slice none 0 0, .slice none 0 0] 63) g0
  have k1 := ka (.cells #[.int .i64 0, .int .i64 0, .int .i64 0, .slice none 0 0, .slice none 0 0] 63) g1
  clear hA hB hOr har hnr hal hnl ha4 hp8 hkx hob g0 g1 g3 g4 hb2 hz2 hr1
  go_enter Try.func75, Try.ntmps75
  go_wp2_with fail
  rw [← hw1, ← hn, ← hw2, ← z1]
  rw [hn]
  have HZ1 := Lib.hid z1
  clear hw1 hw2 k0 k1 S1 z1 hn
  go_loopw [6] (fun i wr => ∃ (j : Nat) (v : Value), j ≤ t ∧ i = .int .i64 j ∧ Hid (BA 124 BoolsF List.length (fun v => #[.int .i64 (t : Int), .int .i64 (a : Int), .int .i64 (n : Int), v, .slice none 0 0]) w1.heap.size w2 ((rsT t ord ac).take j) v wr)) (fun i _ => t - (intOf i).toNat)
  case atStart => exact ⟨0, _, Nat.zero_le _, rfl, H2.out⟩
  case round =>
    obtain ⟨j, v, hj, rfl, hS⟩ := hrel
    clear H2
    obtain ⟨w3, rfl⟩ : ∃ w3, w3 = wr := ⟨_, rfl⟩
    have B3 := Lib.hid (hS.out.but.old HB2_.out)
    have S3 : Sees w w3 := HS1.out.below B3.out
    have HS3 := Lib.hid S3
    have c3 := kc S3 HG.out.2.2.1
    rw [HAL.out] at c3
    by_cases hjt : j < t
    · have JL := Lib.hid hjt
      have hja : j < ac.length := by rw [HAL.out]; exact hjt
      obtain ⟨bA, oA, _, hAe, hat⟩ := HA.out (by rintro rfl; simp at hja)
      obtain ⟨R, DR, cA, qA⟩ := hat j ac[j] (List.getElem?_eq_getElem hja)
      have hrl : ac[j].length = p := HAR.out ac[j] (List.getElem_mem hja)
      obtain ⟨row, hrow⟩ : ∃ row, row = ac[j] := ⟨_, rfl⟩
      obtain ⟨TT, hTT⟩ : ∃ TT : Nat → Bool, TT = fun x => (ac.getD j []).getD (nth ord x).toNat false := ⟨_, rfl⟩
      have hTr : ∀ (x k : Nat) (hx : nth ord x = (k : Int)) (hk : k < row.length), TT x = row[k] := fun x k hx hk => by subst hrow; rw [hTT]; dsimp only; rw [hx, Int.toNat_natCast, getD_bb hja hk]
      have hstep := rsT_step (ord := ord) (ac := ac) hjt
      rw [← hTT] at hstep
      rw [← hrow] at cA qA hrl
      have HST := Lib.hid hstep; have HTR := Lib.hid hTr; have HRL := Lib.hid hrl; have QA := Lib.hid qA; have CA := Lib.hid cA
      have j0 : (0 : Int) ≤ (j : Int) := Int.natCast_nonneg _
      have j1 : (j : Int) < (t : Int) := by omega
      have j1' : (j : Int) < (ac.length : Int) := by omega
      have j4 : j ≤ 1048576 := by have := HT3.out; omega
      clear hstep hTr hTT hrow hrl hja hat qA cA S3 hjt
      subst hAe
      go_wp2_with fail
      clear c3
      go_loopw [7, 8] (fun sv i wr => ∃ (x : Nat) (rv : Value), x ≤ ord.length ∧ i = .int .i64 x ∧ rv = sv ∧ Hid (OwnB wr w3.heap.size rv ((List.range x).map TT)) ∧ Hid (Below w3.heap.size w3 wr)) (fun _ i _ => ord.length - (intOf i).toNat)
      case atStart => exact ⟨0, _, Nat.zero_le _, rfl, rfl, OwnB.made w3, (Below.refl _ _).alloc (Nat.le_refl _) _⟩
      case round =>
        obtain ⟨x, rv, hx, rfl, rfl, hO, hBw⟩ := hrel
        obtain ⟨wq, rfl⟩ : ∃ wq, wq = wr := ⟨_, rfl⟩
        by_cases hxn : x < ord.length
        · obtain ⟨k, hk⟩ : ∃ k, k = (nth ord x).toNat := ⟨_, rfl⟩
          obtain ⟨hk1, hk2⟩ := HKX.out x hxn
          rw [← hk] at hk1 hk2
          have hkr : k < row.length := by rw [HRL.out]; exact hk2
          obtain ⟨y2, z2, _, hRe, hat2⟩ := QA.out (by rintro rfl; simp at hkr)
          obtain ⟨q, hq⟩ : ∃ q, q = row[k] := ⟨_, rfl⟩
          have d0 := hat2 k row[k] (List.getElem?_eq_getElem hkr)
          rw [← hq] at d0
          have HTQ : Hid (TT x = q) := by show _ = _; rw [hq]; exact HTR.out x k hk1 hkr
          obtain ⟨yo, zo, hOe, hato⟩ := HOR.out (by rintro rfl; simp at hxn)
          have co := hato x hxn
          rw [hk1] at co
          subst hRe hOe
          have HL : Hid (St w3 [(bm, 3, .slice (some ⟨bA, oA, none⟩) ac.length C), (bA, oA + j, .slice (some ⟨y2, z2, none⟩) row.length DR), (yo, zo + x, .int .i64 (k : Int)), (y2, z2 + k, .bool q)] w3) := ⟨Sees.refl _, kc HS3.out HG.out.2.2.1, kc HS3.out CA.out, kc HS3.out co, kc HS3.out d0, trivial⟩
          have x0 : (0 : Int) ≤ (x : Int) := Int.natCast_nonneg _
          have x1 : (x : Int) < (ord.length : Int) := by omega
          have q0 : (0 : Int) ≤ (k : Int) := Int.natCast_nonneg _
          have q1 : (k : Int) < (row.length : Int) := by omega
          clear hk hk1 hk2 hkr hat2 hq d0 hato co
          have XL_ := Lib.hid hxn
          clear hxn
          go_wp2_with fail
          refine wp_region_held_drew (S := fun w' => St w3 [(bm, 3, .slice (some ⟨bA, oA, none⟩) ac.length C), (bA, oA + j, .slice (some ⟨y2, z2, none⟩) row.length DR), (yo, zo + x, .int .i64 (k : Int)), (y2, z2 + k, .bool q)] w') (by kernel_rfl) (St.below HL.out (hBw.out.trans (Below.refl _ _)) : St w3 [(bm, 3, .slice (some ⟨bA, oA, none⟩) ac.length C), (bA, oA + j, .slice (some ⟨y2, z2, none⟩) row.length DR), (yo, zo + x, .int .i64 (k : Int)), (y2, z2 + k, .bool q)] wq).drew (fun HS => ?_)
          obtain ⟨w20, ew20⟩ : ∃ wn, wn = wq.drew := ⟨_, rfl⟩
          have hO2 : OwnB w20 w3.heap.size rv ((List.range x).map TT) := by rw [ew20]; exact hO.out
          have hB2 : Below w3.heap.size w3 w20 := by rw [ew20]; exact hBw.out.drew
          have HO2 := Lib.hid hO2; have HB2 := Lib.hid hB2
          rw [← ew20] at HS ⊢
          clear ew20 hO hBw hO2 hB2
          refine wpAnyH_take (i := 0) (oi := { dst := some 37, op := Op.move (Operand.tmp 7), type := 124, pos := "l05_costs.go:106", after := #[], guard := none }) (v := rv) rfl (by kernel_rfl) (by kernel_rfl) (by kernel_rfl) (fun _ _ _ h => h) (Or.inl ⟨rfl, fun W hW => by (obtain ⟨_, y0_, y1_, y2_, y3_, _⟩ := hW; go_simp; try rfl)⟩) HS ?_
          try simp only [Act.put, List.setIfInBounds_toArray, List.set_cons_zero, List.set_cons_succ]
          refine wpAnyH_take (i := 1) (oi := { dst := some 38, op := Op.move (Operand.tmp 0), type := 111, pos := "l05_costs.go:106", after := #[], guard := none }) (v := .pointer (some ⟨bm, 0, none⟩)) rfl (by kernel_rfl) (by kernel_rfl) (by kernel_rfl) (fun _ _ _ h => h) (Or.inl ⟨rfl, fun W hW => by (obtain ⟨_, y0_, y1_, y2_, y3_, _⟩ := hW; go_simp; try rfl)⟩) HS ?_
          try simp only [Act.put, List.setIfInBounds_toArray, List.set_cons_zero, List.set_cons_succ]
          refine wpAnyH_take (i := 2) (oi := { dst := some 39, op := Op.nilCheck (Operand.tmp 38), type := 0, pos := "l05_costs.go:106", after := #[{ on := 1, ground := Ground.data }], guard := none }) (v := .pointer (some ⟨bm, 0, none⟩)) rfl (by kernel_rfl) (by kernel_rfl) (by kernel_rfl) (fun _ _ _ h => h) (Or.inl ⟨rfl, fun W hW => by (obtain ⟨_, y0_, y1_, y2_, y3_, _⟩ := hW; go_simp; try rfl)⟩) HS ?_
          try simp only [Act.put, List.setIfInBounds_toArray, List.set_cons_zero, List.set_cons_succ]
          refine wpAnyH_take (i := 3) (oi := { dst := some 40, op := Op.fieldAddr 63 (Operand.tmp 39) 2, type := 0, pos := "l05_costs.go:106", after := #[{ on := 2, ground := Ground.data }], guard := none }) (v := .pointer (some ⟨bm, 3, none⟩)) rfl (by kernel_rfl) (by kernel_rfl) (by kernel_rfl) (fun _ _ _ h => h) (Or.inl ⟨rfl, fun W hW => by (obtain ⟨_, y0_, y1_, y2_, y3_, _⟩ := hW; go_simp; try rfl)⟩) HS ?_
          try simp only [Act.put, List.setIfInBounds_toArray, List.set_cons_zero, List.set_cons_succ]
          refine wpAnyH_take (i := 4) (oi := { dst := some 41, op := Op.load 57 (Operand.tmp 40), type := 57, pos := "l05_costs.go:106", after := #[{ on := 3, ground := Ground.data }], guard := none }) (v := .slice (some ⟨bA, oA, none⟩) ac.length C) rfl (by kernel_rfl) (by kernel_rfl) (by kernel_rfl) (fun _ _ _ h => h) (Or.inl ⟨rfl, fun W hW => by (obtain ⟨_, y0_, y1_, y2_, y3_, _⟩ := hW; go_simp; try rfl)⟩) HS ?_
          try simp only [Act.put, List.setIfInBounds_toArray, List.set_cons_zero, List.set_cons_succ]
          refine wpAnyH_take (i := 5) (oi := { dst := some 42, op := Op.move (Operand.tmp 6), type := 3, pos := "l05_costs.go:106", after := #[], guard := none }) (v := .int .i64 (j : Int)) rfl (by kernel_rfl) (by kernel_rfl) (by kernel_rfl) (fun _ _ _ h => h) (Or.inl ⟨rfl, fun W hW => by (obtain ⟨_, y0_, y1_, y2_, y3_, _⟩ := hW; go_simp; try rfl)⟩) HS ?_
          try simp only [Act.put, List.setIfInBounds_toArray, List.set_cons_zero, List.set_cons_succ]
          refine wpAnyH_take (i := 6) (oi := { dst := some 43, op := Op.indexAddr 57 (Operand.tmp 41) (Operand.tmp 42), type := 0, pos := "l05_costs.go:106", after := #[{ on := 4, ground := Ground.data }, { on := 5, ground := Ground.data }], guard := none }) (v := .pointer (some ⟨bA, oA + j, none⟩)) rfl (by kernel_rfl) (by kernel_rfl) (by kernel_rfl) (fun _ _ _ h => h) (Or.inl ⟨rfl, fun W hW => by (obtain ⟨_, y0_, y1_, y2_, y3_, _⟩ := hW; go_simp; try rfl)⟩) HS ?_
          try simp only [Act.put, List.setIfInBounds_toArray, List.set_cons_zero, List.set_cons_succ]
          refine wpAnyH_take (i := 7) (oi := { dst := some 44, op := Op.load 124 (Operand.tmp 43), type := 124, pos := "l05_costs.go:106", after := #[{ on := 6, ground := Ground.data }], guard := none }) (v := .slice (some ⟨y2, z2, none⟩) row.length DR) rfl (by kernel_rfl) (by kernel_rfl) (by kernel_rfl) (fun _ _ _ h => h) (Or.inl ⟨rfl, fun W hW => by (obtain ⟨_, y0_, y1_, y2_, y3_, _⟩ := hW; go_simp; try rfl)⟩) HS ?_
          try simp only [Act.put, List.setIfInBounds_toArray, List.set_cons_zero, List.set_cons_succ]
          refine wpAnyH_take (i := 8) (oi := { dst := some 45, op := Op.move (Operand.tmp 1), type := 26, pos := "l05_costs.go:106", after := #[], guard := none }) (v := .slice (some ⟨yo, zo, none⟩) ord.length OC) rfl (by kernel_rfl) (by kernel_rfl) (by kernel_rfl) (fun _ _ _ h => h) (Or.inl ⟨rfl, fun W hW => by (obtain ⟨_, y0_, y1_, y2_, y3_, _⟩ := hW; go_simp; try rfl)⟩) HS ?_
          try simp only [Act.put, List.setIfInBounds_toArray, List.set_cons_zero, List.set_cons_succ]
          refine wpAnyH_take (i := 9) (oi := { dst := some 46, op := Op.move (Operand.tmp 8), type := 3, pos := "l05_costs.go:106", after := #[], guard := none }) (v := .int .i64 (x : Int)) rfl (by kernel_rfl) (by kernel_rfl) (by kernel_rfl) (fun _ _ _ h => h) (Or.inl ⟨rfl, fun W hW => by (obtain ⟨_, y0_, y1_, y2_, y3_, _⟩ := hW; go_simp; try rfl)⟩) HS ?_
          try simp only [Act.put, List.setIfInBounds_toArray, List.set_cons_zero, List.set_cons_succ]
          refine wpAnyH_take (i := 10) (oi := { dst := some 47, op := Op.indexAddr 26 (Operand.tmp 45) (Operand.tmp 46), type := 0, pos := "l05_costs.go:106", after := #[{ on := 8, ground := Ground.data }, { on := 9, ground := Ground.data }], guard := none }) (v := .pointer (some ⟨yo, zo + x, none⟩)) rfl (by kernel_rfl) (by kernel_rfl) (by kernel_rfl) (fun _ _ _ h => h) (Or.inl ⟨rfl, fun W hW => by (obtain ⟨_, y0_, y1_, y2_, y3_, _⟩ := hW; go_simp; try rfl)⟩) HS ?_
          try simp only [Act.put, List.setIfInBounds_toArray, List.set_cons_zero, List.set_cons_succ]
          refine wpAnyH_take (i := 11) (oi := { dst := some 48, op := Op.load 2 (Operand.tmp 47), type := 2, pos := "l05_costs.go:106", after := #[{ on := 10, ground := Ground.data }], guard := none }) (v := .int .i64 (k : Int)) rfl (by kernel_rfl) (by kernel_rfl) (by kernel_rfl) (fun _ _ _ h => h) (Or.inl ⟨rfl, fun W hW => by (obtain ⟨_, y0_, y1_, y2_, y3_, _⟩ := hW; go_simp; try rfl)⟩) HS ?_
          try simp only [Act.put, List.setIfInBounds_toArray, List.set_cons_zero, List.set_cons_succ]
          refine wpAnyH_take (i := 12) (oi := { dst := some 49, op := Op.indexAddr 124 (Operand.tmp 44) (Operand.tmp 48), type := 0, pos := "l05_costs.go:106", after := #[{ on := 7, ground := Ground.data }, { on := 11, ground := Ground.data }], guard := none }) (v := .pointer (some ⟨y2, z2 + k, none⟩)) rfl (by kernel_rfl) (by kernel_rfl) (by kernel_rfl) (fun _ _ _ h => h) (Or.inl ⟨rfl, fun W hW => by (obtain ⟨_, y0_, y1_, y2_, y3_, _⟩ := hW; go_simp; try rfl)⟩) HS ?_
          try simp only [Act.put, List.setIfInBounds_toArray, List.set_cons_zero, List.set_cons_succ]
          refine wpAnyH_take (i := 13) (oi := { dst := some 50, op := Op.load 4 (Operand.tmp 49), type := 4, pos := "l05_costs.go:106", after := #[{ on := 12, ground := Ground.data }], guard := none }) (v := .bool q) rfl (by kernel_rfl) (by kernel_rfl) (by kernel_rfl) (fun _ _ _ h => h) (Or.inl ⟨rfl, fun W hW => by (obtain ⟨_, y0_, y1_, y2_, y3_, _⟩ := hW; go_simp; try rfl)⟩) HS ?_
          try simp only [Act.put, List.setIfInBounds_toArray, List.set_cons_zero, List.set_cons_succ]
          refine wpAnyH_ready (rs := [14]) (by kernel_rfl) (by simp) ?_
          refine AllReadyH.cons (o := { dst := some 51, op := Op.buildSlice 124 1 #[(0, Operand.tmp 50)], type := 124, pos := "l05_costs.go:106", after := #[{ on := 13, ground := Ground.data }], guard := none }) rfl (fun K hK => ?_) AllReadyH.nil
          go_simp
          obtain ⟨wn, ewn⟩ : ∃ wn, wn = w20.alloc (.cells #[.bool q] 4) := ⟨_, rfl⟩
          obtain ⟨sb, esb⟩ : ∃ s, s = w20.heap.size := ⟨_, rfl⟩
          rw [← ewn, ← esb]
          have hcb : wn.cell? ⟨sb, 0, none⟩ = some (.bool q) := by rw [ewn, esb]; simp [go_sem]
          have hO3 : OwnB wn w3.heap.size rv ((List.range x).map TT) := by rw [ewn]; exact HO2.out.keep ((Below.refl _ _).alloc (Nat.le_refl _) _)
          have hB3 : Below w3.heap.size w3 wn := by rw [ewn]; exact HB2.out.alloc HB2.out.size _
          have HS' : St w3 [(bm, 3, .slice (some ⟨bA, oA, none⟩) ac.length C), (bA, oA + j, .slice (some ⟨y2, z2, none⟩) row.length DR), (yo, zo + x, .int .i64 (k : Int)), (y2, z2 + k, .bool q)] wn := St.below HL.out hB3
          have HO3 := Lib.hid hO3; have HB3 := Lib.hid hB3; have HCB := Lib.hid hcb
          clear HS HO2 HB2 hO3 hB3 hcb ewn esb
          have HS := HS'; clear HS'
          refine hK.out _ _ HS (fun _ => ?_)
          clear hK K
          try simp only [Act.put, List.setIfInBounds_toArray, List.set_cons_zero, List.set_cons_succ]
          refine wpAnyH_ready (rs := [15]) (by kernel_rfl) (by simp) ?_
          refine AllReadyH.cons (o := { dst := some 52, op := Op.call { callee := Callee.builtin Builtin.append, args := #[Operand.tmp 37, Operand.tmp 51], argTypes := #[124, 124] }, type := 124, pos := "l05_costs.go:106", after := #[{ on := 0, ground := Ground.data }, { on := 14, ground := Ground.data }], guard := none }) rfl (fun K hK => ?_) AllReadyH.nil
          refine step_one elB_here wn (by rfl) _ _ (by rfl) w3.heap.size ((List.range x).map TT).length sb rv (.bool q) _ (by rfl) (by rfl) HO3.out HCB.out rfl (by have := XL_.out; have := HN8.out; simp; omega) HB3.out.size ?_
          intro v' w' ho hg hat
          have HO4 : Hid (OwnB w' w3.heap.size v' ((List.range (x + 1)).map TT)) := by show OwnB _ _ _ _; rw [range_map_step, HTQ.out]; exact OwnB.push ho
          have hB4 : Below w3.heap.size w3 w' := HB3.out.grown hg HB3.out.size (fun k hk => (World.ownsRow.lt HO3.out k hk).1)
          have HB4 := Lib.hid hB4
          have HS' : St w3 [(bm, 3, .slice (some ⟨bA, oA, none⟩) ac.length C), (bA, oA + j, .slice (some ⟨y2, z2, none⟩) row.length DR), (yo, zo + x, .int .i64 (k : Int)), (y2, z2 + k, .bool q)] w' := St.below HL.out hB4
          clear HS HO3 HB3 HCB ho hg hat hB4
          have HS := HS'; clear HS'
          refine hK.out _ _ HS (fun _ => ?_)
          clear hK K
          try simp only [Act.put, List.setIfInBounds_toArray, List.set_cons_zero, List.set_cons_succ]
          refine wpAnyH_take (i := 16) (oi := { dst := some 7, op := Op.assign (Operand.tmp 52), type := 124, pos := "l05_costs.go:106", after := #[{ on := 15, ground := Ground.data }, { on := 15, ground := Ground.chain }, { on := 0, ground := Ground.phase }, { on := 1, ground := Ground.phase }, { on := 2, ground := Ground.phase }, { on := 3, ground := Ground.phase }, { on := 4, ground := Ground.phase }, { on := 5, ground := Ground.phase }, { on := 6, ground := Ground.phase }, { on := 7, ground := Ground.phase }, { on := 8, ground := Ground.phase }, { on := 9, ground := Ground.phase }, { on := 10, ground := Ground.phase }, { on := 11, ground := Ground.phase }, { on := 12, ground := Ground.phase }, { on := 13, ground := Ground.phase }, { on := 14, ground := Ground.phase }, { on := 15, ground := Ground.phase }], guard := none }) (v := v') rfl (by kernel_rfl) (by kernel_rfl) (by kernel_rfl) (fun _ _ _ h => h) (Or.inl ⟨rfl, fun W hW => by (obtain ⟨_, y0_, y1_, y2_, y3_, _⟩ := hW; go_simp; try rfl)⟩) HS ?_
          try simp only [Act.put, List.setIfInBounds_toArray, List.set_cons_zero, List.set_cons_succ]
          refine wpAnyH_done (by kernel_rfl) ?_ _
          clear HS
          go_wp2_with fail
          go_roundw
          case rel => exact ⟨x + 1, v', XL_.out, by go_num, rfl, HO4.out, HB4.out⟩
          case measure => have := XL_.out; simp [intOf]; omega
        · have hex : x = ord.length := by omega
          clear hxn hx
          rw [hex] at hO
          obtain ⟨A2, C2, hv2, hbools⟩ := hO.out.done
          simp only [List.length_map, List.length_range] at hv2
          subst hv2
          have hsa := hBw.out
          have hU := hS.out.grow boolsF_ok hsa
          obtain ⟨vals, hvl, hown, hpp⟩ := Acc.push boolsF_ok hS.out.acc hS.out.but.size hsa hbools (Wa := wq.alloc (.cells #[.slice A2 ord.length C2] 124)) (C := C2) ((Below.refl _ _).alloc (Nat.le_refl _) _)
          have hlen : ((rsT t ord ac).take j).length = j := by rw [List.length_take, rsT_len]; have := JL.out; omega
          have hln : List.length ((List.range ord.length).map TT) = ord.length := by simp
          rw [hln, hlen] at hpp
          rw [hlen] at hown
          have HU := Lib.hid hU; have HOWN := Lib.hid hown; have HPP := Lib.hid hpp
          obtain ⟨p0, p1, p2, p3, p4, o0, o1, o2, o3, o4⟩ := five_facts HU.out.box
          clear hsa hbools hU hown hpp hvl hlen hln hO hBw
          have HEX := Lib.hid hex
          obtain ⟨X, hX⟩ : ∃ X : Int, X = (x : Int) := ⟨_, rfl⟩
          have hX1 : decide (X < (ord.length : Int)) = false := decide_eq_false (by rw [hX]; omega)
          rw [← hX]
          clear hex hX
          go_wp2_with (at_builtin; refine wpList_one Try.elBB _ rfl _ _ rfl w2.heap.size j wq.heap.size v (.slice A2 ord.length C2) vals rfl ?hx HOWN.out ?hc rfl ?hn ?hz ?_)
          case hx => (first | rfl | simp)
          case hc => simp [go_sem]
          case hn => exact j4
          case hz => have := HU.out.but.size; simp; omega
          intro v' w' ho hg hat
          have hacc := HPP.out v' w' ho hg (by simpa using hat)
          obtain ⟨Zv, lv, Cv, hvf⟩ := accForm hacc
          subst hvf
          obtain ⟨hX, hbx⟩ := BA.push (i := 3) boolsF_ok (fun _ _ => rfl) (HU.out.grow boolsF_ok ((Below.refl _ _).alloc (Nat.le_refl _) (.cells #[.slice A2 ord.length C2] 124))) hacc hg
          obtain ⟨q0, q1, q2, q3, q4, t0, t1, t2, t3, t4⟩ := five_facts hbx
          have HX2 : Hid (BA 124 BoolsF List.length (fun v => #[.int .i64 (t : Int), .int .i64 (a : Int), .int .i64 (n : Int), v, .slice none 0 0]) w1.heap.size w2 ((rsT t ord ac).take (j + 1)) (.slice Zv lv Cv) (w'.setCell ⟨w1.heap.size, 3, none⟩ (.slice Zv lv Cv))) := by rw [HST.out]; exact hX
          clear hX hacc ho hg hat p0 p1 p2 p3 p4 o0 o1 o2 o3 o4 hbx
          go_wp2_with fail
          go_roundw
          case rel => exact ⟨j + 1, _, JL.out, by go_num, HX2.out⟩
          case measure => have := JL.out; simp [intOf]; omega
    · obtain rfl : t = j := by omega
      have hall : (rsT t ord ac).take t = rsT t ord ac := List.take_of_length_le (by rw [rsT_len]; exact Nat.le_refl _)
      rw [hall] at hS
      obtain ⟨A1, C1, hv1, hR1⟩ := hS.out.acc.done
      rw [rsT_len] at hv1
      subst hv1
      have B23 : Hid (w2.heap.size ≤ w3.heap.size) := hS.out.but.size
      have z3 : w1.heap.size < w3.heap.size := Nat.lt_of_lt_of_le HZ2.out hS.out.but.size
      have HTT3 : Hid (BBF w3 (rsT t ord ac) A1 (rng w2.heap.size w3.heap.size)) := hR1
      have H3 : Hid (BA 57 BBF List.length (fun v => #[.int .i64 (t : Int), .int .i64 (a : Int), .int .i64 (n : Int), .slice A1 t C1, v]) w1.heap.size w3 ((rsA ord nx).take 0) (.slice none 0 0) w3) := ⟨hS.out.box, Acc.start, ButF.refl _ _, z3⟩
      clear hR1 hall hS
      go_wp2_with fail
      clear c3
      go_loopw [9] (fun i wr => ∃ (j : Nat) (v : Value), j ≤ nx.length ∧ i = .int .i64 j ∧ Hid (BA 57 BBF List.length (fun v => #[.int .i64 (t : Int), .int .i64 (a : Int), .int .i64 (n : Int), .slice A1 t C1, v]) w1.heap.size w3 ((rsA ord nx).take j) v wr)) (fun i _ => nx.length - (intOf i).toNat)
      case atStart => exact ⟨0, _, Nat.zero_le _, rfl, H3.out⟩
      case round =>
        obtain ⟨j, v, hj, rfl, hS⟩ := hrel
        clear H3
        obtain ⟨w5, rfl⟩ : ∃ w5, w5 = wr := ⟨_, rfl⟩
        have B5 := Lib.hid (hS.out.but.old B3.out)
        have z5 : w1.heap.size < w5.heap.size := Nat.lt_of_lt_of_le z3 hS.out.but.size
        have S5 : Sees w w5 := HS1.out.below B5.out
        have HS5 := Lib.hid S5
        have c4 := kc S5 HG.out.2.2.2
        by_cases hjn : j < nx.length
        · obtain ⟨bB, oB, _, hBe, hat⟩ := HB.out (by rintro rfl; simp at hjn)
          obtain ⟨RB, DB, cB, qB⟩ := hat j nx[j] (List.getElem?_eq_getElem hjn)
          have hstep := rsA_step (ord := ord) hjn
          obtain ⟨hr1, hr2⟩ := HNR.out nx[j] (List.getElem_mem hjn)
          obtain ⟨rows, hrows⟩ : ∃ x, x = nx[j] := ⟨_, rfl⟩
          rw [← hrows] at cB qB hstep hr1 hr2
          have HST := Lib.hid hstep; have HR1_ := Lib.hid hr1; have HR2_ := Lib.hid hr2; have QB := Lib.hid qB; have CB := Lib.hid cB; have JL := Lib.hid hjn
          have hn4 : nx.length ≤ 4 := by rw [HNL.out]; exact HA4.out
          have j0 : (0 : Int) ≤ (j : Int) := Int.natCast_nonneg _
          have j1 : (j : Int) < (nx.length : Int) := by omega
          have j4 : j ≤ 1048576 := by omega
          clear hstep hr1 hr2 hrows qB cB hat hjn S5
          subst hBe
          go_wp2_with fail
          clear c4
          go_loopw [10, 11] (fun sv i wr => ∃ (x : Nat) (mv : Value), x ≤ ord.length ∧ i = .int .i64 x ∧ mv = sv ∧ Hid (Acc 124 BoolsF List.length w5.heap.size wr mv ((rsR ord rows).take x)) ∧ Hid (Below w5.heap.size w5 wr)) (fun _ i _ => ord.length - (intOf i).toNat)
          case atStart => exact ⟨0, _, Nat.zero_le _, rfl, rfl, Acc.made (Nat.le_refl _), (Below.refl _ _).alloc (Nat.le_refl _) _⟩
          case round =>
            obtain ⟨x, mv, hx, rfl, rfl, hM, hBm⟩ := hrel
            obtain ⟨w6, rfl⟩ : ∃ w6, w6 = wr := ⟨_, rfl⟩
            by_cases hxn : x < ord.length
            · obtain ⟨kx, hk⟩ : ∃ k, k = (nth ord x).toNat := ⟨_, rfl⟩
              obtain ⟨hk1, hk2⟩ := HKX.out x hxn
              have hstep2 := rsR_step (rows := rows) hxn
              rw [← hk] at hk1 hk2 hstep2
              have hkr : kx < rows.length := by rw [HR1_.out]; exact hk2
              obtain ⟨yR, zR, _, hRe, hat2⟩ := QB.out (by rintro rfl; simp at hkr)
              obtain ⟨R2, D2, cR, qR⟩ := hat2 kx rows[kx] (List.getElem?_eq_getElem hkr)
              have hrl : rows[kx].length = p := HR2_.out rows[kx] (List.getElem_mem hkr)
              obtain ⟨row, hrow⟩ : ∃ row, row = rows[kx] := ⟨_, rfl⟩
              obtain ⟨TT, hTT⟩ : ∃ TT : Nat → Bool, TT = fun y => (rows.getD kx []).getD (nth ord y).toNat false := ⟨_, rfl⟩
              have hTr : ∀ (y k : Nat) (hy : nth ord y = (k : Int)) (hk : k < row.length), TT y = row[k] := fun y k hy hk => by subst hrow; rw [hTT]; dsimp only; rw [hy, Int.toNat_natCast, getD_bb hkr hk]
              rw [← hTT] at hstep2
              rw [← hrow] at cR qR hrl
              obtain ⟨yo, zo, hOe, hato⟩ := HOR.out (by rintro rfl; simp at hxn)
              have cox := hato x hxn
              rw [hk1] at cox
              have HST2 := Lib.hid hstep2; have HTR := Lib.hid hTr; have HRL := Lib.hid hrl; have QA := Lib.hid qR; have CR := Lib.hid cR; have COX := Lib.hid cox; have HATO := Lib.hid hato
              have hs6 : Sees w w6 := HS5.out.below hBm.out
              have HS6 := Lib.hid hs6
              have XM := Lib.hid hxn
              have x0 : (0 : Int) ≤ (x : Int) := Int.natCast_nonneg _
              have x1 : (x : Int) < (ord.length : Int) := by omega
              have kx0 : (0 : Int) ≤ (kx : Int) := Int.natCast_nonneg _
              have kx1 : (kx : Int) < (rows.length : Int) := by omega
              have z56 : w5.heap.size ≤ w6.heap.size := hBm.out.size
              clear hk hk1 hk2 hkr hstep2 hat2 hrl hrow hTT hTr cR qR cox hato hs6 hxn
              subst hRe hOe
              go_wp2_with fail
              go_loopw [12, 13] (fun sv i wr => ∃ (y : Nat) (rv : Value), y ≤ ord.length ∧ i = .int .i64 y ∧ rv = sv ∧ Hid (OwnB wr w6.heap.size rv ((List.range y).map TT)) ∧ Hid (Below w6.heap.size w6 wr)) (fun _ i _ => ord.length - (intOf i).toNat)
              case atStart => exact ⟨0, _, Nat.zero_le _, rfl, rfl, OwnB.made w6, (Below.refl _ _).alloc (Nat.le_refl _) _⟩
              case round =>
                obtain ⟨y, rv, hy, rfl, rfl, hO, hBw⟩ := hrel
                obtain ⟨wq, rfl⟩ : ∃ wq, wq = wr := ⟨_, rfl⟩
                by_cases hyn : y < ord.length
                · obtain ⟨k, hk⟩ : ∃ k, k = (nth ord y).toNat := ⟨_, rfl⟩
                  obtain ⟨hk1, hk2⟩ := HKX.out y hyn
                  rw [← hk] at hk1 hk2
                  have hkr : k < row.length := by rw [HRL.out]; exact hk2
                  obtain ⟨y3, z3, _, hRe, hat2⟩ := QA.out (by rintro rfl; simp at hkr)
                  obtain ⟨q, hq⟩ : ∃ q, q = row[k] := ⟨_, rfl⟩
                  have d0 := hat2 k row[k] (List.getElem?_eq_getElem hkr)
                  rw [← hq] at d0
                  have HTQ : Hid (TT y = q) := by show _ = _; rw [hq]; exact HTR.out y k hk1 hkr
                  have co := HATO.out y hyn
                  rw [hk1] at co
                  subst hRe
                  have HL : Hid (St w6 [(bm, 4, .slice (some ⟨bB, oB, none⟩) nx.length D), (bB, oB + j, .slice (some ⟨yR, zR, none⟩) rows.length DB), (yo, zo + x, .int .i64 (kx : Int)), (yR, zR + kx, .slice (some ⟨y3, z3, none⟩) row.length D2), (yo, zo + y, .int .i64 (k : Int)), (y3, z3 + k, .bool q)] w6) := ⟨Sees.refl _, kc HS6.out HG.out.2.2.2, kc HS6.out CB.out, kc HS6.out COX.out, kc HS6.out CR.out, kc HS6.out co, kc HS6.out d0, trivial⟩
                  have y0 : (0 : Int) ≤ (y : Int) := Int.natCast_nonneg _
                  have y1 : (y : Int) < (ord.length : Int) := by omega
                  have q0 : (0 : Int) ≤ (k : Int) := Int.natCast_nonneg _
                  have q1 : (k : Int) < (row.length : Int) := by omega
                  clear hk hk1 hk2 hkr hat2 hq d0 co
                  have XL_ := Lib.hid hyn
                  clear hyn
                  go_wp2_with fail
                  refine wp_region_held_drew (S := fun w' => St w6 [(bm, 4, .slice (some ⟨bB, oB, none⟩) nx.length D), (bB, oB + j, .slice (some ⟨yR, zR, none⟩) rows.length DB), (yo, zo + x, .int .i64 (kx : Int)), (yR, zR + kx, .slice (some ⟨y3, z3, none⟩) row.length D2), (yo, zo + y, .int .i64 (k : Int)), (y3, z3 + k, .bool q)] w') (by kernel_rfl) (St.below HL.out (hBw.out.trans (Below.refl _ _)) : St w6 [(bm, 4, .slice (some ⟨bB, oB, none⟩) nx.length D), (bB, oB + j, .slice (some ⟨yR, zR, none⟩) rows.length DB), (yo, zo + x, .int .i64 (kx : Int)), (yR, zR + kx, .slice (some ⟨y3, z3, none⟩) row.length D2), (yo, zo + y, .int .i64 (k : Int)), (y3, z3 + k, .bool q)] wq).drew (fun HS => ?_)
                  obtain ⟨w20, ew20⟩ : ∃ wn, wn = wq.drew := ⟨_, rfl⟩
                  have hO2 : OwnB w20 w6.heap.size rv ((List.range y).map TT) := by rw [ew20]; exact hO.out
                  have hB2 : Below w6.heap.size w6 w20 := by rw [ew20]; exact hBw.out.drew
                  have HO2 := Lib.hid hO2; have HB2 := Lib.hid hB2
                  rw [← ew20] at HS ⊢
                  clear ew20 hO hBw hO2 hB2
                  refine wpAnyH_take (i := 0) (oi := { dst := some 82, op := Op.move (Operand.tmp 12), type := 124, pos := "l05_costs.go:115", after := #[], guard := none }) (v := rv) rfl (by kernel_rfl) (by kernel_rfl) (by kernel_rfl) (fun _ _ _ h => h) (Or.inl ⟨rfl, fun W hW => by (obtain ⟨_, y0_, y1_, y2_, y3_, y4_, y5_, _⟩ := hW; go_simp; try rfl)⟩) HS ?_
                  try simp only [Act.put, List.setIfInBounds_toArray, List.set_cons_zero, List.set_cons_succ]
                  refine wpAnyH_take (i := 1) (oi := { dst := some 83, op := Op.move (Operand.tmp 0), type := 111, pos := "l05_costs.go:115", after := #[], guard := none }) (v := .pointer (some ⟨bm, 0, none⟩)) rfl (by kernel_rfl) (by kernel_rfl) (by kernel_rfl) (fun _ _ _ h => h) (Or.inl ⟨rfl, fun W hW => by (obtain ⟨_, y0_, y1_, y2_, y3_, y4_, y5_, _⟩ := hW; go_simp; try rfl)⟩) HS ?_
                  try simp only [Act.put, List.setIfInBounds_toArray, List.set_cons_zero, List.set_cons_succ]
                  refine wpAnyH_take (i := 2) (oi := { dst := some 84, op := Op.nilCheck (Operand.tmp 83), type := 0, pos := "l05_costs.go:115", after := #[{ on := 1, ground := Ground.data }], guard := none }) (v := .pointer (some ⟨bm, 0, none⟩)) rfl (by kernel_rfl) (by kernel_rfl) (by kernel_rfl) (fun _ _ _ h => h) (Or.inl ⟨rfl, fun W hW => by (obtain ⟨_, y0_, y1_, y2_, y3_, y4_, y5_, _⟩ := hW; go_simp; try rfl)⟩) HS ?_
                  try simp only [Act.put, List.setIfInBounds_toArray, List.set_cons_zero, List.set_cons_succ]
                  refine wpAnyH_take (i := 3) (oi := { dst := some 85, op := Op.fieldAddr 63 (Operand.tmp 84) 3, type := 0, pos := "l05_costs.go:115", after := #[{ on := 2, ground := Ground.data }], guard := none }) (v := .pointer (some ⟨bm, 4, none⟩)) rfl (by kernel_rfl) (by kernel_rfl) (by kernel_rfl) (fun _ _ _ h => h) (Or.inl ⟨rfl, fun W hW => by (obtain ⟨_, y0_, y1_, y2_, y3_, y4_, y5_, _⟩ := hW; go_simp; try rfl)⟩) HS ?_
                  try simp only [Act.put, List.setIfInBounds_toArray, List.set_cons_zero, List.set_cons_succ]
                  refine wpAnyH_take (i := 4) (oi := { dst := some 86, op := Op.load 58 (Operand.tmp 85), type := 58, pos := "l05_costs.go:115", after := #[{ on := 3, ground := Ground.data }], guard := none }) (v := .slice (some ⟨bB, oB, none⟩) nx.length D) rfl (by kernel_rfl) (by kernel_rfl) (by kernel_rfl) (fun _ _ _ h => h) (Or.inl ⟨rfl, fun W hW => by (obtain ⟨_, y0_, y1_, y2_, y3_, y4_, y5_, _⟩ := hW; go_simp; try rfl)⟩) HS ?_
                  try simp only [Act.put, List.setIfInBounds_toArray, List.set_cons_zero, List.set_cons_succ]
                  refine wpAnyH_take (i := 5) (oi := { dst := some 87, op := Op.move (Operand.tmp 9), type := 3, pos := "l05_costs.go:115", after := #[], guard := none }) (v := .int .i64 (j : Int)) rfl (by kernel_rfl) (by kernel_rfl) (by kernel_rfl) (fun _ _ _ h => h) (Or.inl ⟨rfl, fun W hW => by (obtain ⟨_, y0_, y1_, y2_, y3_, y4_, y5_, _⟩ := hW; go_simp; try rfl)⟩) HS ?_
                  try simp only [Act.put, List.setIfInBounds_toArray, List.set_cons_zero, List.set_cons_succ]
                  refine wpAnyH_take (i := 6) (oi := { dst := some 88, op := Op.indexAddr 58 (Operand.tmp 86) (Operand.tmp 87), type := 0, pos := "l05_costs.go:115", after := #[{ on := 4, ground := Ground.data }, { on := 5, ground := Ground.data }], guard := none }) (v := .pointer (some ⟨bB, oB + j, none⟩)) rfl (by kernel_rfl) (by kernel_rfl) (by kernel_rfl) (fun _ _ _ h => h) (Or.inl ⟨rfl, fun W hW => by (obtain ⟨_, y0_, y1_, y2_, y3_, y4_, y5_, _⟩ := hW; go_simp; try rfl)⟩) HS ?_
                  try simp only [Act.put, List.setIfInBounds_toArray, List.set_cons_zero, List.set_cons_succ]
                  refine wpAnyH_take (i := 7) (oi := { dst := some 89, op := Op.load 57 (Operand.tmp 88), type := 57, pos := "l05_costs.go:115", after := #[{ on := 6, ground := Ground.data }], guard := none }) (v := .slice (some ⟨yR, zR, none⟩) rows.length DB) rfl (by kernel_rfl) (by kernel_rfl) (by kernel_rfl) (fun _ _ _ h => h) (Or.inl ⟨rfl, fun W hW => by (obtain ⟨_, y0_, y1_, y2_, y3_, y4_, y5_, _⟩ := hW; go_simp; try rfl)⟩) HS ?_
                  try simp only [Act.put, List.setIfInBounds_toArray, List.set_cons_zero, List.set_cons_succ]
                  refine wpAnyH_take (i := 8) (oi := { dst := some 90, op := Op.move (Operand.tmp 1), type := 26, pos := "l05_costs.go:115", after := #[], guard := none }) (v := .slice (some ⟨yo, zo, none⟩) ord.length OC) rfl (by kernel_rfl) (by kernel_rfl) (by kernel_rfl) (fun _ _ _ h => h) (Or.inl ⟨rfl, fun W hW => by (obtain ⟨_, y0_, y1_, y2_, y3_, y4_, y5_, _⟩ := hW; go_simp; try rfl)⟩) HS ?_
                  try simp only [Act.put, List.setIfInBounds_toArray, List.set_cons_zero, List.set_cons_succ]
                  refine wpAnyH_take (i := 9) (oi := { dst := some 91, op := Op.move (Operand.tmp 11), type := 3, pos := "l05_costs.go:115", after := #[], guard := none }) (v := .int .i64 (x : Int)) rfl (by kernel_rfl) (by kernel_rfl) (by kernel_rfl) (fun _ _ _ h => h) (Or.inl ⟨rfl, fun W hW => by (obtain ⟨_, y0_, y1_, y2_, y3_, y4_, y5_, _⟩ := hW; go_simp; try rfl)⟩) HS ?_
                  try simp only [Act.put, List.setIfInBounds_toArray, List.set_cons_zero, List.set_cons_succ]
                  refine wpAnyH_take (i := 10) (oi := { dst := some 92, op := Op.indexAddr 26 (Operand.tmp 90) (Operand.tmp 91), type := 0, pos := "l05_costs.go:115", after := #[{ on := 8, ground := Ground.data }, { on := 9, ground := Ground.data }], guard := none }) (v := .pointer (some ⟨yo, zo + x, none⟩)) rfl (by kernel_rfl) (by kernel_rfl) (by kernel_rfl) (fun _ _ _ h => h) (Or.inl ⟨rfl, fun W hW => by (obtain ⟨_, y0_, y1_, y2_, y3_, y4_, y5_, _⟩ := hW; go_simp; try rfl)⟩) HS ?_
                  try simp only [Act.put, List.setIfInBounds_toArray, List.set_cons_zero, List.set_cons_succ]
                  refine wpAnyH_take (i := 11) (oi := { dst := some 93, op := Op.load 2 (Operand.tmp 92), type := 2, pos := "l05_costs.go:115", after := #[{ on := 10, ground := Ground.data }], guard := none }) (v := .int .i64 (kx : Int)) rfl (by kernel_rfl) (by kernel_rfl) (by kernel_rfl) (fun _ _ _ h => h) (Or.inl ⟨rfl, fun W hW => by (obtain ⟨_, y0_, y1_, y2_, y3_, y4_, y5_, _⟩ := hW; go_simp; try rfl)⟩) HS ?_
                  try simp only [Act.put, List.setIfInBounds_toArray, List.set_cons_zero, List.set_cons_succ]
                  refine wpAnyH_take (i := 12) (oi := { dst := some 94, op := Op.indexAddr 57 (Operand.tmp 89) (Operand.tmp 93), type := 0, pos := "l05_costs.go:115", after := #[{ on := 7, ground := Ground.data }, { on := 11, ground := Ground.data }], guard := none }) (v := .pointer (some ⟨yR, zR + kx, none⟩)) rfl (by kernel_rfl) (by kernel_rfl) (by kernel_rfl) (fun _ _ _ h => h) (Or.inl ⟨rfl, fun W hW => by (obtain ⟨_, y0_, y1_, y2_, y3_, y4_, y5_, _⟩ := hW; go_simp; try rfl)⟩) HS ?_
                  try simp only [Act.put, List.setIfInBounds_toArray, List.set_cons_zero, List.set_cons_succ]
                  refine wpAnyH_take (i := 13) (oi := { dst := some 95, op := Op.load 124 (Operand.tmp 94), type := 124, pos := "l05_costs.go:115", after := #[{ on := 12, ground := Ground.data }], guard := none }) (v := .slice (some ⟨y3, z3, none⟩) row.length D2) rfl (by kernel_rfl) (by kernel_rfl) (by kernel_rfl) (fun _ _ _ h => h) (Or.inl ⟨rfl, fun W hW => by (obtain ⟨_, y0_, y1_, y2_, y3_, y4_, y5_, _⟩ := hW; go_simp; try rfl)⟩) HS ?_
                  try simp only [Act.put, List.setIfInBounds_toArray, List.set_cons_zero, List.set_cons_succ]
                  refine wpAnyH_take (i := 14) (oi := { dst := some 96, op := Op.move (Operand.tmp 1), type := 26, pos := "l05_costs.go:115", after := #[], guard := none }) (v := .slice (some ⟨yo, zo, none⟩) ord.length OC) rfl (by kernel_rfl) (by kernel_rfl) (by kernel_rfl) (fun _ _ _ h => h) (Or.inl ⟨rfl, fun W hW => by (obtain ⟨_, y0_, y1_, y2_, y3_, y4_, y5_, _⟩ := hW; go_simp; try rfl)⟩) HS ?_
                  try simp only [Act.put, List.setIfInBounds_toArray, List.set_cons_zero, List.set_cons_succ]
                  refine wpAnyH_take (i := 15) (oi := { dst := some 97, op := Op.move (Operand.tmp 13), type := 3, pos := "l05_costs.go:115", after := #[], guard := none }) (v := .int .i64 (y : Int)) rfl (by kernel_rfl) (by kernel_rfl) (by kernel_rfl) (fun _ _ _ h => h) (Or.inl ⟨rfl, fun W hW => by (obtain ⟨_, y0_, y1_, y2_, y3_, y4_, y5_, _⟩ := hW; go_simp; try rfl)⟩) HS ?_
                  try simp only [Act.put, List.setIfInBounds_toArray, List.set_cons_zero, List.set_cons_succ]
                  refine wpAnyH_take (i := 16) (oi := { dst := some 98, op := Op.indexAddr 26 (Operand.tmp 96) (Operand.tmp 97), type := 0, pos := "l05_costs.go:115", after := #[{ on := 14, ground := Ground.data }, { on := 15, ground := Ground.data }], guard := none }) (v := .pointer (some ⟨yo, zo + y, none⟩)) rfl (by kernel_rfl) (by kernel_rfl) (by kernel_rfl) (fun _ _ _ h => h) (Or.inl ⟨rfl, fun W hW => by (obtain ⟨_, y0_, y1_, y2_, y3_, y4_, y5_, _⟩ := hW; go_simp; try rfl)⟩) HS ?_
                  try simp only [Act.put, List.setIfInBounds_toArray, List.set_cons_zero, List.set_cons_succ]
                  refine wpAnyH_take (i := 17) (oi := { dst := some 99, op := Op.load 2 (Operand.tmp 98), type := 2, pos := "l05_costs.go:115", after := #[{ on := 16, ground := Ground.data }], guard := none }) (v := .int .i64 (k : Int)) rfl (by kernel_rfl) (by kernel_rfl) (by kernel_rfl) (fun _ _ _ h => h) (Or.inl ⟨rfl, fun W hW => by (obtain ⟨_, y0_, y1_, y2_, y3_, y4_, y5_, _⟩ := hW; go_simp; try rfl)⟩) HS ?_
                  try simp only [Act.put, List.setIfInBounds_toArray, List.set_cons_zero, List.set_cons_succ]
                  refine wpAnyH_take (i := 18) (oi := { dst := some 100, op := Op.indexAddr 124 (Operand.tmp 95) (Operand.tmp 99), type := 0, pos := "l05_costs.go:115", after := #[{ on := 13, ground := Ground.data }, { on := 17, ground := Ground.data }], guard := none }) (v := .pointer (some ⟨y3, z3 + k, none⟩)) rfl (by kernel_rfl) (by kernel_rfl) (by kernel_rfl) (fun _ _ _ h => h) (Or.inl ⟨rfl, fun W hW => by (obtain ⟨_, y0_, y1_, y2_, y3_, y4_, y5_, _⟩ := hW; go_simp; try rfl)⟩) HS ?_
                  try simp only [Act.put, List.setIfInBounds_toArray, List.set_cons_zero, List.set_cons_succ]
                  refine wpAnyH_take (i := 19) (oi := { dst := some 101, op := Op.load 4 (Operand.tmp 100), type := 4, pos := "l05_costs.go:115", after := #[{ on := 18, ground := Ground.data }], guard := none }) (v := .bool q) rfl (by kernel_rfl) (by kernel_rfl) (by kernel_rfl) (fun _ _ _ h => h) (Or.inl ⟨rfl, fun W hW => by (obtain ⟨_, y0_, y1_, y2_, y3_, y4_, y5_, _⟩ := hW; go_simp; try rfl)⟩) HS ?_
                  try simp only [Act.put, List.setIfInBounds_toArray, List.set_cons_zero, List.set_cons_succ]
                  refine wpAnyH_ready (rs := [20]) (by kernel_rfl) (by simp) ?_
                  refine AllReadyH.cons (o := { dst := some 102, op := Op.buildSlice 124 1 #[(0, Operand.tmp 101)], type := 124, pos := "l05_costs.go:115", after := #[{ on := 19, ground := Ground.data }], guard := none }) rfl (fun K hK => ?_) AllReadyH.nil
                  go_simp
                  obtain ⟨wn, ewn⟩ : ∃ wn, wn = w20.alloc (.cells #[.bool q] 4) := ⟨_, rfl⟩
                  obtain ⟨sb, esb⟩ : ∃ s, s = w20.heap.size := ⟨_, rfl⟩
                  rw [← ewn, ← esb]
                  have hcb : wn.cell? ⟨sb, 0, none⟩ = some (.bool q) := by rw [ewn, esb]; simp [go_sem]
                  have hO3 : OwnB wn w6.heap.size rv ((List.range y).map TT) := by rw [ewn]; exact HO2.out.keep ((Below.refl _ _).alloc (Nat.le_refl _) _)
                  have hB3 : Below w6.heap.size w6 wn := by rw [ewn]; exact HB2.out.alloc HB2.out.size _
                  have HS' : St w6 [(bm, 4, .slice (some ⟨bB, oB, none⟩) nx.length D), (bB, oB + j, .slice (some ⟨yR, zR, none⟩) rows.length DB), (yo, zo + x, .int .i64 (kx : Int)), (yR, zR + kx, .slice (some ⟨y3, z3, none⟩) row.length D2), (yo, zo + y, .int .i64 (k : Int)), (y3, z3 + k, .bool q)] wn := St.below HL.out hB3
                  have HO3 := Lib.hid hO3; have HB3 := Lib.hid hB3; have HCB := Lib.hid hcb
                  clear HS HO2 HB2 hO3 hB3 hcb ewn esb
                  have HS := HS'; clear HS'
                  refine hK.out _ _ HS (fun _ => ?_)
                  clear hK K
                  try simp only [Act.put, List.setIfInBounds_toArray, List.set_cons_zero, List.set_cons_succ]
                  refine wpAnyH_ready (rs := [21]) (by kernel_rfl) (by simp) ?_
                  refine AllReadyH.cons (o := { dst := some 103, op := Op.call { callee := Callee.builtin Builtin.append, args := #[Operand.tmp 82, Operand.tmp 102], argTypes := #[124, 124] }, type := 124, pos := "l05_costs.go:115", after := #[{ on := 0, ground := Ground.data }, { on := 20, ground := Ground.data }], guard := none }) rfl (fun K hK => ?_) AllReadyH.nil
                  refine step_one elB_here wn (by rfl) _ _ (by rfl) w6.heap.size ((List.range y).map TT).length sb rv (.bool q) _ (by rfl) (by rfl) HO3.out HCB.out rfl (by have := XL_.out; have := HN8.out; simp; omega) HB3.out.size ?_
                  intro v' w' ho hg hat
                  have HO4 : Hid (OwnB w' w6.heap.size v' ((List.range (y + 1)).map TT)) := by show OwnB _ _ _ _; rw [range_map_step, HTQ.out]; exact OwnB.push ho
                  have hB4 : Below w6.heap.size w6 w' := HB3.out.grown hg HB3.out.size (fun k hk => (World.ownsRow.lt HO3.out k hk).1)
                  have HB4 := Lib.hid hB4
                  have HS' : St w6 [(bm, 4, .slice (some ⟨bB, oB, none⟩) nx.length D), (bB, oB + j, .slice (some ⟨yR, zR, none⟩) rows.length DB), (yo, zo + x, .int .i64 (kx : Int)), (yR, zR + kx, .slice (some ⟨y3, z3, none⟩) row.length D2), (yo, zo + y, .int .i64 (k : Int)), (y3, z3 + k, .bool q)] w' := St.below HL.out hB4
                  clear HS HO3 HB3 HCB ho hg hat hB4
                  have HS := HS'; clear HS'
                  refine hK.out _ _ HS (fun _ => ?_)
                  clear hK K
                  try simp only [Act.put, List.setIfInBounds_toArray, List.set_cons_zero, List.set_cons_succ]
                  refine wpAnyH_take (i := 22) (oi := { dst := some 12, op := Op.assign (Operand.tmp 103), type := 124, pos := "l05_costs.go:115", after := #[{ on := 21, ground := Ground.data }, { on := 21, ground := Ground.chain }, { on := 0, ground := Ground.phase }, { on := 1, ground := Ground.phase }, { on := 2, ground := Ground.phase }, { on := 3, ground := Ground.phase }, { on := 4, ground := Ground.phase }, { on := 5, ground := Ground.phase }, { on := 6, ground := Ground.phase }, { on := 7, ground := Ground.phase }, { on := 8, ground := Ground.phase }, { on := 9, ground := Ground.phase }, { on := 10, ground := Ground.phase }, { on := 11, ground := Ground.phase }, { on := 12, ground := Ground.phase }, { on := 13, ground := Ground.phase }, { on := 14, ground := Ground.phase }, { on := 15, ground := Ground.phase }, { on := 16, ground := Ground.phase }, { on := 17, ground := Ground.phase }, { on := 18, ground := Ground.phase }, { on := 19, ground := Ground.phase }, { on := 20, ground := Ground.phase }, { on := 21, ground := Ground.phase }], guard := none }) (v := v') rfl (by kernel_rfl) (by kernel_rfl) (by kernel_rfl) (fun _ _ _ h => h) (Or.inl ⟨rfl, fun W hW => by (obtain ⟨_, y0_, y1_, y2_, y3_, y4_, y5_, _⟩ := hW; go_simp; try rfl)⟩) HS ?_
                  try simp only [Act.put, List.setIfInBounds_toArray, List.set_cons_zero, List.set_cons_succ]
                  refine wpAnyH_done (by kernel_rfl) ?_ _
                  clear HS
                  go_wp2_with fail
                  go_roundw
                  case rel => exact ⟨y + 1, v', XL_.out, by go_num, rfl, HO4.out, HB4.out⟩
                  case measure => have := XL_.out; simp [intOf]; omega
                · have hey : y = ord.length := by omega
                  clear hyn hy
                  rw [hey] at hO
                  obtain ⟨A3, C3, hv3, hbools⟩ := hO.out.done
                  simp only [List.length_map, List.length_range] at hv3
                  subst hv3
                  have hsa := hBw.out
                  obtain ⟨vals, hvl, hown, hpp⟩ := Acc.push boolsF_ok hM.out z56 hsa hbools (Wa := wq.alloc (.cells #[.slice A3 ord.length C3] 124)) (C := C3) ((Below.refl _ _).alloc (Nat.le_refl _) _)
                  have hlen : ((rsR ord rows).take x).length = x := by rw [List.length_take, rsR_len]; have := XM.out; omega
                  have hln : List.length ((List.range ord.length).map TT) = ord.length := by simp
                  rw [hln, hlen] at hpp
                  rw [hlen] at hown
                  have HOWN := Lib.hid hown; have HPP := Lib.hid hpp
                  have HBA := Lib.hid (hBm.out.trans (hsa.mono z56))
                  have zq : w5.heap.size ≤ wq.heap.size := HBA.out.size
                  obtain ⟨X, hX⟩ : ∃ X : Int, X = (y : Int) := ⟨_, rfl⟩
                  have hX1 : decide (X < (ord.length : Int)) = false := decide_eq_false (by rw [hX]; omega)
                  rw [← hX]
                  clear hsa hbools hown hpp hvl hlen hln hO hBw hey hX
                  go_wp2_with (at_builtin; refine wpList_one Try.elBB _ rfl _ _ rfl w5.heap.size x wq.heap.size mv (.slice A3 ord.length C3) vals rfl ?hx HOWN.out ?hc rfl ?hn ?hz ?_)
                  case hx => (first | rfl | simp)
                  case hc => simp [go_sem]
                  case hn => have := XM.out; omega
                  case hz => simp; omega
                  intro v' w' ho hg hat
                  have HA2 : Hid (Acc 124 BoolsF List.length w5.heap.size w' v' ((rsR ord rows).take (x + 1))) := by show Acc _ _ _ _ _ _ _; rw [HST2.out]; exact HPP.out v' w' ho hg (by simpa using hat)
                  have HB2 : Hid (Below w5.heap.size w5 w') := (HBA.out.alloc zq _).grown hg (by simp; omega) (fun k hk => (HOWN.out.lt k hk).1)
                  clear ho hg hat
                  go_wp2_with fail
                  go_roundw
                  case rel => exact ⟨x + 1, v', XM.out, by go_num, rfl, HA2.out, HB2.out⟩
                  case measure => have := XM.out; simp [intOf]; omega
            · have hex : x = ord.length := by omega
              have hall : (rsR ord rows).take x = rsR ord rows := List.take_of_length_le (by rw [rsR_len, hex]; exact Nat.le_refl _)
              rw [hall] at hM
              obtain ⟨A2, C2, hv2, hR2⟩ := hM.out.done
              rw [rsR_len] at hv2
              subst hv2
              have hsa := hBm.out
              have hQ2 : BBF w6 (rsR ord rows) A2 (rng w5.heap.size w6.heap.size) := hR2
              have hU := hS.out.grow bbF_ok hsa
              obtain ⟨vals, hvl, hown, hpp⟩ := Acc.push bbF_ok hS.out.acc hS.out.but.size hsa hQ2 (Wa := w6.alloc (.cells #[.slice A2 ord.length C2] 57)) (C := C2) ((Below.refl _ _).alloc (Nat.le_refl _) _)
              have hlen : ((rsA ord nx).take j).length = j := by rw [List.length_take, rsA_len]; have := JL.out; omega
              have hln : List.length (rsR ord rows) = ord.length := rsR_len _ _
              rw [hln, hlen] at hpp
              rw [hlen] at hown
              have HU := Lib.hid hU; have HOWN := Lib.hid hown; have HPP := Lib.hid hpp
              obtain ⟨p0, p1, p2, p3, p4, o0, o1, o2, o3, o4⟩ := five_facts HU.out.box
              obtain ⟨X, hX⟩ : ∃ X : Int, X = (x : Int) := ⟨_, rfl⟩
              have hX1 : decide (X < (ord.length : Int)) = false := decide_eq_false (by rw [hX]; omega)
              rw [← hX]
              clear hsa hQ2 hU hown hpp hvl hlen hln hM hBm hR2 hall hex hX hxn hx
              go_wp2_with (at_builtin; refine wpList_one Try.elBBB _ rfl _ _ rfl w3.heap.size j w6.heap.size v (.slice A2 ord.length C2) vals rfl ?hx HOWN.out ?hc rfl ?hn ?hz ?_)
              case hx => (first | rfl | simp)
              case hc => simp [go_sem]
              case hn => exact j4
              case hz => have := HU.out.but.size; simp; omega
              intro v' w' ho hg hat
              have hacc := HPP.out v' w' ho hg (by simpa using hat)
              obtain ⟨Zv, lv, Cv, hvf⟩ := accForm hacc
              subst hvf
              obtain ⟨hX, hbx⟩ := BA.push (i := 4) bbF_ok (fun _ _ => rfl) (HU.out.grow bbF_ok ((Below.refl _ _).alloc (Nat.le_refl _) (.cells #[.slice A2 ord.length C2] 57))) hacc hg
              obtain ⟨q0, q1, q2, q3, q4, t0, t1, t2, t3, t4⟩ := five_facts hbx
              have HX2 : Hid (BA 57 BBF List.length (fun v => #[.int .i64 (t : Int), .int .i64 (a : Int), .int .i64 (n : Int), .slice A1 t C1, v]) w1.heap.size w3 ((rsA ord nx).take (j + 1)) (.slice Zv lv Cv) (w'.setCell ⟨w1.heap.size, 4, none⟩ (.slice Zv lv Cv))) := by rw [HST.out]; exact hX
              clear hX hacc ho hg hat p0 p1 p2 p3 p4 o0 o1 o2 o3 o4 hbx
              go_wp2_with fail
              go_roundw
              case rel => exact ⟨j + 1, _, JL.out, by go_num, HX2.out⟩
              case measure => have := JL.out; simp [intOf]; omega
        · obtain rfl : j = nx.length := by omega
          obtain rfl := HN.out
          have lw1 : w.heap.size < w1.heap.size := by rw [HZ1.out]; exact Nat.lt_succ_self _
          have HR5 := (B5.out.block w.heap.size lw1).trans HR1.out
          obtain ⟨u0, u1, u2, u3, u4, x0, x1, x2, x3, x4⟩ := five_facts HR5
          have hall : (rsA ord nx).take nx.length = rsA ord nx := List.take_of_length_le (by rw [rsA_len]; exact Nat.le_refl _)
          rw [hall] at hS
          obtain ⟨A2, C2, hv2, hR2⟩ := hS.out.acc.done
          rw [rsA_len] at hv2
          subst hv2
          obtain ⟨m0, m1, m2, m3, m4, n0, n1, n2, n3, n4⟩ := five_facts hS.out.box
          have HR2 := Lib.hid hR2
          have HT5 : Hid (BBF w5 (rsT t ord ac) A1 (rng w2.heap.size w3.heap.size)) := bbF_ok.keep HTT3.out fun k hk => hS.out.but.block k hk.2 (by have := hk.1; have := HZ2.out; show k ≠ _; omega)
          have hzz := hS.out.but.size
          clear hR2
          go_wp2_with fail
          obtain ⟨y0, y1, y2, y3, y4, _, _, _, _, _⟩ := five_facts (five_block HR5 (.int .i64 (t : Int)) (.int .i64 (a : Int)) (.int .i64 (ord.length : Int)) (.slice A1 t C1) (.slice A2 nx.length C2))
          refine bodyPost_ret (v := .agg #[.int .i64 (t : Int), .int .i64 (a : Int), .int .i64 (ord.length : Int), .slice A1 t C1, .slice A2 nx.length C2]) (by simp [results, Try.results75, go_sem, y0, y1, y2, y3, y4]) rfl ?_
          exact mret5 HT5.out HR2.out (HS5.out) (Nat.le_refl _) (by have := HZ2.out; omega) B23.out hzz (rsT_len _ _ _) (rsA_len _ _) _ _ _ _ _
end Go.Proofs.Ytmblgkpgfofceaa

namespace Go.Proofs.Ytmblgkpgfofceaa
open Go.RowKit

/-- A valid condition. -/
def condV (t a ck cn : Int) (cf : Fo) : Bool := validE t a ck cn cf && (condK ck && cf.cond)
theorem in_below (v n : Int) : inB v 0 (n - 1) = belowB v n := by unfold inB belowB; rw [Bool.eq_iff_iff]; simp; omega
/-- All from a place on. -/
def allS {α : Type} (f : α → Bool) (xs : List α) (j : Nat) : Bool := (xs.drop j).all f
theorem allS_zero {α : Type} (f : α → Bool) (xs : List α) : xs.all f = allS f xs 0 := by simp [allS]
theorem allS_step {α : Type} (f : α → Bool) (xs : List α) {j : Nat} (h : j < xs.length) : allS f xs j = (f xs[j] && allS f xs (j + 1)) := by
  unfold allS
  rw [List.drop_eq_getElem_cons h, List.all_cons]
theorem allS_end {α : Type} (f : α → Bool) (xs : List α) : allS f xs xs.length = true := by simp [allS]
end Go.Proofs.Ytmblgkpgfofceaa
