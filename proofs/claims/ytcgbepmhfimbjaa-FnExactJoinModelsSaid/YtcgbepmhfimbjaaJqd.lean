/- impl.haveShape at bool; impl.ValidModel. JoinModels: contract of impl.JoinModels. Lists that grow whose elements have no spare room; contract of spec.l05None. Contracts of spec.l05Tests, spec.l05Ok, spec.ValidModel, spec.l05CostsOk, spec.ValidCosts. A region that draws its order, of which the last operation stores into a cell that the region loads: walked in the text's order. No function of the program. -/
import Derived.Test.YtcgbepmhfimbjaaJqa
import Derived.Laws.EntriesVeiled
import Derived.Test.YtcgbepmhfimbjaaJqc
import Derived.Test.YtcgbepmhfimbjaaJqb
import Derived.Test.YtcgbepmhfimbjaaRx
import Derived.Test.YtcgbepmhfimbjaaVMD
import Derived.Test.YtcgbepmhfimbjaaQuietC
import Derived.Deep.RegionHeld3
import Derived.Deep.DrawnRows
import Derived.Deep.RegionHeld
import Derived.OrdersHeld
import Derived.WalkKit
namespace Go.Proofs.Ytcgbepmhfimbjaa
open Go.RowKit

theorem validB_any (x : Bool) (w : World) : Calls Try.prog 140 #[.bool x] w fun e w' => e = .returned (.bool ((fun _ : Bool => true) x)) ∧ Below w.heap.size w w' := by
  go_enter Try.func140, Try.ntmps140
  go_wp2_with fail
  go_ret
  exact ⟨rfl, Below.refl _ _⟩

theorem shape1B_any (p : Int) (bp : Nat) (row : List Bool) (B : Option Addr) (D : Nat) (w : World) (hp : w.cell? ⟨bp, 0, none⟩ = some (.int .i64 p)) :
    Calls Try.prog 205 #[.slice B row.length D, .pointer (some ⟨bp, 0, none⟩)] w fun e w' => e = .returned (.bool (isRow p row)) ∧ Below w.heap.size w w' := by
  by_cases h : (row.length : Int) = p
  · have HE : Hid (isRow p row = true) := isRow_pos h
    have te : ((row.length : Int) == p) = true := by simp [h]
    clear h
    go_enter Try.func205, Try.ntmps205
    go_wp2_with fail
    go_ret
    exact ⟨ret_bool HE.out.symm, Below.refl _ _⟩
  · have HE : Hid (isRow p row = false) := isRow_neg h
    have te : ((row.length : Int) == p) = false := by rw [beq_eq_false_iff_ne]; exact h
    clear h
    go_enter Try.func205, Try.ntmps205
    go_wp2_with fail
    go_ret
    exact ⟨ret_bool HE.out.symm, Below.refl _ _⟩

set_option maxHeartbeats 400000 in
theorem shape2B_any (p : Int) (bp bv : Nat) (row : List (Bool)) (hm : row.length ≤ 9223372036854775807) (B : Option Addr) (D : Nat) (w : World) (hp : w.cell? ⟨bp, 0, none⟩ = some (.int .i64 p)) (hv : w.cell? ⟨bv, 0, none⟩ = some (.func (.func 140) #[] #[])) (hl : BoolsL 0 w row B) :
    Calls Try.prog 206 #[.slice B row.length D, .pointer (some ⟨bp, 0, none⟩), .pointer (some ⟨bv, 0, none⟩)] w fun e w' => e = .returned (.bool (rowH p (fun _ : Bool => true) row)) ∧ Below w.heap.size w w' := by
  have KE : Hid (∀ W : World, Sees w W → Calls Try.prog 207 #[.slice B row.length D, .func (.func 140) #[] #[]] W fun e w' => e = .returned (.bool (row.all (fun _ : Bool => true))) ∧ Below W.heap.size W w') := fun W h => everyb_any (fun _ : Bool => true) 140 #[] (enters_of Try.func140 (by kernel_rfl) rfl) row hm B D W (bools_ok.below hl h) (fun W2 x h2 _ => validB_any x W2)
  by_cases h : (row.length : Int) = p
  · obtain ⟨q, hq⟩ : ∃ q : Bool, q = row.all (fun _ : Bool => true) := ⟨_, rfl⟩
    have HE : Hid (rowH p (fun _ : Bool => true) row = q) := by show _ = _; unfold rowH; rw [isRow_pos h, hq]; rfl
    have te : ((row.length : Int) == p) = true := by simp [h]
    rw [← hq] at KE
    clear h hq hl
    go_enter Try.func206, Try.ntmps206
    go_wp2_with fail
    refine (KE.out _ (Sees.refl _)).mono ?_
    rintro e w1 ⟨rfl, hb⟩
    go_wp2_with fail
    go_ret
    exact ⟨ret_bool HE.out.symm, hb⟩
  · have HE : Hid (rowH p (fun _ : Bool => true) row = false) := by show _ = _; unfold rowH; rw [isRow_neg h]; rfl
    have te : ((row.length : Int) == p) = false := by rw [beq_eq_false_iff_ne]; exact h
    clear h hl
    go_enter Try.func206, Try.ntmps206
    go_wp2_with fail
    go_ret
    exact ⟨ret_bool HE.out.symm, Below.refl _ _⟩

set_option maxHeartbeats 400000 in
theorem shape3B_any (p : Int) (bp br : Nat) (bv : Nat) (row : List (List Bool)) (hm : row.length ≤ 9223372036854775807) (B : Option Addr) (D : Nat) (w : World) (hp : w.cell? ⟨bp, 0, none⟩ = some (.int .i64 p)) (hv : w.cell? ⟨br, 0, none⟩ = some (.func (.func 206) #[] #[.pointer (some ⟨bp, 0, none⟩), .pointer (some ⟨bv, 0, none⟩)])) (hl : BB 0 w row B) (hv2 : w.cell? ⟨bv, 0, none⟩ = some (.func (.func 140) #[] #[])) (hf : ∀ x ∈ row, x.length ≤ 9223372036854775807) :
    Calls Try.prog 208 #[.slice B row.length D, .pointer (some ⟨bp, 0, none⟩), .pointer (some ⟨br, 0, none⟩)] w fun e w' => e = .returned (.bool (actH p (fun _ : Bool => true) row)) ∧ Below w.heap.size w w' := by
  have KE : Hid (∀ W : World, Sees w W → Calls Try.prog 209 #[.slice B row.length D, .func (.func 206) #[] #[.pointer (some ⟨bp, 0, none⟩), .pointer (some ⟨bv, 0, none⟩)]] W fun e w' => e = .returned (.bool (row.all (rowH p (fun _ : Bool => true)))) ∧ Below W.heap.size W w') := fun W h => everyB_any (rowH p (fun _ : Bool => true)) 206 #[.pointer (some ⟨bp, 0, none⟩), .pointer (some ⟨bv, 0, none⟩)] (enters_of Try.func206 (by kernel_rfl) rfl) row hm B D W (bb_ok.below hl h) (fun W2 x B2 D2 h2 hx hx2 => shape2B_any p bp bv x (hf x hx) B2 D2 W2 (kc (Sees.below h h2) hp) (kc (Sees.below h h2) hv2) hx2)
  by_cases h : (row.length : Int) = p
  · obtain ⟨q, hq⟩ : ∃ q : Bool, q = row.all (rowH p (fun _ : Bool => true)) := ⟨_, rfl⟩
    have HE : Hid (actH p (fun _ : Bool => true) row = q) := by show _ = _; unfold actH; rw [isRow_pos h, hq]; rfl
    have te : ((row.length : Int) == p) = true := by simp [h]
    rw [← hq] at KE
    clear h hq hl
    go_enter Try.func208, Try.ntmps208
    go_wp2_with fail
    refine (KE.out _ (Sees.refl _)).mono ?_
    rintro e w1 ⟨rfl, hb⟩
    go_wp2_with fail
    go_ret
    exact ⟨ret_bool HE.out.symm, hb⟩
  · have HE : Hid (actH p (fun _ : Bool => true) row = false) := by show _ = _; unfold actH; rw [isRow_neg h]; rfl
    have te : ((row.length : Int) == p) = false := by rw [beq_eq_false_iff_ne]; exact h
    clear h hl
    go_enter Try.func208, Try.ntmps208
    go_wp2_with fail
    go_ret
    exact ⟨ret_bool HE.out.symm, Below.refl _ _⟩

set_option maxHeartbeats 2000000 in
set_option maxRecDepth 100000 in
theorem haveShapeB_any (t a p : Int) (ac : List (List Bool)) (nx : List (List (List Bool))) (hs : SmallM ac nx) (A B : Option Addr) (C D : Nat) (w : World) (hA : BB 0 w ac A) (hB : BBB 0 w nx B) :
    Calls Try.prog 139 #[.agg #[.int .i64 t, .int .i64 a], .int .i64 p, .slice A ac.length C, .slice B nx.length D, (.func (.func 140) #[] #[])] w fun e w' => e = .returned (.bool (validH (fun _ : Bool => true) t a p ac nx)) ∧ Below w.heap.size w w' := by
  obtain ⟨f1, f2, f3, f4⟩ := hs
  obtain ⟨q1, hq1⟩ : ∃ q1 : Bool, q1 = sigOk t a := ⟨_, rfl⟩
  have K1 : Hid (∀ W : World, Calls Try.prog 92 #[.agg #[.int .i64 t, .int .i64 a]] W fun e w' => e = .returned (.bool q1) ∧ Below W.heap.size W w') := fun W => by rw [hq1]; exact implValidSig_any t a W
  obtain ⟨q2, hq2⟩ : ∃ q2 : Bool, q2 = ac.all (isRow p) := ⟨_, rfl⟩
  obtain ⟨q3, hq3⟩ : ∃ q3 : Bool, q3 = nx.all (actH p (fun _ : Bool => true)) := ⟨_, rfl⟩
  have K2 : Hid (∀ (W : World) (bp : Nat), Sees w W → W.cell? ⟨bp, 0, none⟩ = some (.int .i64 p) → Calls Try.prog 209 #[.slice A ac.length C, .func (.func 205) #[] #[.pointer (some ⟨bp, 0, none⟩)]] W fun e w' => e = .returned (.bool q2) ∧ Below W.heap.size W w') := fun W bp h hp => by
    rw [hq2]
    exact everyB_any (isRow p) 205 #[.pointer (some ⟨bp, 0, none⟩)] (enters_of Try.func205 (by kernel_rfl) rfl) ac (by omega) A C W (bb_ok.below hA h) (fun W2 x B2 D2 h2 _ _ => shape1B_any p bp x B2 D2 W2 (kc h2 hp))
  have K3 : Hid (∀ (W : World) (bp bv br : Nat), Sees w W → W.cell? ⟨bp, 0, none⟩ = some (.int .i64 p) → W.cell? ⟨bv, 0, none⟩ = some (.func (.func 140) #[] #[]) → W.cell? ⟨br, 0, none⟩ = some (.func (.func 206) #[] #[.pointer (some ⟨bp, 0, none⟩), .pointer (some ⟨bv, 0, none⟩)]) → Calls Try.prog 210 #[.slice B nx.length D, .func (.func 208) #[] #[.pointer (some ⟨bp, 0, none⟩), .pointer (some ⟨br, 0, none⟩)]] W fun e w' => e = .returned (.bool q3) ∧ Below W.heap.size W w') := fun W bp bv br h hp hv hr => by
    rw [hq3]
    exact everyBB_any (actH p (fun _ : Bool => true)) 208 #[.pointer (some ⟨bp, 0, none⟩), .pointer (some ⟨br, 0, none⟩)] (enters_of Try.func208 (by kernel_rfl) rfl) nx (by omega) B D W (bbb_ok.below hB h) (fun W2 x B2 D2 h2 hx hx2 => shape3B_any p bp br bv x (Nat.le_trans (f4 x hx).1 (by decide)) B2 D2 W2 (kc h2 hp) (kc h2 hr) hx2 (kc h2 hv) (fun y hy => Nat.le_trans ((f4 x hx).2 y hy) (by decide)))
  have hvalid : Hid (validH (fun _ : Bool => true) t a p ac nx = (q1 && (inB p 1 8 && (decide ((ac.length : Int) = t) && (decide ((nx.length : Int) = a) && (q2 && q3)))))) := by show _ = _; unfold validH; rw [hq1, hq2, hq3]
  obtain ⟨w0, hw0⟩ : ∃ w0, w0 = ((w.alloc (.cells #[.int .i64 t, .int .i64 a] 29)).alloc (.cells #[.int .i64 p] 2)).alloc (.cells #[.func (.func 140) #[] #[]] 204) := ⟨_, rfl⟩
  have B0 : Sees w w0 := by rw [hw0]; exact (((Sees.refl w).alloc _).alloc _).alloc _
  have g0 : w0.cell? ⟨w.heap.size, 0, none⟩ = some (.int .i64 t) := by rw [hw0]; simp [go_sem]
  have g1 : w0.cell? ⟨w.heap.size, 1, none⟩ = some (.int .i64 a) := by rw [hw0]; simp [go_sem]
  have g2 : w0.cell? ⟨w.heap.size + 1, 0, none⟩ = some (.int .i64 p) := by rw [hw0]; simp [go_sem]
  have g3 : w0.cell? ⟨w.heap.size + 1 + 1, 0, none⟩ = some (.func (.func 140) #[] #[]) := by rw [hw0]; simp [go_sem]
  clear hq1 hq2 hq3 hA hB f1 f2 f3 f4
  cases q1
  · have HD : Hid (validH (fun _ : Bool => true) t a p ac nx = false) := by show _ = _; rw [hvalid.out]; rfl
    clear hvalid
    go_enter Try.func139, Try.ntmps139
    go_wp2_with fail
    rw [← hw0]
    refine (K1.out _).mono ?_
    rintro e w1 ⟨rfl, hb⟩
    have x0 := kc hb g0; have x1 := kc hb g1; have x2 := kc hb g2; have x3 := kc hb g3
    have B1 : Sees w w1 := B0.below hb
    clear hw0 g0 g1 g2 g3 hb B0
    go_wp2_with fail
    go_ret
    exact ⟨ret_bool HD.out.symm, B1⟩
  by_cases hlo : p < 1
  · have HD : Hid (validH (fun _ : Bool => true) t a p ac nx = false) := by show _ = _; rw [hvalid.out, show inB p 1 8 = false from by unfold inB; simp; omega]; rfl
    have t1 : decide (p < 1) = true := decide_eq_true hlo
    clear hvalid
    go_enter Try.func139, Try.ntmps139
    go_wp2_with fail
    rw [← hw0]
    refine (K1.out _).mono ?_
    rintro e w1 ⟨rfl, hb⟩
    have x0 := kc hb g0; have x1 := kc hb g1; have x2 := kc hb g2; have x3 := kc hb g3
    have B1 : Sees w w1 := B0.below hb
    clear hw0 g0 g1 g2 g3 hb B0
    go_wp2_with fail
    go_ret
    exact ⟨ret_bool HD.out.symm, B1⟩
  have t1 : decide (p < 1) = false := decide_eq_false hlo
  by_cases hhi : (8 : Int) < p
  · have HD : Hid (validH (fun _ : Bool => true) t a p ac nx = false) := by show _ = _; rw [hvalid.out, show inB p 1 8 = false from by unfold inB; simp; omega]; rfl
    have t2 : decide ((8 : Int) < p) = true := decide_eq_true hhi
    clear hvalid
    go_enter Try.func139, Try.ntmps139
    go_wp2_with fail
    rw [← hw0]
    refine (K1.out _).mono ?_
    rintro e w1 ⟨rfl, hb⟩
    have x0 := kc hb g0; have x1 := kc hb g1; have x2 := kc hb g2; have x3 := kc hb g3
    have B1 : Sees w w1 := B0.below hb
    clear hw0 g0 g1 g2 g3 hb B0
    go_wp2_with fail
    go_ret
    exact ⟨ret_bool HD.out.symm, B1⟩
  have t2 : decide ((8 : Int) < p) = false := decide_eq_false hhi
  have hb18 : inB p 1 8 = true := by unfold inB; simp; omega
  rw [hb18] at hvalid
  by_cases hl1 : (ac.length : Int) = t
  case neg =>
    have HD : Hid (validH (fun _ : Bool => true) t a p ac nx = false) := by show _ = _; rw [hvalid.out, decide_eq_false hl1]; rfl
    have tn : ((ac.length : Int) != t) = true := by rw [bne_iff_ne]; exact hl1
    clear hvalid hb18 hl1
    go_enter Try.func139, Try.ntmps139
    go_wp2_with fail
    rw [← hw0]
    refine (K1.out _).mono ?_
    rintro e w1 ⟨rfl, hb⟩
    have x0 := kc hb g0; have x1 := kc hb g1; have x2 := kc hb g2; have x3 := kc hb g3
    have B1 : Sees w w1 := B0.below hb
    clear hw0 g0 g1 g2 g3 hb B0
    go_wp2_with fail
    go_ret
    exact ⟨ret_bool HD.out.symm, B1⟩
  have tl1 : ((ac.length : Int) != t) = false := by simp [hl1]
  rw [decide_eq_true hl1] at hvalid
  clear hl1
  by_cases hl2 : (nx.length : Int) = a
  case neg =>
    have HD : Hid (validH (fun _ : Bool => true) t a p ac nx = false) := by show _ = _; rw [hvalid.out, decide_eq_false hl2]; rfl
    have tn : ((nx.length : Int) != a) = true := by rw [bne_iff_ne]; exact hl2
    clear hvalid hb18 hl2
    go_enter Try.func139, Try.ntmps139
    go_wp2_with fail
    rw [← hw0]
    refine (K1.out _).mono ?_
    rintro e w1 ⟨rfl, hb⟩
    have x0 := kc hb g0; have x1 := kc hb g1; have x2 := kc hb g2; have x3 := kc hb g3
    have B1 : Sees w w1 := B0.below hb
    clear hw0 g0 g1 g2 g3 hb B0
    go_wp2_with fail
    go_ret
    exact ⟨ret_bool HD.out.symm, B1⟩
  have tl2 : ((nx.length : Int) != a) = false := by simp [hl2]
  rw [decide_eq_true hl2] at hvalid
  clear hl2
  cases q2
  · have HD : Hid (validH (fun _ : Bool => true) t a p ac nx = false) := by show _ = _; rw [hvalid.out]; rfl
    clear hvalid hb18
    go_enter Try.func139, Try.ntmps139
    go_wp2_with fail
    rw [← hw0]
    refine (K1.out _).mono ?_
    rintro e w1 ⟨rfl, hb⟩
    have x0 := kc hb g0; have x1 := kc hb g1; have x2 := kc hb g2; have x3 := kc hb g3
    have B1 : Sees w w1 := B0.below hb
    clear hw0 g0 g1 g2 g3 hb B0
    go_wp2_with fail
    refine (K2.out _ (w.heap.size + 1) (B1.alloc _) (ka _ x2)).mono ?_
    rintro e w2 ⟨rfl, hb⟩
    have B2 : Sees w w2 := Sees.below (B1.alloc _) hb
    clear hb
    go_wp2_with fail
    go_ret
    exact ⟨ret_bool HD.out.symm, B2⟩
  have HD : Hid (validH (fun _ : Bool => true) t a p ac nx = q3) := by show _ = _; rw [hvalid.out]; rfl
  clear hvalid hb18
  go_enter Try.func139, Try.ntmps139
  go_wp2_with fail
  rw [← hw0]
  refine (K1.out _).mono ?_
  rintro e w1 ⟨rfl, hb⟩
  have x0 := kc hb g0; have x1 := kc hb g1; have x2 := kc hb g2; have x3 := kc hb g3
  have B1 : Sees w w1 := B0.below hb
  clear hw0 g0 g1 g2 g3 hb B0
  go_wp2_with fail
  refine (K2.out _ (w.heap.size + 1) (B1.alloc _) (ka _ x2)).mono ?_
  rintro e w2 ⟨rfl, hb⟩
  have B2 : Sees w w2 := Sees.below (B1.alloc _) hb
  have y2 := kc hb (ka _ x2); have y3 := kc hb (ka _ x3)
  have y4 := kc hb (show (w1.alloc _).cell? ⟨w1.heap.size, 0, none⟩ = some (.func (.func 206) #[] #[.pointer (some ⟨w.heap.size + 1, 0, none⟩), .pointer (some ⟨w.heap.size + 1 + 1, 0, none⟩)]) from by simp [go_sem])
  clear hb x0 x1 x2 x3 B1
  go_wp2_with fail
  refine (K3.out _ (w.heap.size + 1) (w.heap.size + 1 + 1) w1.heap.size B2 y2 y3 y4).mono ?_
  rintro e w3 ⟨rfl, hb⟩
  have B3 : Sees w w3 := B2.below hb
  clear hb
  go_wp2_with fail
  go_ret
  exact ⟨ret_bool HD.out.symm, B3⟩

set_option maxRecDepth 100000 in
theorem implValidModel_any (t a p : Int) (ac : List (List Bool)) (nx : List (List (List Bool))) (hs : SmallM ac nx) (A B : Option Addr) (C D : Nat) (w : World) (hA : BB 0 w ac A) (hB : BBB 0 w nx B) :
    Calls Try.prog 65 #[.agg #[.int .i64 t, .int .i64 a, .int .i64 p, .slice A ac.length C, .slice B nx.length D]] w fun e w' => e = .returned (.bool (validM t a p ac nx)) ∧ Below w.heap.size w w' := by
  obtain ⟨q, hq⟩ : ∃ q : Bool, q = validM t a p ac nx := ⟨_, rfl⟩
  have K : Hid (∀ W : World, Sees w W → Calls Try.prog 139 #[.agg #[.int .i64 t, .int .i64 a], .int .i64 p, .slice A ac.length C, .slice B nx.length D, (.func (.func 140) #[] #[])] W fun e w' => e = .returned (.bool q) ∧ Below W.heap.size W w') := fun W h => by
    rw [hq, ← validH_model]
    exact haveShapeB_any t a p ac nx hs A B C D W (bb_ok.below hA h) (bbb_ok.below hB h)
  rw [← hq]
  clear hq hA hB hs
  go_enter Try.func65, Try.ntmps65
  go_wp2_with fail
  refine (K.out _ (by unfold Sees; go_grown)).mono ?_
  rintro e w1 ⟨rfl, hb⟩
  have B1 : Sees w w1 := Sees.below (by unfold Sees; go_grown) hb
  clear hb
  go_wp2_with fail
  go_ret
  exact ⟨rfl, B1⟩
end Go.Proofs.Ytcgbepmhfimbjaa

namespace Go.Proofs.Ytcgbepmhfimbjaa
open Go.RowKit
set_option linter.unusedVariables false

set_option maxHeartbeats 4000000 in
set_option maxRecDepth 100000 in
theorem implJoin_no1 (t a p q t' a' : Int) (ac : List (List Bool)) (nx : List (List (List Bool))) (bc : List (List Bool)) (ny : List (List (List Bool))) (hs : SmallM ac nx) (hs2 : SmallM bc ny) (hv1 : validM t a p ac nx = false) (A B A2 B2 : Option Addr) (C D C2 D2 : Nat) (w : World) (hA0 : BB 0 w ac A) (hB0 : BBB 0 w nx B) (hA20 : BB 0 w bc A2) (hB20 : BBB 0 w ny B2) :
    Calls Try.prog 13 #[.agg #[.int .i64 t, .int .i64 a, .int .i64 p, .slice A ac.length C, .slice B nx.length D], .agg #[.int .i64 t', .int .i64 a', .int .i64 q, .slice A2 bc.length C2, .slice B2 ny.length D2]] w (MEnd 0 0 0 [] [] 1 w) := by
  obtain ⟨w0, hw0⟩ : ∃ w0, w0 = ((w.alloc (.cells #[.int .i64 t, .int .i64 a, .int .i64 p, .slice A ac.length C, .slice B nx.length D] 31)).alloc (.cells #[.int .i64 t', .int .i64 a', .int .i64 q, .slice A2 bc.length C2, .slice B2 ny.length D2] 31)).alloc (.cells #[.int .i64 0, .int .i64 0, .int .i64 0, .slice none 0 0, .slice none 0 0] 31) := ⟨_, rfl⟩
  have B0 : Sees w w0 := by rw [hw0]; exact (((Sees.refl w).alloc _).alloc _).alloc _
  have hA := hA0.sees B0; have hB := hB0.sees B0; have hA2 := hA20.sees B0; have hB2 := hB20.sees B0
  have hc0 : w0.heap[w.heap.size]? = some (.cells #[.int .i64 t, .int .i64 a, .int .i64 p, .slice A ac.length C, .slice B nx.length D] 31 (0, 0)) := by
    rw [hw0]; exact (Below.heap_alloc _ _ _ (by simp; omega)).trans ((Below.heap_alloc _ _ _ (by simp)).trans (heap_new _ _ _ rfl))
  have hd0 : w0.heap[w.heap.size + 1]? = some (.cells #[.int .i64 t', .int .i64 a', .int .i64 q, .slice A2 bc.length C2, .slice B2 ny.length D2] 31 (0, 0)) := by
    rw [hw0]; exact (Below.heap_alloc _ _ _ (by simp)).trans (heap_new _ _ _ (by simp))
  have hr0 : w0.heap[w.heap.size + 1 + 1]? = some (.cells #[.int .i64 0, .int .i64 0, .int .i64 0, .slice none 0 0, .slice none 0 0] 31 (0, 0)) := by
    rw [hw0]; exact heap_new _ _ _ (by simp)
  have z0 : w.heap.size + 3 ≤ w0.heap.size := by rw [hw0]; simp
  have K1 : Hid (∀ W : World, Sees w0 W → Calls Try.prog 65 #[.agg #[.int .i64 t, .int .i64 a, .int .i64 p, .slice A ac.length C, .slice B nx.length D]] W fun e w' => e = .returned (.bool false) ∧ Below W.heap.size W w') := fun W h => by
    rw [← hv1]; exact implValidModel_any _ _ _ ac nx hs A B C D W (hA.sees h) (hB.sees h)
  have HC0 := Lib.hid hc0; have HD0 := Lib.hid hd0; have HR0 := Lib.hid hr0
  have FIN : Hid (∀ W : World, Below w0.heap.size w0 W → Sees w W) := fun W h => B0.below h
  clear hA hB hA2 hB2 hA0 hB0 hA20 hB20 hs hs2 B0 hc0 hd0 hr0 hv1
  obtain ⟨c0, c1, c2, c3, c4, _, _, _, _, _⟩ := five_facts HC0.out
  obtain ⟨d0, d1, d2, d3, d4, _, _, _, _, _⟩ := five_facts HD0.out
  go_enter Try.func13, Try.ntmps13
  have HW0 := Lib.hid hw0
  go_wp2_with fail
  rw [← hw0]
  clear hw0
  refine (K1.out _ (Sees.refl _)).mono ?_
  rintro e w1 ⟨rfl, hb⟩
  have HB1 := Lib.hid hb
  have HC1 := Lib.hid ((hb.block _ (by omega)).trans HC0.out)
  have HD1 := Lib.hid ((hb.block _ (by omega)).trans HD0.out)
  have HR1 := Lib.hid ((hb.block _ (by omega)).trans HR0.out)
  have z1 : w.heap.size + 3 ≤ w1.heap.size := Nat.le_trans z0 hb.size
  clear hb K1 c0 c1 c2 c3 c4 d0 d1 d2 d3 d4
  obtain ⟨c0, c1, c2, c3, c4, _, _, _, _, _⟩ := five_facts HC1.out
  obtain ⟨d0, d1, d2, d3, d4, _, _, _, _, _⟩ := five_facts HD1.out
  obtain ⟨u0, u1, u2, u3, u4, x0, x1, x2, x3, x4⟩ := five_facts HR1.out
  go_wp2_with fail
  obtain ⟨y0, y1, y2, y3, y4, _, _, _, _, _⟩ := five_facts (five_block HR1.out (.int .i64 0) (.int .i64 0) (.int .i64 0) (.slice none 0 0) (.slice none 0 0))
  refine bodyPost_ret (v := .tuple #[.agg #[.int .i64 0, .int .i64 0, .int .i64 0, .slice none 0 0, .slice none 0 0], .int .i64 1]) (by simp [results, Try.results13, go_sem, y0, y1, y2, y3, y4]) rfl ?_
  exact MEnd.no (five_below (FIN.out _ HB1.out) (by omega) _ _ _ _ _)
set_option maxHeartbeats 4000000 in
set_option maxRecDepth 100000 in
theorem implJoin_no2 (t a p q t' a' : Int) (ac : List (List Bool)) (nx : List (List (List Bool))) (bc : List (List Bool)) (ny : List (List (List Bool))) (hs : SmallM ac nx) (hs2 : SmallM bc ny) (hv1 : validM t a p ac nx = true) (hv2 : validM t' a' q bc ny = false) (A B A2 B2 : Option Addr) (C D C2 D2 : Nat) (w : World) (hA0 : BB 0 w ac A) (hB0 : BBB 0 w nx B) (hA20 : BB 0 w bc A2) (hB20 : BBB 0 w ny B2) :
    Calls Try.prog 13 #[.agg #[.int .i64 t, .int .i64 a, .int .i64 p, .slice A ac.length C, .slice B nx.length D], .agg #[.int .i64 t', .int .i64 a', .int .i64 q, .slice A2 bc.length C2, .slice B2 ny.length D2]] w (MEnd 0 0 0 [] [] 1 w) := by
  obtain ⟨w0, hw0⟩ : ∃ w0, w0 = ((w.alloc (.cells #[.int .i64 t, .int .i64 a, .int .i64 p, .slice A ac.length C, .slice B nx.length D] 31)).alloc (.cells #[.int .i64 t', .int .i64 a', .int .i64 q, .slice A2 bc.length C2, .slice B2 ny.length D2] 31)).alloc (.cells #[.int .i64 0, .int .i64 0, .int .i64 0, .slice none 0 0, .slice none 0 0] 31) := ⟨_, rfl⟩
  have B0 : Sees w w0 := by rw [hw0]; exact (((Sees.refl w).alloc _).alloc _).alloc _
  have hA := hA0.sees B0; have hB := hB0.sees B0; have hA2 := hA20.sees B0; have hB2 := hB20.sees B0
  have hc0 : w0.heap[w.heap.size]? = some (.cells #[.int .i64 t, .int .i64 a, .int .i64 p, .slice A ac.length C, .slice B nx.length D] 31 (0, 0)) := by
    rw [hw0]; exact (Below.heap_alloc _ _ _ (by simp; omega)).trans ((Below.heap_alloc _ _ _ (by simp)).trans (heap_new _ _ _ rfl))
  have hd0 : w0.heap[w.heap.size + 1]? = some (.cells #[.int .i64 t', .int .i64 a', .int .i64 q, .slice A2 bc.length C2, .slice B2 ny.length D2] 31 (0, 0)) := by
    rw [hw0]; exact (Below.heap_alloc _ _ _ (by simp)).trans (heap_new _ _ _ (by simp))
  have hr0 : w0.heap[w.heap.size + 1 + 1]? = some (.cells #[.int .i64 0, .int .i64 0, .int .i64 0, .slice none 0 0, .slice none 0 0] 31 (0, 0)) := by
    rw [hw0]; exact heap_new _ _ _ (by simp)
  have z0 : w.heap.size + 3 ≤ w0.heap.size := by rw [hw0]; simp
  have K1 : Hid (∀ W : World, Sees w0 W → Calls Try.prog 65 #[.agg #[.int .i64 t, .int .i64 a, .int .i64 p, .slice A ac.length C, .slice B nx.length D]] W fun e w' => e = .returned (.bool true) ∧ Below W.heap.size W w') := fun W h => by
    rw [← hv1]; exact implValidModel_any _ _ _ ac nx hs A B C D W (hA.sees h) (hB.sees h)
  have K2 : Hid (∀ W : World, Sees w0 W → Calls Try.prog 65 #[.agg #[.int .i64 t', .int .i64 a', .int .i64 q, .slice A2 bc.length C2, .slice B2 ny.length D2]] W fun e w' => e = .returned (.bool false) ∧ Below W.heap.size W w') := fun W h => by
    rw [← hv2]; exact implValidModel_any _ _ _ bc ny hs2 A2 B2 C2 D2 W (hA2.sees h) (hB2.sees h)
  have HC0 := Lib.hid hc0; have HD0 := Lib.hid hd0; have HR0 := Lib.hid hr0
  have FIN : Hid (∀ W : World, Below w0.heap.size w0 W → Sees w W) := fun W h => B0.below h
  clear hA hB hA2 hB2 hA0 hB0 hA20 hB20 hs hs2 B0 hc0 hd0 hr0 hv1 hv2
  obtain ⟨c0, c1, c2, c3, c4, _, _, _, _, _⟩ := five_facts HC0.out
  obtain ⟨d0, d1, d2, d3, d4, _, _, _, _, _⟩ := five_facts HD0.out
  go_enter Try.func13, Try.ntmps13
  have HW0 := Lib.hid hw0
  go_wp2_with fail
  rw [← hw0]
  clear hw0
  refine (K1.out _ (Sees.refl _)).mono ?_
  rintro e w1 ⟨rfl, hb⟩
  have HB1 := Lib.hid hb
  have HC1 := Lib.hid ((hb.block _ (by omega)).trans HC0.out)
  have HD1 := Lib.hid ((hb.block _ (by omega)).trans HD0.out)
  have HR1 := Lib.hid ((hb.block _ (by omega)).trans HR0.out)
  have z1 : w.heap.size + 3 ≤ w1.heap.size := Nat.le_trans z0 hb.size
  clear hb K1 c0 c1 c2 c3 c4 d0 d1 d2 d3 d4
  obtain ⟨c0, c1, c2, c3, c4, _, _, _, _, _⟩ := five_facts HC1.out
  obtain ⟨d0, d1, d2, d3, d4, _, _, _, _, _⟩ := five_facts HD1.out
  go_wp2_with fail
  refine (K2.out _ HB1.out).mono ?_
  rintro e w2 ⟨rfl, hb⟩
  have HB2 := Lib.hid (HB1.out.trans (hb.mono HB1.out.size))
  have HC2 := Lib.hid ((hb.block _ (by omega)).trans HC1.out)
  have HD2 := Lib.hid ((hb.block _ (by omega)).trans HD1.out)
  have HR2 := Lib.hid ((hb.block _ (by omega)).trans HR1.out)
  have z2 : w.heap.size + 3 ≤ w2.heap.size := Nat.le_trans z1 hb.size
  clear hb K2 c0 c1 c2 c3 c4 d0 d1 d2 d3 d4
  obtain ⟨c0, c1, c2, c3, c4, _, _, _, _, _⟩ := five_facts HC2.out
  obtain ⟨d0, d1, d2, d3, d4, _, _, _, _, _⟩ := five_facts HD2.out
  obtain ⟨u0, u1, u2, u3, u4, x0, x1, x2, x3, x4⟩ := five_facts HR2.out
  go_wp2_with fail
  obtain ⟨y0, y1, y2, y3, y4, _, _, _, _, _⟩ := five_facts (five_block HR2.out (.int .i64 0) (.int .i64 0) (.int .i64 0) (.slice none 0 0) (.slice none 0 0))
  refine bodyPost_ret (v := .tuple #[.agg #[.int .i64 0, .int .i64 0, .int .i64 0, .slice none 0 0, .slice none 0 0], .int .i64 1]) (by simp [results, Try.results13, go_sem, y0, y1, y2, y3, y4]) rfl ?_
  exact MEnd.no (five_below (FIN.out _ HB2.out) (by omega) _ _ _ _ _)
set_option maxHeartbeats 4000000 in
set_option maxRecDepth 100000 in
theorem implJoin_far (t a p q t' a' : Int) (ac : List (List Bool)) (nx : List (List (List Bool))) (bc : List (List Bool)) (ny : List (List (List Bool))) (hs : SmallM ac nx) (hs2 : SmallM bc ny) (hv1 : validM t a p ac nx = true) (hv2 : validM t' a' q bc ny = true) (hne : ¬ (t = t' ∧ a = a')) (A B A2 B2 : Option Addr) (C D C2 D2 : Nat) (w : World) (hA0 : BB 0 w ac A) (hB0 : BBB 0 w nx B) (hA20 : BB 0 w bc A2) (hB20 : BBB 0 w ny B2) :
    Calls Try.prog 13 #[.agg #[.int .i64 t, .int .i64 a, .int .i64 p, .slice A ac.length C, .slice B nx.length D], .agg #[.int .i64 t', .int .i64 a', .int .i64 q, .slice A2 bc.length C2, .slice B2 ny.length D2]] w (MEnd 0 0 0 [] [] 2 w) := by
  obtain ⟨w0, hw0⟩ : ∃ w0, w0 = ((w.alloc (.cells #[.int .i64 t, .int .i64 a, .int .i64 p, .slice A ac.length C, .slice B nx.length D] 31)).alloc (.cells #[.int .i64 t', .int .i64 a', .int .i64 q, .slice A2 bc.length C2, .slice B2 ny.length D2] 31)).alloc (.cells #[.int .i64 0, .int .i64 0, .int .i64 0, .slice none 0 0, .slice none 0 0] 31) := ⟨_, rfl⟩
  have B0 : Sees w w0 := by rw [hw0]; exact (((Sees.refl w).alloc _).alloc _).alloc _
  have hA := hA0.sees B0; have hB := hB0.sees B0; have hA2 := hA20.sees B0; have hB2 := hB20.sees B0
  have hc0 : w0.heap[w.heap.size]? = some (.cells #[.int .i64 t, .int .i64 a, .int .i64 p, .slice A ac.length C, .slice B nx.length D] 31 (0, 0)) := by
    rw [hw0]; exact (Below.heap_alloc _ _ _ (by simp; omega)).trans ((Below.heap_alloc _ _ _ (by simp)).trans (heap_new _ _ _ rfl))
  have hd0 : w0.heap[w.heap.size + 1]? = some (.cells #[.int .i64 t', .int .i64 a', .int .i64 q, .slice A2 bc.length C2, .slice B2 ny.length D2] 31 (0, 0)) := by
    rw [hw0]; exact (Below.heap_alloc _ _ _ (by simp)).trans (heap_new _ _ _ (by simp))
  have hr0 : w0.heap[w.heap.size + 1 + 1]? = some (.cells #[.int .i64 0, .int .i64 0, .int .i64 0, .slice none 0 0, .slice none 0 0] 31 (0, 0)) := by
    rw [hw0]; exact heap_new _ _ _ (by simp)
  have z0 : w.heap.size + 3 ≤ w0.heap.size := by rw [hw0]; simp
  have K1 : Hid (∀ W : World, Sees w0 W → Calls Try.prog 65 #[.agg #[.int .i64 t, .int .i64 a, .int .i64 p, .slice A ac.length C, .slice B nx.length D]] W fun e w' => e = .returned (.bool true) ∧ Below W.heap.size W w') := fun W h => by
    rw [← hv1]; exact implValidModel_any _ _ _ ac nx hs A B C D W (hA.sees h) (hB.sees h)
  have K2 : Hid (∀ W : World, Sees w0 W → Calls Try.prog 65 #[.agg #[.int .i64 t', .int .i64 a', .int .i64 q, .slice A2 bc.length C2, .slice B2 ny.length D2]] W fun e w' => e = .returned (.bool true) ∧ Below W.heap.size W w') := fun W h => by
    rw [← hv2]; exact implValidModel_any _ _ _ bc ny hs2 A2 B2 C2 D2 W (hA2.sees h) (hB2.sees h)
  have HC0 := Lib.hid hc0; have HD0 := Lib.hid hd0; have HR0 := Lib.hid hr0
  have FIN : Hid (∀ W : World, Below w0.heap.size w0 W → Sees w W) := fun W h => B0.below h
  clear hA hB hA2 hB2 hA0 hB0 hA20 hB20 hs hs2 B0 hc0 hd0 hr0 hv1 hv2
  obtain ⟨c0, c1, c2, c3, c4, _, _, _, _, _⟩ := five_facts HC0.out
  obtain ⟨d0, d1, d2, d3, d4, _, _, _, _, _⟩ := five_facts HD0.out
  go_enter Try.func13, Try.ntmps13
  have HW0 := Lib.hid hw0
  go_wp2_with fail
  rw [← hw0]
  clear hw0
  refine (K1.out _ (Sees.refl _)).mono ?_
  rintro e w1 ⟨rfl, hb⟩
  have HB1 := Lib.hid hb
  have HC1 := Lib.hid ((hb.block _ (by omega)).trans HC0.out)
  have HD1 := Lib.hid ((hb.block _ (by omega)).trans HD0.out)
  have HR1 := Lib.hid ((hb.block _ (by omega)).trans HR0.out)
  have z1 : w.heap.size + 3 ≤ w1.heap.size := Nat.le_trans z0 hb.size
  clear hb K1 c0 c1 c2 c3 c4 d0 d1 d2 d3 d4
  obtain ⟨c0, c1, c2, c3, c4, _, _, _, _, _⟩ := five_facts HC1.out
  obtain ⟨d0, d1, d2, d3, d4, _, _, _, _, _⟩ := five_facts HD1.out
  go_wp2_with fail
  refine (K2.out _ HB1.out).mono ?_
  rintro e w2 ⟨rfl, hb⟩
  have HB2 := Lib.hid (HB1.out.trans (hb.mono HB1.out.size))
  have HC2 := Lib.hid ((hb.block _ (by omega)).trans HC1.out)
  have HD2 := Lib.hid ((hb.block _ (by omega)).trans HD1.out)
  have HR2 := Lib.hid ((hb.block _ (by omega)).trans HR1.out)
  have z2 : w.heap.size + 3 ≤ w2.heap.size := Nat.le_trans z1 hb.size
  clear hb K2 c0 c1 c2 c3 c4 d0 d1 d2 d3 d4
  obtain ⟨c0, c1, c2, c3, c4, _, _, _, _, _⟩ := five_facts HC2.out
  obtain ⟨d0, d1, d2, d3, d4, _, _, _, _, _⟩ := five_facts HD2.out
  obtain ⟨u0, u1, u2, u3, u4, x0, x1, x2, x3, x4⟩ := five_facts HR2.out
  go_wp2_with fail
  all_goals
    obtain ⟨y0, y1, y2, y3, y4, _, _, _, _, _⟩ := five_facts (five_block HR2.out (.int .i64 0) (.int .i64 0) (.int .i64 0) (.slice none 0 0) (.slice none 0 0))
    refine bodyPost_ret (v := .tuple #[.agg #[.int .i64 0, .int .i64 0, .int .i64 0, .slice none 0 0, .slice none 0 0], .int .i64 2]) (by simp [results, Try.results13, go_sem, y0, y1, y2, y3, y4]) rfl ?_
    exact MEnd.no (five_below (FIN.out _ HB2.out) (by omega) _ _ _ _ _)
set_option maxHeartbeats 4000000 in
set_option maxRecDepth 100000 in
theorem implJoin_big (t a p q : Int) (ac : List (List Bool)) (nx : List (List (List Bool))) (bc : List (List Bool)) (ny : List (List (List Bool))) (hs : SmallM ac nx) (hs2 : SmallM bc ny) (hv1 : validM t a p ac nx = true) (hv2 : validM t a q bc ny = true) (hbig : ¬ p + q ≤ 8) (A B A2 B2 : Option Addr) (C D C2 D2 : Nat) (w : World) (hA0 : BB 0 w ac A) (hB0 : BBB 0 w nx B) (hA20 : BB 0 w bc A2) (hB20 : BBB 0 w ny B2) :
    Calls Try.prog 13 #[.agg #[.int .i64 t, .int .i64 a, .int .i64 p, .slice A ac.length C, .slice B nx.length D], .agg #[.int .i64 t, .int .i64 a, .int .i64 q, .slice A2 bc.length C2, .slice B2 ny.length D2]] w (MEnd 0 0 0 [] [] 3 w) := by
  obtain ⟨_, _, _, _, hp1, hp8, _, _, _, _⟩ := validM_bd hv1
  obtain ⟨_, _, _, _, hq1, hq8, _, _, _, _⟩ := validM_bd hv2
  obtain ⟨w0, hw0⟩ : ∃ w0, w0 = ((w.alloc (.cells #[.int .i64 t, .int .i64 a, .int .i64 p, .slice A ac.length C, .slice B nx.length D] 31)).alloc (.cells #[.int .i64 t, .int .i64 a, .int .i64 q, .slice A2 bc.length C2, .slice B2 ny.length D2] 31)).alloc (.cells #[.int .i64 0, .int .i64 0, .int .i64 0, .slice none 0 0, .slice none 0 0] 31) := ⟨_, rfl⟩
  have B0 : Sees w w0 := by rw [hw0]; exact (((Sees.refl w).alloc _).alloc _).alloc _
  have hA := hA0.sees B0; have hB := hB0.sees B0; have hA2 := hA20.sees B0; have hB2 := hB20.sees B0
  have hc0 : w0.heap[w.heap.size]? = some (.cells #[.int .i64 t, .int .i64 a, .int .i64 p, .slice A ac.length C, .slice B nx.length D] 31 (0, 0)) := by
    rw [hw0]; exact (Below.heap_alloc _ _ _ (by simp; omega)).trans ((Below.heap_alloc _ _ _ (by simp)).trans (heap_new _ _ _ rfl))
  have hd0 : w0.heap[w.heap.size + 1]? = some (.cells #[.int .i64 t, .int .i64 a, .int .i64 q, .slice A2 bc.length C2, .slice B2 ny.length D2] 31 (0, 0)) := by
    rw [hw0]; exact (Below.heap_alloc _ _ _ (by simp)).trans (heap_new _ _ _ (by simp))
  have hr0 : w0.heap[w.heap.size + 1 + 1]? = some (.cells #[.int .i64 0, .int .i64 0, .int .i64 0, .slice none 0 0, .slice none 0 0] 31 (0, 0)) := by
    rw [hw0]; exact heap_new _ _ _ (by simp)
  have z0 : w.heap.size + 3 ≤ w0.heap.size := by rw [hw0]; simp
  have K1 : Hid (∀ W : World, Sees w0 W → Calls Try.prog 65 #[.agg #[.int .i64 t, .int .i64 a, .int .i64 p, .slice A ac.length C, .slice B nx.length D]] W fun e w' => e = .returned (.bool true) ∧ Below W.heap.size W w') := fun W h => by
    rw [← hv1]; exact implValidModel_any _ _ _ ac nx hs A B C D W (hA.sees h) (hB.sees h)
  have K2 : Hid (∀ W : World, Sees w0 W → Calls Try.prog 65 #[.agg #[.int .i64 t, .int .i64 a, .int .i64 q, .slice A2 bc.length C2, .slice B2 ny.length D2]] W fun e w' => e = .returned (.bool true) ∧ Below W.heap.size W w') := fun W h => by
    rw [← hv2]; exact implValidModel_any _ _ _ bc ny hs2 A2 B2 C2 D2 W (hA2.sees h) (hB2.sees h)
  have HC0 := Lib.hid hc0; have HD0 := Lib.hid hd0; have HR0 := Lib.hid hr0
  have FIN : Hid (∀ W : World, Below w0.heap.size w0 W → Sees w W) := fun W h => B0.below h
  have y4 : IntKind.i64.wrap (p + q) = p + q := IntWalk.i64_in _ (by omega)
  have y5 : (8 : Int) < p + q := by omega
  clear hA hB hA2 hB2 hA0 hB0 hA20 hB20 hs hs2 B0 hc0 hd0 hr0 hv1 hv2
  obtain ⟨c0, c1, c2, c3, c4, _, _, _, _, _⟩ := five_facts HC0.out
  obtain ⟨d0, d1, d2, d3, d4, _, _, _, _, _⟩ := five_facts HD0.out
  go_enter Try.func13, Try.ntmps13
  have HW0 := Lib.hid hw0
  go_wp2_with fail
  rw [← hw0]
  clear hw0
  refine (K1.out _ (Sees.refl _)).mono ?_
  rintro e w1 ⟨rfl, hb⟩
  have HB1 := Lib.hid hb
  have HC1 := Lib.hid ((hb.block _ (by omega)).trans HC0.out)
  have HD1 := Lib.hid ((hb.block _ (by omega)).trans HD0.out)
  have HR1 := Lib.hid ((hb.block _ (by omega)).trans HR0.out)
  have z1 : w.heap.size + 3 ≤ w1.heap.size := Nat.le_trans z0 hb.size
  clear hb K1 c0 c1 c2 c3 c4 d0 d1 d2 d3 d4
  obtain ⟨c0, c1, c2, c3, c4, _, _, _, _, _⟩ := five_facts HC1.out
  obtain ⟨d0, d1, d2, d3, d4, _, _, _, _, _⟩ := five_facts HD1.out
  go_wp2_with fail
  refine (K2.out _ HB1.out).mono ?_
  rintro e w2 ⟨rfl, hb⟩
  have HB2 := Lib.hid (HB1.out.trans (hb.mono HB1.out.size))
  have HC2 := Lib.hid ((hb.block _ (by omega)).trans HC1.out)
  have HD2 := Lib.hid ((hb.block _ (by omega)).trans HD1.out)
  have HR2 := Lib.hid ((hb.block _ (by omega)).trans HR1.out)
  have z2 : w.heap.size + 3 ≤ w2.heap.size := Nat.le_trans z1 hb.size
  clear hb K2 c0 c1 c2 c3 c4 d0 d1 d2 d3 d4
  obtain ⟨c0, c1, c2, c3, c4, _, _, _, _, _⟩ := five_facts HC2.out
  obtain ⟨d0, d1, d2, d3, d4, _, _, _, _, _⟩ := five_facts HD2.out
  obtain ⟨u0, u1, u2, u3, u4, x0, x1, x2, x3, x4⟩ := five_facts HR2.out
  go_wp2_with fail
  obtain ⟨y0, y1, y2, y3, y4, _, _, _, _, _⟩ := five_facts (five_block HR2.out (.int .i64 0) (.int .i64 0) (.int .i64 0) (.slice none 0 0) (.slice none 0 0))
  refine bodyPost_ret (v := .tuple #[.agg #[.int .i64 0, .int .i64 0, .int .i64 0, .slice none 0 0, .slice none 0 0], .int .i64 3]) (by simp [results, Try.results13, go_sem, y0, y1, y2, y3, y4]) rfl ?_
  exact MEnd.no (five_below (FIN.out _ HB2.out) (by omega) _ _ _ _ _)
set_option maxHeartbeats 4000000 in
set_option maxRecDepth 100000 in
theorem implJoin_yes (t a p q : Nat) (ac : List (List Bool)) (nx : List (List (List Bool))) (bc : List (List Bool)) (ny : List (List (List Bool))) (hs : SmallM ac nx) (hs2 : SmallM bc ny) (hv1 : validM t a p ac nx = true) (hv2 : validM t a q bc ny = true) (hpq : p + q ≤ 8) (A B A2 B2 : Option Addr) (C D C2 D2 : Nat) (w : World) (hA0 : BB 0 w ac A) (hB0 : BBB 0 w nx B) (hA20 : BB 0 w bc A2) (hB20 : BBB 0 w ny B2) :
    Calls Try.prog 13 #[.agg #[.int .i64 (t : Int), .int .i64 (a : Int), .int .i64 (p : Int), .slice A ac.length C, .slice B nx.length D], .agg #[.int .i64 (t : Int), .int .i64 (a : Int), .int .i64 (q : Int), .slice A2 bc.length C2, .slice B2 ny.length D2]] w (MEnd t a ((p : Int) + q) (jmT t p q ac bc) (jmA a p q nx ny) 0 w) := by
  obtain ⟨_, ht3, _, ha4, hp1, hp8, hal, hnl, har, hnr⟩ := validM_bd hv1
  obtain ⟨_, _, _, _, hq1, hq8, hbl, hml, hbr, hmr⟩ := validM_bd hv2
  have hal' : ac.length = t := by omega
  have hnl' : nx.length = a := by omega
  have hbl' : bc.length = t := by omega
  have hml' : ny.length = a := by omega
  have har' : ∀ r ∈ ac, r.length = p := fun r hr => by have := har r hr; omega
  have hbr' : ∀ r ∈ bc, r.length = q := fun r hr => by have := hbr r hr; omega
  have hnr' : ∀ rows ∈ nx, rows.length = p ∧ ∀ r ∈ rows, r.length = p := fun rows hr => ⟨by have := (hnr rows hr).1; omega, fun r h => by have := (hnr rows hr).2 r h; omega⟩
  have hmr' : ∀ rows ∈ ny, rows.length = q ∧ ∀ r ∈ rows, r.length = q := fun rows hr => ⟨by have := (hmr rows hr).1; omega, fun r h => by have := (hmr rows hr).2 r h; omega⟩
  obtain ⟨w0, hw0⟩ : ∃ w0, w0 = ((w.alloc (.cells #[.int .i64 (t : Int), .int .i64 (a : Int), .int .i64 (p : Int), .slice A ac.length C, .slice B nx.length D] 31)).alloc (.cells #[.int .i64 (t : Int), .int .i64 (a : Int), .int .i64 (q : Int), .slice A2 bc.length C2, .slice B2 ny.length D2] 31)).alloc (.cells #[.int .i64 0, .int .i64 0, .int .i64 0, .slice none 0 0, .slice none 0 0] 31) := ⟨_, rfl⟩
  have B0 : Sees w w0 := by rw [hw0]; exact (((Sees.refl w).alloc _).alloc _).alloc _
  have hA := hA0.sees B0; have hB := hB0.sees B0; have hA2 := hA20.sees B0; have hB2 := hB20.sees B0
  have hc0 : w0.heap[w.heap.size]? = some (.cells #[.int .i64 (t : Int), .int .i64 (a : Int), .int .i64 (p : Int), .slice A ac.length C, .slice B nx.length D] 31 (0, 0)) := by
    rw [hw0]; exact (Below.heap_alloc _ _ _ (by simp; omega)).trans ((Below.heap_alloc _ _ _ (by simp)).trans (heap_new _ _ _ rfl))
  have hd0 : w0.heap[w.heap.size + 1]? = some (.cells #[.int .i64 (t : Int), .int .i64 (a : Int), .int .i64 (q : Int), .slice A2 bc.length C2, .slice B2 ny.length D2] 31 (0, 0)) := by
    rw [hw0]; exact (Below.heap_alloc _ _ _ (by simp)).trans (heap_new _ _ _ (by simp))
  have hr0 : w0.heap[w.heap.size + 1 + 1]? = some (.cells #[.int .i64 0, .int .i64 0, .int .i64 0, .slice none 0 0, .slice none 0 0] 31 (0, 0)) := by
    rw [hw0]; exact heap_new _ _ _ (by simp)
  have z0 : w.heap.size + 3 ≤ w0.heap.size := by rw [hw0]; simp
  have K1 : Hid (∀ W : World, Sees w0 W → Calls Try.prog 65 #[.agg #[.int .i64 (t : Int), .int .i64 (a : Int), .int .i64 (p : Int), .slice A ac.length C, .slice B nx.length D]] W fun e w' => e = .returned (.bool true) ∧ Below W.heap.size W w') := fun W h => by
    rw [← hv1]; exact implValidModel_any _ _ _ ac nx hs A B C D W (hA.sees h) (hB.sees h)
  have K2 : Hid (∀ W : World, Sees w0 W → Calls Try.prog 65 #[.agg #[.int .i64 (t : Int), .int .i64 (a : Int), .int .i64 (q : Int), .slice A2 bc.length C2, .slice B2 ny.length D2]] W fun e w' => e = .returned (.bool true) ∧ Below W.heap.size W w') := fun W h => by
    rw [← hv2]; exact implValidModel_any _ _ _ bc ny hs2 A2 B2 C2 D2 W (hA2.sees h) (hB2.sees h)
  have HC0 := Lib.hid hc0; have HD0 := Lib.hid hd0; have HR0 := Lib.hid hr0
  have FIN : Hid (∀ W : World, Below w0.heap.size w0 W → Sees w W) := fun W h => B0.below h
  have KE : Hid (∀ W : World, Calls Try.prog 66 #[.agg #[.int .i64 (t : Int), .int .i64 (a : Int)], .int .i64 ((p : Int) + (q : Int))] W (MRetX t a (p + q) (tab t (p + q) off2) (tabs a (p + q) (p + q) fun _ => off2) W)) := fun W => by
    have h := emptyModelX_any t a (p + q) (by omega) (by omega) hpq W
    rw [show ((p + q : Nat) : Int) = (p : Int) + (q : Int) by omega] at h
    have e : List.replicate a (tab (p + q) (p + q) fun _ _ => false) = tabs a (p + q) (p + q) fun _ => off2 := by
      have e2 : (tab (p + q) (p + q) fun _ _ => false) = tab (p + q) (p + q) off2 := rfl
      rw [e2]
      simp [tabs, List.map_const']
    rw [e] at h
    exact h
  have KP1 : Hid (∀ (W : World) (E1 E2 : Option Addr) (G1 G2 lo mid hi : Nat), Sees w0 W → w0.heap.size ≤ lo → lo ≤ mid → mid ≤ hi → hi ≤ W.heap.size → BBX W (tab t (p + q) off2) E1 (rng lo mid) → BBBX W (tabs a (p + q) (p + q) fun _ => off2) E2 (rng mid hi) →
      Calls Try.prog 67 #[.agg #[.int .i64 (t : Int), .int .i64 (a : Int), .int .i64 ((p : Int) + (q : Int)), .slice E1 t G1, .slice E2 a G2], .agg #[.int .i64 (t : Int), .int .i64 (a : Int), .int .i64 (p : Int), .slice A t C, .slice B a D], .int .i64 0] W fun e w' => e = .returned (.tuple #[]) ∧ BBX w' (tab t (p + q) (plR 0 p (at2 ac) off2 t)) E1 (rng lo mid) ∧ BBBX w' (tabs a (p + q) (p + q) (plA 0 p (at3 nx) (fun _ => off2) a 0)) E2 (rng mid hi) ∧ ButF (rng lo hi) W w') := fun W E1 E2 G1 G2 lo mid hi h h1 h2 h3 h4 h5 h6 =>
    place_any t a (p + q) p 0 (by omega) (by omega) hpq (by omega) (by omega) ac nx hal' hnl' har' hnr' off2 (fun _ => off2) A B E1 E2 C D G1 G2 lo mid hi t a p t a ((p : Int) + q) w0 W h1 h2 h3 h4 h hA hB h5 h6
  have KP2 : Hid (∀ (W : World) (E1 E2 : Option Addr) (G1 G2 lo mid hi : Nat), Sees w0 W → w0.heap.size ≤ lo → lo ≤ mid → mid ≤ hi → hi ≤ W.heap.size → BBX W (tab t (p + q) (plR 0 p (at2 ac) off2 t)) E1 (rng lo mid) → BBBX W (tabs a (p + q) (p + q) (plA 0 p (at3 nx) (fun _ => off2) a 0)) E2 (rng mid hi) →
      Calls Try.prog 67 #[.agg #[.int .i64 (t : Int), .int .i64 (a : Int), .int .i64 ((p : Int) + (q : Int)), .slice E1 t G1, .slice E2 a G2], .agg #[.int .i64 (t : Int), .int .i64 (a : Int), .int .i64 (q : Int), .slice A2 t C2, .slice B2 a D2], .int .i64 (p : Int)] W fun e w' => e = .returned (.tuple #[]) ∧ BBX w' (jmT t p q ac bc) E1 (rng lo mid) ∧ BBBX w' (jmA a p q nx ny) E2 (rng mid hi) ∧ ButF (rng lo hi) W w') := fun W E1 E2 G1 G2 lo mid hi h h1 h2 h3 h4 h5 h6 => by
    rw [← jmA_done]
    exact place_any t a (p + q) q p (by omega) (by omega) hpq (by omega) (by omega) bc ny hbl' hml' hbr' hmr' (plR 0 p (at2 ac) off2 t) (plA 0 p (at3 nx) (fun _ => off2) a 0) A2 B2 E1 E2 C2 D2 G1 G2 lo mid hi t a q t a ((p : Int) + q) w0 W h1 h2 h3 h4 h hA2 hB2 h5 h6
  have y4 : IntKind.i64.wrap ((p : Int) + (q : Int)) = (p : Int) + (q : Int) := IntWalk.i64_in _ (by omega)
  have y5 : ¬ (8 : Int) < (p : Int) + (q : Int) := by omega
  have HPQ := Lib.hid hpq
  rw [hal', hnl'] at HC0
  rw [hbl', hml'] at HD0
  rw [hal', hnl'] at K1
  rw [hbl', hml'] at K2
  rw [hal', hnl', hbl', hml'] at hw0
  rw [hal', hnl', hbl', hml']
  clear hA hB hA2 hB2 hA0 hB0 hA20 hB20 hs hs2 B0 hc0 hd0 hr0 hv1 hv2 ht3 ha4 hp1 hp8 hal hnl har hnr hq1 hq8 hbl hml hbr hmr hal' hnl' hbl' hml' har' hbr' hnr' hmr' hpq
  obtain ⟨c0, c1, c2, c3, c4, _, _, _, _, _⟩ := five_facts HC0.out
  obtain ⟨d0, d1, d2, d3, d4, _, _, _, _, _⟩ := five_facts HD0.out
  go_enter Try.func13, Try.ntmps13
  have HW0 := Lib.hid hw0
  go_wp2_with fail
  rw [← hw0]
  clear hw0
  refine (K1.out _ (Sees.refl _)).mono ?_
  rintro e w1 ⟨rfl, hb⟩
  have HB1 := Lib.hid hb
  have HC1 := Lib.hid ((hb.block _ (by omega)).trans HC0.out)
  have HD1 := Lib.hid ((hb.block _ (by omega)).trans HD0.out)
  have HR1 := Lib.hid ((hb.block _ (by omega)).trans HR0.out)
  have z1 : w.heap.size + 3 ≤ w1.heap.size := Nat.le_trans z0 hb.size
  clear hb K1 c0 c1 c2 c3 c4 d0 d1 d2 d3 d4
  obtain ⟨c0, c1, c2, c3, c4, _, _, _, _, _⟩ := five_facts HC1.out
  obtain ⟨d0, d1, d2, d3, d4, _, _, _, _, _⟩ := five_facts HD1.out
  go_wp2_with fail
  refine (K2.out _ HB1.out).mono ?_
  rintro e w2 ⟨rfl, hb⟩
  have HB2 := Lib.hid (HB1.out.trans (hb.mono HB1.out.size))
  have HC2 := Lib.hid ((hb.block _ (by omega)).trans HC1.out)
  have HD2 := Lib.hid ((hb.block _ (by omega)).trans HD1.out)
  have HR2 := Lib.hid ((hb.block _ (by omega)).trans HR1.out)
  have z2 : w.heap.size + 3 ≤ w2.heap.size := Nat.le_trans z1 hb.size
  clear hb K2 c0 c1 c2 c3 c4 d0 d1 d2 d3 d4
  obtain ⟨c0, c1, c2, c3, c4, _, _, _, _, _⟩ := five_facts HC2.out
  obtain ⟨d0, d1, d2, d3, d4, _, _, _, _, _⟩ := five_facts HD2.out
  go_wp2_with fail
  refine (KE.out _).mono ?_
  rintro e w3 ⟨E1, E2, G1, G2, m, rfl, hm1, hm2, hts, hac, hb⟩
  rw [tab_len, tabs_len] at *
  have HB3 := Lib.hid (HB2.out.trans (hb.mono HB2.out.size))
  have HC3 := Lib.hid ((hb.block _ (by omega)).trans HC2.out)
  have HD3 := Lib.hid ((hb.block _ (by omega)).trans HD2.out)
  have HR3 := Lib.hid ((hb.block _ (by omega)).trans HR2.out)
  have z3 : w.heap.size + 3 ≤ w3.heap.size := Nat.le_trans z2 hb.size
  have HM := Lib.hid (And.intro hm1 hm2)
  have hz2 : w0.heap.size ≤ w2.heap.size := HB2.out.size
  obtain ⟨bm, hbm⟩ : ∃ bm, bm = w3.heap.size := ⟨_, rfl⟩
  obtain ⟨w4, hw4⟩ : ∃ w4, w4 = w3.alloc (.cells #[.int .i64 (t : Int), .int .i64 (a : Int), .int .i64 ((p : Int) + (q : Int)), .slice E1 t G1, .slice E2 a G2] 31) := ⟨_, rfl⟩
  have hb4 : Below w3.heap.size w3 w4 := by rw [hw4]; exact (Below.refl _ _).alloc (Nat.le_refl _) _
  have HB4 := Lib.hid (HB3.out.trans (hb4.mono HB3.out.size))
  have hk4 : w4.heap[bm]? = some (.cells #[.int .i64 (t : Int), .int .i64 (a : Int), .int .i64 ((p : Int) + (q : Int)), .slice E1 t G1, .slice E2 a G2] 31 (0, 0)) := by rw [hw4]; exact heap_new _ _ _ hbm
  have hz4 : bm < w4.heap.size := by rw [hw4, hbm]; simp
  have HT4 : Hid (BBX w4 (tab t (p + q) off2) E1 (rng w2.heap.size m)) := bbX_ok.keep hts fun k hk => hb4.block k (by have := hk.2; omega)
  have HA4 : Hid (BBBX w4 (tabs a (p + q) (p + q) fun _ => off2) E2 (rng m bm)) := by show BBBX _ _ _ _; rw [hbm]; exact bbbX_ok.keep hac fun k hk => hb4.block k hk.2
  have HC4 := Lib.hid ((hb4.block _ (by omega)).trans HC3.out)
  have HD4 := Lib.hid ((hb4.block _ (by omega)).trans HD3.out)
  have HR4 := Lib.hid ((hb4.block _ (by omega)).trans HR3.out)
  have HK4 := Lib.hid hk4
  have zm : w.heap.size + 3 ≤ bm := by rw [hbm]; exact z3
  have hmb : m ≤ bm := by rw [hbm]; exact hm2
  clear hb hb4 hts hac hm1 hm2 KE hk4 c0 c1 c2 c3 c4 d0 d1 d2 d3 d4
  obtain ⟨c0, c1, c2, c3, c4, _, _, _, _, _⟩ := five_facts HC4.out
  obtain ⟨m0, m1, m2, m3, m4, _, _, _, _, _⟩ := five_facts HK4.out
  rw [hw4] at c0 c1 c2 c3 c4 m0 m1 m2 m3 m4
  rw [hbm] at m0 m1 m2 m3 m4
  go_wp2_with fail
  rw [← hw4, ← hbm]
  have HHW := Lib.hid hw4; have HHB := Lib.hid hbm
  clear hw4 hbm c0 c1 c2 c3 c4 m0 m1 m2 m3 m4
  refine (KP1.out _ E1 E2 G1 G2 w2.heap.size m bm HB4.out hz2 HM.out.1 hmb (Nat.le_of_lt hz4) HT4.out HA4.out).mono ?_
  rintro e w5 ⟨rfl, hts, hac, hbut⟩
  have HT5 := Lib.hid hts; have HA5 := Lib.hid hac; have HU5 := Lib.hid hbut
  have kk : ∀ k, k < w2.heap.size ∨ bm ≤ k → k < w4.heap.size → w5.heap[k]? = w4.heap[k]? := fun k hk hk2 => hbut.block k hk2 (fun h => by have := h.1; have := h.2; omega)
  have HC5 := Lib.hid ((kk _ (by omega) (by omega)).trans HC4.out)
  have HD5 := Lib.hid ((kk _ (by omega) (by omega)).trans HD4.out)
  have HR5 := Lib.hid ((kk _ (by omega) (by omega)).trans HR4.out)
  have HK5 := Lib.hid ((kk bm (by omega) hz4).trans HK4.out)
  have hz5 : w4.heap.size ≤ w5.heap.size := hbut.size
  have HB5 : Hid (Sees w0 w5) := HB4.out.trans ⟨hbut.os, hbut.tape, hbut.output, hbut.size, fun k hk => kk k (by omega) (by have := HB4.out.size; omega)⟩
  clear kk hts hac hbut KP1
  obtain ⟨c0, c1, c2, c3, c4, _, _, _, _, _⟩ := five_facts HC5.out
  obtain ⟨d0, d1, d2, d3, d4, _, _, _, _, _⟩ := five_facts HD5.out
  obtain ⟨m0, m1, m2, m3, m4, _, _, _, _, _⟩ := five_facts HK5.out
  go_wp2_with fail
  refine (KP2.out _ E1 E2 G1 G2 w2.heap.size m bm HB5.out hz2 HM.out.1 hmb (by omega) HT5.out HA5.out).mono ?_
  rintro e w6 ⟨rfl, hts, hac, hbut⟩
  have HT6 := Lib.hid hts; have HA6 := Lib.hid hac
  have kk : ∀ k, k < w2.heap.size ∨ bm ≤ k → k < w5.heap.size → w6.heap[k]? = w5.heap[k]? := fun k hk hk2 => hbut.block k hk2 (fun h => by have := h.1; have := h.2; omega)
  have HR6 := Lib.hid ((kk _ (by omega) (by omega)).trans HR5.out)
  have HK6 := Lib.hid ((kk bm (by omega) (by omega)).trans HK5.out)
  have hz6 : w5.heap.size ≤ w6.heap.size := hbut.size
  have HB6 : Hid (Sees w0 w6) := HB5.out.trans ⟨hbut.os, hbut.tape, hbut.output, hbut.size, fun k hk => kk k (by omega) (by have := HB5.out.size; omega)⟩
  clear kk hts hac hbut KP2 c0 c1 c2 c3 c4 d0 d1 d2 d3 d4 m0 m1 m2 m3 m4
  obtain ⟨m0, m1, m2, m3, m4, _, _, _, _, _⟩ := five_facts HK6.out
  obtain ⟨u0, u1, u2, u3, u4, x0, x1, x2, x3, x4⟩ := five_facts HR6.out
  go_wp2_with fail
  obtain ⟨y0, y1, y2, y3, y4, _, _, _, _, _⟩ := five_facts (five_block HR6.out (.int .i64 (t : Int)) (.int .i64 (a : Int)) (.int .i64 ((p : Int) + (q : Int))) (.slice E1 t G1) (.slice E2 a G2))
  refine bodyPost_ret (v := .tuple #[.agg #[.int .i64 (t : Int), .int .i64 (a : Int), .int .i64 ((p : Int) + (q : Int)), .slice E1 t G1, .slice E2 a G2], .int .i64 0]) (by simp [results, Try.results13, go_sem, y0, y1, y2, y3, y4]) rfl ?_
  exact mend5 HT6.out.toF (BBBX.toF HA6.out) (FIN.out _ HB6.out) (show w.heap.size ≤ w.heap.size + 1 + 1 by omega) (by omega) HM.out.1 (Nat.le_refl _) hmb (by omega) (jmT_len _ _ _ _ _) (jmA_len _ _ _ _ _) _ _ _ _ _
theorem implJoinModels_any (t a p : Int) (ac : List (List Bool)) (nx : List (List (List Bool))) (t' a' q : Int) (bc : List (List Bool)) (ny : List (List (List Bool))) (hs : SmallM ac nx) (hs2 : SmallM bc ny) (A B A2 B2 : Option Addr) (C D C2 D2 : Nat) (w : World) (hA0 : BB 0 w ac A) (hB0 : BBB 0 w nx B) (hA20 : BB 0 w bc A2) (hB20 : BBB 0 w ny B2) :
    Calls Try.prog 13 #[.agg #[.int .i64 t, .int .i64 a, .int .i64 p, .slice A ac.length C, .slice B nx.length D], .agg #[.int .i64 t', .int .i64 a', .int .i64 q, .slice A2 bc.length C2, .slice B2 ny.length D2]] w (JEnd t a p ac nx t' a' q bc ny w) := by
  by_cases hv1 : validM t a p ac nx = true
  · by_cases hv2 : validM t' a' q bc ny = true
    · by_cases hse : t = t' ∧ a = a'
      · obtain ⟨rfl, rfl⟩ := hse
        by_cases hbig : p + q ≤ 8
        · obtain ⟨ht, _, ha, _, hp, _⟩ := validM_bd hv1
          obtain ⟨_, _, _, _, hq, _⟩ := validM_bd hv2
          obtain ⟨t, rfl⟩ := Int.eq_ofNat_of_zero_le ht
          obtain ⟨a, rfl⟩ := Int.eq_ofNat_of_zero_le ha
          obtain ⟨p, rfl⟩ := Int.eq_ofNat_of_zero_le (show 0 ≤ p by omega)
          obtain ⟨q, rfl⟩ := Int.eq_ofNat_of_zero_le (show 0 ≤ q by omega)
          exact (implJoin_yes t a p q ac nx bc ny hs hs2 hv1 hv2 (by omega) A B A2 B2 C D C2 D2 w hA0 hB0 hA20 hB20).mono fun e w' h => JEnd.yes ⟨hv1, hv2⟩ (by omega) h
        · exact (implJoin_big t a p q ac nx bc ny hs hs2 hv1 hv2 hbig A B A2 B2 C D C2 D2 w hA0 hB0 hA20 hB20).mono fun e w' h => JEnd.big ⟨hv1, hv2⟩ ⟨rfl, rfl⟩ hbig h
      · exact (implJoin_far t a p q t' a' ac nx bc ny hs hs2 hv1 hv2 hse A B A2 B2 C D C2 D2 w hA0 hB0 hA20 hB20).mono fun e w' h => JEnd.far ⟨hv1, hv2⟩ hse h
    · have hv2' : validM t' a' q bc ny = false := by simpa using hv2
      exact (implJoin_no2 t a p q t' a' ac nx bc ny hs hs2 hv1 hv2' A B A2 B2 C D C2 D2 w hA0 hB0 hA20 hB20).mono fun e w' h => JEnd.no (fun h => hv2 h.2) h
  · have hv1' : validM t a p ac nx = false := by simpa using hv1
    exact (implJoin_no1 t a p q t' a' ac nx bc ny hs hs2 hv1' A B A2 B2 C D C2 D2 w hA0 hB0 hA20 hB20).mono fun e w' h => JEnd.no (fun h => hv1 h.1) h
end Go.Proofs.Ytcgbepmhfimbjaa

namespace Go.Proofs.Ytcgbepmhfimbjaa
open Go.RowKit
set_option linter.unusedVariables false

/-- The value v is a row of the call's own that holds xs, each element in blocks of its own from base on. -/
def AccX {α : Type} (E : TypeId) (Q : World → α → Option Addr → FP → Prop) (ln : α → Nat) (base : Nat) (W : World) (v : Value) (xs : List α) : Prop :=
  ∃ (vals : List Value) (G : Nat → FP), W.ownsRow base E 1 v xs.length vals ∧ (∀ i (x : α), xs[i]? = some x → ∃ A, vals[i]? = some (.slice A (ln x) (ln x)) ∧ Q W x A (G i)) ∧
    (∀ i k, G i k → i < xs.length ∧ base ≤ k ∧ k < W.heap.size ∧ v.ownBlock ≠ some k) ∧ ∀ i i' k, G i k → G i' k → i = i'
section
variable {α : Type} {E : TypeId} {Q : World → α → Option Addr → FP → Prop} {ln : α → Nat} {base : Nat} {W W' Wa : World} {v : Value} {xs : List α}
theorem AccX.start : AccX E Q ln base W (.slice none 0 0) ([] : List α) := ⟨[], fun _ _ => False, World.ownsRow_nil _ _ _ _, fun _ _ h => absurd h (by simp), fun _ _ h => h.elim, fun _ _ _ h => h.elim⟩
theorem AccX.made (hb : base ≤ W.heap.size) : AccX E Q ln base (W.alloc (.cells #[] E)) (.slice (some ⟨W.heap.size, 0, none⟩) 0 0) ([] : List α) := ⟨[], fun _ _ => False, World.ownsRow_made W #[] 0 hb (Nat.zero_le _) rfl, fun _ _ h => absurd h (by simp), fun _ _ h => h.elim, fun _ _ _ h => h.elim⟩
theorem own_keepX {n : Nat} {vals : List Value} (h : W.ownsRow base E 1 v n vals) (hk : ∀ k, v.ownBlock = some k → W'.heap[k]? = W.heap[k]?) : W'.ownsRow base E 1 v n vals := by
  refine ⟨h.1, ?_⟩
  rcases h.2 with hn | ⟨g, cap, cur, rfl, hb, hgg, rest⟩
  · exact .inl hn
  · exact .inr ⟨g, cap, cur, rfl, hb, (hk g rfl).trans hgg, rest⟩
theorem AccX.keep (hQ : FootOk Q) (h : AccX E Q ln base W v xs) (hs : W.heap.size ≤ W'.heap.size) (hk : ∀ k, base ≤ k → k < W.heap.size → W'.heap[k]? = W.heap[k]?) : AccX E Q ln base W' v xs := by
  obtain ⟨vals, G, h1, h2, h3, h4⟩ := h
  refine ⟨vals, G, own_keepX h1 fun k hv => hk k (h1.lt k hv).1 (h1.lt k hv).2, fun i x hx => ?_, fun i k hg => ?_, h4⟩
  · obtain ⟨A, h5, h6⟩ := h2 i x hx
    exact ⟨A, h5, hQ.keep h6 fun k hg => hk k (h3 i k hg).2.1 (h3 i k hg).2.2.1⟩
  · have := h3 i k hg
    exact ⟨this.1, this.2.1, Nat.lt_of_lt_of_le this.2.2.1 hs, this.2.2.2⟩
theorem AccX.below (hQ : FootOk Q) (h : AccX E Q ln base W v xs) (hb : Below W.heap.size W W') : AccX E Q ln base W' v xs := h.keep hQ hb.size fun k _ hk => hb.block k hk
/-- An element comes in: what a call made between two worlds. -/
theorem AccX.push (hQ : FootOk Q) (h : AccX E Q ln base W v xs) (hbase : base ≤ W.heap.size) (hb : Below W.heap.size W W') {x : α} {A : Option Addr} (hA : Q W' x A (rng W.heap.size W'.heap.size)) (hba : Below W'.heap.size W' Wa) :
    ∃ vals, vals.length = xs.length ∧ Wa.ownsRow base E 1 v xs.length vals ∧ ∀ v' w', w'.ownsRow base E 1 v' (xs.length + 1) (vals ++ [.slice A (ln x) (ln x)]) → Wa.grownBy w' v.ownBlock → (v'.ownBlock = v.ownBlock ∨ v'.ownBlock = some Wa.heap.size) → AccX E Q ln base w' v' (xs ++ [x]) := by
  obtain ⟨vals, G, h1, h2, h3, h4⟩ := h
  have hvl : vals.length = xs.length := by have := h1.1; rwa [Nat.mul_one] at this
  have s1 := hb.size
  have s2 := hba.size
  have hk0 : ∀ k, k < W.heap.size → Wa.heap[k]? = W.heap[k]? := fun k hk => (hba.block k (by omega)).trans (hb.block k hk)
  refine ⟨vals, hvl, own_keepX h1 fun k hv => hk0 k (h1.lt k hv).2, fun v' w' ho hg hat => ?_⟩
  have s3 := hg.size
  refine ⟨_, fun i => if i = xs.length then rng W.heap.size W'.heap.size else G i, by rw [List.length_append]; exact ho, fun i y hy => ?_, fun i k hk => ?_, fun i i' k h5 h6 => ?_⟩
  · by_cases hi : i < xs.length
    · rw [List.getElem?_append_left hi] at hy
      obtain ⟨A', h5, h6⟩ := h2 i y hy
      refine ⟨A', by rw [List.getElem?_append_left (by omega)]; exact h5, ?_⟩
      dsimp only
      rw [if_neg (by omega)]
      exact hQ.keep h6 fun k hk => (hg.block k (by have := (h3 i k hk).2.2.1; omega) (fun he => (h3 i k hk).2.2.2 he.symm)).trans (hk0 k (h3 i k hk).2.2.1)
    · have hl : i < (xs ++ [x]).length := (List.getElem?_eq_some_iff.1 hy).1
      have he : i = xs.length := by simp at hl; omega
      subst he
      have hyx : y = x := by simpa using hy.symm
      subst hyx
      refine ⟨A, by rw [← hvl]; simp, ?_⟩
      dsimp only
      rw [if_pos rfl]
      exact hQ.keep hA fun k hk => (hg.block k (by have := hk.2; omega) (fun he => by have := (h1.lt k he.symm).2; have := hk.1; omega)).trans (hba.block k hk.2)
  · rw [List.length_append]
    dsimp only at hk
    have hvk : ∀ j, v'.ownBlock = some j → v.ownBlock = some j ∨ j = Wa.heap.size := fun j hj => by
      rcases hat with h5 | h5
      · exact Or.inl (h5.symm.trans hj)
      · exact Or.inr (Option.some.inj (hj.symm.trans h5))
    by_cases hi : i = xs.length
    · rw [if_pos hi] at hk
      refine ⟨by simp; omega, by have := hk.1; omega, by have := hk.2; omega, fun hv => ?_⟩
      rcases hvk k hv with h5 | h5
      · have := (h1.lt k h5).2; have := hk.1; omega
      · have := hk.2; omega
    · rw [if_neg hi] at hk
      have h7 := h3 i k hk
      refine ⟨by simp; omega, h7.2.1, by omega, fun hv => ?_⟩
      rcases hvk k hv with h5 | h5
      · exact h7.2.2.2 h5
      · have := h7.2.2.1; omega
  · dsimp only at h5 h6
    by_cases hj1 : i = xs.length <;> by_cases hj2 : i' = xs.length
    · rw [hj1, hj2]
    · rw [if_pos hj1] at h5
      rw [if_neg hj2] at h6
      have := (h3 i' k h6).2.2.1
      have := h5.1
      omega
    · rw [if_neg hj1] at h5
      rw [if_pos hj2] at h6
      have := (h3 i k h5).2.2.1
      have := h6.1
      omega
    · rw [if_neg hj1] at h5
      rw [if_neg hj2] at h6
      exact h4 i i' k h5 h6
theorem AccX.done (h : AccX E Q ln base W v xs) : ∃ A C, v = .slice A xs.length C ∧ RowsX Q ln W xs A (rng base W.heap.size) := by
  obtain ⟨vals, G, h1, h2, h3, h4⟩ := h
  have hlt := h1.lt
  rcases h1.2 with ⟨rfl, h0⟩ | ⟨g, cap, cur, rfl, hb, hg, hn, _, hs, ht⟩
  · refine ⟨none, 0, by rw [h0], Or.inl (List.eq_nil_of_length_eq_zero h0)⟩
  · refine ⟨some ⟨g, 0, none⟩, cap, rfl, Or.inr ⟨g, G, rfl, hlt g rfl, fun i => Fo.unfrozen_of_block hg i, fun i x hx => ?_, fun i k hk => ?_, h4⟩⟩
    · obtain ⟨A, h5, h6⟩ := h2 i x hx
      obtain ⟨hl, _⟩ := List.getElem?_eq_some_iff.1 hx
      refine ⟨A, ?_, h6⟩
      rw [Fo.cell_of_block hg, ← Array.getElem?_toList]
      rw [← ht, List.getElem?_take, if_pos (by omega)] at h5
      exact h5
    · have h7 := h3 i k hk
      exact ⟨⟨h7.2.1, h7.2.2.1⟩, fun he => h7.2.2.2 (by rw [he]; rfl)⟩
end

set_option maxHeartbeats 2000000 in
set_option maxRecDepth 100000 in
theorem l05NoneX_any (p : Nat) (hp : p ≤ 8) (w : World) :
    Calls Try.prog 62 #[.int .i64 (p : Int)] w fun e w' => ∃ A C, e = .returned (.slice A p C) ∧ BBX w' (List.replicate p (List.replicate p false)) A (rng w.heap.size w'.heap.size) ∧ Below w.heap.size w w' := by
  have hmc := make_BoolS p (by omega)
  have HMC := Lib.hid hmc
  clear hmc
  go_enter Try.func62, Try.ntmps62
  go_wp2_with fail
  go_loopw [3, 4] (fun s i wr => ∃ j : Nat, j ≤ p ∧ i = .int .i64 j ∧ Hid (AccX 104 BoolsF List.length w.heap.size wr s (List.replicate j (List.replicate p false))) ∧ Hid (Below w.heap.size w wr) ∧ Hid (w.heap.size ≤ wr.heap.size)) (fun s i _ => p - (intOf i).toNat)
  case atStart => exact ⟨0, Nat.zero_le _, rfl, AccX.made (Nat.le_refl _), (Below.refl _ _).alloc (Nat.le_refl _) _, by show _ ≤ _; simp⟩
  case round =>
    obtain ⟨j, hj, rfl, hA, hb, hz⟩ := hrel
    by_cases hjp : j < p
    · have hmc := HMC.out wr
      have hsa : Below wr.heap.size wr (wr.alloc (.cells (zeroBoolS p) 4)) := (Below.refl _ _).alloc (Nat.le_refl _) _
      obtain ⟨vals, hvl, hown, hpp⟩ := AccX.push boolsF_ok hA.out hz.out hsa (made_bools wr p) (Wa := (wr.alloc (.cells (zeroBoolS p) 4)).alloc (.cells #[.slice (some ⟨wr.heap.size, 0, none⟩) p p] 104)) ((Below.refl _ _).alloc (Nat.le_refl _) _)
      have hl : List.length (List.replicate j (List.replicate p false)) = j := by simp
      have hlp : List.length (List.replicate p false) = p := by simp
      rw [hlp, hl] at hpp
      rw [hl] at hown
      have HOWN := Lib.hid hown; have HP := Lib.hid hpp; have JP := Lib.hid hjp; have HPP := Lib.hid hp
      have j0 : (0 : Int) ≤ (j : Int) := Int.natCast_nonneg _
      have j1 : (j : Int) < (p : Int) := by omega
      clear hsa hown hpp hvl hl hlp
      go_wp2_with (at_builtin; refine wpList_one Try.elBB _ rfl _ _ rfl w.heap.size j (wr.heap.size + 1) _ (.slice (some ⟨wr.heap.size, 0, none⟩) p p) vals rfl ?hx HOWN.out ?hc rfl ?hn ?hz ?_)
      case hx => (first | rfl | simp)
      case hc => simp [go_sem]
      case hn => have := HPP.out; have := JP.out; omega
      case hz => have := hz.out; simp; omega
      intro v' w' ho hg hat
      have HA2 : Hid (AccX 104 BoolsF List.length w.heap.size w' v' (List.replicate (j + 1) (List.replicate p false))) := by
        show AccX _ _ _ _ _ _ _
        rw [List.replicate_succ']
        exact HP.out v' w' ho hg (by simpa using hat)
      have HB2 : Hid (Below w.heap.size w w') := ((hb.out.alloc hz.out _).alloc (by have := hz.out; simp; omega) _).grown hg (by have := hz.out; simp; omega) (fun k hk => (HOWN.out.lt k hk).1)
      have HZ2 : Hid (w.heap.size ≤ w'.heap.size) := HB2.out.size
      clear ho hg hat
      go_wp2_with fail
      go_roundw
      case rel => exact ⟨j + 1, JP.out, by go_num, HA2, HB2, HZ2⟩
      case measure => have := JP.out; simp [intOf]; omega
    · obtain rfl : j = p := by omega
      obtain ⟨A, C, hv, hR⟩ := hA.out.done
      rw [List.length_replicate] at hv
      subst hv
      have HR := Lib.hid hR
      clear hR
      go_wp2_with fail
      go_ret
      exact ⟨A, C, rfl, HR.out, hb.out⟩
end Go.Proofs.Ytcgbepmhfimbjaa

namespace Go.Proofs.Ytcgbepmhfimbjaa
open Go.RowKit
attribute [local go_sem ↓] Go.wp_at_zero Go.wp_at_succ

set_option maxHeartbeats 2000000 in
set_option maxRecDepth 100000 in
theorem l05Tests_any (t a p : Int) (ac : List (List Bool)) (f1 : ac.length ≤ 1048576) (f2 : ∀ x ∈ ac, x.length ≤ 1048576) (A : Option Addr) (C : Nat) (w : World) (hA : BB 0 w ac A) :
    Calls Try.prog 137 #[.agg #[.int .i64 t, .int .i64 a], .int .i64 p, .slice A ac.length C] w fun e w' => e = .returned (.bool (validT t a p ac)) ∧ Below w.heap.size w w' := by
  obtain ⟨q1, hq1⟩ : ∃ q1 : Bool, q1 = sigOk t a := ⟨_, rfl⟩
  have K1 : Hid (∀ W : World, Calls Try.prog 85 #[.agg #[.int .i64 t, .int .i64 a]] W fun e w' => e = .returned (.bool q1) ∧ Below W.heap.size W w') := fun W => by rw [hq1]; exact l01Sig_any t a W
  obtain ⟨q2, hq2⟩ : ∃ q2 : Bool, q2 = inB p 1 8 := ⟨_, rfl⟩
  have K2 : Hid (∀ W : World, Calls Try.prog 107 #[.int .i64 p, .int .i64 1, .int .i64 8] W fun e w' => e = .returned (.bool q2) ∧ Below W.heap.size W w') := fun W => (in_any p 1 8 W).mono fun e w' h => ⟨by rw [hq2]; exact h.1, by rw [← h.2]; exact Below.refl _ _⟩
  have HA := Lib.hid hA; have HF := Lib.hid f2
  obtain ⟨w0, hw0⟩ : ∃ w0, w0 = w.alloc (.cells #[.int .i64 t, .int .i64 a] 29) := ⟨_, rfl⟩
  have B0 : Sees w w0 := by rw [hw0]; exact (Sees.refl w).alloc _
  have g0 : w0.cell? ⟨w.heap.size, 0, none⟩ = some (.int .i64 t) := by rw [hw0]; simp [go_sem]
  clear hA f2
  cases q1
  · have HD : Hid (validT t a p ac = false) := by show _ = _; unfold validT; rw [← hq1]; rfl
    clear hq1 hq2
    go_enter Try.func137, Try.ntmps137
    go_wp2_with fail
    rw [← hw0]
    refine (K1.out _).mono ?_
    rintro e w1 ⟨rfl, hb⟩
    clear hw0
    go_wp2_with fail
    go_ret
    exact ⟨ret_bool HD.out.symm, B0.below hb⟩
  cases q2
  · have HD : Hid (validT t a p ac = false) := by show _ = _; unfold validT; rw [← hq1, ← hq2]; rfl
    clear hq1 hq2
    go_enter Try.func137, Try.ntmps137
    go_wp2_with fail
    rw [← hw0]
    refine (K1.out _).mono ?_
    rintro e w1 ⟨rfl, hb⟩
    clear hw0
    go_wp2_with fail
    refine (K2.out _).mono ?_
    rintro e w2 ⟨rfl, hb2⟩
    have hb3 := (B0.below hb).below hb2
    clear hb hb2
    go_wp2_with fail
    go_ret
    exact ⟨ret_bool HD.out.symm, hb3⟩
  by_cases hlen : (ac.length : Int) = t
  case neg =>
    have HD : Hid (validT t a p ac = false) := by show _ = _; unfold validT; rw [← hq1, ← hq2, decide_eq_false hlen]; rfl
    have tn : ((ac.length : Int) != t) = true := by rw [bne_iff_ne]; exact hlen
    clear hq1 hq2 hlen
    go_enter Try.func137, Try.ntmps137
    go_wp2_with fail
    rw [← hw0]
    refine (K1.out _).mono ?_
    rintro e w1 ⟨rfl, hb⟩
    clear hw0
    go_wp2_with fail
    refine (K2.out _).mono ?_
    rintro e w2 ⟨rfl, hb2⟩
    have x0 := kc hb2 (kc hb g0)
    have hb3 := (B0.below hb).below hb2
    clear hb hb2
    go_wp2_with fail
    go_ret
    exact ⟨ret_bool HD.out.symm, hb3⟩
  have HD : Hid (validT t a p ac = allF (isRow p) ac 0) := by show _ = _; unfold validT; rw [← hq1, ← hq2, decide_eq_true hlen, allF_zero]; rfl
  have tn : ((ac.length : Int) != t) = false := by simp [hlen]
  clear hq1 hq2 hlen
  go_enter Try.func137, Try.ntmps137
  go_wp2_with fail
  rw [← hw0]
  refine (K1.out _).mono ?_
  rintro e w1 ⟨rfl, hb⟩
  clear hw0
  go_wp2_with fail
  refine (K2.out _).mono ?_
  rintro e w2 ⟨rfl, hb2⟩
  have x0 := kc hb2 (kc hb g0)
  have hb3 := (B0.below hb).below hb2
  clear hb hb2
  go_wp2_with fail
  have HB3 := Lib.hid hb3; clear hb3 x0 tn
  go_loopw [7] (fun i wr => ∃ j : Nat, j ≤ ac.length ∧ i = .int .i64 j ∧ Hid (validT t a p ac = allF (isRow p) ac j) ∧ Hid (Sees w wr)) (fun i _ => ac.length - (intOf i).toNat)
  case atStart => exact ⟨0, Nat.zero_le _, rfl, HD, HB3⟩
  case round =>
    obtain ⟨j, hj, rfl, hq, hB'⟩ := hrel
    clear HD HB3
    by_cases hjl : j < ac.length
    · obtain ⟨yA, zA, _, rfl, hat⟩ := HA.out (by rintro rfl; simp at hjl)
      obtain ⟨Aj, Cj, cA, _⟩ := hat j ac[j] (List.getElem?_eq_getElem hjl)
      have hst := allF_step (isRow p) ac hjl
      have hfx := HF.out ac[j] (List.getElem_mem hjl)
      obtain ⟨x, hx⟩ : ∃ x, x = ac[j] := ⟨_, rfl⟩
      rw [← hx] at cA hst hfx
      have hb := hB'.out
      have xA := kc hb cA
      have HAT := Lib.hid hat; have HX := Lib.hid hx
      have HST : Hid (validT t a p ac = (isRow p x && allF (isRow p) ac (j + 1))) := hq.out.trans hst
      have j0 : (0 : Int) ≤ (j : Int) := Int.natCast_nonneg _
      have j1 : (j : Int) < (ac.length : Int) := by omega
      clear hat hx hst hq cA
      by_cases hxp : (x.length : Int) = p
      · have tb : ((x.length : Int) != p) = false := by simp [hxp]
        have HE : Hid (validT t a p ac = allF (isRow p) ac (j + 1)) := by show _ = _; rw [HST.out, isRow_pos hxp]; rfl
        clear hxp HST
        go_wp2_with fail
        go_roundw
        case rel => exact ⟨j + 1, by omega, by go_num, HE, hB'⟩
        case measure => simp [intOf]; omega
      · have tb : ((x.length : Int) != p) = true := by rw [bne_iff_ne]; exact hxp
        have HE : Hid (validT t a p ac = false) := by show _ = _; rw [HST.out, isRow_neg hxp]; rfl
        clear hxp HST
        go_wp2_with fail
        go_ret
        exact ⟨ret_bool HE.out.symm, hb⟩
    · obtain rfl : j = ac.length := by omega
      have HE : Hid (validT t a p ac = true) := by show _ = _; rw [hq.out, allF_end]
      have hb := hB'.out
      clear hq
      go_wp2_with fail
      go_ret
      exact ⟨ret_bool HE.out.symm, hb⟩

set_option maxHeartbeats 4000000 in
set_option maxRecDepth 100000 in
theorem l05Ok_any (t a p : Int) (ac : List (List Bool)) (nx : List (List (List Bool))) (hs : SmallM ac nx) (A B : Option Addr) (C D : Nat) (b : Nat) (w : World) (hA : BB 0 w ac A) (hB : BBB 0 w nx B)
    (g0 : w.cell? ⟨b, 0, none⟩ = some (.int .i64 t)) (g1 : w.cell? ⟨b, 1, none⟩ = some (.int .i64 a)) (g2 : w.cell? ⟨b, 2, none⟩ = some (.int .i64 p)) (g3 : w.cell? ⟨b, 3, none⟩ = some (.slice A ac.length C)) (g4 : w.cell? ⟨b, 4, none⟩ = some (.slice B nx.length D)) :
    Calls Try.prog 61 #[.pointer (some ⟨b, 0, none⟩)] w fun e w' => e = .returned (.bool (validM t a p ac nx)) ∧ Below w.heap.size w w' := by
  obtain ⟨f1, f2, f3, f4⟩ := hs
  obtain ⟨q1, hq1⟩ : ∃ q1 : Bool, q1 = validT t a p ac := ⟨_, rfl⟩
  have K1 : Hid (∀ W : World, Sees w W → Calls Try.prog 137 #[.agg #[.int .i64 t, .int .i64 a], .int .i64 p, .slice A ac.length C] W fun e w' => e = .returned (.bool q1) ∧ Below W.heap.size W w') := fun W h => by rw [hq1]; exact l05Tests_any t a p ac f1 f2 A C W (bb_ok.below hA h)
  have HB := Lib.hid hB; have HF := Lib.hid f4
  clear hA hB f2 f4
  cases q1
  · have HD : Hid (validM t a p ac nx = false) := by show _ = _; unfold validM; rw [← hq1]; rfl
    clear hq1
    go_enter Try.func61, Try.ntmps61
    go_wp2_with fail
    refine wp_region_quietC w [(b, 0, .int .i64 t), (b, 1, .int .i64 a), (b, 2, .int .i64 p), (b, 3, .slice A ac.length C), (b, 4, .slice B nx.length D)] (by kernel_rfl) (by kernel_rfl) ⟨Below.refl _ _, g0, g1, g2, g3, g4, trivial⟩ ?_
    repeat (first | go_big_quiet_skip | (go_big_quiet_want; apply Exists.intro; refine ⟨fun W hW => ?_, ?_⟩; focus (have hK := Lib.hid hW; obtain ⟨hs, hc⟩ := hW; simp only [Has, and_true] at hc; go_simp; (first | rfl | exact ⟨rfl, rfl⟩ | exact quietC_call hK.out (K1.out _ hs)))) | (go_simp; go_big_quiet_on))
    refine wpQuiet_nil ?_
    intro w1 H1
    have hb : Below w.heap.size w w1 := H1.1
    clear H1
    go_wp2_with fail
    go_ret
    exact ⟨ret_bool HD.out.symm, hb⟩
  have HBD := Lib.hid (validT_bd hq1.symm)
  by_cases hlen : (nx.length : Int) = a
  case neg =>
    have HD : Hid (validM t a p ac nx = false) := by show _ = _; unfold validM; rw [← hq1, decide_eq_false hlen]; rfl
    have tn : ((nx.length : Int) != a) = true := by rw [bne_iff_ne]; exact hlen
    clear hq1 hlen
    go_enter Try.func61, Try.ntmps61
    go_wp2_with fail
    refine wp_region_quietC w [(b, 0, .int .i64 t), (b, 1, .int .i64 a), (b, 2, .int .i64 p), (b, 3, .slice A ac.length C), (b, 4, .slice B nx.length D)] (by kernel_rfl) (by kernel_rfl) ⟨Below.refl _ _, g0, g1, g2, g3, g4, trivial⟩ ?_
    repeat (first | go_big_quiet_skip | (go_big_quiet_want; apply Exists.intro; refine ⟨fun W hW => ?_, ?_⟩; focus (have hK := Lib.hid hW; obtain ⟨hs, hc⟩ := hW; simp only [Has, and_true] at hc; go_simp; (first | rfl | exact ⟨rfl, rfl⟩ | exact quietC_call hK.out (K1.out _ hs)))) | (go_simp; go_big_quiet_on))
    refine wpQuiet_nil ?_
    intro w1 H1
    have hb : Below w.heap.size w w1 := H1.1
    clear H1
    go_wp2_with fail
    go_ret
    exact ⟨ret_bool HD.out.symm, hb⟩
  have HD : Hid (validM t a p ac nx = allF (actM p) nx 0) := by show _ = _; unfold validM; rw [← hq1, decide_eq_true hlen, allF_zero]; rfl
  have tn : ((nx.length : Int) != a) = false := by simp [hlen]
  have hn4 : nx.length ≤ 4 := by have := HBD.out; omega
  clear hq1 hlen
  go_enter Try.func61, Try.ntmps61
  go_wp2_with fail
  refine wp_region_quietC w [(b, 0, .int .i64 t), (b, 1, .int .i64 a), (b, 2, .int .i64 p), (b, 3, .slice A ac.length C), (b, 4, .slice B nx.length D)] (by kernel_rfl) (by kernel_rfl) ⟨Below.refl _ _, g0, g1, g2, g3, g4, trivial⟩ ?_
  repeat (first | go_big_quiet_skip | (go_big_quiet_want; apply Exists.intro; refine ⟨fun W hW => ?_, ?_⟩; focus (have hK := Lib.hid hW; obtain ⟨hs, hc⟩ := hW; simp only [Has, and_true] at hc; go_simp; (first | rfl | exact ⟨rfl, rfl⟩ | exact quietC_call hK.out (K1.out _ hs)))) | (go_simp; go_big_quiet_on))
  refine wpQuiet_nil ?_
  intro w1 H1
  have hb : Below w.heap.size w w1 := H1.1
  have x4 := kc hb g4
  clear H1
  go_wp2_with fail
  have HB3 := Lib.hid hb; clear hb x4 tn
  go_loopw [3] (fun i wr => ∃ j : Nat, j ≤ nx.length ∧ i = .int .i64 j ∧ Hid (validM t a p ac nx = allF (actM p) nx j) ∧ Hid (Below w.heap.size w wr)) (fun i _ => nx.length - (intOf i).toNat)
  case atStart => exact ⟨0, Nat.zero_le _, rfl, HD, HB3⟩
  case round =>
    obtain ⟨j, hj, rfl, hq, hB'⟩ := hrel
    clear HD HB3
    by_cases hjn : j < nx.length
    · obtain ⟨yB, zB, _, rfl, hatB⟩ := HB.out (by rintro rfl; simp at hjn)
      obtain ⟨Bj, Dj, cB, hRows⟩ := hatB j nx[j] (List.getElem?_eq_getElem hjn)
      have hst := allF_step (actM p) nx hjn
      have hfr := HF.out nx[j] (List.getElem_mem hjn)
      obtain ⟨rows, hr⟩ : ∃ rows, rows = nx[j] := ⟨_, rfl⟩
      rw [← hr] at cB hRows hst hfr
      have hb := hB'.out
      have x2 := kc hb g2; have x4 := kc hb g4; have xB := kc hb cB
      have HAT := Lib.hid hatB; have HR := Lib.hid hr; have HROWS := Lib.hid hRows; have HFR := Lib.hid hfr; have HCB := Lib.hid cB
      have HST : Hid (validM t a p ac nx = (actM p rows && allF (actM p) nx (j + 1))) := hq.out.trans hst
      have j0 : (0 : Int) ≤ (j : Int) := Int.natCast_nonneg _
      have j1 : (j : Int) < (nx.length : Int) := by omega
      have hrl := hfr.1
      clear hatB hr hst hq hRows hfr cB
      by_cases hrp : (rows.length : Int) = p
      case neg =>
        have tb : ((rows.length : Int) != p) = true := by rw [bne_iff_ne]; exact hrp
        have HE : Hid (validM t a p ac nx = false) := by show _ = _; rw [HST.out]; unfold actM; rw [isRow_neg hrp]; rfl
        clear hrp
        go_wp2_with fail
        go_region_held3 (fun w' => Sees w w' ∧ w'.cell? ⟨b, 2, none⟩ = some (.int .i64 p) ∧ w'.cell? ⟨b, 4, none⟩ = some (.slice (some ⟨yB, zB, none⟩) nx.length D) ∧ w'.cell? ⟨yB, zB + j, none⟩ = some (.slice Bj rows.length Dj) ∧ True) (first | exact ⟨Sees.drew hb, x2, x4, xB, trivial⟩ | (go_keep; done)) (fail)
        go_wp2_with fail
        go_ret
        exact ⟨ret_bool HE.out.symm, Below.drew hb⟩
      have tb : ((rows.length : Int) != p) = false := by simp [hrp]
      have HE : Hid (validM t a p ac nx = (allF (isRow p) rows 0 && allF (actM p) nx (j + 1))) := by
        show _ = _
        rw [HST.out]
        unfold actM
        rw [isRow_pos hrp, allF_zero]
        rfl
      have HRP := Lib.hid hrp
      clear hrp HST
      go_wp2_with fail
      go_region_held3 (fun w' => Sees w w' ∧ w'.cell? ⟨b, 2, none⟩ = some (.int .i64 p) ∧ w'.cell? ⟨b, 4, none⟩ = some (.slice (some ⟨yB, zB, none⟩) nx.length D) ∧ w'.cell? ⟨yB, zB + j, none⟩ = some (.slice Bj rows.length Dj) ∧ True) (first | exact ⟨Sees.drew hb, x2, x4, xB, trivial⟩ | (go_keep; done)) (fail)
      have HB4 : Hid (Below w.heap.size w wr.drew) := Below.drew hb
      clear hb x2 x4 xB tb hB'
      go_wp2_with fail
      go_loopw [4] (fun i wr => ∃ k : Nat, k ≤ rows.length ∧ i = .int .i64 k ∧ Hid (validM t a p ac nx = (allF (isRow p) rows k && allF (actM p) nx (j + 1))) ∧ Hid (Below w.heap.size w wr)) (fun i _ => rows.length - (intOf i).toNat)
      case atStart => exact ⟨0, Nat.zero_le _, rfl, HE, HB4⟩
      case round =>
        obtain ⟨k, hk, rfl, hq, hB'⟩ := hrel
        clear HE HB4
        have hb := hB'.out
        have x2 := kc hb g2; have x4 := kc hb g4; have xB := kc hb HCB.out
        by_cases hkl : k < rows.length
        · obtain ⟨yR, zR, _, rfl, hatR⟩ := HROWS.out (by rintro rfl; simp at hkl)
          obtain ⟨Bk, Dk, cR, hRow⟩ := hatR k rows[k] (List.getElem?_eq_getElem hkl)
          have hst := allF_step (isRow p) rows hkl
          have hfr := HFR.out.2 rows[k] (List.getElem_mem hkl)
          obtain ⟨row, hrow⟩ : ∃ row, row = rows[k] := ⟨_, rfl⟩
          rw [← hrow] at cR hRow hst hfr
          have xR := kc hb cR
          have HAT2 := Lib.hid hatR; have HRW := Lib.hid hrow; have HROW := Lib.hid hRow; have HCR := Lib.hid cR
          have HST : Hid (validM t a p ac nx = (isRow p row && (allF (isRow p) rows (k + 1) && allF (actM p) nx (j + 1)))) := by
            show _ = _
            rw [hq.out, hst, Bool.and_assoc]
          have k0 : (0 : Int) ≤ (k : Int) := Int.natCast_nonneg _
          have k1 : (k : Int) < (rows.length : Int) := by omega
          clear hatR hrow hst hq hRow cR
          by_cases hrp : (row.length : Int) = p
          case neg =>
            have tb : ((row.length : Int) != p) = true := by rw [bne_iff_ne]; exact hrp
            have HE : Hid (validM t a p ac nx = false) := by show _ = _; rw [HST.out]; rw [isRow_neg hrp]; rfl
            clear hrp
            go_wp2_with fail
            go_region_held3 (fun w' => Sees w w' ∧ w'.cell? ⟨b, 2, none⟩ = some (.int .i64 p) ∧ w'.cell? ⟨b, 4, none⟩ = some (.slice (some ⟨yB, zB, none⟩) nx.length D) ∧ w'.cell? ⟨yB, zB + j, none⟩ = some (.slice (some ⟨yR, zR, none⟩) rows.length Dj) ∧ w'.cell? ⟨yR, zR + k, none⟩ = some (.slice Bk row.length Dk) ∧ True) (first | exact ⟨Sees.drew hb, x2, x4, xB, xR, trivial⟩ | (go_keep; done)) (fail)
            go_wp2_with fail
            go_ret
            exact ⟨ret_bool HE.out.symm, Below.drew hb⟩
          have tb : ((row.length : Int) != p) = false := by simp [hrp]
          have HE : Hid (validM t a p ac nx = ((allF (isRow p) rows (k + 1) && allF (actM p) nx (j + 1)))) := by
            show _ = _
            rw [HST.out]
            skip
            rw [isRow_pos hrp]
            rfl
          clear hrp HST
          go_wp2_with fail
          go_region_held3 (fun w' => Sees w w' ∧ w'.cell? ⟨b, 2, none⟩ = some (.int .i64 p) ∧ w'.cell? ⟨b, 4, none⟩ = some (.slice (some ⟨yB, zB, none⟩) nx.length D) ∧ w'.cell? ⟨yB, zB + j, none⟩ = some (.slice (some ⟨yR, zR, none⟩) rows.length Dj) ∧ w'.cell? ⟨yR, zR + k, none⟩ = some (.slice Bk row.length Dk) ∧ True) (first | exact ⟨Sees.drew hb, x2, x4, xB, xR, trivial⟩ | (go_keep; done)) (fail)
          have HB5 : Hid (Below w.heap.size w wr.drew) := Below.drew hb
          clear hb x2 x4 xB xR tb hB'
          go_wp2_with fail
          go_roundw
          case rel => exact ⟨k + 1, by omega, by go_num, HE, HB5⟩
          case measure => simp [intOf]; omega
        · obtain rfl : k = rows.length := by omega
          have HE : Hid (validM t a p ac nx = allF (actM p) nx (j + 1)) := by show _ = _; rw [hq.out, allF_end]; rfl
          clear hq
          go_wp2_with fail
          go_roundw
          case rel => exact ⟨j + 1, by omega, by go_num, HE, hB'⟩
          case measure => simp [intOf]; omega
    · obtain rfl : j = nx.length := by omega
      have HE : Hid (validM t a p ac nx = true) := by show _ = _; rw [hq.out, allF_end]
      have hb := hB'.out
      have x4 := kc hb g4
      clear hq
      go_wp2_with fail
      go_ret
      exact ⟨ret_bool HE.out.symm, hb⟩

end Go.Proofs.Ytcgbepmhfimbjaa

namespace Go.Proofs.Ytcgbepmhfimbjaa
open Go
set_option linter.unusedVariables false

section
variable {P : Program} {md : Region.Mode} {ops : Array Oper} {Q : Exit → Act → World → Prop} {S : World → Prop} {k : Nat}

/-- What is listed has all that it waits for listed. -/
def Closed (md : Region.Mode) (ops : Array Oper) (listed : Array Bool) : Prop := ∀ (j : Nat) (o : Oper), ops[j]? = some o → listed.getD j false = true → ∀ e ∈ o.after, Region.binds md e = true → listed.getD e.on false = true
def closedB (md : Region.Mode) (ops : Array Oper) (listed : Array Bool) : Bool := (List.range ops.size).all fun j => match ops[j]? with
  | none => true
  | some o => !listed.getD j false || o.after.toList.all fun e => !Region.binds md e || listed.getD e.on false
theorem closed_of {listed : Array Bool} (h : closedB md ops listed = true) : Closed md ops listed := fun j o ho hl e he hb => by
  have h1 := List.all_eq_true.1 h j (List.mem_range.2 (Array.getElem?_eq_some_iff.1 ho).1)
  rw [ho] at h1
  simp only [hl, Bool.not_true, Bool.false_or] at h1
  have h2 := List.all_eq_true.1 h1 e (Array.mem_toList_iff.2 he)
  simpa [hb] using h2
/-- Operation j waits, by whatever way, for operation i. -/
def waits (md : Region.Mode) (ops : Array Oper) : Nat → Nat → Nat → Bool
  | 0, _, _ => false
  | n + 1, j, i => match ops[j]? with
    | none => false
    | some o => o.after.toList.any fun e => Region.binds md e && (e.on == i || waits md ops n e.on i)
theorem listed_of {listed : Array Bool} (hc : Closed md ops listed) {i : Nat} : ∀ (n j : Nat) (o : Oper), ops[j]? = some o → (∀ e ∈ o.after, Region.binds md e = true → listed.getD e.on false = true) → waits md ops n j i = true → listed.getD i false = true
  | 0, _, _, _, _, h => by simp [waits] at h
  | n + 1, j, o, ho, hd, h => by
    simp only [waits, ho] at h
    obtain ⟨e, he, h1⟩ := List.any_eq_true.1 h
    rw [Bool.and_eq_true, Bool.or_eq_true] at h1
    have he' : e ∈ o.after := Array.mem_toList_iff.1 he
    have hl := hd e he' h1.1
    rcases h1.2 with h2 | h2
    · have : e.on = i := by simpa using h2
      rw [← this]; exact hl
    · cases ho2 : ops[e.on]? with
      | none =>
        cases n with
        | zero => simp [waits] at h2
        | succ n => simp [waits, ho2] at h2
      | some o2 => exact listed_of hc n e.on o2 ho2 (fun e2 h3 h4 => hc e.on o2 ho2 hl e2 h3 h4) h2
theorem closed_set {listed : Array Bool} (hc : Closed md ops listed) {i : Nat} (hi : i ∈ Region.ready md ops listed) : Closed md ops (listed.setIfInBounds i true) := fun j o ho hl e he hb => by
  have up : ∀ x, listed.getD x false = true → (listed.setIfInBounds i true).getD x false = true := fun x hx => by
    simp only [Array.getD_eq_getD_getElem?, Array.getElem?_setIfInBounds] at hx ⊢
    split
    · split
      · rfl
      · rename_i h1 h2
        rw [Array.getElem?_eq_none (by omega)] at hx
        simp at hx
    · exact hx
  by_cases hji : j = i
  · subst hji
    obtain ⟨_, o2, ho2, hall⟩ := mem_ready.1 hi
    obtain rfl : o = o2 := Option.some.inj (ho.symm.trans ho2)
    exact up _ (hall e he hb)
  · refine up _ (hc j o ho ?_ e he hb)
    simp only [Array.getD_eq_getD_getElem?, Array.getElem?_setIfInBounds, if_neg (Ne.symm hji)] at hl
    simpa [Array.getD_eq_getD_getElem?] using hl

/-- Whatever order is picked, and S holds behind each operation but the last one, k. -/
def wpAnyL (P : Program) (md : Region.Mode) (ops : Array Oper) (Q : Exit → Act → World → Prop) (S : World → Prop) (k : Nat) : Nat → Array Bool → Act → World → Prop
  | 0, listed, a, w => Region.ready md ops listed = [] ∧ Q .normal a w
  | fuel + 1, listed, a, w =>
    (Region.ready md ops listed = [] → Q .normal a w) ∧
    ∀ i ∈ Region.ready md ops listed, wpOp P ops Q i (fun a' w' => (i = k ∨ S w') ∧ wpAnyL P md ops Q S k fuel (listed.setIfInBounds i true) a' w') a w
theorem wpAny_of_last : ∀ (fuel : Nat) (listed : Array Bool) (a : Act) (w : World), wpAnyL P md ops Q S k fuel listed a w → wpAny P md ops Q fuel listed a w
  | 0, _, _, _, h => h
  | fuel + 1, _, _, _, h => ⟨h.1, fun i hi => wpOp_mono (fun a' w' h' => wpAny_of_last fuel _ a' w' h'.2) (h.2 i hi)⟩
theorem wpAnyL_first {i : Nat} {oi : Oper} {v : Value} (hi : ops[i]? = some oi) (hsel : ∀ (j : Nat) (o : Oper) cs b, ops[j]? = some o → o.op ≠ .select cs b)
    (hQ : ∀ c a w, Q (.panic c) (a.put oi.dst v) w → Q (.panic c) a w) {n : Nat} (hwait : waits md ops n k i = true) :
    ∀ (fuel : Nat) (listed : Array Bool) (a : Act) (w : World), Closed md ops listed →
      (∀ j oj, ops[j]? = some oj → j ≠ i → listed.getD j true = false → (∀ e ∈ oj.after, Region.binds md e = true → e.on ≠ i) → oi.apart ops oj = true) →
      i ∈ Region.ready md ops listed → YieldsIf P ops S oi v a → S w →
      wpAnyL P md ops Q S k fuel (listed.setIfInBounds i true) (a.put oi.dst v) w → wpAnyL P md ops Q S k (fuel + 1) listed a w := by
  intro fuel
  induction fuel with
  | zero =>
    intro listed a w _ _ hr hy hS H
    refine ⟨fun h => (by rw [h] at hr; cases hr), fun j hj => ?_⟩
    by_cases hji : j = i
    · subst hji; exact hy.wpOp hi hS ⟨Or.inr hS, H⟩
    · have := ready_mono hj hji
      rw [H.1] at this
      cases this
  | succ fuel ih =>
    intro listed a w hcl hfree hr hy hS H
    refine ⟨fun h => (by rw [h] at hr; cases hr), fun j hj => ?_⟩
    by_cases hji : j = i
    · subst hji; exact hy.wpOp hi hS ⟨Or.inr hS, H⟩
    · have h1 := H.2 j (ready_mono hj hji)
      obtain ⟨hjun, oj, hoj, hall⟩ := mem_ready.1 hj
      have hjk : j ≠ k := fun he => by
        have h5 := listed_of hcl n j oj hoj hall (by rw [he]; exact hwait)
        have h6 := (mem_ready.1 hr).1
        simp only [Array.getD_eq_getD_getElem?] at h5 h6
        cases hx : listed[i]? with
        | none => rw [hx] at h5; simp at h5
        | some b => rw [hx] at h5 h6; simp at h5 h6; rw [h5] at h6; cases h6
      have hnot : ∀ e ∈ oj.after, Region.binds md e = true → e.on ≠ i := fun e he hb heq => by
        have h1 := hall e he hb
        have h0 := (mem_ready.1 hr).1
        rw [heq] at h1
        rcases Nat.lt_or_ge i listed.size with h' | h'
        · simp [h'] at h0 h1; rw [h0] at h1; cases h1
        · simp [Array.getElem?_eq_none h'] at h1
      have h2 := wpOp_putIf hoj (hfree j oj hoj hji hjun hnot) (fun cs b => hsel i oi cs b hi) (fun cs b => hsel j oj cs b hoj) hQ hy h1
      have hfree' : ∀ k ok, ops[k]? = some ok → k ≠ i → (listed.setIfInBounds j true).getD k true = false →
          (∀ e ∈ ok.after, Region.binds md e = true → e.on ≠ i) → oi.apart ops ok = true := fun k ok hk hki hun hno => by
        refine hfree k ok hk hki ?_ hno
        by_cases hjk : j = k
        · subst hjk; exact hjun
        · rw [getD_set_ne true hjk] at hun; exact hun
      refine wpOp_mono (fun a' w' h3 => ?_) h2
      have hS' : S w' := h3.2.1.resolve_left hjk
      refine ⟨h3.2.1, ih (listed.setIfInBounds j true) a' w' (closed_set hcl hj) hfree' (ready_mono hr (Ne.symm hji)) h3.1 hS' ?_⟩
      rw [Array.setIfInBounds_comm _ _ hji]
      exact h3.2.2
theorem wpAnyL_take {i : Nat} {oi : Oper} {v : Value} {fuel : Nat} {listed : Array Bool} {a : Act} {w : World} (hi : ops[i]? = some oi)
    (hs : Region.noSelect ops = true) (hf : Region.free md ops listed i = true) (hr : (Region.ready md ops listed).contains i = true) (hwait : waits md ops ops.size k i = true) (hcl : closedB md ops listed = true)
    (hQ : ∀ c a w, Q (.panic c) (a.put oi.dst v) w → Q (.panic c) a w) (hy : YieldsIf P ops S oi v a) (hS : S w)
    (h : wpAnyL P md ops Q S k fuel (listed.setIfInBounds i true) (a.put oi.dst v) w) : wpAnyL P md ops Q S k (fuel + 1) listed a w :=
  wpAnyL_first hi (Region.noSelect_spec hs) hQ hwait fuel listed a w (closed_of hcl) (Region.free_spec hi hf) (by simpa using hr) hy hS h
/-- The one operation that may come up. -/
theorem wpAnyL_ready {i : Nat} {o : Oper} {fuel : Nat} {listed : Array Bool} {a : Act} {w : World} (hr : Region.ready md ops listed = [i]) (ho : ops[i]? = some o)
    (h : ∀ K' : Act → World → Prop, Shut (∀ a w, S w → wpAnyL P md ops Q S k fuel (listed.setIfInBounds i true) a w → K' a w) → if Region.wanted o (yielded ops a.tmps) = true then Oper.wp P o a w K' Q else K' (a.put o.dst undef) w) :
    wpAnyL P md ops Q S k (fuel + 1) listed a w := by
  refine ⟨fun h0 => absurd (hr.symm.trans h0) (by simp), fun j hj => ?_⟩
  rw [hr] at hj
  obtain rfl : j = i := by simpa using hj
  exact wpOp_step ho (fun K' hK => h K' (fun a w hS hW => hK a w ⟨Or.inr hS, hW⟩))
/-- The last operation: S is not asked behind it. -/
theorem wpAnyL_last {o : Oper} {fuel : Nat} {listed : Array Bool} {a : Act} {w : World} (hr : Region.ready md ops listed = [k]) (ho : ops[k]? = some o) (hr2 : Region.ready md ops (listed.setIfInBounds k true) = [])
    (h : ∀ K' : Act → World → Prop, Shut (∀ a w, Q .normal a w → K' a w) → if Region.wanted o (yielded ops a.tmps) = true then Oper.wp P o a w K' Q else K' (a.put o.dst undef) w) :
    wpAnyL P md ops Q S k (fuel + 1) listed a w := by
  refine ⟨fun h0 => absurd (hr.symm.trans h0) (by simp), fun j hj => ?_⟩
  rw [hr] at hj
  obtain rfl : j = k := by simpa using hj
  refine wpOp_step ho (fun K' hK => h K' (fun a w hQ => hK a w ⟨Or.inl rfl, ?_⟩))
  cases fuel with
  | zero => exact ⟨hr2, hQ⟩
  | succ n => exact ⟨fun _ => hQ, by rw [hr2]; simp⟩
/-- The beginning. -/
theorem wp_region_last {id : Nat} {a : Act} {w : World} (k : Nat) (hm : P.follows .mixedOrders = true) (hS : S w.drew)
    (h : S w.drew → wpAnyL P .any ops Q S k ops.size (Array.replicate ops.size false) a w.drew) : (Code.region id ops true).wp P Q a w :=
  wp_region_any hm (wpAny_of_last _ _ _ _ (h hS))
end
end Go.Proofs.Ytcgbepmhfimbjaa
