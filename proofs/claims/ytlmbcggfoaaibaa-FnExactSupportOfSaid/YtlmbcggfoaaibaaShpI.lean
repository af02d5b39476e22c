/- impl.haveShape at int64; impl.ValidCosts. -/
import Derived.Test.YtlmbcggfoaaibaaShp
import Derived.Laws.EntriesVeiled
import Derived.Test.YtlmbcggfoaaibaaEvyi
import Derived.Test.YtlmbcggfoaaibaaEvyI
import Derived.Test.YtlmbcggfoaaibaaEvyII
import Derived.Test.YtlmbcggfoaaibaaEvyB
namespace Go.Proofs.Ytlmbcggfoaaibaa
open Go.RowKit

theorem validI_any (x : Int) (w : World) : Calls Try.prog 72 #[.int .i64 x] w fun e w' => e = .returned (.bool ((fun v : Int => inB v (-1) 1000) x)) ∧ Below w.heap.size w w' := by
  have hb0 : inB x (-1) 1000 = (decide (x = -1) || belowB x 1001) := by
    unfold inB belowB
    rw [Bool.eq_iff_iff]
    simp
    omega
  show Calls _ _ _ _ fun e w' => e = .returned (.bool (inB x (-1) 1000)) ∧ Below w.heap.size w w'
  rw [hb0]
  obtain ⟨q3, hq3⟩ : ∃ q3 : Bool, q3 = belowB x 1001 := ⟨_, rfl⟩
  have K3 : Hid (∀ W : World, Calls Try.prog 73 #[.int .i64 x, .int .i64 1001] W fun e w' => e = .returned (.bool q3) ∧ Below W.heap.size W w') := fun W => (below_any x 1001 W).mono fun e w' h => ⟨by rw [hq3]; exact h.1, by rw [← h.2]; exact Below.refl _ _⟩
  rw [← hq3]
  clear hq3 hb0
  by_cases hx : x = -1
  · rw [decide_eq_true hx]
    have te : (x == -1) = true := by simp [hx]
    subst hx
    go_enter Try.func72, Try.ntmps72
    go_wp2_with fail
    go_ret
    exact ⟨rfl, Below.refl _ _⟩
  · rw [decide_eq_false hx]
    have te : (x == -1) = false := by rw [beq_eq_false_iff_ne]; exact hx
    clear hx
    go_enter Try.func72, Try.ntmps72
    go_wp2_with fail
    refine (K3.out _).mono ?_
    rintro e w1 ⟨rfl, hb⟩
    go_wp2_with fail
    go_ret
    exact ⟨rfl, hb⟩

theorem shape1I_any (p : Int) (bp : Nat) (row : List Bool) (B : Option Addr) (D : Nat) (w : World) (hp : w.cell? ⟨bp, 0, none⟩ = some (.int .i64 p)) :
    Calls Try.prog 121 #[.slice B row.length D, .pointer (some ⟨bp, 0, none⟩)] w fun e w' => e = .returned (.bool (isRow p row)) ∧ Below w.heap.size w w' := by
  by_cases h : (row.length : Int) = p
  · have HE : Hid (isRow p row = true) := isRow_pos h
    have te : ((row.length : Int) == p) = true := by simp [h]
    clear h
    go_enter Try.func121, Try.ntmps121
    go_wp2_with fail
    go_ret
    exact ⟨ret_bool HE.out.symm, Below.refl _ _⟩
  · have HE : Hid (isRow p row = false) := isRow_neg h
    have te : ((row.length : Int) == p) = false := by rw [beq_eq_false_iff_ne]; exact h
    clear h
    go_enter Try.func121, Try.ntmps121
    go_wp2_with fail
    go_ret
    exact ⟨ret_bool HE.out.symm, Below.refl _ _⟩

set_option maxHeartbeats 400000 in
theorem shape2I_any (p : Int) (bp bv : Nat) (row : List (Int)) (hm : row.length ≤ 9223372036854775807) (B : Option Addr) (D : Nat) (w : World) (hp : w.cell? ⟨bp, 0, none⟩ = some (.int .i64 p)) (hv : w.cell? ⟨bv, 0, none⟩ = some (.func (.func 72) #[] #[])) (hl : IntsL 0 w row B) :
    Calls Try.prog 122 #[.slice B row.length D, .pointer (some ⟨bp, 0, none⟩), .pointer (some ⟨bv, 0, none⟩)] w fun e w' => e = .returned (.bool (rowH p (fun v : Int => inB v (-1) 1000) row)) ∧ Below w.heap.size w w' := by
  have KE : Hid (∀ W : World, Sees w W → Calls Try.prog 123 #[.slice B row.length D, .func (.func 72) #[] #[]] W fun e w' => e = .returned (.bool (row.all (fun v : Int => inB v (-1) 1000))) ∧ Below W.heap.size W w') := fun W h => everyi_any (fun v : Int => inB v (-1) 1000) 72 #[] (enters_of Try.func72 (by kernel_rfl) rfl) row hm B D W (ints_ok.below hl h) (fun W2 x h2 _ => validI_any x W2)
  by_cases h : (row.length : Int) = p
  · obtain ⟨q, hq⟩ : ∃ q : Bool, q = row.all (fun v : Int => inB v (-1) 1000) := ⟨_, rfl⟩
    have HE : Hid (rowH p (fun v : Int => inB v (-1) 1000) row = q) := by show _ = _; unfold rowH; rw [isRow_pos h, hq]; rfl
    have te : ((row.length : Int) == p) = true := by simp [h]
    rw [← hq] at KE
    clear h hq hl
    go_enter Try.func122, Try.ntmps122
    go_wp2_with fail
    refine (KE.out _ (Sees.refl _)).mono ?_
    rintro e w1 ⟨rfl, hb⟩
    go_wp2_with fail
    go_ret
    exact ⟨ret_bool HE.out.symm, hb⟩
  · have HE : Hid (rowH p (fun v : Int => inB v (-1) 1000) row = false) := by show _ = _; unfold rowH; rw [isRow_neg h]; rfl
    have te : ((row.length : Int) == p) = false := by rw [beq_eq_false_iff_ne]; exact h
    clear h hl
    go_enter Try.func122, Try.ntmps122
    go_wp2_with fail
    go_ret
    exact ⟨ret_bool HE.out.symm, Below.refl _ _⟩

set_option maxHeartbeats 400000 in
theorem shape3I_any (p : Int) (bp br : Nat) (bv : Nat) (row : List (List Int)) (hm : row.length ≤ 9223372036854775807) (B : Option Addr) (D : Nat) (w : World) (hp : w.cell? ⟨bp, 0, none⟩ = some (.int .i64 p)) (hv : w.cell? ⟨br, 0, none⟩ = some (.func (.func 122) #[] #[.pointer (some ⟨bp, 0, none⟩), .pointer (some ⟨bv, 0, none⟩)])) (hl : II 0 w row B) (hv2 : w.cell? ⟨bv, 0, none⟩ = some (.func (.func 72) #[] #[])) (hf : ∀ x ∈ row, x.length ≤ 9223372036854775807) :
    Calls Try.prog 124 #[.slice B row.length D, .pointer (some ⟨bp, 0, none⟩), .pointer (some ⟨br, 0, none⟩)] w fun e w' => e = .returned (.bool (actH p (fun v : Int => inB v (-1) 1000) row)) ∧ Below w.heap.size w w' := by
  have KE : Hid (∀ W : World, Sees w W → Calls Try.prog 125 #[.slice B row.length D, .func (.func 122) #[] #[.pointer (some ⟨bp, 0, none⟩), .pointer (some ⟨bv, 0, none⟩)]] W fun e w' => e = .returned (.bool (row.all (rowH p (fun v : Int => inB v (-1) 1000)))) ∧ Below W.heap.size W w') := fun W h => everyI_any (rowH p (fun v : Int => inB v (-1) 1000)) 122 #[.pointer (some ⟨bp, 0, none⟩), .pointer (some ⟨bv, 0, none⟩)] (enters_of Try.func122 (by kernel_rfl) rfl) row hm B D W (ii_ok.below hl h) (fun W2 x B2 D2 h2 hx hx2 => shape2I_any p bp bv x (hf x hx) B2 D2 W2 (kc (Sees.below h h2) hp) (kc (Sees.below h h2) hv2) hx2)
  by_cases h : (row.length : Int) = p
  · obtain ⟨q, hq⟩ : ∃ q : Bool, q = row.all (rowH p (fun v : Int => inB v (-1) 1000)) := ⟨_, rfl⟩
    have HE : Hid (actH p (fun v : Int => inB v (-1) 1000) row = q) := by show _ = _; unfold actH; rw [isRow_pos h, hq]; rfl
    have te : ((row.length : Int) == p) = true := by simp [h]
    rw [← hq] at KE
    clear h hq hl
    go_enter Try.func124, Try.ntmps124
    go_wp2_with fail
    refine (KE.out _ (Sees.refl _)).mono ?_
    rintro e w1 ⟨rfl, hb⟩
    go_wp2_with fail
    go_ret
    exact ⟨ret_bool HE.out.symm, hb⟩
  · have HE : Hid (actH p (fun v : Int => inB v (-1) 1000) row = false) := by show _ = _; unfold actH; rw [isRow_neg h]; rfl
    have te : ((row.length : Int) == p) = false := by rw [beq_eq_false_iff_ne]; exact h
    clear h hl
    go_enter Try.func124, Try.ntmps124
    go_wp2_with fail
    go_ret
    exact ⟨ret_bool HE.out.symm, Below.refl _ _⟩

set_option maxHeartbeats 2000000 in
set_option maxRecDepth 100000 in
theorem haveShapeI_any (t a p : Int) (ac : List (List Bool)) (nx : List (List (List Int))) (hs : SmallA ac nx) (A B : Option Addr) (C D : Nat) (w : World) (hA : BB 0 w ac A) (hB : III 0 w nx B) :
    Calls Try.prog 71 #[.agg #[.int .i64 t, .int .i64 a], .int .i64 p, .slice A ac.length C, .slice B nx.length D, (.func (.func 72) #[] #[])] w fun e w' => e = .returned (.bool (validH (fun v : Int => inB v (-1) 1000) t a p ac nx)) ∧ Below w.heap.size w w' := by
  obtain ⟨f1, f2, f3, f4⟩ := hs
  obtain ⟨q1, hq1⟩ : ∃ q1 : Bool, q1 = sigOk t a := ⟨_, rfl⟩
  have K1 : Hid (∀ W : World, Calls Try.prog 100 #[.agg #[.int .i64 t, .int .i64 a]] W fun e w' => e = .returned (.bool q1) ∧ Below W.heap.size W w') := fun W => by rw [hq1]; exact implValidSig_any t a W
  obtain ⟨q2, hq2⟩ : ∃ q2 : Bool, q2 = ac.all (isRow p) := ⟨_, rfl⟩
  obtain ⟨q3, hq3⟩ : ∃ q3 : Bool, q3 = nx.all (actH p (fun v : Int => inB v (-1) 1000)) := ⟨_, rfl⟩
  have K2 : Hid (∀ (W : World) (bp : Nat), Sees w W → W.cell? ⟨bp, 0, none⟩ = some (.int .i64 p) → Calls Try.prog 113 #[.slice A ac.length C, .func (.func 121) #[] #[.pointer (some ⟨bp, 0, none⟩)]] W fun e w' => e = .returned (.bool q2) ∧ Below W.heap.size W w') := fun W bp h hp => by
    rw [hq2]
    exact everyB_any (isRow p) 121 #[.pointer (some ⟨bp, 0, none⟩)] (enters_of Try.func121 (by kernel_rfl) rfl) ac (by omega) A C W (bb_ok.below hA h) (fun W2 x B2 D2 h2 _ _ => shape1I_any p bp x B2 D2 W2 (kc h2 hp))
  have K3 : Hid (∀ (W : World) (bp bv br : Nat), Sees w W → W.cell? ⟨bp, 0, none⟩ = some (.int .i64 p) → W.cell? ⟨bv, 0, none⟩ = some (.func (.func 72) #[] #[]) → W.cell? ⟨br, 0, none⟩ = some (.func (.func 122) #[] #[.pointer (some ⟨bp, 0, none⟩), .pointer (some ⟨bv, 0, none⟩)]) → Calls Try.prog 126 #[.slice B nx.length D, .func (.func 124) #[] #[.pointer (some ⟨bp, 0, none⟩), .pointer (some ⟨br, 0, none⟩)]] W fun e w' => e = .returned (.bool q3) ∧ Below W.heap.size W w') := fun W bp bv br h hp hv hr => by
    rw [hq3]
    exact everyII_any (actH p (fun v : Int => inB v (-1) 1000)) 124 #[.pointer (some ⟨bp, 0, none⟩), .pointer (some ⟨br, 0, none⟩)] (enters_of Try.func124 (by kernel_rfl) rfl) nx (by omega) B D W (iii_ok.below hB h) (fun W2 x B2 D2 h2 hx hx2 => shape3I_any p bp br bv x (Nat.le_trans (f4 x hx).1 (by decide)) B2 D2 W2 (kc h2 hp) (kc h2 hr) hx2 (kc h2 hv) (fun y hy => Nat.le_trans ((f4 x hx).2 y hy) (by decide)))
  have hvalid : Hid (validH (fun v : Int => inB v (-1) 1000) t a p ac nx = (q1 && (inB p 1 8 && (decide ((ac.length : Int) = t) && (decide ((nx.length : Int) = a) && (q2 && q3)))))) := by show _ = _; unfold validH; rw [hq1, hq2, hq3]
  obtain ⟨w0, hw0⟩ : ∃ w0, w0 = ((w.alloc (.cells #[.int .i64 t, .int .i64 a] 30)).alloc (.cells #[.int .i64 p] 2)).alloc (.cells #[.func (.func 72) #[] #[]] 107) := ⟨_, rfl⟩
  have B0 : Sees w w0 := by rw [hw0]; exact (((Sees.refl w).alloc _).alloc _).alloc _
  have g0 : w0.cell? ⟨w.heap.size, 0, none⟩ = some (.int .i64 t) := by rw [hw0]; simp [go_sem]
  have g1 : w0.cell? ⟨w.heap.size, 1, none⟩ = some (.int .i64 a) := by rw [hw0]; simp [go_sem]
  have g2 : w0.cell? ⟨w.heap.size + 1, 0, none⟩ = some (.int .i64 p) := by rw [hw0]; simp [go_sem]
  have g3 : w0.cell? ⟨w.heap.size + 1 + 1, 0, none⟩ = some (.func (.func 72) #[] #[]) := by rw [hw0]; simp [go_sem]
  clear hq1 hq2 hq3 hA hB f1 f2 f3 f4
  cases q1
  · have HD : Hid (validH (fun v : Int => inB v (-1) 1000) t a p ac nx = false) := by show _ = _; rw [hvalid.out]; rfl
    clear hvalid
    go_enter Try.func71, Try.ntmps71
    go_wp2_with fail
    rw [← hw0]
    refine (K1.out _).mono ?_
    rintro e w1 ⟨rfl, hb⟩
    have x0 := kc hb g0; have x1 := kc hb g1; have x2 := kc hb g2; have x3 := kc hb g3
    have B1 : Sees w w1 := B0.below hb
    clear hw0 g0 g1 g2 g3 hb B0
    go_wp2_with fail
    go_ret
    exact ⟨ret_bool HD.out.symm, B1⟩
  by_cases hlo : p < 1
  · have HD : Hid (validH (fun v : Int => inB v (-1) 1000) t a p ac nx = false) := by show _ = _; rw [hvalid.out, show inB p 1 8 = false from by unfold inB; simp; omega]; rfl
    have t1 : decide (p < 1) = true := decide_eq_true hlo
    clear hvalid
    go_enter Try.func71, Try.ntmps71
    go_wp2_with fail
    rw [← hw0]
    refine (K1.out _).mono ?_
    rintro e w1 ⟨rfl, hb⟩
    have x0 := kc hb g0; have x1 := kc hb g1; have x2 := kc hb g2; have x3 := kc hb g3
    have B1 : Sees w w1 := B0.below hb
    clear hw0 g0 g1 g2 g3 hb B0
    go_wp2_with fail
    go_ret
    exact ⟨ret_bool HD.out.symm, B1⟩
  have t1 : decide (p < 1) = false := decide_eq_false hlo
  by_cases hhi : (8 : Int) < p
  · have HD : Hid (validH (fun v : Int => inB v (-1) 1000) t a p ac nx = false) := by show _ = _; rw [hvalid.out, show inB p 1 8 = false from by unfold inB; simp; omega]; rfl
    have t2 : decide ((8 : Int) < p) = true := decide_eq_true hhi
    clear hvalid
    go_enter Try.func71, Try.ntmps71
    go_wp2_with fail
    rw [← hw0]
    refine (K1.out _).mono ?_
    rintro e w1 ⟨rfl, hb⟩
    have x0 := kc hb g0; have x1 := kc hb g1; have x2 := kc hb g2; have x3 := kc hb g3
    have B1 : Sees w w1 := B0.below hb
    clear hw0 g0 g1 g2 g3 hb B0
    go_wp2_with fail
    go_ret
    exact ⟨ret_bool HD.out.symm, B1⟩
  have t2 : decide ((8 : Int) < p) = false := decide_eq_false hhi
  have hb18 : inB p 1 8 = true := by unfold inB; simp; omega
  rw [hb18] at hvalid
  by_cases hl1 : (ac.length : Int) = t
  case neg =>
    have HD : Hid (validH (fun v : Int => inB v (-1) 1000) t a p ac nx = false) := by show _ = _; rw [hvalid.out, decide_eq_false hl1]; rfl
    have tn : ((ac.length : Int) != t) = true := by rw [bne_iff_ne]; exact hl1
    clear hvalid hb18 hl1
    go_enter Try.func71, Try.ntmps71
    go_wp2_with fail
    rw [← hw0]
    refine (K1.out _).mono ?_
    rintro e w1 ⟨rfl, hb⟩
    have x0 := kc hb g0; have x1 := kc hb g1; have x2 := kc hb g2; have x3 := kc hb g3
    have B1 : Sees w w1 := B0.below hb
    clear hw0 g0 g1 g2 g3 hb B0
    go_wp2_with fail
    go_ret
    exact ⟨ret_bool HD.out.symm, B1⟩
  have tl1 : ((ac.length : Int) != t) = false := by simp [hl1]
  rw [decide_eq_true hl1] at hvalid
  clear hl1
  by_cases hl2 : (nx.length : Int) = a
  case neg =>
    have HD : Hid (validH (fun v : Int => inB v (-1) 1000) t a p ac nx = false) := by show _ = _; rw [hvalid.out, decide_eq_false hl2]; rfl
    have tn : ((nx.length : Int) != a) = true := by rw [bne_iff_ne]; exact hl2
    clear hvalid hb18 hl2
    go_enter Try.func71, Try.ntmps71
    go_wp2_with fail
    rw [← hw0]
    refine (K1.out _).mono ?_
    rintro e w1 ⟨rfl, hb⟩
    have x0 := kc hb g0; have x1 := kc hb g1; have x2 := kc hb g2; have x3 := kc hb g3
    have B1 : Sees w w1 := B0.below hb
    clear hw0 g0 g1 g2 g3 hb B0
    go_wp2_with fail
    go_ret
    exact ⟨ret_bool HD.out.symm, B1⟩
  have tl2 : ((nx.length : Int) != a) = false := by simp [hl2]
  rw [decide_eq_true hl2] at hvalid
  clear hl2
  cases q2
  · have HD : Hid (validH (fun v : Int => inB v (-1) 1000) t a p ac nx = false) := by show _ = _; rw [hvalid.out]; rfl
    clear hvalid hb18
    go_enter Try.func71, Try.ntmps71
    go_wp2_with fail
    rw [← hw0]
    refine (K1.out _).mono ?_
    rintro e w1 ⟨rfl, hb⟩
    have x0 := kc hb g0; have x1 := kc hb g1; have x2 := kc hb g2; have x3 := kc hb g3
    have B1 : Sees w w1 := B0.below hb
    clear hw0 g0 g1 g2 g3 hb B0
    go_wp2_with fail
    refine (K2.out _ (w.heap.size + 1) (B1.alloc _) (ka _ x2)).mono ?_
    rintro e w2 ⟨rfl, hb⟩
    have B2 : Sees w w2 := Sees.below (B1.alloc _) hb
    clear hb
    go_wp2_with fail
    go_ret
    exact ⟨ret_bool HD.out.symm, B2⟩
  have HD : Hid (validH (fun v : Int => inB v (-1) 1000) t a p ac nx = q3) := by show _ = _; rw [hvalid.out]; rfl
  clear hvalid hb18
  go_enter Try.func71, Try.ntmps71
  go_wp2_with fail
  rw [← hw0]
  refine (K1.out _).mono ?_
  rintro e w1 ⟨rfl, hb⟩
  have x0 := kc hb g0; have x1 := kc hb g1; have x2 := kc hb g2; have x3 := kc hb g3
  have B1 : Sees w w1 := B0.below hb
  clear hw0 g0 g1 g2 g3 hb B0
  go_wp2_with fail
  refine (K2.out _ (w.heap.size + 1) (B1.alloc _) (ka _ x2)).mono ?_
  rintro e w2 ⟨rfl, hb⟩
  have B2 : Sees w w2 := Sees.below (B1.alloc _) hb
  have y2 := kc hb (ka _ x2); have y3 := kc hb (ka _ x3)
  have y4 := kc hb (show (w1.alloc _).cell? ⟨w1.heap.size, 0, none⟩ = some (.func (.func 122) #[] #[.pointer (some ⟨w.heap.size + 1, 0, none⟩), .pointer (some ⟨w.heap.size + 1 + 1, 0, none⟩)]) from by simp [go_sem])
  clear hb x0 x1 x2 x3 B1
  go_wp2_with fail
  refine (K3.out _ (w.heap.size + 1) (w.heap.size + 1 + 1) w1.heap.size B2 y2 y3 y4).mono ?_
  rintro e w3 ⟨rfl, hb⟩
  have B3 : Sees w w3 := B2.below hb
  clear hb
  go_wp2_with fail
  go_ret
  exact ⟨ret_bool HD.out.symm, B3⟩

set_option maxRecDepth 100000 in
theorem implValidCosts_any (t a p : Int) (ac : List (List Bool)) (nx : List (List (List Int))) (hs : SmallA ac nx) (A B : Option Addr) (C D : Nat) (w : World) (hA : BB 0 w ac A) (hB : III 0 w nx B) :
    Calls Try.prog 23 #[.agg #[.int .i64 t, .int .i64 a, .int .i64 p, .slice A ac.length C, .slice B nx.length D]] w fun e w' => e = .returned (.bool (validC t a p ac nx)) ∧ Below w.heap.size w w' := by
  obtain ⟨q, hq⟩ : ∃ q : Bool, q = validC t a p ac nx := ⟨_, rfl⟩
  have K : Hid (∀ W : World, Sees w W → Calls Try.prog 71 #[.agg #[.int .i64 t, .int .i64 a], .int .i64 p, .slice A ac.length C, .slice B nx.length D, (.func (.func 72) #[] #[])] W fun e w' => e = .returned (.bool q) ∧ Below W.heap.size W w') := fun W h => by
    rw [hq, ← validH_costs]
    exact haveShapeI_any t a p ac nx hs A B C D W (bb_ok.below hA h) (iii_ok.below hB h)
  rw [← hq]
  clear hq hA hB hs
  go_enter Try.func23, Try.ntmps23
  go_wp2_with fail
  refine (K.out _ (by unfold Sees; go_grown)).mono ?_
  rintro e w1 ⟨rfl, hb⟩
  have B1 : Sees w w1 := Sees.below (by unfold Sees; go_grown) hb
  clear hb
  go_wp2_with fail
  go_ret
  exact ⟨rfl, B1⟩
end Go.Proofs.Ytlmbcggfoaaibaa
