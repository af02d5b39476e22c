/- Contract of impl.ValidWorld. -/
import Derived.Test.YtlfafcbieeambaaDoorWldD
import Derived.Test.YtlfafcbieeambaaDoorEvyi
import Derived.Test.YtlfafcbieeambaaDoorEvyI
import Derived.Laws.EntriesVeiled
namespace Go.Proofs.YtlfafcbieeambaaDoor
open Go.RowKit

theorem isAtom_any (t a : Int) (h0 : 0 ≤ t) (h1 : t ≤ 3) (bg : Nat) (x : Int) (w : World) (hg : w.cell? ⟨bg, 0, none⟩ = some (.int .i64 t)) (hg1 : w.cell? ⟨bg, 1, none⟩ = some (.int .i64 a)) :
    Calls Tryd.prog 71 #[.int .i64 x, .pointer (some ⟨bg, 0, none⟩)] w fun e w' => e = .returned (.bool (atomB t x)) ∧ Below w.heap.size w w' := by
  obtain ⟨na, hna⟩ : ∃ na : Int, na = atomsN t := ⟨_, rfl⟩
  have KA : Hid (∀ W : World, Calls Tryd.prog 72 #[.agg #[.int .i64 t, .int .i64 a]] W fun e w' => e = .returned (.int .i64 na) ∧ Below W.heap.size W w') := fun W => by rw [hna]; exact atomCount_any t a W h0 h1
  obtain ⟨q, hq⟩ : ∃ q : Bool, q = atomB t x := ⟨_, rfl⟩
  have KB : Hid (∀ W : World, Calls Tryd.prog 45 #[.int .i64 x, .int .i64 na] W fun e w' => e = .returned (.bool (q)) ∧ Below W.heap.size W w') := fun W => (below_any x na W).mono fun e w' h => ⟨by rw [hq, atomB_below, ← hna]; exact h.1, by rw [← h.2]; exact Below.refl _ _⟩
  rw [← hq]
  clear hq hna
  go_enter Tryd.func71, Tryd.ntmps71
  go_wp2_with fail
  refine (KA.out _).mono ?_
  rintro e w1 ⟨rfl, hb⟩
  have B1 : Sees w w1 := Sees.below (by unfold Sees; go_grown) hb
  clear hb
  go_wp2_with fail
  refine (KB.out _).mono ?_
  rintro e w2 ⟨rfl, hb⟩
  have B2 := B1.below hb
  clear hb
  go_wp2_with fail
  go_ret
  exact ⟨rfl, B2⟩

theorem isNext_any (n : Int) (h0 : 0 ≤ n) (bn : Nat) (x : Int) (w : World) (hn : w.cell? ⟨bn, 0, none⟩ = some (.int .i64 n)) :
    Calls Tryd.prog 73 #[.int .i64 x, .pointer (some ⟨bn, 0, none⟩)] w fun e w' => e = .returned (.bool (nextB n x)) ∧ Below w.heap.size w w' := by
  have hb0 : nextB n x = (decide (x = -1) || belowB x n) := by
    unfold nextB inB belowB
    rw [Bool.eq_iff_iff]
    simp
    omega
  rw [hb0]
  obtain ⟨q, hq⟩ : ∃ q : Bool, q = belowB x n := ⟨_, rfl⟩
  have KB : Hid (∀ W : World, Calls Tryd.prog 45 #[.int .i64 x, .int .i64 n] W fun e w' => e = .returned (.bool (q)) ∧ Below W.heap.size W w') := fun W => (below_any x n W).mono fun e w' h => ⟨by rw [hq]; exact h.1, by rw [← h.2]; exact Below.refl _ _⟩
  rw [← hq]
  clear hq hb0
  by_cases hx : x = -1
  · rw [decide_eq_true hx]
    have te : (x == -1) = true := by simp [hx]
    subst hx
    go_enter Tryd.func73, Tryd.ntmps73
    go_wp2_with fail
    go_ret
    exact ⟨rfl, Below.refl _ _⟩
  · rw [decide_eq_false hx]
    have te : (x == -1) = false := by rw [beq_eq_false_iff_ne]; exact hx
    clear hx
    go_enter Tryd.func73, Tryd.ntmps73
    go_wp2_with fail
    refine (KB.out _).mono ?_
    rintro e w1 ⟨rfl, hb⟩
    go_wp2_with fail
    go_ret
    exact ⟨rfl, hb⟩

set_option maxHeartbeats 400000 in
theorem isAct_any (n : Int) (h0 : 0 ≤ n) (bn bf : Nat) (row : List Int) (hm : row.length ≤ 9223372036854775807) (B : Option Addr) (D : Nat) (w : World) (hn : w.cell? ⟨bn, 0, none⟩ = some (.int .i64 n)) (hf : w.cell? ⟨bf, 0, none⟩ = some (.func (.func 73) #[] #[.pointer (some ⟨bn, 0, none⟩)])) (hl : IntsL 0 w row B) :
    Calls Tryd.prog 74 #[.slice B row.length D, .pointer (some ⟨bn, 0, none⟩), .pointer (some ⟨bf, 0, none⟩)] w fun e w' => e = .returned (.bool (rowW n row)) ∧ Below w.heap.size w w' := by
  have KE : Hid (∀ W : World, Sees w W → Calls Tryd.prog 75 #[.slice B row.length D, (.func (.func 73) #[] #[.pointer (some ⟨bn, 0, none⟩)])] W fun e w' => e = .returned (.bool (row.all (nextB n))) ∧ Below W.heap.size W w') := fun W h =>
    everyi_any (nextB n) 73 #[.pointer (some ⟨bn, 0, none⟩)] (enters_of Tryd.func73 (by kernel_rfl) rfl) row hm B D W (ints_ok.below hl h) (fun W2 x h2 _ => isNext_any n h0 bn x W2 (kc (Sees.below h h2) hn))
  by_cases h : (row.length : Int) = n
  · obtain ⟨q, hq⟩ : ∃ q : Bool, q = row.all (nextB n) := ⟨_, rfl⟩
    have HE : Hid (rowW n row = q) := by show _ = _; unfold rowW; rw [decide_eq_true h, hq]; rfl
    have te : ((row.length : Int) == n) = true := by simp [h]
    rw [← hq] at KE
    clear h hq hl
    go_enter Tryd.func74, Tryd.ntmps74
    go_wp2_with fail
    refine (KE.out _ (Sees.refl _)).mono ?_
    rintro e w1 ⟨rfl, hb⟩
    go_wp2_with fail
    go_ret
    exact ⟨ret_bool HE.out.symm, hb⟩
  · have HE : Hid (rowW n row = false) := by show _ = _; unfold rowW; rw [decide_eq_false h]; rfl
    have te : ((row.length : Int) == n) = false := by rw [beq_eq_false_iff_ne]; exact h
    clear h hl
    go_enter Tryd.func74, Tryd.ntmps74
    go_wp2_with fail
    go_ret
    exact ⟨ret_bool HE.out.symm, Below.refl _ _⟩

set_option maxHeartbeats 2000000 in
set_option maxRecDepth 100000 in
theorem implValidWorld_any (t a : Int) (p : List Int) (nx : List (List Int)) (hs : SmallW p nx) (A B : Option Addr) (C D : Nat) (w : World) (hA : Ints w p A) (hB : II 0 w nx B) :
    Calls Tryd.prog 43 #[.agg #[.int .i64 t, .int .i64 a], .agg #[.slice A p.length C, .slice B nx.length D]] w fun e w' => e = .returned (.bool (validD t a p nx)) ∧ Below w.heap.size w w' := by
  obtain ⟨f1, f2, f3⟩ := hs
  obtain ⟨q1, hq1⟩ : ∃ q1 : Bool, q1 = sigOk t a := ⟨_, rfl⟩
  have K1 : Hid (∀ W : World, Calls Tryd.prog 31 #[.agg #[.int .i64 t, .int .i64 a]] W fun e w' => e = .returned (.bool (q1)) ∧ Below W.heap.size W w') := fun W => by rw [hq1]; exact implValidSig_any t a W
  obtain ⟨q2, hq2⟩ : ∃ q2 : Bool, q2 = p.all (atomB t) := ⟨_, rfl⟩
  obtain ⟨q3, hq3⟩ : ∃ q3 : Bool, q3 = nx.all (rowW p.length) := ⟨_, rfl⟩
  have hvalid : Hid (validD t a p nx = (q1 && (inB p.length 1 12 && (decide ((nx.length : Int) = a) && (q2 && q3))))) := by show _ = _; unfold validD; rw [hq1, hq2, hq3]
  have K2 : Hid (q1 = true → ∀ (W : World) (bg : Nat), Sees w W → W.cell? ⟨bg, 0, none⟩ = some (.int .i64 t) → W.cell? ⟨bg, 1, none⟩ = some (.int .i64 a) → Calls Tryd.prog 75 #[.slice A p.length C, .func (.func 71) #[] #[.pointer (some ⟨bg, 0, none⟩)]] W fun e w' => e = .returned (.bool (q2)) ∧ Below W.heap.size W w') := fun hv W bg h hg hg1 => by
    rw [hq2]
    have ht := sigOk_of (hq1.symm.trans hv)
    exact everyi_any (atomB t) 71 #[.pointer (some ⟨bg, 0, none⟩)] (enters_of Tryd.func71 (by kernel_rfl) rfl) p (by omega) A C W (IntsL.of (hA.sees h)) (fun W2 x h2 _ => isAtom_any t a ht.1 ht.2.1 bg x W2 (kc h2 hg) (kc h2 hg1))
  have K3 : Hid (∀ (W : World) (bn bf : Nat), Sees w W → W.cell? ⟨bn, 0, none⟩ = some (.int .i64 (p.length : Int)) → W.cell? ⟨bf, 0, none⟩ = some (.func (.func 73) #[] #[.pointer (some ⟨bn, 0, none⟩)]) → Calls Tryd.prog 76 #[.slice B nx.length D, (.func (.func 74) #[] #[.pointer (some ⟨bn, 0, none⟩), .pointer (some ⟨bf, 0, none⟩)])] W fun e w' => e = .returned (.bool (q3)) ∧ Below W.heap.size W w') := fun W bn bf h hn hf => by
    rw [hq3]
    exact everyI_any (rowW p.length) 74 #[.pointer (some ⟨bn, 0, none⟩), .pointer (some ⟨bf, 0, none⟩)] (enters_of Tryd.func74 (by kernel_rfl) rfl) nx (by omega) B D W (ii_ok.below hB h) (fun W2 x B2 D2 h2 hx hl => isAct_any p.length (Int.natCast_nonneg _) bn bf x (Nat.le_trans (f3 x hx) (by decide)) B2 D2 W2 (kc h2 hn) (kc h2 hf) hl)
  obtain ⟨w0, hw0⟩ : ∃ w0, w0 = ((w.alloc (.cells #[.int .i64 t, .int .i64 a] 32)).alloc (.cells #[.slice A p.length C, .slice B nx.length D] 53)).alloc (.cells #[.int .i64 (p.length : Int)] 2) := ⟨_, rfl⟩
  have B0 : Sees w w0 := by rw [hw0]; exact (((Sees.refl w).alloc _).alloc _).alloc _
  have s0 : w0.cell? ⟨w.heap.size, 0, none⟩ = some (.int .i64 t) := by rw [hw0]; simp [go_sem]
  have s1 : w0.cell? ⟨w.heap.size, 1, none⟩ = some (.int .i64 a) := by rw [hw0]; simp [go_sem]
  have g0 : w0.cell? ⟨w.heap.size + 1, 0, none⟩ = some (.slice A p.length C) := by rw [hw0]; simp [go_sem]
  have g1 : w0.cell? ⟨w.heap.size + 1, 1, none⟩ = some (.slice B nx.length D) := by rw [hw0]; simp [go_sem]
  have gn : w0.cell? ⟨w.heap.size + 1 + 1, 0, none⟩ = some (.int .i64 (p.length : Int)) := by rw [hw0]; simp [go_sem]
  clear hq2 hq3 hA hB f1 f2 f3
  cases q1
  · have HD : Hid (validD t a p nx = false) := by show _ = _; rw [hvalid.out]; rfl
    clear hvalid hq1 K2 K3
    go_enter Tryd.func43, Tryd.ntmps43
    go_wp2_with fail
    rw [← hw0]
    refine (K1.out _).mono ?_
    rintro e w1 ⟨rfl, hb⟩
    have x0 := kc hb s0; have x1 := kc hb s1; have y0 := kc hb g0; have y1 := kc hb g1; have yn := kc hb gn
    have B1 : Sees w w1 := B0.below hb
    have z1 := hb.size
    clear hw0 g0 g1 gn s0 s1 hb B0
    go_wp2_with fail
    go_ret
    exact ⟨ret_bool HD.out.symm, B1⟩
  have hK2 := Lib.hid (K2.out rfl)
  clear K2 hq1
  by_cases hlo : (p.length : Int) < 1
  · have HD : Hid (validD t a p nx = false) := by show _ = _; rw [hvalid.out, show inB p.length 1 12 = false from by unfold inB; simp; omega]; rfl
    have t1 : decide ((p.length : Int) < 1) = true := decide_eq_true hlo
    clear hvalid hK2 K3
    go_enter Tryd.func43, Tryd.ntmps43
    go_wp2_with fail
    rw [← hw0]
    refine (K1.out _).mono ?_
    rintro e w1 ⟨rfl, hb⟩
    have x0 := kc hb s0; have x1 := kc hb s1; have y0 := kc hb g0; have y1 := kc hb g1; have yn := kc hb gn
    have B1 : Sees w w1 := B0.below hb
    have z1 := hb.size
    clear hw0 g0 g1 gn s0 s1 hb B0
    go_wp2_with fail
    go_ret
    exact ⟨ret_bool HD.out.symm, B1⟩
  have t1 : decide ((p.length : Int) < 1) = false := decide_eq_false hlo
  by_cases hhi : (12 : Int) < (p.length : Int)
  · have HD : Hid (validD t a p nx = false) := by show _ = _; rw [hvalid.out, show inB p.length 1 12 = false from by unfold inB; simp; omega]; rfl
    have t2 : decide ((12 : Int) < (p.length : Int)) = true := decide_eq_true hhi
    clear hvalid hK2 K3
    go_enter Tryd.func43, Tryd.ntmps43
    go_wp2_with fail
    rw [← hw0]
    refine (K1.out _).mono ?_
    rintro e w1 ⟨rfl, hb⟩
    have x0 := kc hb s0; have x1 := kc hb s1; have y0 := kc hb g0; have y1 := kc hb g1; have yn := kc hb gn
    have B1 : Sees w w1 := B0.below hb
    have z1 := hb.size
    clear hw0 g0 g1 gn s0 s1 hb B0
    go_wp2_with fail
    go_ret
    exact ⟨ret_bool HD.out.symm, B1⟩
  have t2 : decide ((12 : Int) < (p.length : Int)) = false := decide_eq_false hhi
  have hb18 : inB p.length 1 12 = true := by unfold inB; simp; omega
  rw [hb18] at hvalid
  by_cases hl1 : (nx.length : Int) = a
  case neg =>
    have HD : Hid (validD t a p nx = false) := by show _ = _; rw [hvalid.out, decide_eq_false hl1]; rfl
    have tn : ((nx.length : Int) != a) = true := by rw [bne_iff_ne]; exact hl1
    clear hvalid hb18 hl1 hK2 K3
    go_enter Tryd.func43, Tryd.ntmps43
    go_wp2_with fail
    rw [← hw0]
    refine (K1.out _).mono ?_
    rintro e w1 ⟨rfl, hb⟩
    have x0 := kc hb s0; have x1 := kc hb s1; have y0 := kc hb g0; have y1 := kc hb g1; have yn := kc hb gn
    have B1 : Sees w w1 := B0.below hb
    have z1 := hb.size
    clear hw0 g0 g1 gn s0 s1 hb B0
    go_wp2_with fail
    go_ret
    exact ⟨ret_bool HD.out.symm, B1⟩
  have tl1 : ((nx.length : Int) != a) = false := by simp [hl1]
  rw [decide_eq_true hl1] at hvalid
  clear hl1
  have HQ : Hid (validD t a p nx = (q2 && q3)) := by show _ = _; rw [hvalid.out]; rfl
  clear hvalid hb18
  cases q2
  · have HD : Hid (validD t a p nx = false) := by show _ = _; rw [HQ.out]; rfl
    clear HQ K3
    go_enter Tryd.func43, Tryd.ntmps43
    go_wp2_with fail
    rw [← hw0]
    refine (K1.out _).mono ?_
    rintro e w1 ⟨rfl, hb⟩
    have x0 := kc hb s0; have x1 := kc hb s1; have y0 := kc hb g0; have y1 := kc hb g1; have yn := kc hb gn
    have B1 : Sees w w1 := B0.below hb
    have z1 := hb.size
    clear hw0 g0 g1 gn s0 s1 hb B0
    have v0 := ka (.cells #[(.func (.func 73) #[] #[.pointer (some ⟨w.heap.size + 1 + 1, 0, none⟩)])] 128) x0; have v1 := ka (.cells #[(.func (.func 73) #[] #[.pointer (some ⟨w.heap.size + 1 + 1, 0, none⟩)])] 128) x1; have v2 := ka (.cells #[(.func (.func 73) #[] #[.pointer (some ⟨w.heap.size + 1 + 1, 0, none⟩)])] 128) y0; have v3 := ka (.cells #[(.func (.func 73) #[] #[.pointer (some ⟨w.heap.size + 1 + 1, 0, none⟩)])] 128) y1; have v4 := ka (.cells #[(.func (.func 73) #[] #[.pointer (some ⟨w.heap.size + 1 + 1, 0, none⟩)])] 128) yn
    obtain ⟨w2, hw2⟩ : ∃ w2, w2 = w1.alloc (.cells #[(.func (.func 73) #[] #[.pointer (some ⟨w.heap.size + 1 + 1, 0, none⟩)])] 128) := ⟨_, rfl⟩
    have B2 : Sees w w2 := by rw [hw2]; exact B1.alloc _
    have vf : w2.cell? ⟨w1.heap.size, 0, none⟩ = some (.func (.func 73) #[] #[.pointer (some ⟨w.heap.size + 1 + 1, 0, none⟩)]) := by rw [hw2]; simp [go_sem]
    clear z1
    go_wp2_with fail
    rw [← hw2]
    rw [← hw2] at v0 v1 v2 v3 v4
    refine (hK2.out _ w.heap.size B2 v0 v1).mono ?_
    rintro e w3 ⟨rfl, hb⟩
    have B3 := B2.below hb
    have yn3 := kc hb v4; have yf3 := kc hb vf; have yB3 := kc hb v3
    clear hb v0 v1 v2 v3 v4 vf x0 x1 y0 y1 yn hw2 B1 B2
    go_wp2_with fail
    go_ret
    exact ⟨ret_bool HD.out.symm, B3⟩
  · have HD : Hid (validD t a p nx = q3) := by show _ = _; rw [HQ.out]; rfl
    clear HQ
    go_enter Tryd.func43, Tryd.ntmps43
    go_wp2_with fail
    rw [← hw0]
    refine (K1.out _).mono ?_
    rintro e w1 ⟨rfl, hb⟩
    have x0 := kc hb s0; have x1 := kc hb s1; have y0 := kc hb g0; have y1 := kc hb g1; have yn := kc hb gn
    have B1 : Sees w w1 := B0.below hb
    have z1 := hb.size
    clear hw0 g0 g1 gn s0 s1 hb B0
    have v0 := ka (.cells #[(.func (.func 73) #[] #[.pointer (some ⟨w.heap.size + 1 + 1, 0, none⟩)])] 128) x0; have v1 := ka (.cells #[(.func (.func 73) #[] #[.pointer (some ⟨w.heap.size + 1 + 1, 0, none⟩)])] 128) x1; have v2 := ka (.cells #[(.func (.func 73) #[] #[.pointer (some ⟨w.heap.size + 1 + 1, 0, none⟩)])] 128) y0; have v3 := ka (.cells #[(.func (.func 73) #[] #[.pointer (some ⟨w.heap.size + 1 + 1, 0, none⟩)])] 128) y1; have v4 := ka (.cells #[(.func (.func 73) #[] #[.pointer (some ⟨w.heap.size + 1 + 1, 0, none⟩)])] 128) yn
    obtain ⟨w2, hw2⟩ : ∃ w2, w2 = w1.alloc (.cells #[(.func (.func 73) #[] #[.pointer (some ⟨w.heap.size + 1 + 1, 0, none⟩)])] 128) := ⟨_, rfl⟩
    have B2 : Sees w w2 := by rw [hw2]; exact B1.alloc _
    have vf : w2.cell? ⟨w1.heap.size, 0, none⟩ = some (.func (.func 73) #[] #[.pointer (some ⟨w.heap.size + 1 + 1, 0, none⟩)]) := by rw [hw2]; simp [go_sem]
    clear z1
    go_wp2_with fail
    rw [← hw2]
    rw [← hw2] at v0 v1 v2 v3 v4
    refine (hK2.out _ w.heap.size B2 v0 v1).mono ?_
    rintro e w3 ⟨rfl, hb⟩
    have B3 := B2.below hb
    have yn3 := kc hb v4; have yf3 := kc hb vf; have yB3 := kc hb v3
    clear hb v0 v1 v2 v3 v4 vf x0 x1 y0 y1 yn hw2 B1 B2
    go_wp2_with fail
    refine (K3.out _ (w.heap.size + 1 + 1) w1.heap.size B3 yn3 yf3).mono ?_
    rintro e w4 ⟨rfl, hb⟩
    have B4 := B3.below hb
    clear hb
    go_wp2_with fail
    go_ret
    exact ⟨ret_bool HD.out.symm, B4⟩
end Go.Proofs.YtlfafcbieeambaaDoor
