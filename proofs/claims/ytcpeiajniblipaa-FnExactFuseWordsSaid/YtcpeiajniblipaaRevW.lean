/- Contracts of spec.ReverseWord, impl.copyWord, impl.ReverseWord. -/
import Derived.Test.YtcpeiajniblipaaCat
import Derived.Test.YtcpeiajniblipaaRev
import Derived.Test.YtcpeiajniblipaaOwn
import Derived.Test.YtcpeiajniblipaaVWordI
import Derived.Deep.RegionHeld3
import Derived.Deep.DrawnRows
namespace Go.Proofs.Ytcpeiajniblipaa
open Go.RowKit
attribute [local go_sem ↓] Go.wp_at_zero Go.wp_at_succ

/-- What ReverseWord answers. -/
def revU (t a : Int) (p r : List Int) : List Int := if validW t a p r then p.reverse else []
def revV (t a : Int) (p r : List Int) : List Int := if validW t a p r then r.reverse else []
def revC (t a : Int) (p r : List Int) : Int := if validW t a p r then 0 else 1
theorem rev_no {t a : Int} {p r : List Int} (h : validW t a p r = false) : revU t a p r = [] ∧ revV t a p r = [] ∧ revC t a p r = 1 := by simp [revU, revV, revC, h]
theorem rev_yes {t a : Int} {p r : List Int} (h : validW t a p r = true) : revU t a p r = p.reverse ∧ revV t a p r = r.reverse ∧ revC t a p r = 0 := by simp [revU, revV, revC, h]

/-- How a call hands back a word and a code. -/
def WordEnd (u v : List Int) (q : Int) (w : World) (e : Ending) (w' : World) : Prop :=
  ∃ Z Y C D, e = .returned (.tuple #[.agg #[.slice Z u.length C, .slice Y v.length D], .int .i64 q]) ∧ WordIn w' u v w.heap.size w'.heap.size Z Y ∧ Below w.heap.size w w'
theorem box_facts {W : World} {b : Nat} {T : TypeId} {u v : Value} (h : W.heap[b]? = some (.cells #[u, v] T (0, 0))) :
    W.cell? ⟨b, 0, none⟩ = some u ∧ W.cell? ⟨b, 1, none⟩ = some v ∧ W.frozen? ⟨b, 0, none⟩ = false ∧ W.frozen? ⟨b, 1, none⟩ = false :=
  ⟨Fo.cell_of_block h 0, Fo.cell_of_block h 1, Fo.unfrozen_of_block h 0, Fo.unfrozen_of_block h 1⟩
theorem WordIn.empty {w : World} {lo hi : Nat} (h : lo ≤ hi) (A B : Option Addr) : WordIn w [] [] lo hi A B := ⟨lo, Or.inl ⟨rfl, Nat.le_refl _⟩, Or.inl ⟨rfl, h⟩⟩

set_option maxHeartbeats 2000000 in
set_option maxRecDepth 100000 in
theorem specReverseWord_any (t a : Int) (p r : List Int) (h0 : p.length + r.length ≤ 1048576) (A B : Option Addr) (C D : Nat) (w : World) (hl : Ints w p A) (hr : Ints w r B) :
    Calls Try.prog 30 #[.agg #[.int .i64 t, .int .i64 a], .agg #[.slice A p.length C, .slice B r.length D]] w (WordEnd (revU t a p r) (revV t a p r) (revC t a p r) w) := by
  obtain ⟨q1, hq1⟩ : ∃ q1 : Bool, q1 = validW t a p r := ⟨_, rfl⟩
  have K1 : Hid (∀ W : World, St w [(w.heap.size, 0, .int .i64 t), (w.heap.size, 1, .int .i64 a), (w.heap.size + 1, 0, .slice A p.length C), (w.heap.size + 1, 1, .slice B r.length D)] W → Calls Try.prog 63 #[.agg #[.int .i64 t, .int .i64 a], .pointer (some ⟨w.heap.size + 1, 0, none⟩)] W fun e w' => e = .returned (.bool q1) ∧ Below W.heap.size W w') :=
    fun W h => by rw [hq1]; exact l01Word_any p r h0 t a A B C D (w.heap.size + 1) 0 W (hl.sees h.1) (hr.sees h.1) h.2.2.2.1 h.2.2.2.2.1
  cases q1
  · obtain ⟨e1, e2, e3⟩ := rev_no hq1.symm
    rw [e1, e2, e3]
    clear e1 e2 e3 hq1
    go_enter Try.func30, Try.ntmps30
    go_wp2_with fail
    refine (K1.out _ ⟨(by unfold Sees; go_grown), (by simp [go_sem]), (by simp [go_sem]), (by simp [go_sem]), (by simp [go_sem]), trivial⟩).mono ?_
    rintro e w1 ⟨rfl, hb⟩
    have B1 : Sees w w1 := Sees.below (by unfold Sees; go_grown) hb
    have k2 : w1.heap[w.heap.size + 1 + 1]? = some (.cells #[.slice none 0 0, .slice none 0 0] 47 (0, 0)) := by
      refine (hb.block _ (by simp)).trans ?_
      exact heap_new _ _ _ (by simp)
    have r20 : w1.cell? ⟨w.heap.size + 1 + 1, 0, none⟩ = some (.slice none 0 0) := Fo.cell_of_block k2 0
    have r21 : w1.cell? ⟨w.heap.size + 1 + 1, 1, none⟩ = some (.slice none 0 0) := Fo.cell_of_block k2 1
    have z20 : w1.frozen? ⟨w.heap.size + 1 + 1, 0, none⟩ = false := Fo.unfrozen_of_block k2 0
    have z21 : w1.frozen? ⟨w.heap.size + 1 + 1, 1, none⟩ = false := Fo.unfrozen_of_block k2 1
    have y1 : w.heap.size + 1 + 1 < w1.heap.size := by have := hb.size; simp at this; omega
    clear hb k2
    go_wp2_with fail
    refine bodyPost_ret (v := .tuple #[.agg #[.slice none 0 0, .slice none 0 0], .int .i64 1]) (by simp [results, Try.results30, go_sem, r20, r21]) rfl ⟨none, none, 0, 0, rfl, WordIn.empty (by simp; omega) _ _, ?_⟩
    go_grown
    exact B1
  · obtain ⟨e1, e2, e3⟩ := rev_yes hq1.symm
    rw [e1, e2, e3]
    clear e1 e2 e3 hq1
    have KP : Hid (∀ W : World, Sees w W → Calls Try.prog 66 #[.slice A p.length C] W fun e w' => ∃ A' C', e = .returned (.slice A' p.length C') ∧ IntsIn w' p.reverse W.heap.size w'.heap.size A' ∧ Below W.heap.size W w') := fun W h => l01Back_any p (by omega) A C W (hl.sees h)
    have KR : Hid (∀ W : World, Sees w W → Calls Try.prog 66 #[.slice B r.length D] W fun e w' => ∃ A' C', e = .returned (.slice A' r.length C') ∧ IntsIn w' r.reverse W.heap.size w'.heap.size A' ∧ Below W.heap.size W w') := fun W h => l01Back_any r (by omega) B D W (hr.sees h)
    go_enter Try.func30, Try.ntmps30
    go_wp2_with fail
    refine (K1.out _ ⟨(by unfold Sees; go_grown), (by simp [go_sem]), (by simp [go_sem]), (by simp [go_sem]), (by simp [go_sem]), trivial⟩).mono ?_
    rintro e w1 ⟨rfl, hb⟩
    have B1 : Sees w w1 := Sees.below (by unfold Sees; go_grown) hb
    have x0 : w1.cell? ⟨w.heap.size + 1, 0, none⟩ = some (.slice A p.length C) := kc hb (by simp [go_sem])
    have x1 : w1.cell? ⟨w.heap.size + 1, 1, none⟩ = some (.slice B r.length D) := kc hb (by simp [go_sem])
    have k2 : w1.heap[w.heap.size + 1 + 1]? = some (.cells #[.slice none 0 0, .slice none 0 0] 47 (0, 0)) := by
      refine (hb.block _ (by simp)).trans ?_
      exact heap_new _ _ _ (by simp)
    have y1 : w.heap.size + 1 + 1 < w1.heap.size := by have := hb.size; simp at this; omega
    have HK := Lib.hid k2
    obtain ⟨r0, r1, z0, z1⟩ := box_facts k2
    clear hb K1 k2
    go_wp2_with fail
    go_region_held3 (fun w' => w'.cell? ⟨w.heap.size + 1, 0, none⟩ = some (.slice A p.length C) ∧ w'.cell? ⟨w.heap.size + 1, 1, none⟩ = some (.slice B r.length D))
      (first | exact S3 | exact S2 | (go_keep; done))
      (first
        | (go_at_call_of 66 (Value.slice A p.length C); refine (KP.out _ ?_).mono ?_; (first | exact B1 | exact B1.drew); rintro e w2 ⟨Z, C2, rfl, IP, hbP⟩; have k3 := (hbP.block (w.heap.size + 1 + 1) y1).trans HK.out; have S2 := And.intro (kc hbP x0) (kc hbP x1))
        | (go_at_call_of 66 (Value.slice B r.length D); refine (KR.out _ ?_).mono ?_; (first | exact B1.below hbP | exact (B1.drew).below hbP); rintro e w3 ⟨Y, D3, rfl, IR, hbR⟩; have k4 := (hbR.block (w.heap.size + 1 + 1) (Nat.lt_of_lt_of_le y1 hbP.size)).trans k3; have S3 := And.intro (kc hbR S2.1) (kc hbR S2.2); obtain ⟨r30, r31, z30, z31⟩ := box_facts k4))
    have u2 : w1.heap.size ≤ w2.heap.size := hbP.size
    have u3 : w2.heap.size ≤ w3.heap.size := hbR.size
    have HP : Hid (IntsIn w3 p.reverse w1.heap.size w2.heap.size Z) := IP.agree (Fo.Agree.of_below (hbR.mono (by first | exact Nat.le_refl _ | simp)))
    have HR : Hid (IntsIn w3 r.reverse w2.heap.size w3.heap.size Y) := IR
    have HB : Hid (Below w.heap.size w w3) := by first | exact (B1.below hbP).below hbR | exact (B1.drew.below hbP).below hbR
    have HK3 := Lib.hid k4
    clear IP IR hbP hbR S2 S3 k3 k4 x0 x1 r0 r1 z0 z1 r30 r31 z30 z31 B1
    go_wp2_with fail
    obtain ⟨j, hj⟩ : ∃ j, j = (w3.setCell ⟨w.heap.size + 1 + 1, 0, none⟩ (.slice Z p.length C2)).setCell ⟨w.heap.size + 1 + 1, 1, none⟩ (.slice Y r.length D3) := ⟨_, rfl⟩
    have q2 : j.heap[w.heap.size + 1 + 1]? = some (.cells #[.slice Z p.length C2, .slice Y r.length D3] 47 (0, 0)) := by
      rw [hj, Fo.block_setCell (Fo.block_setCell HK3.out _) _]
      rfl
    have HA : Fo.Agree w3 j (w.heap.size + 1 + 1 + 1) w3.heap.size := by
      rw [hj]
      exact Fo.Agree.setCell (Fo.Agree.setCell (Fo.Agree.refl _ _ _) _ (Or.inl (by simp)) _) _ (Or.inl (by simp)) _
    have HB2 : Below w.heap.size w j := by
      rw [hj]
      exact (HB.out.setCell (by simp; omega) _).setCell (by simp; omega) _
    have hs : j.heap.size = w3.heap.size := by rw [hj]; simp
    rw [← hj]
    clear hj
    obtain ⟨q20, q21, _, _⟩ := box_facts q2
    refine bodyPost_ret (v := .tuple #[.agg #[.slice Z p.length C2, .slice Y r.length D3], .int .i64 0]) (by simp [results, Try.results30, go_sem, q20, q21]) rfl ⟨Z, Y, C2, D3, by simp, ⟨w2.heap.size, ?_, ?_⟩, HB2⟩
    · exact (HP.out.agree (HA.mono (by omega) u3)).mono (by omega) (Nat.le_refl _)
    · rw [hs]
      exact HR.out.agree (HA.mono (by omega) (Nat.le_refl _))

theorem rows_one {w : World} {xs : List Int} {b : Nat} {A : Option Addr} {C : Nat} (h : w.cell? ⟨b, 0, none⟩ = some (.slice A xs.length C)) (hi : Ints w xs A) : Rows2 w [xs] b := by
  intro i hlt
  have hi0 : i = 0 := by simpa using hlt
  subst hi0
  exact ⟨A, C, h, hi⟩
theorem concat_one (xs : List Int) (hx : xs.length ≤ 1048576) (b : Nat) (A : Option Addr) (C : Nat) (w : World) (h : w.cell? ⟨b, 0, none⟩ = some (.slice A xs.length C)) (hi : Ints w xs A) :
    Calls Try.prog 72 #[.slice (some ⟨b, 0, none⟩) 1 1] w fun e w' => ∃ A' C', e = .returned (.slice A' xs.length C') ∧ IntsIn w' xs w.heap.size w'.heap.size A' ∧ Below w.heap.size w w' := by
  have := concat_any [xs] (by simpa using Nat.le_trans hx (by omega)) (by simp) b 1 w (rows_one h hi)
  simpa using this

set_option maxHeartbeats 2000000 in
set_option maxRecDepth 100000 in
theorem copyWord_any (p r : List Int) (hp : p.length ≤ 1048576) (hq : r.length ≤ 1048576) (A B : Option Addr) (C D : Nat) (w : World) (hl : Ints w p A) (hr : Ints w r B) :
    Calls Try.prog 67 #[.agg #[.slice A p.length C, .slice B r.length D]] w fun e w' => ∃ Z Y C2 D2, e = .returned (.agg #[.slice Z p.length C2, .slice Y r.length D2]) ∧ WordIn w' p r w.heap.size w'.heap.size Z Y ∧ Below w.heap.size w w' := by
  have KP : Hid (∀ (W : World) (b : Nat), Sees w W → W.cell? ⟨b, 0, none⟩ = some (.slice A p.length C) → Calls Try.prog 72 #[.slice (some ⟨b, 0, none⟩) 1 1] W fun e w' => ∃ A' C', e = .returned (.slice A' p.length C') ∧ IntsIn w' p W.heap.size w'.heap.size A' ∧ Below W.heap.size W w') := fun W b h hc => concat_one p hp b A C W hc (hl.sees h)
  have KR : Hid (∀ (W : World) (b : Nat), Sees w W → W.cell? ⟨b, 0, none⟩ = some (.slice B r.length D) → Calls Try.prog 72 #[.slice (some ⟨b, 0, none⟩) 1 1] W fun e w' => ∃ A' C', e = .returned (.slice A' r.length C') ∧ IntsIn w' r W.heap.size w'.heap.size A' ∧ Below W.heap.size W w') := fun W b h hc => concat_one r hq b B D W hc (hr.sees h)
  go_enter Try.func67, Try.ntmps67
  go_wp2_with fail
  go_region_held3 (fun w' => w'.cell? ⟨w.heap.size, 0, none⟩ = some (.slice A p.length C) ∧ w'.cell? ⟨w.heap.size, 1, none⟩ = some (.slice B r.length D))
    (first | exact S3 | exact S2 | (go_keep; done) | exact S2.alloc)
    (first
      | (go_at_call 72; refine (KP.out _ _ ?_ ?_).mono ?_; (show Below _ _ _; repeat (first | exact Below.refl _ _ | exact B2 | refine Below.setCell ?_ (by first | (simp; done) | (simp; omega)) _ | refine Below.alloc ?_ (by first | (simp; done) | (simp; omega) | exact B2.size) _ | refine Below.drew ?_)); (· simp [go_sem]); rintro e w2 ⟨Z, C2, rfl, IP, hbP⟩; have y2 : w.heap.size + 1 < w2.heap.size := (by have := hbP.size; simp at this; omega); have k3 : w2.heap[w.heap.size + 1]? = some (.cells #[.slice none 0 0, .slice none 0 0] 47 (0, 0)) := (hbP.block (w.heap.size + 1) (by simp)).trans (by first | exact (Below.heap_alloc _ _ _ (by simp)).trans (heap_new _ _ _ (by simp)) | exact (Below.heap_alloc _ _ _ (by simp)).trans ((Below.heap_alloc _ _ _ (by simp)).trans (heap_new _ _ _ (by simp)))); have B2 : Below w.heap.size w w2 := Sees.below (by (show Below _ _ _; repeat (first | exact Below.refl _ _ | exact B2 | refine Below.setCell ?_ (by first | (simp; done) | (simp; omega)) _ | refine Below.alloc ?_ (by first | (simp; done) | (simp; omega) | exact B2.size) _ | refine Below.drew ?_))) hbP; have S2 := And.intro (kc hbP (b := w.heap.size) (o := 0) (v := .slice A p.length C) (by simp [go_sem])) (kc hbP (b := w.heap.size) (o := 1) (v := .slice B r.length D) (by simp [go_sem])))
      | (go_at_call 72; refine (KR.out _ _ ?_ ?_).mono ?_; (show Below _ _ _; repeat (first | exact Below.refl _ _ | exact B2 | refine Below.setCell ?_ (by first | (simp; done) | (simp; omega)) _ | refine Below.alloc ?_ (by first | (simp; done) | (simp; omega) | exact B2.size) _ | refine Below.drew ?_)); (first | (· simp [go_sem]) | (· exact kc hbP (by simp [go_sem]))); rintro e w3 ⟨Y, D3, rfl, IR, hbR⟩; have k4 : w3.heap[w.heap.size + 1]? = some (.cells #[.slice none 0 0, .slice none 0 0] 47 (0, 0)) := (hbR.block (w.heap.size + 1) (by first | exact y2 | (simp; omega))).trans (by first | exact k3 | exact (Below.heap_alloc _ _ _ y2).trans k3); obtain ⟨r30, r31, z30, z31⟩ := box_facts k4; have B3 : Below w.heap.size w w3 := Sees.below (by (show Below _ _ _; repeat (first | exact Below.refl _ _ | exact B2 | refine Below.setCell ?_ (by first | (simp; done) | (simp; omega)) _ | refine Below.alloc ?_ (by first | (simp; done) | (simp; omega) | exact B2.size) _ | refine Below.drew ?_))) hbR; have S3 := And.intro (kc hbR (b := w.heap.size) (o := 0) (v := .slice A p.length C) (by first | exact S2.1 | exact ka _ S2.1)) (kc hbR (b := w.heap.size) (o := 1) (v := .slice B r.length D) (by first | exact S2.2 | exact ka _ S2.2))))
  all_goals
    have u3 : w2.heap.size ≤ w3.heap.size := by have := hbR.size; (try simp at this); omega
    have HAG : Fo.Agree w2 w3 (w.heap.size + 1 + 1) w2.heap.size := fun k _ hk => by first | exact hbR.block k hk | exact (hbR.block k (by simp; omega)).trans (Below.heap_alloc _ _ _ hk)
    have HP : Hid (IntsIn w3 p (w.heap.size + 1 + 1) w2.heap.size Z) := (IP.mono (by first | exact Nat.le_refl _ | simp) (Nat.le_refl _)).agree HAG
    have HR : Hid (IntsIn w3 r w2.heap.size w3.heap.size Y) := IR.mono (by first | exact Nat.le_refl _ | simp) (Nat.le_refl _)
    have HB := Lib.hid B3
    have HK3 := Lib.hid k4
    clear IP IR hbP hbR S2 S3 k3 k4 r30 r31 z30 z31 B2 B3 HAG
    go_wp2_with fail
    obtain ⟨j, hj⟩ : ∃ j, j = (w3.setCell ⟨w.heap.size + 1, 0, none⟩ (.slice Z p.length C2)).setCell ⟨w.heap.size + 1, 1, none⟩ (.slice Y r.length D3) := ⟨_, rfl⟩
    have q2 : j.heap[w.heap.size + 1]? = some (.cells #[.slice Z p.length C2, .slice Y r.length D3] 47 (0, 0)) := by
      rw [hj, Fo.block_setCell (Fo.block_setCell HK3.out _) _]
      rfl
    have HA : Fo.Agree w3 j (w.heap.size + 1 + 1) w3.heap.size := by
      rw [hj]
      exact Fo.Agree.setCell (Fo.Agree.setCell (Fo.Agree.refl _ _ _) _ (Or.inl (by simp)) _) _ (Or.inl (by simp)) _
    have HB2 : Below w.heap.size w j := by
      rw [hj]
      exact (HB.out.setCell (by simp) _).setCell (by simp) _
    have hs : j.heap.size = w3.heap.size := by rw [hj]; simp
    rw [← hj]
    clear hj
    obtain ⟨q20, q21, _, _⟩ := box_facts q2
    refine bodyPost_ret (v := .agg #[.slice Z p.length C2, .slice Y r.length D3]) (by simp [results, Try.results67, go_sem, q20, q21]) rfl ⟨Z, Y, C2, D3, rfl, ⟨w2.heap.size, ?_, ?_⟩, HB2⟩
    · exact (HP.out.agree (HA.mono (by omega) u3)).mono (by omega) (Nat.le_refl _)
    · rw [hs]
      exact HR.out.agree (HA.mono (by omega) (Nat.le_refl _))

set_option maxHeartbeats 2000000 in
set_option maxRecDepth 100000 in
theorem implReverseWord_any (t a : Int) (p r : List Int) (h0 : p.length + r.length ≤ 1048576) (A B : Option Addr) (C D : Nat) (w : World) (hl : Ints w p A) (hr : Ints w r B) :
    Calls Try.prog 31 #[.agg #[.int .i64 t, .int .i64 a], .agg #[.slice A p.length C, .slice B r.length D]] w (WordEnd (revU t a p r) (revV t a p r) (revC t a p r) w) := by
  obtain ⟨q1, hq1⟩ : ∃ q1 : Bool, q1 = validW t a p r := ⟨_, rfl⟩
  have K1 : Hid (∀ W : World, Sees w W → Calls Try.prog 28 #[.agg #[.int .i64 t, .int .i64 a], .agg #[.slice A p.length C, .slice B r.length D]] W fun e w' => e = .returned (.bool q1) ∧ Below W.heap.size W w') :=
    fun W h => by rw [hq1]; exact implValidWord_any t a p r h0 A B C D W (hl.sees h) (hr.sees h)
  have HS := Lib.hid (show p.length ≤ 1048576 ∧ r.length ≤ 1048576 from ⟨by omega, by omega⟩)
  cases q1
  · obtain ⟨e1, e2, e3⟩ := rev_no hq1.symm
    rw [e1, e2, e3]
    clear e1 e2 e3 hq1
    go_enter Try.func31, Try.ntmps31
    go_wp2_with fail
    refine (K1.out _ (by unfold Sees; go_grown)).mono ?_
    rintro e w1 ⟨rfl, hb⟩
    have B1 : Sees w w1 := Sees.below (by unfold Sees; go_grown) hb
    have k2 : w1.heap[w.heap.size + 1 + 1]? = some (.cells #[.slice none 0 0, .slice none 0 0] 47 (0, 0)) := by
      refine (hb.block _ (by simp)).trans ?_
      exact heap_new _ _ _ (by simp)
    obtain ⟨r20, r21, z20, z21⟩ := box_facts k2
    have y1 : w.heap.size + 1 + 1 < w1.heap.size := by have := hb.size; simp at this; omega
    clear hb k2
    go_wp2_with fail
    refine bodyPost_ret (v := .tuple #[.agg #[.slice none 0 0, .slice none 0 0], .int .i64 1]) (by simp [results, Try.results31, go_sem, r20, r21]) rfl ⟨none, none, 0, 0, rfl, WordIn.empty (by simp; omega) _ _, ?_⟩
    go_grown
    exact B1
  · obtain ⟨e1, e2, e3⟩ := rev_yes hq1.symm
    rw [e1, e2, e3]
    clear e1 e2 e3 hq1
    have K2 : Hid (∀ W : World, Sees w W → Calls Try.prog 67 #[.agg #[.slice A p.length C, .slice B r.length D]] W fun e w' => ∃ Z Y C2 D2, e = .returned (.agg #[.slice Z p.length C2, .slice Y r.length D2]) ∧ WordIn w' p r W.heap.size w'.heap.size Z Y ∧ Below W.heap.size W w') :=
      fun W h => copyWord_any p r HS.out.1 HS.out.2 A B C D W (hl.sees h) (hr.sees h)
    go_enter Try.func31, Try.ntmps31
    go_wp2_with fail
    refine (K1.out _ (by unfold Sees; go_grown)).mono ?_
    rintro e w1 ⟨rfl, hb⟩
    have B1 : Sees w w1 := Sees.below (by unfold Sees; go_grown) hb
    have x0 : w1.cell? ⟨w.heap.size + 1, 0, none⟩ = some (.slice A p.length C) := kc hb (by simp [go_sem])
    have x1 : w1.cell? ⟨w.heap.size + 1, 1, none⟩ = some (.slice B r.length D) := kc hb (by simp [go_sem])
    have k2 : w1.heap[w.heap.size + 1 + 1]? = some (.cells #[.slice none 0 0, .slice none 0 0] 47 (0, 0)) := by
      refine (hb.block _ (by simp)).trans ?_
      exact heap_new _ _ _ (by simp)
    have y1 : w.heap.size + 1 + 1 < w1.heap.size := by have := hb.size; simp at this; omega
    have HK := Lib.hid k2
    clear hb k2
    go_wp2_with fail
    refine (K2.out _ B1).mono ?_
    rintro e w2 ⟨Z, Y, C2, D2, rfl, ⟨m, I1, I2⟩, hb⟩
    have B2 : Sees w w2 := Sees.below B1 hb
    have l1 := I1.le
    have l2 := I2.le
    have k3 : w2.heap[w.heap.size + 1 + 1]? = some (.cells #[.slice none 0 0, .slice none 0 0] 47 (0, 0)) := (hb.block _ y1).trans HK.out
    have HI1 := Lib.hid I1; have HI2 := Lib.hid I2; have HB2 := Lib.hid B2; have HK3 := Lib.hid k3
    clear hb x0 x1 I1 I2 B1 B2 k3 HK
    have R1 : Hid (∀ W : World, IntsIn W p w1.heap.size m Z → Calls Try.prog 68 #[.slice Z p.length C2] W fun e w' => e = .returned (.tuple #[]) ∧ IntsIn w' p.reverse w1.heap.size m Z ∧ ButIn w1.heap.size m W w') :=
      fun W h => reverse_any p (by have := HS.out.1; omega) _ _ Z C2 W h
    have R2 : Hid (∀ W : World, IntsIn W r m w2.heap.size Y → Calls Try.prog 68 #[.slice Y r.length D2] W fun e w' => e = .returned (.tuple #[]) ∧ IntsIn w' r.reverse m w2.heap.size Y ∧ ButIn m w2.heap.size W w') :=
      fun W h => reverse_any r (by have := HS.out.2; omega) _ _ Y D2 W h
    have k5 : (w2.alloc (.cells #[.slice Z p.length C2, .slice Y r.length D2] 47)).heap[w2.heap.size]? = some (.cells #[.slice Z p.length C2, .slice Y r.length D2] 47 (0, 0)) := heap_new _ _ _ rfl
    have k6 : (w2.alloc (.cells #[.slice Z p.length C2, .slice Y r.length D2] 47)).heap[w.heap.size + 1 + 1]? = some (.cells #[.slice none 0 0, .slice none 0 0] 47 (0, 0)) := (Below.heap_alloc _ _ _ (by omega)).trans HK3.out
    have I1 : IntsIn (w2.alloc (.cells #[.slice Z p.length C2, .slice Y r.length D2] 47)) p w1.heap.size m Z := HI1.out.agree (fun k _ h => Below.heap_alloc _ _ _ (by omega))
    have I2 : IntsIn (w2.alloc (.cells #[.slice Z p.length C2, .slice Y r.length D2] 47)) r m w2.heap.size Y := HI2.out.agree (fun k _ h => Below.heap_alloc _ _ _ (by omega))
    have B3 : Below w.heap.size w (w2.alloc (.cells #[.slice Z p.length C2, .slice Y r.length D2] 47)) := Below.alloc HB2.out HB2.out.size _
    have y0 : w.heap.size ≤ w2.heap.size := HB2.out.size
    have y5 : (w2.alloc (.cells #[.slice Z p.length C2, .slice Y r.length D2] 47)).heap.size = w2.heap.size + 1 := by simp
    obtain ⟨W3, hW3⟩ : ∃ W3, W3 = w2.alloc (.cells #[.slice Z p.length C2, .slice Y r.length D2] 47) := ⟨_, rfl⟩
    rw [← hW3] at k5 k6 I1 I2 B3 y5
    have HW := Lib.hid hW3; clear hW3
    have HI3 := Lib.hid I1; have HI4 := Lib.hid I2; have HB3 := Lib.hid B3; have HY5 := Lib.hid y5
    clear HI1 HI2 HB2 HK3 I1 I2 B3 y5
    have HK5 := Lib.hid k5; have HK6 := Lib.hid k6; clear k5 k6
    go_wp2_with fail
    refine (R1.out _ (by rw [← HW.out]; exact HI3.out)).mono ?_
    rw [← HW.out]
    rintro e w4 ⟨rfl, J1, hb⟩
    have J2 : IntsIn w4 r m w2.heap.size Y := HI4.out.agree (fun k a b => hb.block k (by have := HY5.out; omega) (Or.inr a))
    have k7 := (hb.block w2.heap.size (by have := HY5.out; omega) (Or.inr l2)).trans HK5.out
    have k8 := (hb.block (w.heap.size + 1 + 1) (by have := HY5.out; omega) (Or.inl (by omega))).trans HK6.out
    have B4 : Below w.heap.size w w4 := Below.trans HB3.out (hb.below (by omega) HB3.out.size)
    have y6 : w2.heap.size + 1 ≤ w4.heap.size := by have := hb.size; have := HY5.out; omega
    obtain ⟨f0, f1, _, _⟩ := box_facts k7
    have HJ1 := Lib.hid J1; have HJ2 := Lib.hid J2; have HK7 := Lib.hid k7; have HK8 := Lib.hid k8; have HB4 := Lib.hid B4
    clear hb J1 J2 k7 k8 B4 HI3 HI4 HB3 HK5 HK6 R1 HW HY5
    go_wp2_with fail
    refine (R2.out _ HJ2.out).mono ?_
    rintro e w5 ⟨rfl, J2, hb⟩
    have J1 : IntsIn w5 p.reverse w1.heap.size m Z := HJ1.out.agree (fun k a b => hb.block k (by omega) (Or.inl b))
    have k7 := (hb.block w2.heap.size (by omega) (Or.inr (Nat.le_refl _))).trans HK7.out
    have k8 := (hb.block (w.heap.size + 1 + 1) (by omega) (Or.inl (by omega))).trans HK8.out
    have B5 : Below w.heap.size w w5 := Below.trans HB4.out (hb.below (by omega) HB4.out.size)
    have y7 : w2.heap.size + 1 ≤ w5.heap.size := by have := hb.size; omega
    clear f0 f1
    obtain ⟨f0, f1, _, _⟩ := box_facts k7
    obtain ⟨g0, g1, z0, z1⟩ := box_facts k8
    have HJ3 := Lib.hid J1; have HJ4 := Lib.hid J2; have HK9 := Lib.hid k8; have HB5 := Lib.hid B5
    clear hb J1 J2 k7 k8 B5 HJ1 HJ2 HK7 HK8 HB4 R2
    go_wp2_with fail
    obtain ⟨j, hj⟩ : ∃ j, j = (w5.setCell ⟨w.heap.size + 1 + 1, 0, none⟩ (.slice Z p.length C2)).setCell ⟨w.heap.size + 1 + 1, 1, none⟩ (.slice Y r.length D2) := ⟨_, rfl⟩
    have q2 : j.heap[w.heap.size + 1 + 1]? = some (.cells #[.slice Z p.length C2, .slice Y r.length D2] 47 (0, 0)) := by
      rw [hj, Fo.block_setCell (Fo.block_setCell HK9.out _) _]
      rfl
    have HA : Fo.Agree w5 j (w.heap.size + 1 + 1 + 1) w5.heap.size := by
      rw [hj]
      exact Fo.Agree.setCell (Fo.Agree.setCell (Fo.Agree.refl _ _ _) _ (Or.inl (by simp)) _) _ (Or.inl (by simp)) _
    have HB6 : Below w.heap.size w j := by
      rw [hj]
      exact (HB5.out.setCell (by simp; omega) _).setCell (by simp; omega) _
    have hs : j.heap.size = w5.heap.size := by rw [hj]; simp
    rw [← hj]
    clear hj
    obtain ⟨q20, q21, _, _⟩ := box_facts q2
    refine bodyPost_ret (v := .tuple #[.agg #[.slice Z p.length C2, .slice Y r.length D2], .int .i64 0]) (by simp [results, Try.results31, go_sem, q20, q21]) rfl ⟨Z, Y, C2, D2, by simp, ⟨m, ?_, ?_⟩, HB6⟩
    · exact (HJ3.out.agree (HA.mono (by omega) (by omega))).mono (by omega) (Nat.le_refl _)
    · rw [hs]
      exact (HJ4.out.agree (HA.mono (by omega) (by omega))).mono (Nat.le_refl _) (by omega)
end Go.Proofs.Ytcpeiajniblipaa
