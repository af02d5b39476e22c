/- Copies of models and costs, as the laws make them: in blocks of their own. -/
import Derived.Test.YtcgbepmhfimbjaaFpC
import Derived.Test.YtcgbepmhfimbjaaCos
namespace Go.Proofs.Ytcgbepmhfimbjaa
open Go.RowKit

theorem foot_set {α : Type} {Q : World → α → Option Addr → FP → Prop} (hQ : FootOk Q) {w : World} {x : α} {A : Option Addr} {F : FP} {b i : Nat} (h : Q w x A F) (hb : ¬ F b) (v : Value) : Q (w.setCell ⟨b, i, none⟩ v) x A F :=
  hQ.keep h fun k hk => Below.heap_setCell _ _ _ _ (fun he => hb (by have he2 : b = k := he.symm; rw [he2]; exact hk))
/-- Two lists in blocks of their own, from lo on, below hi. -/
def TwoF {α β : Type} (Q : World → α → Option Addr → FP → Prop) (R : World → β → Option Addr → FP → Prop) (W : World) (x : α) (y : β) (lo hi : Nat) (A B : Option Addr) : Prop :=
  lo ≤ hi ∧ ∃ F G : FP, Q W x A F ∧ R W y B G ∧ (∀ k, F k → rng lo hi k) ∧ (∀ k, G k → rng lo hi k) ∧ ∀ k, F k → G k → False
abbrev ModF := TwoF BBF BBBF
abbrev CosF := TwoF BBF IIIF
abbrev AutF := TwoF BBF IIIF
theorem TwoF.agree {α β : Type} {Q : World → α → Option Addr → FP → Prop} {R : World → β → Option Addr → FP → Prop} (hQ : FootOk Q) (hR : FootOk R) {W W' : World} {x : α} {y : β} {lo hi : Nat} {A B : Option Addr} (h : TwoF Q R W x y lo hi A B) (ha : Fo.Agree W W' lo hi) : TwoF Q R W' x y lo hi A B :=
  let ⟨hl, F, G, h1, h2, h3, h4, h5⟩ := h
  ⟨hl, F, G, hQ.keep h1 fun k hk => ha k (h3 k hk).1 (h3 k hk).2, hR.keep h2 fun k hk => ha k (h4 k hk).1 (h4 k hk).2, h3, h4, h5⟩
theorem ModF.lie1 {W : World} {ac : List (List Bool)} {nx : List (List (List Bool))} {lo hi : Nat} {A B : Option Addr} (h : ModF W ac nx lo hi A B) : BB 0 W ac A := let ⟨_, _, _, h1, _⟩ := h; BBF.lay h1 fun _ _ => Nat.zero_le _
theorem ModF.lie2 {W : World} {ac : List (List Bool)} {nx : List (List (List Bool))} {lo hi : Nat} {A B : Option Addr} (h : ModF W ac nx lo hi A B) : BBB 0 W nx B := let ⟨_, _, _, _, h2, _⟩ := h; BBBF.lay h2 fun _ _ => Nat.zero_le _
theorem CosF.lie1 {W : World} {ac : List (List Bool)} {nx : List (List (List Int))} {lo hi : Nat} {A B : Option Addr} (h : CosF W ac nx lo hi A B) : BB 0 W ac A := let ⟨_, _, _, h1, _⟩ := h; BBF.lay h1 fun _ _ => Nat.zero_le _
theorem CosF.lie2 {W : World} {ac : List (List Bool)} {nx : List (List (List Int))} {lo hi : Nat} {A B : Option Addr} (h : CosF W ac nx lo hi A B) : III 0 W nx B := let ⟨_, _, _, _, h2, _⟩ := h; IIIF.lay h2 fun _ _ => Nat.zero_le _

set_option maxHeartbeats 2000000 in
set_option maxRecDepth 100000 in
theorem toModelF (t a p : Int) (ac : List (List Bool)) (nx : List (List (List Bool))) (hs : SmallM ac nx) (A B : Option Addr) (C D : Nat) (w : World) (hA : BB 0 w ac A) (hB : BBB 0 w nx B) :
    Calls Try.prog 12 #[.agg #[.int .i64 t, .int .i64 a, .int .i64 p, .slice A ac.length C, .slice B nx.length D]] w fun e w' => ∃ Z Y, e = .returned (.agg #[.int .i64 t, .int .i64 a, .int .i64 p, .slice Z ac.length ac.length, .slice Y nx.length nx.length]) ∧ ModF w' ac nx w.heap.size w'.heap.size Z Y ∧ Below w.heap.size w w' := by
  obtain ⟨f1, f2, f3, f4⟩ := hs
  have K0 : Hid (∀ W : World, Calls Try.prog 20 #[.agg #[.int .i64 t, .int .i64 a]] W fun e w' => e = .returned (.agg #[.int .i64 t, .int .i64 a]) ∧ Below W.heap.size W w') := fun W => toSig_any t a W
  have K1 : Hid (∀ W : World, Sees w W → Calls Try.prog 63 #[.slice A ac.length C] W fun e w' => ∃ A', e = .returned (.slice A' ac.length ac.length) ∧ BBF w' ac A' (rng W.heap.size w'.heap.size) ∧ Below W.heap.size W w') := fun W h => toBoolSSF ac f1 f2 A C W (bb_ok.below hA h)
  have K2 : Hid (∀ W : World, Sees w W → Calls Try.prog 64 #[.slice B nx.length D] W fun e w' => ∃ A', e = .returned (.slice A' nx.length nx.length) ∧ BBBF w' nx A' (rng W.heap.size w'.heap.size) ∧ Below W.heap.size W w') := fun W h => toBoolSSSF nx f3 f4 B D W (bbb_ok.below hB h)
  clear f1 f2 f3 f4 hA hB
  go_enter Try.func12, Try.ntmps12
  go_wp2_with fail
  refine (K0.out _).mono ?_
  rintro e w1 ⟨rfl, hb⟩
  have B1 : Sees w w1 := Sees.below (by unfold Sees; go_grown) hb
  have k0 : w1.heap[w.heap.size]? = some (.cells #[.int .i64 t, .int .i64 a, .int .i64 p, .slice A ac.length C, .slice B nx.length D] 27 (0, 0)) := by
    refine (hb.block _ (by simp; omega)).trans ?_
    exact (Below.heap_alloc _ _ _ (by simp; omega)).trans ((Below.heap_alloc _ _ _ (by simp)).trans (heap_new _ _ _ (by simp)))
  have k1 : w1.heap[w.heap.size + 1]? = some (.cells #[.int .i64 0, .int .i64 0, .int .i64 0, .slice none 0 0, .slice none 0 0] 31 (0, 0)) := by
    refine (hb.block _ (by simp; try omega)).trans ?_
    exact (Below.heap_alloc _ _ _ (by simp)).trans (heap_new _ _ _ (by simp))
  have k2 : w1.heap[w.heap.size + 1 + 1]? = some (.cells #[.int .i64 0, .int .i64 0, .int .i64 0, .slice none 0 0, .slice none 0 0] 31 (0, 0)) := by
    refine (hb.block _ (by simp)).trans ?_
    exact heap_new _ _ _ (by simp)
  have z1 : w.heap.size + 1 + 1 < w1.heap.size := by have := hb.size; simp at this; omega
  have HB1 := Lib.hid B1; have HK0 := Lib.hid k0; have HK1 := Lib.hid k1; have HK2 := Lib.hid k2; have HZ1 := Lib.hid z1
  obtain ⟨p0, p1, p2, p3, p4, _, _, _, _, _⟩ := five_facts k0
  obtain ⟨q0, q1, q2, q3, q4, g0, g1, g2, g3, g4⟩ := five_facts k2
  clear hb B1 k0 k1 k2 z1
  go_wp2_with fail
  clear p0 p1 p2 p3 p4 q0 q1 q2 q3 q4 g0 g1 g2 g3 g4
  -- the first fields are stored
  have B2 : Sees w (((w1.setCell ⟨w.heap.size + 1 + 1, 0, none⟩ (.int .i64 t)).setCell ⟨w.heap.size + 1 + 1, 1, none⟩ (.int .i64 a)).setCell ⟨w.heap.size + 1 + 1, 2, none⟩ (.int .i64 p)) := (Sees.set (b := w.heap.size + 1 + 1) (i := 2) (Sees.set (b := w.heap.size + 1 + 1) (i := 1) (Sees.set (b := w.heap.size + 1 + 1) (i := 0) HB1.out (by omega) (.int .i64 t)) (by omega) (.int .i64 a)) (by omega) (.int .i64 p))
  have k0 := (box_other (b := w.heap.size + 1 + 1) (i := 2) (box_other (b := w.heap.size + 1 + 1) (i := 1) (box_other (b := w.heap.size + 1 + 1) (i := 0) HK0.out (by omega) (.int .i64 t)) (by omega) (.int .i64 a)) (by omega) (.int .i64 p))
  have k1 := (box_other (b := w.heap.size + 1 + 1) (i := 2) (box_other (b := w.heap.size + 1 + 1) (i := 1) (box_other (b := w.heap.size + 1 + 1) (i := 0) HK1.out (by omega) (.int .i64 t)) (by omega) (.int .i64 a)) (by omega) (.int .i64 p))
  have k2 : (((w1.setCell ⟨w.heap.size + 1 + 1, 0, none⟩ (.int .i64 t)).setCell ⟨w.heap.size + 1 + 1, 1, none⟩ (.int .i64 a)).setCell ⟨w.heap.size + 1 + 1, 2, none⟩ (.int .i64 p)).heap[w.heap.size + 1 + 1]? = some (.cells #[.int .i64 t, .int .i64 a, .int .i64 p, .slice none 0 0, .slice none 0 0] 31 (0, 0)) := by
    rw [Fo.block_setCell (Fo.block_setCell (Fo.block_setCell HK2.out _) _) _]
    rfl
  have z2 : w.heap.size + 1 + 1 < (((w1.setCell ⟨w.heap.size + 1 + 1, 0, none⟩ (.int .i64 t)).setCell ⟨w.heap.size + 1 + 1, 1, none⟩ (.int .i64 a)).setCell ⟨w.heap.size + 1 + 1, 2, none⟩ (.int .i64 p)).heap.size := by simpa using HZ1.out
  generalize (((w1.setCell ⟨w.heap.size + 1 + 1, 0, none⟩ (.int .i64 t)).setCell ⟨w.heap.size + 1 + 1, 1, none⟩ (.int .i64 a)).setCell ⟨w.heap.size + 1 + 1, 2, none⟩ (.int .i64 p)) = w2 at B2 k0 k1 k2 z2 ⊢
  refine (K1.out _ B2).mono ?_
  rintro e w3 ⟨Z, rfl, hQ, hb⟩
  have HB3 := Lib.hid (B2.below hb)
  have HK3 := Lib.hid ((hb.block _ (by omega)).trans k0)
  have HK4 := Lib.hid ((hb.block _ (by omega)).trans k1)
  have HK5 := Lib.hid ((hb.block _ z2).trans k2)
  have HZ3 := Lib.hid (Nat.lt_of_lt_of_le z2 hb.size)
  obtain ⟨s2, hs2, ls2⟩ : ∃ s2, s2 = w2.heap.size ∧ w.heap.size + 1 + 1 < s2 := ⟨_, rfl, z2⟩
  obtain ⟨s3, hs3⟩ : ∃ s3, s3 = w3.heap.size := ⟨_, rfl⟩
  have ls3 : s2 ≤ s3 := by rw [hs2, hs3]; exact hb.size
  rw [← hs2, ← hs3] at hQ
  have HQ3 := Lib.hid hQ; have HS3 := Lib.hid hs3
  clear hs2 hs3
  clear hQ hb B2 k0 k1 k2 z2 HB1 HK0 HK1 HK2 HZ1
  obtain ⟨p0, p1, p2, p3, p4, _, _, _, _, _⟩ := five_facts HK3.out
  obtain ⟨q0, q1, q2, q3, q4, g0, g1, g2, g3, g4⟩ := five_facts HK5.out
  go_wp2_with fail
  clear p0 p1 p2 p3 p4 q0 q1 q2 q3 q4 g0 g1 g2 g3 g4
  have B4 : Sees w (w3.setCell ⟨w.heap.size + 1 + 1, 3, none⟩ (.slice Z ac.length ac.length)) := Sees.set HB3.out (by omega) _
  have k1 := box_other (b := w.heap.size + 1 + 1) (i := 3) HK4.out (by omega) (.slice Z ac.length ac.length)
  have k2 : (w3.setCell ⟨w.heap.size + 1 + 1, 3, none⟩ (.slice Z ac.length ac.length)).heap[w.heap.size + 1 + 1]? = some (.cells #[.int .i64 t, .int .i64 a, .int .i64 p, .slice Z ac.length ac.length, .slice none 0 0] 31 (0, 0)) := by
    rw [Fo.block_setCell HK5.out _]
    rfl
  have z4 : w.heap.size + 1 + 1 < (w3.setCell ⟨w.heap.size + 1 + 1, 3, none⟩ (.slice Z ac.length ac.length)).heap.size := by simpa using HZ3.out
  have hQ4 := foot_set bbF_ok (b := w.heap.size + 1 + 1) (i := 3) HQ3.out (fun h => by have := h.1; omega) (.slice Z ac.length ac.length)
  have hz4 : s3 = (w3.setCell ⟨w.heap.size + 1 + 1, 3, none⟩ (.slice Z ac.length ac.length)).heap.size := by rw [HS3.out]; simp
  generalize w3.setCell ⟨w.heap.size + 1 + 1, 3, none⟩ (.slice Z ac.length ac.length) = w4 at B4 k1 k2 z4 hQ4 hz4 ⊢
  refine (K2.out _ B4).mono ?_
  rintro e w5 ⟨Y, rfl, hR, hb⟩
  have HB5 := Lib.hid (B4.below hb)
  have HK6 := Lib.hid ((hb.block _ (by omega)).trans k1)
  have HK7 := Lib.hid ((hb.block _ z4).trans k2)
  obtain ⟨s5, hs5⟩ : ∃ s5, s5 = w5.heap.size := ⟨_, rfl⟩
  have ls5 : s3 ≤ s5 := by rw [hz4, hs5]; exact hb.size
  have HQ5 := Lib.hid (bbF_ok.keep hQ4 fun k hk => hb.block k (by have := hk.2; omega))
  rw [← hz4, ← hs5] at hR
  have HR5 := Lib.hid hR; have HS5 := Lib.hid hs5
  clear hs5 hz4
  clear hQ4 hR hb B4 k1 k2 z4 HB3 HK3 HK4 HK5 HZ3 HQ3
  obtain ⟨p0, p1, p2, p3, p4, r0, r1, r2, r3, r4⟩ := five_facts HK6.out
  obtain ⟨q0, q1, q2, q3, q4, g0, g1, g2, g3, g4⟩ := five_facts HK7.out
  go_wp2_with fail
  have Bf : Sees w ((((((w5.setCell ⟨w.heap.size + 1 + 1, 4, none⟩ (.slice Y nx.length nx.length)).setCell ⟨w.heap.size + 1, 0, none⟩ (.int .i64 t)).setCell ⟨w.heap.size + 1, 1, none⟩ (.int .i64 a)).setCell ⟨w.heap.size + 1, 2, none⟩ (.int .i64 p)).setCell ⟨w.heap.size + 1, 3, none⟩ (.slice Z ac.length ac.length)).setCell ⟨w.heap.size + 1, 4, none⟩ (.slice Y nx.length nx.length)) := (Sees.set (b := w.heap.size + 1) (i := 4) (Sees.set (b := w.heap.size + 1) (i := 3) (Sees.set (b := w.heap.size + 1) (i := 2) (Sees.set (b := w.heap.size + 1) (i := 1) (Sees.set (b := w.heap.size + 1) (i := 0) (Sees.set (b := w.heap.size + 1 + 1) (i := 4) HB5.out (by omega) (.slice Y nx.length nx.length)) (by omega) (.int .i64 t)) (by omega) (.int .i64 a)) (by omega) (.int .i64 p)) (by omega) (.slice Z ac.length ac.length)) (by omega) (.slice Y nx.length nx.length))
  have Qf : BBF ((((((w5.setCell ⟨w.heap.size + 1 + 1, 4, none⟩ (.slice Y nx.length nx.length)).setCell ⟨w.heap.size + 1, 0, none⟩ (.int .i64 t)).setCell ⟨w.heap.size + 1, 1, none⟩ (.int .i64 a)).setCell ⟨w.heap.size + 1, 2, none⟩ (.int .i64 p)).setCell ⟨w.heap.size + 1, 3, none⟩ (.slice Z ac.length ac.length)).setCell ⟨w.heap.size + 1, 4, none⟩ (.slice Y nx.length nx.length)) ac Z (rng s2 s3) := (foot_set bbF_ok (b := w.heap.size + 1) (i := 4) (foot_set bbF_ok (b := w.heap.size + 1) (i := 3) (foot_set bbF_ok (b := w.heap.size + 1) (i := 2) (foot_set bbF_ok (b := w.heap.size + 1) (i := 1) (foot_set bbF_ok (b := w.heap.size + 1) (i := 0) (foot_set bbF_ok (b := w.heap.size + 1 + 1) (i := 4) HQ5.out (fun h => by have := h.1; omega) (.slice Y nx.length nx.length)) (fun h => by have := h.1; omega) (.int .i64 t)) (fun h => by have := h.1; omega) (.int .i64 a)) (fun h => by have := h.1; omega) (.int .i64 p)) (fun h => by have := h.1; omega) (.slice Z ac.length ac.length)) (fun h => by have := h.1; omega) (.slice Y nx.length nx.length))
  have Rf : BBBF ((((((w5.setCell ⟨w.heap.size + 1 + 1, 4, none⟩ (.slice Y nx.length nx.length)).setCell ⟨w.heap.size + 1, 0, none⟩ (.int .i64 t)).setCell ⟨w.heap.size + 1, 1, none⟩ (.int .i64 a)).setCell ⟨w.heap.size + 1, 2, none⟩ (.int .i64 p)).setCell ⟨w.heap.size + 1, 3, none⟩ (.slice Z ac.length ac.length)).setCell ⟨w.heap.size + 1, 4, none⟩ (.slice Y nx.length nx.length)) nx Y (rng s3 s5) := (foot_set bbbF_ok (b := w.heap.size + 1) (i := 4) (foot_set bbbF_ok (b := w.heap.size + 1) (i := 3) (foot_set bbbF_ok (b := w.heap.size + 1) (i := 2) (foot_set bbbF_ok (b := w.heap.size + 1) (i := 1) (foot_set bbbF_ok (b := w.heap.size + 1) (i := 0) (foot_set bbbF_ok (b := w.heap.size + 1 + 1) (i := 4) HR5.out (fun h => by have := h.1; omega) (.slice Y nx.length nx.length)) (fun h => by have := h.1; omega) (.int .i64 t)) (fun h => by have := h.1; omega) (.int .i64 a)) (fun h => by have := h.1; omega) (.int .i64 p)) (fun h => by have := h.1; omega) (.slice Z ac.length ac.length)) (fun h => by have := h.1; omega) (.slice Y nx.length nx.length))
  have kf : ((((((w5.setCell ⟨w.heap.size + 1 + 1, 4, none⟩ (.slice Y nx.length nx.length)).setCell ⟨w.heap.size + 1, 0, none⟩ (.int .i64 t)).setCell ⟨w.heap.size + 1, 1, none⟩ (.int .i64 a)).setCell ⟨w.heap.size + 1, 2, none⟩ (.int .i64 p)).setCell ⟨w.heap.size + 1, 3, none⟩ (.slice Z ac.length ac.length)).setCell ⟨w.heap.size + 1, 4, none⟩ (.slice Y nx.length nx.length)).heap[w.heap.size + 1]? = some (.cells #[.int .i64 t, .int .i64 a, .int .i64 p, .slice Z ac.length ac.length, .slice Y nx.length nx.length] 31 (0, 0)) := (Fo.block_setCell (Fo.block_setCell (Fo.block_setCell (Fo.block_setCell (Fo.block_setCell (box_other (b := w.heap.size + 1 + 1) (i := 4) HK6.out (by omega) (.slice Y nx.length nx.length)) (.int .i64 t)) (.int .i64 a)) (.int .i64 p)) (.slice Z ac.length ac.length)) (.slice Y nx.length nx.length))
  have zf : s5 = ((((((w5.setCell ⟨w.heap.size + 1 + 1, 4, none⟩ (.slice Y nx.length nx.length)).setCell ⟨w.heap.size + 1, 0, none⟩ (.int .i64 t)).setCell ⟨w.heap.size + 1, 1, none⟩ (.int .i64 a)).setCell ⟨w.heap.size + 1, 2, none⟩ (.int .i64 p)).setCell ⟨w.heap.size + 1, 3, none⟩ (.slice Z ac.length ac.length)).setCell ⟨w.heap.size + 1, 4, none⟩ (.slice Y nx.length nx.length)).heap.size := by rw [HS5.out]; simp
  generalize ((((((w5.setCell ⟨w.heap.size + 1 + 1, 4, none⟩ (.slice Y nx.length nx.length)).setCell ⟨w.heap.size + 1, 0, none⟩ (.int .i64 t)).setCell ⟨w.heap.size + 1, 1, none⟩ (.int .i64 a)).setCell ⟨w.heap.size + 1, 2, none⟩ (.int .i64 p)).setCell ⟨w.heap.size + 1, 3, none⟩ (.slice Z ac.length ac.length)).setCell ⟨w.heap.size + 1, 4, none⟩ (.slice Y nx.length nx.length)) = j at Bf Qf Rf kf zf ⊢
  clear p0 p1 p2 p3 p4 r0 r1 r2 r3 r4 q0 q1 q2 q3 q4 g0 g1 g2 g3 g4
  obtain ⟨p0, p1, p2, p3, p4, _, _, _, _, _⟩ := five_facts kf
  refine bodyPost_ret (v := .agg #[.int .i64 t, .int .i64 a, .int .i64 p, .slice Z ac.length ac.length, .slice Y nx.length nx.length]) (by simp [results, Try.results12, go_sem, p0, p1, p2, p3, p4]) rfl ⟨Z, Y, rfl, ⟨by omega, _, _, Qf, Rf, fun k h => ⟨by have := h.1; omega, by have := h.2; omega⟩, fun k h => ⟨by have := h.1; omega, by have := h.2; omega⟩, fun k h1 h2 => by have := h1.2; have := h2.1; omega⟩, Bf⟩

end Go.Proofs.Ytcgbepmhfimbjaa
