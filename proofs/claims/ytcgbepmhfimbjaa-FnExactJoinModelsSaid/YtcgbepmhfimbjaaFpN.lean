/- Marks put into models and costs in blocks of their own, and found again in models. -/
import Derived.Test.YtcgbepmhfimbjaaFpM
import Derived.Test.YtcgbepmhfimbjaaFpD
namespace Go.Proofs.Ytcgbepmhfimbjaa
open Go.RowKit

theorem szL_tot {α : Type} (xs : List (List α)) : szL List.length xs + xs.length = tot List.length xs := by unfold szL tot; omega
theorem szL_tot2 {α : Type} (xs : List (List (List α))) : szL (szL List.length) xs + xs.length ≤ tot (tot List.length) xs := by
  induction xs with
  | nil => simp [szL, tot]
  | cons x r ih =>
    have := szL_tot x
    unfold szL tot at *
    simp only [List.map_cons, List.sum_cons, List.length_cons] at *
    omega
theorem modZ_le {ac : List (List Bool)} {nx : List (List (List Bool))} (h : modN ac nx ≤ 1048576) : szL List.length ac + szL (szL List.length) nx ≤ 1048576 := by
  have h1 := szL_tot ac
  have h2 := szL_tot2 nx
  unfold modN at h
  omega
theorem autZ_le {ac : List (List Bool)} {nx : List (List (List Int))} (h : autN ac nx ≤ 1048576) : szL List.length ac + szL (szL List.length) nx ≤ 1048576 := by
  have h1 := szL_tot ac
  have h2 := szL_tot2 nx
  unfold autN at h
  omega

set_option maxHeartbeats 1000000 in
set_option maxRecDepth 100000 in
theorem markModelF (t a p : Int) (ac : List (List Bool)) (nx : List (List (List Bool))) (hs : SmallM ac nx) (k : Int) (hk0 : 0 ≤ k) (hk1 : k + (szL List.length ac : Nat) + (szL (szL List.length) nx : Nat) ≤ 16777216) (lo hi : Nat) (A B : Option Addr) (C D : Nat) (w : World) (hX : ModF w ac nx lo hi A B) (hz : hi ≤ w.heap.size) :
    Calls Try.prog 15 #[.agg #[.int .i64 t, .int .i64 a, .int .i64 p, .slice A ac.length C, .slice B nx.length D], .int .i64 k] w fun e w' => e = .returned (.int .i64 (k + (szL List.length ac : Nat) + (szL (szL List.length) nx : Nat))) ∧ ModF w' (mkL (mkE mb) List.length k ac) (mkL (mkL (mkE mb) List.length) (szL List.length) (k + (szL List.length ac : Nat)) nx) lo hi A B ∧ ButIn lo hi w w' := by
  obtain ⟨hle, F, G, h1, h2, h3, h4, h5⟩ := hX
  obtain ⟨s1, s2, s3, s4⟩ := hs
  obtain ⟨q, hq⟩ : ∃ q : Int, q = k + (szL List.length ac : Nat) := ⟨_, rfl⟩
  have K1 : Hid (∀ W : World, Sees w W → Calls Try.prog 71 #[.slice A ac.length C, .int .i64 k] W fun e w' => e = .returned (.int .i64 q) ∧ BBF w' (mkL (mkE mb) List.length k ac) A F ∧ ButF F W w') := fun W h => by
    rw [hq]
    exact markBoolSSF ac s1 s2 k hk0 (by omega) A C W F (fun b hb => Nat.lt_of_lt_of_le (h3 b hb).2 (Nat.le_trans hz (Below.size h))) (bbF_ok.keep h1 fun b hb => Below.block h b (Nat.lt_of_lt_of_le (h3 b hb).2 hz))
  have K2 : Hid (∀ W : World, BBBF W nx B G → (∀ b, G b → b < W.heap.size) → Calls Try.prog 72 #[.slice B nx.length D, .int .i64 q] W fun e w' => e = .returned (.int .i64 (q + (szL (szL List.length) nx : Nat))) ∧ BBBF w' (mkL (mkL (mkE mb) List.length) (szL List.length) q nx) B G ∧ ButF G W w') := fun W h hb =>
    markBoolSSSF nx s3 s4 q (by omega) (by omega) B D W G hb h
  rw [← hq]
  have H1 := Lib.hid h1; have H2 := Lib.hid h2; have H3 := Lib.hid h3; have H4 := Lib.hid h4; have H5 := Lib.hid h5
  clear h1 h2 h3 h4 h5 s1 s2 s3 s4 hk1 hq
  obtain ⟨w0, hw0⟩ : ∃ w0, w0 = w.alloc (.cells #[.int .i64 t, .int .i64 a, .int .i64 p, .slice A ac.length C, .slice B nx.length D] 31) := ⟨_, rfl⟩
  have B0 : Sees w w0 := by rw [hw0]; exact (Sees.refl w).alloc _
  have g4 : w0.cell? ⟨w.heap.size, 4, none⟩ = some (.slice B nx.length D) := by rw [hw0]; simp [go_sem]
  have hlt : w.heap.size < w0.heap.size := by rw [hw0]; simp
  go_enter Try.func15, Try.ntmps15
  go_wp2_with fail
  rw [← hw0]
  clear hw0
  refine (K1.out _ B0).mono ?_
  rintro e w1 ⟨rfl, hQ1, hb1⟩
  have x4 : w1.cell? ⟨w.heap.size, 4, none⟩ = some (.slice B nx.length D) := (World.cell?_of_block (a := ⟨w.heap.size, 4, none⟩) (hb1.block _ hlt (fun hf => by have h6 : w.heap.size < hi := (H3.out _ hf).2; omega))).trans g4
  have HQ1 := Lib.hid hQ1
  have HQ2 : Hid (BBBF w1 nx B G) := bbbF_ok.keep H2.out fun b hb => (hb1.block b (by have := (H4.out b hb).2; omega) (fun hf => H5.out b hf hb)).trans (Below.block B0 b (Nat.lt_of_lt_of_le (H4.out b hb).2 hz))
  have HB1 : Hid (ButIn lo hi w w1) := (ButIn.of_below B0).trans (hb1.mono H3.out).rng
  have hs1 := hb1.size
  have HG1 : Hid (∀ b, G b → b < w1.heap.size) := fun b hb => by have := (H4.out b hb).2; omega
  clear hQ1 g4
  have HBB1 := Lib.hid hb1; clear hb1 hs1 hlt B0
  go_wp2_with fail
  refine (K2.out _ HQ2.out HG1.out).mono ?_
  rintro e w2 ⟨rfl, hR, hb2⟩
  have HB2 : Hid (ButIn lo hi w w2) := HB1.out.trans (hb2.mono H4.out).rng
  have HQ3 : Hid (BBF w2 (mkL (mkE mb) List.length k ac) A F) := bbF_ok.keep HQ1.out fun b hb => hb2.block b (Nat.lt_of_lt_of_le (Nat.lt_of_lt_of_le (H3.out b hb).2 hz) HB1.out.size) (fun hg => H5.out b hb hg)
  have HR := Lib.hid hR
  clear hR hb2 x4
  go_wp2_with fail
  go_ret
  exact ⟨rfl, ⟨hle, F, G, HQ3.out, HR.out, H3.out, H4.out, H5.out⟩, HB2.out⟩

set_option maxHeartbeats 1000000 in
set_option maxRecDepth 100000 in
theorem heldModelF (t a p : Int) (ac : List (List Bool)) (nx : List (List (List Bool))) (hs : SmallM ac nx) (k : Int) (hk0 : 0 ≤ k) (hk1 : k + (szL List.length ac : Nat) + (szL (szL List.length) nx : Nat) ≤ 16777216) (A B : Option Addr) (C D : Nat) (w : World)
    (hA : BB 0 w (mkL (mkE mb) List.length k ac) A) (hB : BBB 0 w (mkL (mkL (mkE mb) List.length) (szL List.length) (k + (szL List.length ac : Nat)) nx) B) :
    Calls Try.prog 16 #[.agg #[.int .i64 t, .int .i64 a, .int .i64 p, .slice A ac.length C, .slice B nx.length D], .int .i64 k] w fun e w' => e = .returned (.int .i64 (k + (szL List.length ac : Nat) + (szL (szL List.length) nx : Nat))) ∧ Below w.heap.size w w' := by
  obtain ⟨s1, s2, s3, s4⟩ := hs
  obtain ⟨q, hq, hq0⟩ : ∃ q : Int, Hid (q = k + (szL List.length ac : Nat)) ∧ ¬ q < 0 := ⟨_, rfl, by omega⟩
  obtain ⟨z, hz, hz0⟩ : ∃ z : Int, Hid (z = q + (szL (szL List.length) nx : Nat)) ∧ ¬ z < 0 := ⟨_, rfl, by omega⟩
  have hqb : q + (szL (szL List.length) nx : Nat) ≤ 16777216 := by have := hq.out; omega
  have K1 : Hid (∀ W : World, Sees w W → Calls Try.prog 73 #[.slice A ac.length C, .int .i64 k] W fun e w' => e = .returned (.int .i64 q) ∧ Below W.heap.size W w') := fun W h => by
    rw [hq.out]
    exact heldBoolSSF ac s1 s2 k hk0 (by omega) A C W (bb_ok.below hA h)
  have K2 : Hid (∀ W : World, Sees w W → Calls Try.prog 74 #[.slice B nx.length D, .int .i64 q] W fun e w' => e = .returned (.int .i64 z) ∧ Below W.heap.size W w') := fun W h => by
    rw [hz.out]
    exact heldBoolSSSF nx s3 s4 q (by omega) hqb B D W (by have := bbb_ok.below hB h; rw [← hq.out] at this; exact this)
  have HE : Hid (k + (szL List.length ac : Nat) + (szL (szL List.length) nx : Nat) = z) := by show _ = _; rw [hz.out, hq.out]
  rw [HE.out]
  clear s1 s2 s3 s4 hA hB hk1 hqb
  go_enter Try.func16, Try.ntmps16
  go_wp2_with fail
  refine (K1.out _ (by unfold Sees; go_grown)).mono ?_
  rintro e w1 ⟨rfl, hb⟩
  have B1 : Sees w w1 := Sees.below (by unfold Sees; go_grown) hb
  have x4 : w1.cell? ⟨w.heap.size, 4, none⟩ = some (.slice B nx.length D) := kc hb (by simp [go_sem])
  clear hb
  go_wp2_with fail
  refine (K2.out _ B1).mono ?_
  rintro e w2 ⟨rfl, hb⟩
  have B2 := B1.below hb
  clear hb B1 x4
  go_wp2_with fail
  go_ret
  exact ⟨rfl, B2⟩
end Go.Proofs.Ytcgbepmhfimbjaa
