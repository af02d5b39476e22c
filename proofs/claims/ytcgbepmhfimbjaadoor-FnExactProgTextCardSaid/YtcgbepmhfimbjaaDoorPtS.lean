/- Contract of spec.l06Text. -/
import Derived.Test.YtcgbepmhfimbjaaDoorPtD
import Derived.Test.YtcgbepmhfimbjaaDoorTxS
namespace Go.Proofs.YtcgbepmhfimbjaaDoor
open Go.RowKit
set_option linter.unusedVariables false

set_option maxRecDepth 100000 in
set_option maxHeartbeats 8000000 in
theorem l06Text_any (t a : Int) (ha : a ≤ 4) : ∀ (N : Nat) (cf : Fo) (f : Pg), cf.nodes + f.nodes < N → cf.nodes + f.nodes ≤ 1048576 → ∀ (k n ck cn : Int) (A D : Option Addr) (C E B o : Nat) (w : World), cf.Lies w A → f.Lies w D → ptreeE t a k n ck cn cf f = true →
      w.cell? ⟨B, o, none⟩ = some (.int .i64 k) → w.cell? ⟨B, o + 1, none⟩ = some (.int .i64 n) → w.cell? ⟨B, o + 2, none⟩ = some (.int .i64 ck) → w.cell? ⟨B, o + 3, none⟩ = some (.int .i64 cn) → w.cell? ⟨B, o + 4, none⟩ = some (.slice A cf.len C) → w.cell? ⟨B, o + 5, none⟩ = some (.slice D f.len E) →
      Calls Tryd.prog 33 #[.pointer (some ⟨B, o, none⟩)] w fun e w' => e = .returned (.string ⟨(ptE k n ck cn cf f).toArray⟩) ∧ Below w.heap.size w w' := by
  intro N
  induction N with
  | zero => intro cf f hN; exact absurd hN (Nat.not_lt_zero _)
  | succ N ih =>
    intro cf f hN hm k n ck cn A D C E B o w hA hD ht p0 p1 p2 p3 p4 p5
    have IH := Lib.hid ih; clear ih
    have lB : B < w.heap.size := World.block_lt_of_cell? _ _ p0
    rcases ptree_forms ht with ⟨rfl, hk⟩ | ⟨k1, n1, ck1, cn1, cf1, f1, rfl, rfl, hc, h1⟩ | ⟨k1, n1, ck1, cn1, cf1, f1, k2, n2, ck2, cn2, cf2, f2, rfl, hk, h1, h2⟩
    · clear ht IH
      rcases hk with rfl | rfl | ⟨rfl, hn0, hn1⟩ | ⟨rfl, hc⟩
      · go_enter Tryd.func33, Tryd.ntmps33
        go_wp2_with fail
        go_ret
        exact ⟨rfl, by go_grown⟩
      · go_enter Tryd.func33, Tryd.ntmps33
        go_wp2_with fail
        go_ret
        exact ⟨rfl, by go_grown⟩
      · obtain ⟨s1, hs1⟩ : ∃ s : ByteArray, s = ⟨(Lib.decDigits n.toNat).toArray⟩ := ⟨_, rfl⟩
        obtain ⟨s2, hs2⟩ : ∃ s : ByteArray, s = ⟨(97 :: Lib.decDigits n.toNat).toArray⟩ := ⟨_, rfl⟩
        have KD : Hid (∀ W : World, Calls Tryd.prog 60 #[.int .i64 n] W fun e w' => e = .returned (.string s1) ∧ Below W.heap.size W w') := fun W => by rw [hs1]; exact decimal_one n hn0 (by omega) W
        have q1 : ∀ W : World, (Op.stringOp .add ⟨#[97]⟩ s1).run Tryd.prog W = .ok (.string s2) W := fun W => by rw [hs1, hs2]; exact add_any [97] _ (by rw [Lib.decDigits_one (by omega)]; simp) W
        have HV : Hid (ptE 3 n ck cn cf .nil = 97 :: Lib.decDigits n.toNat) := rfl
        rw [HV.out, ← hs2]
        clear hs1 hs2 hn0 hn1
        go_enter Tryd.func33, Tryd.ntmps33
        go_wp2_with fail
        refine (KD.out _).mono ?_
        rintro e w1 ⟨rfl, hb⟩
        go_wp2_with fail
        go_ret
        exact ⟨rfl, hb⟩
      · have cl : (ndE cf ck cn).tx.length ≤ 83886080 := by have := (condV_tx hc).2; simp only [Pg.nodes] at hm; omega
        obtain ⟨lc, hlc⟩ : ∃ l, l = (ndE cf ck cn).tx := ⟨_, rfl⟩
        have hbc : lc.length ≤ 83886080 := by rw [hlc]; exact cl
        obtain ⟨sc, hsc⟩ : ∃ s : ByteArray, s = ⟨lc.toArray⟩ := ⟨_, rfl⟩
        obtain ⟨u1, hu1⟩ : ∃ s : ByteArray, s = ⟨([97, 115, 115, 101, 114, 116, 32] ++ lc).toArray⟩ := ⟨_, rfl⟩
        have q1 : ∀ W : World, (Op.stringOp .add ⟨#[97, 115, 115, 101, 114, 116, 32]⟩ sc).run Tryd.prog W = .ok (.string u1) W := fun W => by rw [hsc, hu1]; exact add_any ([97, 115, 115, 101, 114, 116, 32]) lc (by simp only [List.length_cons, List.length_nil]; omega) W
        have HV : Hid (ptE 4 n ck cn cf .nil = [97, 115, 115, 101, 114, 116, 32] ++ lc) := by show _ = _; rw [hlc]; rfl
        have KC : Hid (∀ W : World, Sees w W → Calls Tryd.prog 61 #[.pointer (some ⟨B, o + 2, none⟩)] W fun e w' => e = .returned (.string sc) ∧ Below W.heap.size W w') := fun W h => by
          rw [hsc, hlc]
          exact l01Text_any (cf.nodes + 1) cf (Nat.lt_succ_self _) (by simp only [Pg.nodes] at hm; omega) t a false ck cn A C B (o + 2) W (condV_parts hc).1 ha (hA.sees h) (condV_parts hc).2.2 ((h.cell (p := ⟨B, o + 2, none⟩) lB).trans p2) ((h.cell (p := ⟨B, o + 3, none⟩) lB).trans p3) ((h.cell (p := ⟨B, o + 4, none⟩) lB).trans p4)
        rw [HV.out, ← hu1]
        clear hsc hbc hlc hu1 HV cl
        go_enter Tryd.func33, Tryd.ntmps33
        go_wp2_with fail
        refine (KC.out _ (Sees.refl w)).mono ?_
        rintro e w1 ⟨rfl, hb⟩
        go_wp2_with fail
        go_ret
        exact ⟨rfl, hb⟩
    · have cl : (ndE cf ck cn).tx.length ≤ 83886080 := by have := (condV_tx hc).2; omega
      obtain ⟨b', o', rfl, hat⟩ := hD (by simp)
      obtain ⟨d10, d11, d12, d13, ⟨A1, C1, d14, hA1⟩, ⟨D1, E1, d15, hD1⟩, _⟩ := hat
      have al : (ptE k1 n1 ck1 cn1 cf1 f1).length ≤ 83886080 := by have := ptE_len t a ha (cf1.nodes + f1.nodes + 1) cf1 f1 (Nat.lt_succ_self _) k1 n1 ck1 cn1 h1; simp only [Pg.nodes] at hm; omega
      have hD1 : f1.Lies w D1 := hD1
      have lBk : b' < w.heap.size := World.block_lt_of_cell? _ _ d10
      have hln : (Pg.cons k1 n1 ck1 cn1 cf1 f1 .nil).len = 1 := rfl
      rw [hln] at p5
      simp only [Pg.nodes] at hN hm
      obtain ⟨lc, hlc⟩ : ∃ l, l = (ndE cf ck cn).tx := ⟨_, rfl⟩
      have hbc : lc.length ≤ 83886080 := by rw [hlc]; exact cl
      obtain ⟨sc, hsc⟩ : ∃ s : ByteArray, s = ⟨lc.toArray⟩ := ⟨_, rfl⟩
      obtain ⟨la, hla⟩ : ∃ l, l = ptE k1 n1 ck1 cn1 cf1 f1 := ⟨_, rfl⟩
      have hba : la.length ≤ 83886080 := by rw [hla]; exact al
      obtain ⟨sa, hsa⟩ : ∃ s : ByteArray, s = ⟨la.toArray⟩ := ⟨_, rfl⟩
      obtain ⟨u1, hu1⟩ : ∃ s : ByteArray, s = ⟨([119, 104, 105, 108, 101, 32] ++ lc).toArray⟩ := ⟨_, rfl⟩
      have q1 : ∀ W : World, (Op.stringOp .add ⟨#[119, 104, 105, 108, 101, 32]⟩ sc).run Tryd.prog W = .ok (.string u1) W := fun W => by rw [hsc, hu1]; exact add_any ([119, 104, 105, 108, 101, 32]) lc (by simp only [List.length_cons, List.length_nil]; omega) W
      obtain ⟨u2, hu2⟩ : ∃ s : ByteArray, s = ⟨([119, 104, 105, 108, 101, 32] ++ lc ++ [32, 100, 111, 32]).toArray⟩ := ⟨_, rfl⟩
      have q2 : ∀ W : World, (Op.stringOp .add u1 ⟨#[32, 100, 111, 32]⟩).run Tryd.prog W = .ok (.string u2) W := fun W => by rw [hu1, hu2]; exact add_any ([119, 104, 105, 108, 101, 32] ++ lc) [32, 100, 111, 32] (by simp only [List.length_append, List.length_cons, List.length_nil]; omega) W
      obtain ⟨u3, hu3⟩ : ∃ s : ByteArray, s = ⟨([119, 104, 105, 108, 101, 32] ++ lc ++ [32, 100, 111, 32] ++ la).toArray⟩ := ⟨_, rfl⟩
      have q3 : ∀ W : World, (Op.stringOp .add u2 sa).run Tryd.prog W = .ok (.string u3) W := fun W => by rw [hu2, hsa, hu3]; exact add_any ([119, 104, 105, 108, 101, 32] ++ lc ++ [32, 100, 111, 32]) la (by simp only [List.length_append, List.length_cons, List.length_nil]; omega) W
      obtain ⟨u4, hu4⟩ : ∃ s : ByteArray, s = ⟨([119, 104, 105, 108, 101, 32] ++ lc ++ [32, 100, 111, 32] ++ la ++ [32, 111, 100]).toArray⟩ := ⟨_, rfl⟩
      have q4 : ∀ W : World, (Op.stringOp .add u3 ⟨#[32, 111, 100]⟩).run Tryd.prog W = .ok (.string u4) W := fun W => by rw [hu3, hu4]; exact add_any ([119, 104, 105, 108, 101, 32] ++ lc ++ [32, 100, 111, 32] ++ la) [32, 111, 100] (by simp only [List.length_append, List.length_cons, List.length_nil]; omega) W
      have HV : Hid (ptE 7 n ck cn cf (.cons k1 n1 ck1 cn1 cf1 f1 .nil) = [119, 104, 105, 108, 101, 32] ++ lc ++ [32, 100, 111, 32] ++ la ++ [32, 111, 100]) := by show _ = _; rw [hlc]; rw [hla]; rfl
      have KC : Hid (∀ W : World, Sees w W → Calls Tryd.prog 61 #[.pointer (some ⟨B, o + 2, none⟩)] W fun e w' => e = .returned (.string sc) ∧ Below W.heap.size W w') := fun W h => by
        rw [hsc, hlc]
        exact l01Text_any (cf.nodes + 1) cf (Nat.lt_succ_self _) (by omega) t a false ck cn A C B (o + 2) W (condV_parts hc).1 ha (hA.sees h) (condV_parts hc).2.2 ((h.cell (p := ⟨B, o + 2, none⟩) lB).trans p2) ((h.cell (p := ⟨B, o + 3, none⟩) lB).trans p3) ((h.cell (p := ⟨B, o + 4, none⟩) lB).trans p4)
      have K1 : Hid (∀ W : World, Sees w W → Calls Tryd.prog 33 #[.pointer (some ⟨b', o', none⟩)] W fun e w' => e = .returned (.string sa) ∧ Below W.heap.size W w') := fun W h => by
        rw [hsa, hla]
        exact IH.out cf1 f1 (by omega) (by omega) k1 n1 ck1 cn1 A1 D1 C1 E1 b' (o') W (hA1.sees h) (hD1.sees h) h1 ((h.cell (p := ⟨b', o', none⟩) lBk).trans d10) ((h.cell (p := ⟨b', o' + 1, none⟩) lBk).trans d11) ((h.cell (p := ⟨b', o' + 2, none⟩) lBk).trans d12) ((h.cell (p := ⟨b', o' + 3, none⟩) lBk).trans d13) ((h.cell (p := ⟨b', o' + 4, none⟩) lBk).trans d14) ((h.cell (p := ⟨b', o' + 5, none⟩) lBk).trans d15)
      have hX : Hid (St w [(B, o + 5, .slice (some ⟨b', o', none⟩) 1 E)] w) := ⟨Sees.refl w, p5, trivial⟩
      rw [HV.out, ← hu4]
      clear hsc hbc hlc hsa hba hla hu1 hu2 hu3 hu4 HV cl al IH p1 p2 p3 p4 d10 d11 d12 d13 d14 d15 hN hm hln
      go_enter Tryd.func33, Tryd.ntmps33
      go_wp2_with fail
      refine wp_region_quietC w [(B, o + 5, .slice (some ⟨b', o', none⟩) 1 E)] (by kernel_rfl) (by kernel_rfl) hX.out ?_
      repeat (first | go_big_quiet_skip | (go_big_quiet_want; apply Exists.intro; refine ⟨fun W hW => ?_, ?_⟩; focus (have hK := Lib.hid hW; obtain ⟨hs, hc⟩ := hW; simp only [Has, and_true] at hc; go_simp; (first | (go_at_call 33; (first | ((with_reducible refine quietC_call hK.out (KC.out _ ?_)); exact hK.out.1) | ((with_reducible refine quietC_call hK.out (K1.out _ ?_)); exact hK.out.1))) | (go_at_call 61; ((with_reducible refine quietC_call hK.out (KC.out _ ?_)); exact hK.out.1)) | rfl))) | (go_simp; go_big_quiet_on))
      refine wpQuiet_nil ?_
      intro w1 H1
      go_wp2_with fail
      go_ret
      exact ⟨rfl, H1.1⟩
    · rcases hk with rfl | ⟨rfl, hc⟩
      · obtain ⟨b', o', rfl, hat⟩ := hD (by simp)
        obtain ⟨d10, d11, d12, d13, ⟨A1, C1, d14, hA1⟩, ⟨D1, E1, d15, hD1⟩, d20, d21, d22, d23, ⟨A2, C2, d24, hA2⟩, ⟨D2, E2, d25, hD2⟩, _⟩ := hat
        have al : (ptE k1 n1 ck1 cn1 cf1 f1).length ≤ 83886080 := by have := ptE_len t a ha (cf1.nodes + f1.nodes + 1) cf1 f1 (Nat.lt_succ_self _) k1 n1 ck1 cn1 h1; simp only [Pg.nodes] at hm; omega
        have bl : (ptE k2 n2 ck2 cn2 cf2 f2).length ≤ 83886080 := by have := ptE_len t a ha (cf2.nodes + f2.nodes + 1) cf2 f2 (Nat.lt_succ_self _) k2 n2 ck2 cn2 h2; simp only [Pg.nodes] at hm; omega
        have hD1 : f1.Lies w D1 := hD1
        have hD2 : f2.Lies w D2 := hD2
        have lBk : b' < w.heap.size := World.block_lt_of_cell? _ _ d10
        have hln : (Pg.cons k1 n1 ck1 cn1 cf1 f1 (.cons k2 n2 ck2 cn2 cf2 f2 .nil)).len = 2 := rfl
        rw [hln] at p5
        simp only [Pg.nodes] at hN hm
        obtain ⟨la, hla⟩ : ∃ l, l = ptE k1 n1 ck1 cn1 cf1 f1 := ⟨_, rfl⟩
        have hba : la.length ≤ 83886080 := by rw [hla]; exact al
        obtain ⟨sa, hsa⟩ : ∃ s : ByteArray, s = ⟨la.toArray⟩ := ⟨_, rfl⟩
        obtain ⟨lb, hlb⟩ : ∃ l, l = ptE k2 n2 ck2 cn2 cf2 f2 := ⟨_, rfl⟩
        have hbb : lb.length ≤ 83886080 := by rw [hlb]; exact bl
        obtain ⟨sb, hsb⟩ : ∃ s : ByteArray, s = ⟨lb.toArray⟩ := ⟨_, rfl⟩
        obtain ⟨u1, hu1⟩ : ∃ s : ByteArray, s = ⟨([123] ++ la).toArray⟩ := ⟨_, rfl⟩
        have q1 : ∀ W : World, (Op.stringOp .add ⟨#[123]⟩ sa).run Tryd.prog W = .ok (.string u1) W := fun W => by rw [hsa, hu1]; exact add_any ([123]) la (by simp only [List.length_cons, List.length_nil]; omega) W
        obtain ⟨u2, hu2⟩ : ∃ s : ByteArray, s = ⟨([123] ++ la ++ [59, 32]).toArray⟩ := ⟨_, rfl⟩
        have q2 : ∀ W : World, (Op.stringOp .add u1 ⟨#[59, 32]⟩).run Tryd.prog W = .ok (.string u2) W := fun W => by rw [hu1, hu2]; exact add_any ([123] ++ la) [59, 32] (by simp only [List.length_append, List.length_cons, List.length_nil]; omega) W
        obtain ⟨u3, hu3⟩ : ∃ s : ByteArray, s = ⟨([123] ++ la ++ [59, 32] ++ lb).toArray⟩ := ⟨_, rfl⟩
        have q3 : ∀ W : World, (Op.stringOp .add u2 sb).run Tryd.prog W = .ok (.string u3) W := fun W => by rw [hu2, hsb, hu3]; exact add_any ([123] ++ la ++ [59, 32]) lb (by simp only [List.length_append, List.length_cons, List.length_nil]; omega) W
        obtain ⟨u4, hu4⟩ : ∃ s : ByteArray, s = ⟨([123] ++ la ++ [59, 32] ++ lb ++ [125]).toArray⟩ := ⟨_, rfl⟩
        have q4 : ∀ W : World, (Op.stringOp .add u3 ⟨#[125]⟩).run Tryd.prog W = .ok (.string u4) W := fun W => by rw [hu3, hu4]; exact add_any ([123] ++ la ++ [59, 32] ++ lb) [125] (by simp only [List.length_append, List.length_cons, List.length_nil]; omega) W
        have HV : Hid (ptE 5 n ck cn cf (.cons k1 n1 ck1 cn1 cf1 f1 (.cons k2 n2 ck2 cn2 cf2 f2 .nil)) = [123] ++ la ++ [59, 32] ++ lb ++ [125]) := by show _ = _; rw [hla]; rw [hlb]; rfl
        have K1 : Hid (∀ W : World, Sees w W → Calls Tryd.prog 33 #[.pointer (some ⟨b', o', none⟩)] W fun e w' => e = .returned (.string sa) ∧ Below W.heap.size W w') := fun W h => by
          rw [hsa, hla]
          exact IH.out cf1 f1 (by omega) (by omega) k1 n1 ck1 cn1 A1 D1 C1 E1 b' (o') W (hA1.sees h) (hD1.sees h) h1 ((h.cell (p := ⟨b', o', none⟩) lBk).trans d10) ((h.cell (p := ⟨b', o' + 1, none⟩) lBk).trans d11) ((h.cell (p := ⟨b', o' + 2, none⟩) lBk).trans d12) ((h.cell (p := ⟨b', o' + 3, none⟩) lBk).trans d13) ((h.cell (p := ⟨b', o' + 4, none⟩) lBk).trans d14) ((h.cell (p := ⟨b', o' + 5, none⟩) lBk).trans d15)
        have K2 : Hid (∀ W : World, Sees w W → Calls Tryd.prog 33 #[.pointer (some ⟨b', o' + 6, none⟩)] W fun e w' => e = .returned (.string sb) ∧ Below W.heap.size W w') := fun W h => by
          rw [hsb, hlb]
          exact IH.out cf2 f2 (by omega) (by omega) k2 n2 ck2 cn2 A2 D2 C2 E2 b' (o' + 6) W (hA2.sees h) (hD2.sees h) h2 ((h.cell (p := ⟨b', o' + 6, none⟩) lBk).trans d20) ((h.cell (p := ⟨b', o' + 6 + 1, none⟩) lBk).trans d21) ((h.cell (p := ⟨b', o' + 6 + 2, none⟩) lBk).trans d22) ((h.cell (p := ⟨b', o' + 6 + 3, none⟩) lBk).trans d23) ((h.cell (p := ⟨b', o' + 6 + 4, none⟩) lBk).trans d24) ((h.cell (p := ⟨b', o' + 6 + 5, none⟩) lBk).trans d25)
        have hX : Hid (St w [(B, o + 5, .slice (some ⟨b', o', none⟩) 2 E)] w) := ⟨Sees.refl w, p5, trivial⟩
        rw [HV.out, ← hu4]
        clear hsa hba hla hsb hbb hlb hu1 hu2 hu3 hu4 HV al bl IH p1 p2 p3 p4 d10 d11 d12 d13 d14 d15 d20 d21 d22 d23 d24 d25 hN hm hln
        go_enter Tryd.func33, Tryd.ntmps33
        go_wp2_with fail
        refine wp_region_quietC w [(B, o + 5, .slice (some ⟨b', o', none⟩) 2 E)] (by kernel_rfl) (by kernel_rfl) hX.out ?_
        repeat (first | go_big_quiet_skip | (go_big_quiet_want; apply Exists.intro; refine ⟨fun W hW => ?_, ?_⟩; focus (have hK := Lib.hid hW; obtain ⟨hs, hc⟩ := hW; simp only [Has, and_true] at hc; go_simp; (first | (go_at_call 33; (first | ((with_reducible refine quietC_call hK.out (K1.out _ ?_)); exact hK.out.1) | ((with_reducible refine quietC_call hK.out (K2.out _ ?_)); exact hK.out.1))) | (go_at_call 61; ((with_reducible refine quietC_call hK.out (K1.out _ ?_)); exact hK.out.1)) | rfl))) | (go_simp; go_big_quiet_on))
        refine wpQuiet_nil ?_
        intro w1 H1
        go_wp2_with fail
        go_ret
        exact ⟨rfl, H1.1⟩
      · obtain ⟨b', o', rfl, hat⟩ := hD (by simp)
        obtain ⟨d10, d11, d12, d13, ⟨A1, C1, d14, hA1⟩, ⟨D1, E1, d15, hD1⟩, d20, d21, d22, d23, ⟨A2, C2, d24, hA2⟩, ⟨D2, E2, d25, hD2⟩, _⟩ := hat
        have al : (ptE k1 n1 ck1 cn1 cf1 f1).length ≤ 83886080 := by have := ptE_len t a ha (cf1.nodes + f1.nodes + 1) cf1 f1 (Nat.lt_succ_self _) k1 n1 ck1 cn1 h1; simp only [Pg.nodes] at hm; omega
        have bl : (ptE k2 n2 ck2 cn2 cf2 f2).length ≤ 83886080 := by have := ptE_len t a ha (cf2.nodes + f2.nodes + 1) cf2 f2 (Nat.lt_succ_self _) k2 n2 ck2 cn2 h2; simp only [Pg.nodes] at hm; omega
        have hD1 : f1.Lies w D1 := hD1
        have hD2 : f2.Lies w D2 := hD2
        have lBk : b' < w.heap.size := World.block_lt_of_cell? _ _ d10
        have hln : (Pg.cons k1 n1 ck1 cn1 cf1 f1 (.cons k2 n2 ck2 cn2 cf2 f2 .nil)).len = 2 := rfl
        rw [hln] at p5
        simp only [Pg.nodes] at hN hm
        have cl : (ndE cf ck cn).tx.length ≤ 83886080 := by have := (condV_tx hc).2; omega
        obtain ⟨lc, hlc⟩ : ∃ l, l = (ndE cf ck cn).tx := ⟨_, rfl⟩
        have hbc : lc.length ≤ 83886080 := by rw [hlc]; exact cl
        obtain ⟨sc, hsc⟩ : ∃ s : ByteArray, s = ⟨lc.toArray⟩ := ⟨_, rfl⟩
        obtain ⟨la, hla⟩ : ∃ l, l = ptE k1 n1 ck1 cn1 cf1 f1 := ⟨_, rfl⟩
        have hba : la.length ≤ 83886080 := by rw [hla]; exact al
        obtain ⟨sa, hsa⟩ : ∃ s : ByteArray, s = ⟨la.toArray⟩ := ⟨_, rfl⟩
        obtain ⟨lb, hlb⟩ : ∃ l, l = ptE k2 n2 ck2 cn2 cf2 f2 := ⟨_, rfl⟩
        have hbb : lb.length ≤ 83886080 := by rw [hlb]; exact bl
        obtain ⟨sb, hsb⟩ : ∃ s : ByteArray, s = ⟨lb.toArray⟩ := ⟨_, rfl⟩
        obtain ⟨u1, hu1⟩ : ∃ s : ByteArray, s = ⟨([105, 102, 32] ++ lc).toArray⟩ := ⟨_, rfl⟩
        have q1 : ∀ W : World, (Op.stringOp .add ⟨#[105, 102, 32]⟩ sc).run Tryd.prog W = .ok (.string u1) W := fun W => by rw [hsc, hu1]; exact add_any ([105, 102, 32]) lc (by simp only [List.length_cons, List.length_nil]; omega) W
        obtain ⟨u2, hu2⟩ : ∃ s : ByteArray, s = ⟨([105, 102, 32] ++ lc ++ [32, 116, 104, 101, 110, 32]).toArray⟩ := ⟨_, rfl⟩
        have q2 : ∀ W : World, (Op.stringOp .add u1 ⟨#[32, 116, 104, 101, 110, 32]⟩).run Tryd.prog W = .ok (.string u2) W := fun W => by rw [hu1, hu2]; exact add_any ([105, 102, 32] ++ lc) [32, 116, 104, 101, 110, 32] (by simp only [List.length_append, List.length_cons, List.length_nil]; omega) W
        obtain ⟨u3, hu3⟩ : ∃ s : ByteArray, s = ⟨([105, 102, 32] ++ lc ++ [32, 116, 104, 101, 110, 32] ++ la).toArray⟩ := ⟨_, rfl⟩
        have q3 : ∀ W : World, (Op.stringOp .add u2 sa).run Tryd.prog W = .ok (.string u3) W := fun W => by rw [hu2, hsa, hu3]; exact add_any ([105, 102, 32] ++ lc ++ [32, 116, 104, 101, 110, 32]) la (by simp only [List.length_append, List.length_cons, List.length_nil]; omega) W
        obtain ⟨u4, hu4⟩ : ∃ s : ByteArray, s = ⟨([105, 102, 32] ++ lc ++ [32, 116, 104, 101, 110, 32] ++ la ++ [32, 101, 108, 115, 101, 32]).toArray⟩ := ⟨_, rfl⟩
        have q4 : ∀ W : World, (Op.stringOp .add u3 ⟨#[32, 101, 108, 115, 101, 32]⟩).run Tryd.prog W = .ok (.string u4) W := fun W => by rw [hu3, hu4]; exact add_any ([105, 102, 32] ++ lc ++ [32, 116, 104, 101, 110, 32] ++ la) [32, 101, 108, 115, 101, 32] (by simp only [List.length_append, List.length_cons, List.length_nil]; omega) W
        obtain ⟨u5, hu5⟩ : ∃ s : ByteArray, s = ⟨([105, 102, 32] ++ lc ++ [32, 116, 104, 101, 110, 32] ++ la ++ [32, 101, 108, 115, 101, 32] ++ lb).toArray⟩ := ⟨_, rfl⟩
        have q5 : ∀ W : World, (Op.stringOp .add u4 sb).run Tryd.prog W = .ok (.string u5) W := fun W => by rw [hu4, hsb, hu5]; exact add_any ([105, 102, 32] ++ lc ++ [32, 116, 104, 101, 110, 32] ++ la ++ [32, 101, 108, 115, 101, 32]) lb (by simp only [List.length_append, List.length_cons, List.length_nil]; omega) W
        obtain ⟨u6, hu6⟩ : ∃ s : ByteArray, s = ⟨([105, 102, 32] ++ lc ++ [32, 116, 104, 101, 110, 32] ++ la ++ [32, 101, 108, 115, 101, 32] ++ lb ++ [32, 102, 105]).toArray⟩ := ⟨_, rfl⟩
        have q6 : ∀ W : World, (Op.stringOp .add u5 ⟨#[32, 102, 105]⟩).run Tryd.prog W = .ok (.string u6) W := fun W => by rw [hu5, hu6]; exact add_any ([105, 102, 32] ++ lc ++ [32, 116, 104, 101, 110, 32] ++ la ++ [32, 101, 108, 115, 101, 32] ++ lb) [32, 102, 105] (by simp only [List.length_append, List.length_cons, List.length_nil]; omega) W
        have HV : Hid (ptE 6 n ck cn cf (.cons k1 n1 ck1 cn1 cf1 f1 (.cons k2 n2 ck2 cn2 cf2 f2 .nil)) = [105, 102, 32] ++ lc ++ [32, 116, 104, 101, 110, 32] ++ la ++ [32, 101, 108, 115, 101, 32] ++ lb ++ [32, 102, 105]) := by show _ = _; rw [hlc]; rw [hla]; rw [hlb]; rfl
        have KC : Hid (∀ W : World, Sees w W → Calls Tryd.prog 61 #[.pointer (some ⟨B, o + 2, none⟩)] W fun e w' => e = .returned (.string sc) ∧ Below W.heap.size W w') := fun W h => by
          rw [hsc, hlc]
          exact l01Text_any (cf.nodes + 1) cf (Nat.lt_succ_self _) (by omega) t a false ck cn A C B (o + 2) W (condV_parts hc).1 ha (hA.sees h) (condV_parts hc).2.2 ((h.cell (p := ⟨B, o + 2, none⟩) lB).trans p2) ((h.cell (p := ⟨B, o + 3, none⟩) lB).trans p3) ((h.cell (p := ⟨B, o + 4, none⟩) lB).trans p4)
        have K1 : Hid (∀ W : World, Sees w W → Calls Tryd.prog 33 #[.pointer (some ⟨b', o', none⟩)] W fun e w' => e = .returned (.string sa) ∧ Below W.heap.size W w') := fun W h => by
          rw [hsa, hla]
          exact IH.out cf1 f1 (by omega) (by omega) k1 n1 ck1 cn1 A1 D1 C1 E1 b' (o') W (hA1.sees h) (hD1.sees h) h1 ((h.cell (p := ⟨b', o', none⟩) lBk).trans d10) ((h.cell (p := ⟨b', o' + 1, none⟩) lBk).trans d11) ((h.cell (p := ⟨b', o' + 2, none⟩) lBk).trans d12) ((h.cell (p := ⟨b', o' + 3, none⟩) lBk).trans d13) ((h.cell (p := ⟨b', o' + 4, none⟩) lBk).trans d14) ((h.cell (p := ⟨b', o' + 5, none⟩) lBk).trans d15)
        have K2 : Hid (∀ W : World, Sees w W → Calls Tryd.prog 33 #[.pointer (some ⟨b', o' + 6, none⟩)] W fun e w' => e = .returned (.string sb) ∧ Below W.heap.size W w') := fun W h => by
          rw [hsb, hlb]
          exact IH.out cf2 f2 (by omega) (by omega) k2 n2 ck2 cn2 A2 D2 C2 E2 b' (o' + 6) W (hA2.sees h) (hD2.sees h) h2 ((h.cell (p := ⟨b', o' + 6, none⟩) lBk).trans d20) ((h.cell (p := ⟨b', o' + 6 + 1, none⟩) lBk).trans d21) ((h.cell (p := ⟨b', o' + 6 + 2, none⟩) lBk).trans d22) ((h.cell (p := ⟨b', o' + 6 + 3, none⟩) lBk).trans d23) ((h.cell (p := ⟨b', o' + 6 + 4, none⟩) lBk).trans d24) ((h.cell (p := ⟨b', o' + 6 + 5, none⟩) lBk).trans d25)
        have hX : Hid (St w [(B, o + 5, .slice (some ⟨b', o', none⟩) 2 E)] w) := ⟨Sees.refl w, p5, trivial⟩
        rw [HV.out, ← hu6]
        clear hsc hbc hlc hsa hba hla hsb hbb hlb hu1 hu2 hu3 hu4 hu5 hu6 HV cl al bl IH p1 p2 p3 p4 d10 d11 d12 d13 d14 d15 d20 d21 d22 d23 d24 d25 hN hm hln
        go_enter Tryd.func33, Tryd.ntmps33
        go_wp2_with fail
        refine wp_region_quietC w [(B, o + 5, .slice (some ⟨b', o', none⟩) 2 E)] (by kernel_rfl) (by kernel_rfl) hX.out ?_
        repeat (first | go_big_quiet_skip | (go_big_quiet_want; apply Exists.intro; refine ⟨fun W hW => ?_, ?_⟩; focus (have hK := Lib.hid hW; obtain ⟨hs, hc⟩ := hW; simp only [Has, and_true] at hc; go_simp; (first | (go_at_call 33; (first | ((with_reducible refine quietC_call hK.out (KC.out _ ?_)); exact hK.out.1) | ((with_reducible refine quietC_call hK.out (K1.out _ ?_)); exact hK.out.1) | ((with_reducible refine quietC_call hK.out (K2.out _ ?_)); exact hK.out.1))) | (go_at_call 61; ((with_reducible refine quietC_call hK.out (KC.out _ ?_)); exact hK.out.1)) | rfl))) | (go_simp; go_big_quiet_on))
        refine wpQuiet_nil ?_
        intro w1 H1
        go_wp2_with fail
        go_ret
        exact ⟨rfl, H1.1⟩
end Go.Proofs.YtcgbepmhfimbjaaDoor
