/- Contract of spec.l01Text. -/
import Derived.Test.YtcgbepmhfimbjaaDoorDec
import Derived.Test.YtcgbepmhfimbjaaDoorQuietC
import Derived.Deep.RegionWith
namespace Go.Proofs.YtcgbepmhfimbjaaDoor
open Go.RowKit

set_option maxRecDepth 100000 in
set_option maxHeartbeats 4000000 in
theorem l01Text_any : ∀ (N : Nat) (f : Fo), f.nodes < N → f.nodes ≤ 134217728 → ∀ (t a : Int) (b : Bool) (k n : Int) (A : Option Addr) (C B o : Nat) (w : World), t ≤ 3 → a ≤ 4 → f.Lies w A → treeE t a b k n f = true →
      w.cell? ⟨B, o, none⟩ = some (.int .i64 k) → w.cell? ⟨B, o + 1, none⟩ = some (.int .i64 n) → w.cell? ⟨B, o + 2, none⟩ = some (.slice A f.len C) →
      Calls Tryd.prog 61 #[.pointer (some ⟨B, o, none⟩)] w fun e w' => e = .returned (.string ⟨(ndE f k n).tx.toArray⟩) ∧ Below w.heap.size w w' := by
  intro N
  induction N with
  | zero => intro f hN; exact absurd hN (Nat.not_lt_zero _)
  | succ N ih =>
    intro f hN hm t a b k n A C B o w ht3 ha4 hl ht p0 p1 p2
    have IH := Lib.hid ih; clear ih
    have lB : B < w.heap.size := World.block_lt_of_cell? _ _ p0
    rcases tree_forms ht with ⟨rfl, hk⟩ | ⟨k1, n1, f1, rfl, hk, ht1⟩ | ⟨k1, n1, f1, k2, n2, f2, rfl, hk, ht1, ht2⟩
    · clear ht IH
      rcases hk with rfl | rfl | ⟨rfl, hn0, hn1⟩ | ⟨rfl, hn0, hn1⟩
      · go_enter Tryd.func61, Tryd.ntmps61
        go_wp2_with fail
        go_ret
        exact ⟨rfl, by go_grown⟩
      · go_enter Tryd.func61, Tryd.ntmps61
        go_wp2_with fail
        go_ret
        exact ⟨rfl, by go_grown⟩
      · obtain ⟨s1, hs1⟩ : ∃ s : ByteArray, s = ⟨(Lib.decDigits n.toNat).toArray⟩ := ⟨_, rfl⟩
        obtain ⟨s2, hs2⟩ : ∃ s : ByteArray, s = ⟨(116 :: Lib.decDigits n.toNat).toArray⟩ := ⟨_, rfl⟩
        have KD : Hid (∀ W : World, Calls Tryd.prog 60 #[.int .i64 n] W fun e w' => e = .returned (.string s1) ∧ Below W.heap.size W w') := fun W => by rw [hs1]; exact decimal_one n hn0 (by omega) W
        have q1 : ∀ W : World, (Op.stringOp .add ⟨#[116]⟩ s1).run Tryd.prog W = .ok (.string s2) W := fun W => by rw [hs1, hs2]; exact add_any [116] _ (by rw [Lib.decDigits_one (by omega)]; simp) W
        have HV : Hid ((ndE .nil 3 n).tx = 116 :: Lib.decDigits n.toNat) := rfl
        rw [HV.out, ← hs2]
        clear hs1 hs2 hn0 hn1
        go_enter Tryd.func61, Tryd.ntmps61
        go_wp2_with fail
        refine (KD.out _).mono ?_
        rintro e w1 ⟨rfl, hb⟩
        go_wp2_with fail
        go_ret
        exact ⟨rfl, hb⟩
      · obtain ⟨s1, hs1⟩ : ∃ s : ByteArray, s = ⟨(Lib.decDigits n.toNat).toArray⟩ := ⟨_, rfl⟩
        obtain ⟨s2, hs2⟩ : ∃ s : ByteArray, s = ⟨(97 :: Lib.decDigits n.toNat).toArray⟩ := ⟨_, rfl⟩
        have KD : Hid (∀ W : World, Calls Tryd.prog 60 #[.int .i64 n] W fun e w' => e = .returned (.string s1) ∧ Below W.heap.size W w') := fun W => by rw [hs1]; exact decimal_one n hn0 (by omega) W
        have q1 : ∀ W : World, (Op.stringOp .add ⟨#[97]⟩ s1).run Tryd.prog W = .ok (.string s2) W := fun W => by rw [hs1, hs2]; exact add_any [97] _ (by rw [Lib.decDigits_one (by omega)]; simp) W
        have HV : Hid ((ndE .nil 4 n).tx = 97 :: Lib.decDigits n.toNat) := rfl
        rw [HV.out, ← hs2]
        clear hs1 hs2 hn0 hn1
        go_enter Tryd.func61, Tryd.ntmps61
        go_wp2_with fail
        refine (KD.out _).mono ?_
        rintro e w1 ⟨rfl, hb⟩
        go_wp2_with fail
        go_ret
        exact ⟨rfl, hb⟩
    all_goals
      obtain ⟨b', o', rfl, hat⟩ := hl (by simp)
      clear hl
    · have hkn : f1.nodes < N ∧ f1.nodes ≤ 134217728 := by simp only [Fo.nodes] at hN hm; omega
      obtain ⟨c0, c1, ⟨A1, C1, c2, hl1'⟩, _⟩ := hat
      have hl1 : f1.Lies w A1 := hl1'
      have lb : b' < w.heap.size := World.block_lt_of_cell? _ _ c0
      have hln : (Fo.cons k1 n1 f1 .nil).len = 1 := rfl
      rw [hln] at p2
      have hok : (ndE f1 k1 n1).okD := ndE_okD t a ht3 ha4 (f1.nodes + 1) f1 (Nat.lt_succ_self _) _ k1 n1 ht1
      have htl := Nd.tx_len hok
      have hsz := ndE_size f1 k1 n1
      clear hln hl1' ht
      rcases hk with rfl | rfl
      · obtain ⟨s1, hs1⟩ : ∃ s : ByteArray, s = ⟨(ndE f1 k1 n1).tx.toArray⟩ := ⟨_, rfl⟩
        obtain ⟨s2, hs2⟩ : ∃ s : ByteArray, s = ⟨(126 :: (ndE f1 k1 n1).tx).toArray⟩ := ⟨_, rfl⟩
        have KR : Hid (∀ W : World, Sees w W → Calls Tryd.prog 61 #[.pointer (some ⟨b', o', none⟩)] W fun e w' => e = .returned (.string s1) ∧ Below W.heap.size W w') := fun W h => by rw [hs1]; exact IH.out f1 hkn.1 hkn.2 t a _ k1 n1 A1 C1 b' o' W ht3 ha4 (hl1.sees h) ht1 ((h.cell (p := ⟨b', o', none⟩) lb).trans c0) ((h.cell (p := ⟨b', o' + 1, none⟩) lb).trans c1) ((h.cell (p := ⟨b', o' + 2, none⟩) lb).trans c2)
        have q1 : ∀ W : World, (Op.stringOp .add ⟨#[126]⟩ s1).run Tryd.prog W = .ok (.string s2) W := fun W => by rw [hs1, hs2]; exact add_any [126] _ (by simp only [List.length_cons, List.length_nil]; omega) W
        have HV : Hid ((ndE (.cons k1 n1 f1 .nil) 5 n).tx = 126 :: (ndE f1 k1 n1).tx) := rfl
        rw [HV.out, ← hs2]
        clear hs1 hs2 IH hok htl hsz
        go_enter Tryd.func61, Tryd.ntmps61
        go_wp2_with fail
        refine (KR.out _ (Sees.refl w)).mono ?_
        rintro e w1 ⟨rfl, hb⟩
        go_wp2_with fail
        go_ret
        exact ⟨rfl, hb⟩
      · obtain ⟨s1, hs1⟩ : ∃ s : ByteArray, s = ⟨(ndE f1 k1 n1).tx.toArray⟩ := ⟨_, rfl⟩
        obtain ⟨s2, hs2⟩ : ∃ s : ByteArray, s = ⟨((ndE f1 k1 n1).tx ++ [42]).toArray⟩ := ⟨_, rfl⟩
        have KR : Hid (∀ W : World, Sees w W → Calls Tryd.prog 61 #[.pointer (some ⟨b', o', none⟩)] W fun e w' => e = .returned (.string s1) ∧ Below W.heap.size W w') := fun W h => by rw [hs1]; exact IH.out f1 hkn.1 hkn.2 t a _ k1 n1 A1 C1 b' o' W ht3 ha4 (hl1.sees h) ht1 ((h.cell (p := ⟨b', o', none⟩) lb).trans c0) ((h.cell (p := ⟨b', o' + 1, none⟩) lb).trans c1) ((h.cell (p := ⟨b', o' + 2, none⟩) lb).trans c2)
        have q1 : ∀ W : World, (Op.stringOp .add s1 ⟨#[42]⟩).run Tryd.prog W = .ok (.string s2) W := fun W => by rw [hs1, hs2]; exact add_any _ [42] (by simp only [List.length_cons, List.length_nil]; omega) W
        have HV : Hid ((ndE (.cons k1 n1 f1 .nil) 8 n).tx = (ndE f1 k1 n1).tx ++ [42]) := rfl
        rw [HV.out, ← hs2]
        clear hs1 hs2 IH hok htl hsz
        go_enter Tryd.func61, Tryd.ntmps61
        go_wp2_with fail
        refine (KR.out _ (Sees.refl w)).mono ?_
        rintro e w1 ⟨rfl, hb⟩
        go_wp2_with fail
        go_ret
        exact ⟨rfl, hb⟩
    · have hkn : f1.nodes < N ∧ f2.nodes < N ∧ f1.nodes + f2.nodes ≤ 134217728 := by simp only [Fo.nodes] at hN hm; omega
      obtain ⟨c0, c1, ⟨A1, C1, c2, hl1'⟩, d0, d1, ⟨A2, C2, d2, hl2'⟩, _⟩ := hat
      have hl1 : f1.Lies w A1 := hl1'
      have hl2 : f2.Lies w A2 := hl2'
      have lb : b' < w.heap.size := World.block_lt_of_cell? _ _ c0
      have hln : (Fo.cons k1 n1 f1 (.cons k2 n2 f2 .nil)).len = 2 := rfl
      rw [hln] at p2
      have hok : (ndE f1 k1 n1).okD := ndE_okD t a ht3 ha4 (f1.nodes + 1) f1 (Nat.lt_succ_self _) _ k1 n1 ht1
      have hok2 : (ndE f2 k2 n2).okD := ndE_okD t a ht3 ha4 (f2.nodes + 1) f2 (Nat.lt_succ_self _) _ k2 n2 ht2
      have htl := Nd.tx_len hok
      have htl2 := Nd.tx_len hok2
      have hsz := ndE_size f1 k1 n1
      have hsz2 := ndE_size f2 k2 n2
      clear hl1' hl2' ht hln
      rcases hk with rfl | rfl
      · obtain ⟨la, hla⟩ : ∃ l, l = (ndE f1 k1 n1).tx := ⟨_, rfl⟩
        obtain ⟨lb2, hlb⟩ : ∃ l, l = (ndE f2 k2 n2).tx := ⟨_, rfl⟩
        have HV : Hid ((ndE (.cons k1 n1 f1 (.cons k2 n2 f2 .nil)) 6 n).tx = 40 :: (la ++ ([32, 43, 32] ++ (lb2 ++ [41])))) := by show _ = _; rw [hla, hlb]; rfl
        rw [← hla] at htl
        rw [← hlb] at htl2
        obtain ⟨s1, hs1⟩ : ∃ s : ByteArray, s = ⟨la.toArray⟩ := ⟨_, rfl⟩
        obtain ⟨s2, hs2⟩ : ∃ s : ByteArray, s = ⟨lb2.toArray⟩ := ⟨_, rfl⟩
        obtain ⟨s3, hs3⟩ : ∃ s : ByteArray, s = ⟨([40] ++ la).toArray⟩ := ⟨_, rfl⟩
        obtain ⟨s4, hs4⟩ : ∃ s : ByteArray, s = ⟨([40] ++ la ++ [32, 43, 32]).toArray⟩ := ⟨_, rfl⟩
        obtain ⟨s5, hs5⟩ : ∃ s : ByteArray, s = ⟨([40] ++ la ++ [32, 43, 32] ++ lb2).toArray⟩ := ⟨_, rfl⟩
        obtain ⟨s6, hs6⟩ : ∃ s : ByteArray, s = ⟨([40] ++ la ++ [32, 43, 32] ++ lb2 ++ [41]).toArray⟩ := ⟨_, rfl⟩
        have KR : Hid (∀ W : World, Sees w W → Calls Tryd.prog 61 #[.pointer (some ⟨b', o', none⟩)] W fun e w' => e = .returned (.string s1) ∧ Below W.heap.size W w') := fun W h => by rw [hs1, hla]; exact IH.out f1 hkn.1 (by omega) t a _ k1 n1 A1 C1 b' o' W ht3 ha4 (hl1.sees h) ht1 ((h.cell (p := ⟨b', o', none⟩) lb).trans c0) ((h.cell (p := ⟨b', o' + 1, none⟩) lb).trans c1) ((h.cell (p := ⟨b', o' + 2, none⟩) lb).trans c2)
        have KR2 : Hid (∀ W : World, Sees w W → Calls Tryd.prog 61 #[.pointer (some ⟨b', o' + 3, none⟩)] W fun e w' => e = .returned (.string s2) ∧ Below W.heap.size W w') := fun W h => by rw [hs2, hlb]; exact IH.out f2 hkn.2.1 (by omega) t a _ k2 n2 A2 C2 b' (o' + 3) W ht3 ha4 (hl2.sees h) ht2 ((h.cell (p := ⟨b', o' + 3, none⟩) lb).trans d0) ((h.cell (p := ⟨b', o' + 3 + 1, none⟩) lb).trans d1) ((h.cell (p := ⟨b', o' + 3 + 2, none⟩) lb).trans d2)
        have q1 : ∀ W : World, (Op.stringOp .add ⟨#[40]⟩ s1).run Tryd.prog W = .ok (.string s3) W := fun W => by rw [hs1, hs3]; exact add_any [40] la (by simp only [List.length_cons, List.length_nil]; omega) W
        have q2 : ∀ W : World, (Op.stringOp .add s3 ⟨#[32, 43, 32]⟩).run Tryd.prog W = .ok (.string s4) W := fun W => by rw [hs3, hs4]; exact add_any ([40] ++ la) [32, 43, 32] (by simp only [List.length_append, List.length_cons, List.length_nil]; omega) W
        have q3 : ∀ W : World, (Op.stringOp .add s4 s2).run Tryd.prog W = .ok (.string s5) W := fun W => by rw [hs4, hs2, hs5]; exact add_any ([40] ++ la ++ [32, 43, 32]) lb2 (by simp only [List.length_append, List.length_cons, List.length_nil]; omega) W
        have q4 : ∀ W : World, (Op.stringOp .add s5 ⟨#[41]⟩).run Tryd.prog W = .ok (.string s6) W := fun W => by rw [hs5, hs6]; exact add_any ([40] ++ la ++ [32, 43, 32] ++ lb2) [41] (by simp only [List.length_append, List.length_cons, List.length_nil]; omega) W
        have HE : Hid ((ndE (.cons k1 n1 f1 (.cons k2 n2 f2 .nil)) 6 n).tx = [40] ++ la ++ [32, 43, 32] ++ lb2 ++ [41]) := by show _ = _; rw [HV.out]; simp
        rw [HE.out, ← hs6]
        have hX : Hid (St w [(B, o + 2, .slice (some ⟨b', o', none⟩) 2 C)] w) := ⟨Sees.refl w, p2, trivial⟩
        clear hla hlb hs1 hs2 hs3 hs4 hs5 hs6 IH hok hok2 htl htl2 hsz hsz2 HV HE c0 c1 c2 d0 d1 d2 p1
        go_enter Tryd.func61, Tryd.ntmps61
        go_wp2_with fail
        refine wp_region_quietC w [(B, o + 2, .slice (some ⟨b', o', none⟩) 2 C)] (by kernel_rfl) (by kernel_rfl) hX.out ?_
        repeat (first | go_big_quiet_skip | (go_big_quiet_want; apply Exists.intro; refine ⟨fun W hW => ?_, ?_⟩; focus (have hK := Lib.hid hW; obtain ⟨hs, hc⟩ := hW; simp only [Has, and_true] at hc; go_simp; (first | (go_at_call_of 61 (Value.pointer (some ⟨b', o', none⟩)); exact quietC_call hK.out (KR.out _ hK.out.1)) | (go_at_call_of 61 (Value.pointer (some ⟨b', o' + 3, none⟩)); exact quietC_call hK.out (KR2.out _ hK.out.1)) | (go_at_call 61; exact quietC_call hK.out (KR2.out _ hK.out.1)) | rfl))) | (go_simp; go_big_quiet_on))
        refine wpQuiet_nil ?_
        intro w1 H1
        go_wp2_with fail
        go_ret
        exact ⟨rfl, H1.1⟩
      · obtain ⟨la, hla⟩ : ∃ l, l = (ndE f1 k1 n1).tx := ⟨_, rfl⟩
        obtain ⟨lb2, hlb⟩ : ∃ l, l = (ndE f2 k2 n2).tx := ⟨_, rfl⟩
        have HV : Hid ((ndE (.cons k1 n1 f1 (.cons k2 n2 f2 .nil)) 7 n).tx = 40 :: (la ++ ([32] ++ (lb2 ++ [41])))) := by show _ = _; rw [hla, hlb]; rfl
        rw [← hla] at htl
        rw [← hlb] at htl2
        obtain ⟨s1, hs1⟩ : ∃ s : ByteArray, s = ⟨la.toArray⟩ := ⟨_, rfl⟩
        obtain ⟨s2, hs2⟩ : ∃ s : ByteArray, s = ⟨lb2.toArray⟩ := ⟨_, rfl⟩
        obtain ⟨s3, hs3⟩ : ∃ s : ByteArray, s = ⟨([40] ++ la).toArray⟩ := ⟨_, rfl⟩
        obtain ⟨s4, hs4⟩ : ∃ s : ByteArray, s = ⟨([40] ++ la ++ [32]).toArray⟩ := ⟨_, rfl⟩
        obtain ⟨s5, hs5⟩ : ∃ s : ByteArray, s = ⟨([40] ++ la ++ [32] ++ lb2).toArray⟩ := ⟨_, rfl⟩
        obtain ⟨s6, hs6⟩ : ∃ s : ByteArray, s = ⟨([40] ++ la ++ [32] ++ lb2 ++ [41]).toArray⟩ := ⟨_, rfl⟩
        have KR : Hid (∀ W : World, Sees w W → Calls Tryd.prog 61 #[.pointer (some ⟨b', o', none⟩)] W fun e w' => e = .returned (.string s1) ∧ Below W.heap.size W w') := fun W h => by rw [hs1, hla]; exact IH.out f1 hkn.1 (by omega) t a _ k1 n1 A1 C1 b' o' W ht3 ha4 (hl1.sees h) ht1 ((h.cell (p := ⟨b', o', none⟩) lb).trans c0) ((h.cell (p := ⟨b', o' + 1, none⟩) lb).trans c1) ((h.cell (p := ⟨b', o' + 2, none⟩) lb).trans c2)
        have KR2 : Hid (∀ W : World, Sees w W → Calls Tryd.prog 61 #[.pointer (some ⟨b', o' + 3, none⟩)] W fun e w' => e = .returned (.string s2) ∧ Below W.heap.size W w') := fun W h => by rw [hs2, hlb]; exact IH.out f2 hkn.2.1 (by omega) t a _ k2 n2 A2 C2 b' (o' + 3) W ht3 ha4 (hl2.sees h) ht2 ((h.cell (p := ⟨b', o' + 3, none⟩) lb).trans d0) ((h.cell (p := ⟨b', o' + 3 + 1, none⟩) lb).trans d1) ((h.cell (p := ⟨b', o' + 3 + 2, none⟩) lb).trans d2)
        have q1 : ∀ W : World, (Op.stringOp .add ⟨#[40]⟩ s1).run Tryd.prog W = .ok (.string s3) W := fun W => by rw [hs1, hs3]; exact add_any [40] la (by simp only [List.length_cons, List.length_nil]; omega) W
        have q2 : ∀ W : World, (Op.stringOp .add s3 ⟨#[32]⟩).run Tryd.prog W = .ok (.string s4) W := fun W => by rw [hs3, hs4]; exact add_any ([40] ++ la) [32] (by simp only [List.length_append, List.length_cons, List.length_nil]; omega) W
        have q3 : ∀ W : World, (Op.stringOp .add s4 s2).run Tryd.prog W = .ok (.string s5) W := fun W => by rw [hs4, hs2, hs5]; exact add_any ([40] ++ la ++ [32]) lb2 (by simp only [List.length_append, List.length_cons, List.length_nil]; omega) W
        have q4 : ∀ W : World, (Op.stringOp .add s5 ⟨#[41]⟩).run Tryd.prog W = .ok (.string s6) W := fun W => by rw [hs5, hs6]; exact add_any ([40] ++ la ++ [32] ++ lb2) [41] (by simp only [List.length_append, List.length_cons, List.length_nil]; omega) W
        have HE : Hid ((ndE (.cons k1 n1 f1 (.cons k2 n2 f2 .nil)) 7 n).tx = [40] ++ la ++ [32] ++ lb2 ++ [41]) := by show _ = _; rw [HV.out]; simp
        rw [HE.out, ← hs6]
        have hX : Hid (St w [(B, o + 2, .slice (some ⟨b', o', none⟩) 2 C)] w) := ⟨Sees.refl w, p2, trivial⟩
        clear hla hlb hs1 hs2 hs3 hs4 hs5 hs6 IH hok hok2 htl htl2 hsz hsz2 HV HE c0 c1 c2 d0 d1 d2 p1
        go_enter Tryd.func61, Tryd.ntmps61
        go_wp2_with fail
        refine wp_region_quietC w [(B, o + 2, .slice (some ⟨b', o', none⟩) 2 C)] (by kernel_rfl) (by kernel_rfl) hX.out ?_
        repeat (first | go_big_quiet_skip | (go_big_quiet_want; apply Exists.intro; refine ⟨fun W hW => ?_, ?_⟩; focus (have hK := Lib.hid hW; obtain ⟨hs, hc⟩ := hW; simp only [Has, and_true] at hc; go_simp; (first | (go_at_call_of 61 (Value.pointer (some ⟨b', o', none⟩)); exact quietC_call hK.out (KR.out _ hK.out.1)) | (go_at_call_of 61 (Value.pointer (some ⟨b', o' + 3, none⟩)); exact quietC_call hK.out (KR2.out _ hK.out.1)) | (go_at_call 61; exact quietC_call hK.out (KR2.out _ hK.out.1)) | rfl))) | (go_simp; go_big_quiet_on))
        refine wpQuiet_nil ?_
        intro w1 H1
        go_wp2_with fail
        go_ret
        exact ⟨rfl, H1.1⟩
end Go.Proofs.YtcgbepmhfimbjaaDoor
