/- Contract of impl.nodeOf. -/
import Derived.Test.YtojheipllpkgdaaDoorNode
import Derived.Test.YtojheipllpkgdaaDoorQuietC
import Derived.Deep.RegionWith
namespace Go.Proofs.YtojheipllpkgdaaDoor
open Go.RowKit

set_option maxRecDepth 100000 in
set_option maxHeartbeats 2000000 in
theorem nodeOf_any : ∀ (N : Nat) (f : Fo), f.nodes < N → f.nodes ≤ 1048576 → ∀ (t a : Int) (b : Bool) (k n : Int) (A : Option Addr) (C : Nat) (w : World), f.Lies w A → treeE t a b k n f = true →
      Calls Tryd.prog 59 #[.agg #[.int .i64 k, .int .i64 n, .slice A f.len C]] w fun e w' => e = .returned ((ndE f k n).val) ∧ Below w.heap.size w w' := by
  intro N
  induction N with
  | zero => intro f hN; exact absurd hN (Nat.not_lt_zero _)
  | succ N ih =>
    intro f hN hm t a b k n A C w hl ht
    have IH := Lib.hid ih; clear ih
    rcases tree_forms ht with ⟨rfl, hk⟩ | ⟨k1, n1, f1, rfl, hk, ht1⟩ | ⟨k1, n1, f1, k2, n2, f2, rfl, hk, ht1, ht2⟩
    · clear ht IH
      rcases hk with rfl | rfl | ⟨rfl, _, _⟩ | ⟨rfl, _, _⟩
      all_goals
        go_enter Tryd.func59, Tryd.ntmps59
        go_wp2_with fail
        go_ret
        exact ⟨rfl, by go_grown⟩
    all_goals
      obtain ⟨b', o', rfl, hat⟩ := hl (by simp)
      clear hl
    · have hkn : f1.nodes < N ∧ f1.nodes ≤ 1048576 := by simp only [Fo.nodes] at hN hm; omega
      obtain ⟨c0, c1, ⟨A1, C1, c2, hl1'⟩, _⟩ := hat
      have hl1 : f1.Lies w A1 := hl1'
      have lb : b' < w.heap.size := World.block_lt_of_cell? _ _ c0
      have hln : (Fo.cons k1 n1 f1 .nil).len = 1 := rfl
      have HL := Lib.hid hln
      rw [hln]
      clear hln hl1' ht
      rcases hk with rfl | rfl
      · -- not
        have HE : Hid (ndE (.cons k1 n1 f1 .nil) 5 n = .not (ndE f1 k1 n1)) := rfl
        have hsz := ndE_size f1 k1 n1
        obtain ⟨v1, hv1⟩ : ∃ v1 : Value, v1 = (ndE f1 k1 n1).val := ⟨_, rfl⟩
        have KR : Hid (∀ W : World, Sees w W → Calls Tryd.prog 59 #[.agg #[.int .i64 k1, .int .i64 n1, .slice A1 f1.len C1]] W fun e w' => e = .returned v1 ∧ Below W.heap.size W w') := fun W h => by rw [hv1]; exact IH.out f1 hkn.1 hkn.2 t a _ k1 n1 A1 C1 W (hl1.sees h) ht1
        obtain ⟨v2, hv2⟩ : ∃ v2 : Value, v2 = (Nd.not (ndE f1 k1 n1)).val := ⟨_, rfl⟩
        have KN : Hid (∀ W : World, Calls Tryd.prog 87 #[v1] W fun e w' => e = .returned v2 ∧ Below W.heap.size W w') := fun W => by rw [hv1, hv2]; exact newNot_any _ W (by omega)
        have HV : Hid ((ndE (.cons k1 n1 f1 .nil) 5 n).val = v2) := by show _ = _; rw [HE.out, hv2]
        clear hv1 hv2 hsz HE IH
        go_enter Tryd.func59, Tryd.ntmps59
        go_wp2_with fail
        refine (KR.out _ (by unfold Sees; go_grown)).mono ?_
        rintro e w1 ⟨rfl, hb⟩
        have B1 : Sees w w1 := Sees.below (by unfold Sees; go_grown) hb
        clear hb
        go_wp2_with fail
        refine (KN.out _).mono ?_
        rintro e w2 ⟨rfl, hb⟩
        have B2 := B1.below hb
        clear hb
        go_wp2_with fail
        go_ret
        exact ⟨by rw [HV.out]; rfl, B2⟩
      · -- star
        have HE : Hid (ndE (.cons k1 n1 f1 .nil) 8 n = .star (ndE f1 k1 n1)) := rfl
        have hsz := ndE_size f1 k1 n1
        obtain ⟨v1, hv1⟩ : ∃ v1 : Value, v1 = (ndE f1 k1 n1).val := ⟨_, rfl⟩
        have KR : Hid (∀ W : World, Sees w W → Calls Tryd.prog 59 #[.agg #[.int .i64 k1, .int .i64 n1, .slice A1 f1.len C1]] W fun e w' => e = .returned v1 ∧ Below W.heap.size W w') := fun W h => by rw [hv1]; exact IH.out f1 hkn.1 hkn.2 t a _ k1 n1 A1 C1 W (hl1.sees h) ht1
        obtain ⟨v2, hv2⟩ : ∃ v2 : Value, v2 = (Nd.star (ndE f1 k1 n1)).val := ⟨_, rfl⟩
        have KN : Hid (∀ W : World, Calls Tryd.prog 88 #[v1] W fun e w' => e = .returned v2 ∧ Below W.heap.size W w') := fun W => by rw [hv1, hv2]; exact newStar_any _ W (by omega)
        have HV : Hid ((ndE (.cons k1 n1 f1 .nil) 8 n).val = v2) := by show _ = _; rw [HE.out, hv2]
        clear hv1 hv2 hsz HE IH
        go_enter Tryd.func59, Tryd.ntmps59
        go_wp2_with fail
        refine (KR.out _ (by unfold Sees; go_grown)).mono ?_
        rintro e w1 ⟨rfl, hb⟩
        have B1 : Sees w w1 := Sees.below (by unfold Sees; go_grown) hb
        clear hb
        go_wp2_with fail
        refine (KN.out _).mono ?_
        rintro e w2 ⟨rfl, hb⟩
        have B2 := B1.below hb
        clear hb
        go_wp2_with fail
        go_ret
        exact ⟨by rw [HV.out]; rfl, B2⟩
    · have hkn : f1.nodes < N ∧ f2.nodes < N ∧ f1.nodes + f2.nodes ≤ 1048576 := by simp only [Fo.nodes] at hN hm; omega
      obtain ⟨c0, c1, ⟨A1, C1, c2, hl1'⟩, d0, d1, ⟨A2, C2, d2, hl2'⟩, _⟩ := hat
      have hl1 : f1.Lies w A1 := hl1'
      have hl2 : f2.Lies w A2 := hl2'
      have lb : b' < w.heap.size := World.block_lt_of_cell? _ _ c0
      have hln : (Fo.cons k1 n1 f1 (.cons k2 n2 f2 .nil)).len = 2 := rfl
      rw [hln]
      clear hl1' hl2' ht hln
      rcases hk with rfl | rfl
      · -- sum
        have HE : Hid (ndE (.cons k1 n1 f1 (.cons k2 n2 f2 .nil)) 6 n = .sum (ndE f1 k1 n1) (ndE f2 k2 n2)) := rfl
        have hsz := ndE_size f1 k1 n1
        have hsz2 := ndE_size f2 k2 n2
        obtain ⟨v1, hv1⟩ : ∃ v1 : Value, v1 = (ndE f1 k1 n1).val := ⟨_, rfl⟩
        obtain ⟨u1, hu1⟩ : ∃ u1 : Value, u1 = (ndE f2 k2 n2).val := ⟨_, rfl⟩
        have KR : Hid (∀ W : World, Sees w W → Calls Tryd.prog 59 #[.agg #[.int .i64 k1, .int .i64 n1, .slice A1 f1.len C1]] W fun e w' => e = .returned v1 ∧ Below W.heap.size W w') := fun W h => by rw [hv1]; exact IH.out f1 hkn.1 (by omega) t a _ k1 n1 A1 C1 W (hl1.sees h) ht1
        have KR2 : Hid (∀ W : World, Sees w W → Calls Tryd.prog 59 #[.agg #[.int .i64 k2, .int .i64 n2, .slice A2 f2.len C2]] W fun e w' => e = .returned u1 ∧ Below W.heap.size W w') := fun W h => by rw [hu1]; exact IH.out f2 hkn.2.1 (by omega) t a _ k2 n2 A2 C2 W (hl2.sees h) ht2
        obtain ⟨v2, hv2⟩ : ∃ v2 : Value, v2 = (Nd.sum (ndE f1 k1 n1) (ndE f2 k2 n2)).val := ⟨_, rfl⟩
        have KN : Hid (∀ W : World, Calls Tryd.prog 86 #[v1, u1] W fun e w' => e = .returned v2 ∧ Below W.heap.size W w') := fun W => by rw [hv1, hu1, hv2]; exact newSum_any _ _ W (by omega)
        have HV : Hid ((ndE (.cons k1 n1 f1 (.cons k2 n2 f2 .nil)) 6 n).val = v2) := by show _ = _; rw [HE.out, hv2]
        have hX : Hid (St w [(w.heap.size, 2, .slice (some ⟨b', o', none⟩) 2 C), (b', o', .int .i64 k1), (b', o' + 1, .int .i64 n1), (b', o' + 2, .slice A1 f1.len C1), (b', o' + 3, .int .i64 k2), (b', o' + 4, .int .i64 n2), (b', o' + 5, .slice A2 f2.len C2)] (w.alloc (.cells #[.int .i64 6, .int .i64 n, .slice (some ⟨b', o', none⟩) 2 C] 36))) := ⟨(by unfold Sees; go_grown), (by simp [go_sem]), ka _ c0, ka _ c1, ka _ c2, ka _ d0, ka _ d1, ka _ d2, trivial⟩
        clear hv1 hu1 hv2 hsz hsz2 HE IH c0 c1 c2 d0 d1 d2
        go_enter Tryd.func59, Tryd.ntmps59
        go_wp2_with fail
        refine wp_region_quietC w [(w.heap.size, 2, .slice (some ⟨b', o', none⟩) 2 C), (b', o', .int .i64 k1), (b', o' + 1, .int .i64 n1), (b', o' + 2, .slice A1 f1.len C1), (b', o' + 3, .int .i64 k2), (b', o' + 4, .int .i64 n2), (b', o' + 5, .slice A2 f2.len C2)] (by kernel_rfl) (by kernel_rfl) hX.out ?_
        repeat (first | go_big_quiet_skip | (go_big_quiet_want; apply Exists.intro; refine ⟨fun W hW => ?_, ?_⟩; focus (have hK := Lib.hid hW; obtain ⟨hs, hc⟩ := hW; simp only [Has, and_true] at hc; go_simp; (first | (go_at_call_of 59 A1; exact quietC_call hK.out (KR.out _ hK.out.1)) | (go_at_call_of 59 A2; exact quietC_call hK.out (KR2.out _ hK.out.1)) | (go_at_call 86; exact quietC_call hK.out (KN.out _)) | rfl))) | (go_simp; go_big_quiet_on))
        refine wpQuiet_nil ?_
        intro w1 H1
        go_wp2_with fail
        go_ret
        exact ⟨by rw [HV.out]; rfl, H1.1⟩
      · -- dot
        have HE : Hid (ndE (.cons k1 n1 f1 (.cons k2 n2 f2 .nil)) 7 n = .dot (ndE f1 k1 n1) (ndE f2 k2 n2)) := rfl
        have hsz := ndE_size f1 k1 n1
        have hsz2 := ndE_size f2 k2 n2
        obtain ⟨v1, hv1⟩ : ∃ v1 : Value, v1 = (ndE f1 k1 n1).val := ⟨_, rfl⟩
        obtain ⟨u1, hu1⟩ : ∃ u1 : Value, u1 = (ndE f2 k2 n2).val := ⟨_, rfl⟩
        have KR : Hid (∀ W : World, Sees w W → Calls Tryd.prog 59 #[.agg #[.int .i64 k1, .int .i64 n1, .slice A1 f1.len C1]] W fun e w' => e = .returned v1 ∧ Below W.heap.size W w') := fun W h => by rw [hv1]; exact IH.out f1 hkn.1 (by omega) t a _ k1 n1 A1 C1 W (hl1.sees h) ht1
        have KR2 : Hid (∀ W : World, Sees w W → Calls Tryd.prog 59 #[.agg #[.int .i64 k2, .int .i64 n2, .slice A2 f2.len C2]] W fun e w' => e = .returned u1 ∧ Below W.heap.size W w') := fun W h => by rw [hu1]; exact IH.out f2 hkn.2.1 (by omega) t a _ k2 n2 A2 C2 W (hl2.sees h) ht2
        obtain ⟨v2, hv2⟩ : ∃ v2 : Value, v2 = (Nd.dot (ndE f1 k1 n1) (ndE f2 k2 n2)).val := ⟨_, rfl⟩
        have KN : Hid (∀ W : World, Calls Tryd.prog 85 #[v1, u1] W fun e w' => e = .returned v2 ∧ Below W.heap.size W w') := fun W => by rw [hv1, hu1, hv2]; exact newDot_any _ _ W (by omega)
        have HV : Hid ((ndE (.cons k1 n1 f1 (.cons k2 n2 f2 .nil)) 7 n).val = v2) := by show _ = _; rw [HE.out, hv2]
        have hX : Hid (St w [(w.heap.size, 2, .slice (some ⟨b', o', none⟩) 2 C), (b', o', .int .i64 k1), (b', o' + 1, .int .i64 n1), (b', o' + 2, .slice A1 f1.len C1), (b', o' + 3, .int .i64 k2), (b', o' + 4, .int .i64 n2), (b', o' + 5, .slice A2 f2.len C2)] (w.alloc (.cells #[.int .i64 7, .int .i64 n, .slice (some ⟨b', o', none⟩) 2 C] 36))) := ⟨(by unfold Sees; go_grown), (by simp [go_sem]), ka _ c0, ka _ c1, ka _ c2, ka _ d0, ka _ d1, ka _ d2, trivial⟩
        clear hv1 hu1 hv2 hsz hsz2 HE IH c0 c1 c2 d0 d1 d2
        go_enter Tryd.func59, Tryd.ntmps59
        go_wp2_with fail
        refine wp_region_quietC w [(w.heap.size, 2, .slice (some ⟨b', o', none⟩) 2 C), (b', o', .int .i64 k1), (b', o' + 1, .int .i64 n1), (b', o' + 2, .slice A1 f1.len C1), (b', o' + 3, .int .i64 k2), (b', o' + 4, .int .i64 n2), (b', o' + 5, .slice A2 f2.len C2)] (by kernel_rfl) (by kernel_rfl) hX.out ?_
        repeat (first | go_big_quiet_skip | (go_big_quiet_want; apply Exists.intro; refine ⟨fun W hW => ?_, ?_⟩; focus (have hK := Lib.hid hW; obtain ⟨hs, hc⟩ := hW; simp only [Has, and_true] at hc; go_simp; (first | (go_at_call_of 59 A1; exact quietC_call hK.out (KR.out _ hK.out.1)) | (go_at_call_of 59 A2; exact quietC_call hK.out (KR2.out _ hK.out.1)) | (go_at_call 85; exact quietC_call hK.out (KN.out _)) | rfl))) | (go_simp; go_big_quiet_on))
        refine wpQuiet_nil ?_
        intro w1 H1
        go_wp2_with fail
        go_ret
        exact ⟨by rw [HV.out]; rfl, H1.1⟩

end Go.Proofs.YtojheipllpkgdaaDoor
