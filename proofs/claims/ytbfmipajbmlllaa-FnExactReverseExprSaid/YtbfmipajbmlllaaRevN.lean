/- Contract of impl.reversed. -/
import Derived.Test.YtbfmipajbmlllaaAssA
import Derived.Test.YtbfmipajbmlllaaExD
import Derived.Test.YtbfmipajbmlllaaQuietC
import Derived.Test.YtbfmipajbmlllaaNode
namespace Go.Proofs.Ytbfmipajbmlllaa
open Go.RowKit

set_option maxRecDepth 100000 in
set_option maxHeartbeats 2000000 in
theorem reversed_any : ∀ (d : Nd) (w : World), d.size ≤ 4194304 → Calls Try.prog 60 #[d.val] w fun e w' => e = .returned d.rev.val ∧ Below w.heap.size w w' := by
  intro d
  induction d with
  | zero =>
    intro w _
    show Calls Try.prog 60 #[.iface 145 (.agg #[])] w _
    have q_not := is_zero_not
    have q_sum := is_zero_sum
    have q_dot := is_zero_dot
    have q_star := is_zero_star
    go_enter Try.func60, Try.ntmps60
    go_wp2_with fail
    go_ret
    exact ⟨rfl, by go_grown⟩
  | one =>
    intro w _
    show Calls Try.prog 60 #[.iface 134 (.agg #[])] w _
    have q_not := is_one_not
    have q_sum := is_one_sum
    have q_dot := is_one_dot
    have q_star := is_one_star
    go_enter Try.func60, Try.ntmps60
    go_wp2_with fail
    go_ret
    exact ⟨rfl, by go_grown⟩
  | test n =>
    intro w _
    show Calls Try.prog 60 #[.iface 136 (.agg #[.int .i64 n])] w _
    have q_not := is_test_not
    have q_sum := is_test_sum
    have q_dot := is_test_dot
    have q_star := is_test_star
    go_enter Try.func60, Try.ntmps60
    go_wp2_with fail
    go_ret
    exact ⟨rfl, by go_grown⟩
  | act n =>
    intro w _
    show Calls Try.prog 60 #[.iface 137 (.agg #[.int .i64 n])] w _
    have q_not := is_act_not
    have q_sum := is_act_sum
    have q_dot := is_act_dot
    have q_star := is_act_star
    go_enter Try.func60, Try.ntmps60
    go_wp2_with fail
    go_ret
    exact ⟨rfl, by go_grown⟩
  | not a ih =>
    intro w hs
    have hsa : a.size ≤ 4194304 ∧ 1 + a.rev.size ≤ 4194304 := by rw [Nd.rev_size]; simp only [Nd.size] at hs; omega
    obtain ⟨v1, hv1⟩ : ∃ v : Value, v = a.rev.val := ⟨_, rfl⟩
    obtain ⟨v2, hv2⟩ : ∃ v : Value, v = (Nd.not a.rev).val := ⟨_, rfl⟩
    have K1 : Hid (∀ W : World, Calls Try.prog 60 #[a.val] W fun e w' => e = .returned v1 ∧ Below W.heap.size W w') := fun W => by rw [hv1]; exact ih W hsa.1
    have K2 : Hid (∀ W : World, Calls Try.prog 99 #[v1] W fun e w' => e = .returned v2 ∧ Below W.heap.size W w') := fun W => by rw [hv1, hv2]; exact newNot_any _ W hsa.2
    have HV : Hid ((Nd.not a).rev.val = v2) := by show _ = _; rw [hv2]; rfl
    clear ih hv1 hv2 hsa hs
    show Calls Try.prog 60 #[.iface 139 (.agg #[a.val, .int .i64 (1 + a.size : Nat)])] w _
    obtain ⟨T1, x1, h1⟩ := Nd.val_if a
    rw [h1] at K1 ⊢
    clear h1
    generalize ((1 + a.size : Nat) : Int) = z
    have q_not := is_not_not
    go_enter Try.func60, Try.ntmps60
    go_wp2_with fail
    refine (K1.out _).mono ?_
    rintro e w1 ⟨rfl, hb⟩
    have B1 : Sees w w1 := Sees.below (by unfold Sees; go_grown) hb
    clear hb
    go_wp2_with fail
    refine (K2.out _).mono ?_
    rintro e w2 ⟨rfl, hb⟩
    have B2 := B1.below hb
    clear hb
    go_wp2_with fail
    go_ret
    exact ⟨by rw [HV.out]; rfl, B2⟩
  | sum a b iha ihb =>
    intro w hs
    have hsa : a.size ≤ 4194304 ∧ b.size ≤ 4194304 ∧ 1 + a.rev.size + b.rev.size ≤ 4194304 := by rw [Nd.rev_size, Nd.rev_size]; simp only [Nd.size] at hs; omega
    obtain ⟨v1, hv1⟩ : ∃ v : Value, v = a.rev.val := ⟨_, rfl⟩
    obtain ⟨u1, hu1⟩ : ∃ v : Value, v = b.rev.val := ⟨_, rfl⟩
    obtain ⟨v2, hv2⟩ : ∃ v : Value, v = (Nd.sum a.rev b.rev).val := ⟨_, rfl⟩
    have K1 : Hid (∀ W : World, Calls Try.prog 60 #[a.val] W fun e w' => e = .returned v1 ∧ Below W.heap.size W w') := fun W => by rw [hv1]; exact iha W hsa.1
    have K2 : Hid (∀ W : World, Calls Try.prog 60 #[b.val] W fun e w' => e = .returned u1 ∧ Below W.heap.size W w') := fun W => by rw [hu1]; exact ihb W hsa.2.1
    have KN : Hid (∀ W : World, Calls Try.prog 100 #[v1, u1] W fun e w' => e = .returned v2 ∧ Below W.heap.size W w') := fun W => by rw [hv1, hu1, hv2]; exact newSum_any _ _ W hsa.2.2
    have HV : Hid ((Nd.sum a b).rev.val = v2) := by show _ = _; rw [hv2]; rfl
    clear iha ihb hv1 hu1 hv2 hsa hs
    show Calls Try.prog 60 #[.iface 141 (.agg #[a.val, b.val, .int .i64 (1 + a.size + b.size : Nat)])] w _
    obtain ⟨T1, x1, h1⟩ := Nd.val_if a
    obtain ⟨T2, x2, h2⟩ := Nd.val_if b
    rw [h1] at K1 ⊢
    rw [h2] at K2 ⊢
    clear h1 h2
    generalize ((1 + a.size + b.size : Nat) : Int) = z
    have hX : Hid (St w [(w.heap.size, 0, .iface T1 x1), (w.heap.size, 1, .iface T2 x2)] (w.alloc (.cells #[.iface T1 x1, .iface T2 x2, .int .i64 z] 141))) := ⟨(by unfold Sees; go_grown), (by simp [go_sem]), (by simp [go_sem]), trivial⟩
    have q_not := is_sum_not
    have q_sum := is_sum_sum
    go_enter Try.func60, Try.ntmps60
    go_wp2_with fail
    refine wp_region_quietC w [(w.heap.size, 0, .iface T1 x1), (w.heap.size, 1, .iface T2 x2)] (by kernel_rfl) (by kernel_rfl) hX.out ?_
    repeat (first | go_big_quiet_skip | (go_big_quiet_want; apply Exists.intro; refine ⟨fun W hW => ?_, ?_⟩; focus (have hK := Lib.hid hW; obtain ⟨hs, hc⟩ := hW; simp only [Has, and_true] at hc; go_simp; (first | (go_at_call_of 60 (Value.iface T1 x1); exact quietC_call hK.out (K1.out _)) | (go_at_call_of 60 (Value.iface T2 x2); exact quietC_call hK.out (K2.out _)) | (go_at_call 100; exact quietC_call hK.out (KN.out _)) | rfl))) | (go_simp; go_big_quiet_on))
    refine wpQuiet_nil ?_
    intro w1 H1
    go_wp2_with fail
    go_ret
    exact ⟨by rw [HV.out]; rfl, H1.1⟩
  | dot a b iha ihb =>
    intro w hs
    have hsa : a.size ≤ 4194304 ∧ b.size ≤ 4194304 ∧ 1 + b.rev.size + a.rev.size ≤ 4194304 := by rw [Nd.rev_size, Nd.rev_size]; simp only [Nd.size] at hs; omega
    obtain ⟨v1, hv1⟩ : ∃ v : Value, v = a.rev.val := ⟨_, rfl⟩
    obtain ⟨u1, hu1⟩ : ∃ v : Value, v = b.rev.val := ⟨_, rfl⟩
    obtain ⟨v2, hv2⟩ : ∃ v : Value, v = (Nd.dot b.rev a.rev).val := ⟨_, rfl⟩
    have K1 : Hid (∀ W : World, Calls Try.prog 60 #[a.val] W fun e w' => e = .returned v1 ∧ Below W.heap.size W w') := fun W => by rw [hv1]; exact iha W hsa.1
    have K2 : Hid (∀ W : World, Calls Try.prog 60 #[b.val] W fun e w' => e = .returned u1 ∧ Below W.heap.size W w') := fun W => by rw [hu1]; exact ihb W hsa.2.1
    have KN : Hid (∀ W : World, Calls Try.prog 101 #[u1, v1] W fun e w' => e = .returned v2 ∧ Below W.heap.size W w') := fun W => by rw [hv1, hu1, hv2]; exact newDot_any _ _ W hsa.2.2
    have HV : Hid ((Nd.dot a b).rev.val = v2) := by show _ = _; rw [hv2]; rfl
    clear iha ihb hv1 hu1 hv2 hsa hs
    show Calls Try.prog 60 #[.iface 142 (.agg #[a.val, b.val, .int .i64 (1 + a.size + b.size : Nat)])] w _
    obtain ⟨T1, x1, h1⟩ := Nd.val_if a
    obtain ⟨T2, x2, h2⟩ := Nd.val_if b
    rw [h1] at K1 ⊢
    rw [h2] at K2 ⊢
    clear h1 h2
    generalize ((1 + a.size + b.size : Nat) : Int) = z
    have hX : Hid (St w [(w.heap.size, 0, .iface T1 x1), (w.heap.size, 1, .iface T2 x2)] (w.alloc (.cells #[.iface T1 x1, .iface T2 x2, .int .i64 z] 142))) := ⟨(by unfold Sees; go_grown), (by simp [go_sem]), (by simp [go_sem]), trivial⟩
    have q_not := is_dot_not
    have q_sum := is_dot_sum
    have q_dot := is_dot_dot
    go_enter Try.func60, Try.ntmps60
    go_wp2_with fail
    refine wp_region_quietC w [(w.heap.size, 0, .iface T1 x1), (w.heap.size, 1, .iface T2 x2)] (by kernel_rfl) (by kernel_rfl) hX.out ?_
    repeat (first | go_big_quiet_skip | (go_big_quiet_want; apply Exists.intro; refine ⟨fun W hW => ?_, ?_⟩; focus (have hK := Lib.hid hW; obtain ⟨hs, hc⟩ := hW; simp only [Has, and_true] at hc; go_simp; (first | (go_at_call_of 60 (Value.iface T1 x1); exact quietC_call hK.out (K1.out _)) | (go_at_call_of 60 (Value.iface T2 x2); exact quietC_call hK.out (K2.out _)) | (go_at_call 101; exact quietC_call hK.out (KN.out _)) | rfl))) | (go_simp; go_big_quiet_on))
    refine wpQuiet_nil ?_
    intro w1 H1
    go_wp2_with fail
    go_ret
    exact ⟨by rw [HV.out]; rfl, H1.1⟩
  | star a ih =>
    intro w hs
    have hsa : a.size ≤ 4194304 ∧ 1 + a.rev.size ≤ 4194304 := by rw [Nd.rev_size]; simp only [Nd.size] at hs; omega
    obtain ⟨v1, hv1⟩ : ∃ v : Value, v = a.rev.val := ⟨_, rfl⟩
    obtain ⟨v2, hv2⟩ : ∃ v : Value, v = (Nd.star a.rev).val := ⟨_, rfl⟩
    have K1 : Hid (∀ W : World, Calls Try.prog 60 #[a.val] W fun e w' => e = .returned v1 ∧ Below W.heap.size W w') := fun W => by rw [hv1]; exact ih W hsa.1
    have K2 : Hid (∀ W : World, Calls Try.prog 102 #[v1] W fun e w' => e = .returned v2 ∧ Below W.heap.size W w') := fun W => by rw [hv1, hv2]; exact newStar_any _ W hsa.2
    have HV : Hid ((Nd.star a).rev.val = v2) := by show _ = _; rw [hv2]; rfl
    clear ih hv1 hv2 hsa hs
    show Calls Try.prog 60 #[.iface 143 (.agg #[a.val, .int .i64 (1 + a.size : Nat)])] w _
    obtain ⟨T1, x1, h1⟩ := Nd.val_if a
    rw [h1] at K1 ⊢
    clear h1
    generalize ((1 + a.size : Nat) : Int) = z
    have q_not := is_star_not
    have q_sum := is_star_sum
    have q_dot := is_star_dot
    have q_star := is_star_star
    go_enter Try.func60, Try.ntmps60
    go_wp2_with fail
    refine (K1.out _).mono ?_
    rintro e w1 ⟨rfl, hb⟩
    have B1 : Sees w w1 := Sees.below (by unfold Sees; go_grown) hb
    clear hb
    go_wp2_with fail
    refine (K2.out _).mono ?_
    rintro e w2 ⟨rfl, hb⟩
    have B2 := B1.below hb
    clear hb
    go_wp2_with fail
    go_ret
    exact ⟨by rw [HV.out]; rfl, B2⟩
end Go.Proofs.Ytbfmipajbmlllaa
