/- Contract of impl.replaced. -/
import Derived.Test.YtdcaelgojjnglaaAssA
import Derived.Test.YtdcaelgojjnglaaRepl
import Derived.Test.YtdcaelgojjnglaaQuietC
import Derived.Test.YtdcaelgojjnglaaNode
namespace Go.Proofs.Ytdcaelgojjnglaa
open Go.RowKit

/-- A list of nodes lies where a slice value's pointer leads. -/
def NdsAt (w : World) (ns : List Nd) (P : Option Addr) : Prop := ns ≠ [] → ∃ b o, P = some ⟨b, o, none⟩ ∧ ∀ i, i < ns.length → w.cell? ⟨b, o + i, none⟩ = some (ns.getD i .zero).val
theorem NdsAt.sees {w W : World} {ns : List Nd} {P : Option Addr} (h : NdsAt w ns P) (hs : Sees w W) : NdsAt W ns P :=
  fun hn => let ⟨b, o, hP, hc⟩ := h hn; ⟨b, o, hP, fun i hi => kc hs (hc i hi)⟩

set_option maxRecDepth 100000 in
set_option maxHeartbeats 2000000 in
theorem replaced_any (ns : List Nd) (P : Option Addr) (D : Nat) (hn : ns.length ≤ 9223372036854775807) : ∀ (d : Nd) (w : World), d.acts ns.length → (d.repl ns).size ≤ 4194304 → NdsAt w ns P → Calls Try.prog 64 #[d.val, .slice P ns.length D] w fun e w' => e = .returned (d.repl ns).val ∧ Below w.heap.size w w' := by
  intro d
  induction d with
  | zero =>
    intro w _ _ _
    show Calls Try.prog 64 #[.iface 159 (.agg #[]), .slice P ns.length D] w _
    have q_act := is_zero_act
    have q_sum := is_zero_sum
    have q_dot := is_zero_dot
    have q_star := is_zero_star
    go_enter Try.func64, Try.ntmps64
    go_wp2_with fail
    go_ret
    exact ⟨rfl, by go_grown⟩
  | one =>
    intro w _ _ _
    show Calls Try.prog 64 #[.iface 154 (.agg #[]), .slice P ns.length D] w _
    have q_act := is_one_act
    have q_sum := is_one_sum
    have q_dot := is_one_dot
    have q_star := is_one_star
    go_enter Try.func64, Try.ntmps64
    go_wp2_with fail
    go_ret
    exact ⟨rfl, by go_grown⟩
  | test n =>
    intro w _ _ _
    show Calls Try.prog 64 #[.iface 156 (.agg #[.int .i64 n]), .slice P ns.length D] w _
    have q_act := is_test_act
    have q_sum := is_test_sum
    have q_dot := is_test_dot
    have q_star := is_test_star
    go_enter Try.func64, Try.ntmps64
    go_wp2_with fail
    go_ret
    exact ⟨rfl, by go_grown⟩
  | act n =>
    intro w hA _ hP
    obtain ⟨h0, h1⟩ := hA
    obtain ⟨b, o, rfl, hc⟩ := hP (by rintro rfl; simp at h1; omega)
    have hc0 := hc n.toNat (by omega)
    obtain ⟨v, hv⟩ : ∃ v : Value, v = (ns.getD n.toNat .zero).val := ⟨_, rfl⟩
    rw [← hv] at hc0
    have HV : Hid (((Nd.act n).repl ns).val = v) := by show _ = _; rw [hv]; rfl
    have lb : b < w.heap.size := World.block_lt_of_cell? _ _ hc0
    clear hc hv
    show Calls Try.prog 64 #[.iface 157 (.agg #[.int .i64 n]), .slice (some ⟨b, o, none⟩) ns.length D] w _
    have q_act := is_act_act
    go_enter Try.func64, Try.ntmps64
    go_wp2_with fail
    go_ret
    exact ⟨by rw [HV.out]; rfl, by go_grown⟩
  | not a _ =>
    intro w _ _ _
    show Calls Try.prog 64 #[.iface 161 (.agg #[a.val, .int .i64 (1 + a.size : Nat)]), .slice P ns.length D] w _
    have HV : Hid (((Nd.not a).repl ns).val = .iface 161 (.agg #[a.val, .int .i64 (1 + a.size : Nat)])) := rfl
    generalize ((1 + a.size : Nat) : Int) = z at HV ⊢
    generalize a.val = va at HV ⊢
    have q_act := is_not_act
    have q_sum := is_not_sum
    have q_dot := is_not_dot
    have q_star := is_not_star
    go_enter Try.func64, Try.ntmps64
    go_wp2_with fail
    go_ret
    exact ⟨by rw [HV.out]; rfl, by go_grown⟩
  | sum a b iha ihb =>
    intro w hA hs hP
    have hsa : (a.repl ns).size ≤ 4194304 ∧ (b.repl ns).size ≤ 4194304 ∧ 1 + (a.repl ns).size + (b.repl ns).size ≤ 4194304 := by simp only [Nd.repl, Nd.size] at hs; omega
    obtain ⟨v1, hv1⟩ : ∃ v : Value, v = (a.repl ns).val := ⟨_, rfl⟩
    obtain ⟨u1, hu1⟩ : ∃ v : Value, v = (b.repl ns).val := ⟨_, rfl⟩
    obtain ⟨v2, hv2⟩ : ∃ v : Value, v = (Nd.sum (a.repl ns) (b.repl ns)).val := ⟨_, rfl⟩
    have K1 : Hid (∀ W : World, Sees w W → Calls Try.prog 64 #[a.val, .slice P ns.length D] W fun e w' => e = .returned v1 ∧ Below W.heap.size W w') := fun W h => by rw [hv1]; exact iha W hA.1 hsa.1 (hP.sees h)
    have K2 : Hid (∀ W : World, Sees w W → Calls Try.prog 64 #[b.val, .slice P ns.length D] W fun e w' => e = .returned u1 ∧ Below W.heap.size W w') := fun W h => by rw [hu1]; exact ihb W hA.2 hsa.2.1 (hP.sees h)
    have KN : Hid (∀ W : World, Calls Try.prog 108 #[v1, u1] W fun e w' => e = .returned v2 ∧ Below W.heap.size W w') := fun W => by rw [hv1, hu1, hv2]; exact newSum_any _ _ W hsa.2.2
    have HV : Hid (((Nd.sum a b).repl ns).val = v2) := by show _ = _; rw [hv2]; rfl
    clear iha ihb hv1 hu1 hv2 hsa hs hA hP
    show Calls Try.prog 64 #[.iface 163 (.agg #[a.val, b.val, .int .i64 (1 + a.size + b.size : Nat)]), .slice P ns.length D] w _
    obtain ⟨T1, x1, h1⟩ := Nd.val_if a
    obtain ⟨T2, x2, h2⟩ := Nd.val_if b
    rw [h1] at K1 ⊢
    rw [h2] at K2 ⊢
    clear h1 h2
    generalize ((1 + a.size + b.size : Nat) : Int) = z
    have hX : Hid (St w [(w.heap.size, 0, .iface T1 x1), (w.heap.size, 1, .iface T2 x2)] (w.alloc (.cells #[.iface T1 x1, .iface T2 x2, .int .i64 z] 163))) := ⟨(by unfold Sees; go_grown), (by simp [go_sem]), (by simp [go_sem]), trivial⟩
    have q_act := is_sum_act
    have q_sum := is_sum_sum
    go_enter Try.func64, Try.ntmps64
    go_wp2_with fail
    refine wp_region_quietC w [(w.heap.size, 0, .iface T1 x1), (w.heap.size, 1, .iface T2 x2)] (by kernel_rfl) (by kernel_rfl) hX.out ?_
    repeat (first | go_big_quiet_skip | (go_big_quiet_want; apply Exists.intro; refine ⟨fun W hW => ?_, ?_⟩; focus (have hK := Lib.hid hW; obtain ⟨hs, hc⟩ := hW; simp only [Has, and_true] at hc; go_simp; (first | (go_at_call_of 64 (Value.iface T1 x1); exact quietC_call hK.out (K1.out _ hK.out.1)) | (go_at_call_of 64 (Value.iface T2 x2); exact quietC_call hK.out (K2.out _ hK.out.1)) | (go_at_call 108; exact quietC_call hK.out (KN.out _)) | rfl))) | (go_simp; go_big_quiet_on))
    refine wpQuiet_nil ?_
    intro w1 H1
    go_wp2_with fail
    go_ret
    exact ⟨by rw [HV.out]; rfl, H1.1⟩
  | dot a b iha ihb =>
    intro w hA hs hP
    have hsa : (a.repl ns).size ≤ 4194304 ∧ (b.repl ns).size ≤ 4194304 ∧ 1 + (a.repl ns).size + (b.repl ns).size ≤ 4194304 := by simp only [Nd.repl, Nd.size] at hs; omega
    obtain ⟨v1, hv1⟩ : ∃ v : Value, v = (a.repl ns).val := ⟨_, rfl⟩
    obtain ⟨u1, hu1⟩ : ∃ v : Value, v = (b.repl ns).val := ⟨_, rfl⟩
    obtain ⟨v2, hv2⟩ : ∃ v : Value, v = (Nd.dot (a.repl ns) (b.repl ns)).val := ⟨_, rfl⟩
    have K1 : Hid (∀ W : World, Sees w W → Calls Try.prog 64 #[a.val, .slice P ns.length D] W fun e w' => e = .returned v1 ∧ Below W.heap.size W w') := fun W h => by rw [hv1]; exact iha W hA.1 hsa.1 (hP.sees h)
    have K2 : Hid (∀ W : World, Sees w W → Calls Try.prog 64 #[b.val, .slice P ns.length D] W fun e w' => e = .returned u1 ∧ Below W.heap.size W w') := fun W h => by rw [hu1]; exact ihb W hA.2 hsa.2.1 (hP.sees h)
    have KN : Hid (∀ W : World, Calls Try.prog 109 #[v1, u1] W fun e w' => e = .returned v2 ∧ Below W.heap.size W w') := fun W => by rw [hv1, hu1, hv2]; exact newDot_any _ _ W hsa.2.2
    have HV : Hid (((Nd.dot a b).repl ns).val = v2) := by show _ = _; rw [hv2]; rfl
    clear iha ihb hv1 hu1 hv2 hsa hs hA hP
    show Calls Try.prog 64 #[.iface 164 (.agg #[a.val, b.val, .int .i64 (1 + a.size + b.size : Nat)]), .slice P ns.length D] w _
    obtain ⟨T1, x1, h1⟩ := Nd.val_if a
    obtain ⟨T2, x2, h2⟩ := Nd.val_if b
    rw [h1] at K1 ⊢
    rw [h2] at K2 ⊢
    clear h1 h2
    generalize ((1 + a.size + b.size : Nat) : Int) = z
    have hX : Hid (St w [(w.heap.size, 0, .iface T1 x1), (w.heap.size, 1, .iface T2 x2)] (w.alloc (.cells #[.iface T1 x1, .iface T2 x2, .int .i64 z] 164))) := ⟨(by unfold Sees; go_grown), (by simp [go_sem]), (by simp [go_sem]), trivial⟩
    have q_act := is_dot_act
    have q_sum := is_dot_sum
    have q_dot := is_dot_dot
    go_enter Try.func64, Try.ntmps64
    go_wp2_with fail
    refine wp_region_quietC w [(w.heap.size, 0, .iface T1 x1), (w.heap.size, 1, .iface T2 x2)] (by kernel_rfl) (by kernel_rfl) hX.out ?_
    repeat (first | go_big_quiet_skip | (go_big_quiet_want; apply Exists.intro; refine ⟨fun W hW => ?_, ?_⟩; focus (have hK := Lib.hid hW; obtain ⟨hs, hc⟩ := hW; simp only [Has, and_true] at hc; go_simp; (first | (go_at_call_of 64 (Value.iface T1 x1); exact quietC_call hK.out (K1.out _ hK.out.1)) | (go_at_call_of 64 (Value.iface T2 x2); exact quietC_call hK.out (K2.out _ hK.out.1)) | (go_at_call 109; exact quietC_call hK.out (KN.out _)) | rfl))) | (go_simp; go_big_quiet_on))
    refine wpQuiet_nil ?_
    intro w1 H1
    go_wp2_with fail
    go_ret
    exact ⟨by rw [HV.out]; rfl, H1.1⟩
  | star a ih =>
    intro w hA hs hP
    have hsa : (a.repl ns).size ≤ 4194304 ∧ 1 + (a.repl ns).size ≤ 4194304 := by simp only [Nd.repl, Nd.size] at hs; omega
    obtain ⟨v1, hv1⟩ : ∃ v : Value, v = (a.repl ns).val := ⟨_, rfl⟩
    obtain ⟨v2, hv2⟩ : ∃ v : Value, v = (Nd.star (a.repl ns)).val := ⟨_, rfl⟩
    have K1 : Hid (∀ W : World, Sees w W → Calls Try.prog 64 #[a.val, .slice P ns.length D] W fun e w' => e = .returned v1 ∧ Below W.heap.size W w') := fun W h => by rw [hv1]; exact ih W hA hsa.1 (hP.sees h)
    have K2 : Hid (∀ W : World, Calls Try.prog 110 #[v1] W fun e w' => e = .returned v2 ∧ Below W.heap.size W w') := fun W => by rw [hv1, hv2]; exact newStar_any _ W hsa.2
    have HV : Hid (((Nd.star a).repl ns).val = v2) := by show _ = _; rw [hv2]; rfl
    clear ih hv1 hv2 hsa hs hA hP
    show Calls Try.prog 64 #[.iface 165 (.agg #[a.val, .int .i64 (1 + a.size : Nat)]), .slice P ns.length D] w _
    obtain ⟨T1, x1, h1⟩ := Nd.val_if a
    rw [h1] at K1 ⊢
    clear h1
    generalize ((1 + a.size : Nat) : Int) = z
    have q_act := is_star_act
    have q_sum := is_star_sum
    have q_dot := is_star_dot
    have q_star := is_star_star
    go_enter Try.func64, Try.ntmps64
    go_wp2_with fail
    refine (K1.out _ (by unfold Sees; go_grown)).mono ?_
    rintro e w1 ⟨rfl, hb⟩
    have B1 : Sees w w1 := Sees.below (by unfold Sees; go_grown) hb
    clear hb
    go_wp2_with fail
    refine (K2.out _).mono ?_
    rintro e w2 ⟨rfl, hb⟩
    have B2 := B1.below hb
    clear hb
    go_wp2_with fail
    go_ret
    exact ⟨by rw [HV.out]; rfl, B2⟩
end Go.Proofs.Ytdcaelgojjnglaa
