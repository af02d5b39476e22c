/- Contracts of spec.EquationText, impl.EquationText. -/
import Derived.Test.YtgeaiadjmadakaaDoorValQ
import Derived.Test.YtgeaiadjmadakaaDoorTxE
namespace Go.Proofs.YtgeaiadjmadakaaDoor
open Go.RowKit

/-- What EquationText answers. -/
def eqT (t a k n : Int) (f : Fo) (j o : Int) (g : Fo) : List UInt8 := if validQ t a k n f j o g = true then (ndE f k n).tx ++ [32, 61, 32] ++ (ndE g j o).tx else []
theorem validQ_both {t a k n : Int} {f : Fo} {j o : Int} {g : Fo} (h : validQ t a k n f j o g = true) : validE t a k n f = true ∧ validE t a j o g = true := by unfold validQ at h; simpa using h

section
variable {f g : Fo} {k n j o : Int} {l1 l2 : List UInt8}
theorem joins (h1 : l1.length ≤ 1073741824) (h2 : l2.length ≤ 1073741824) : (∀ W : World, (Op.stringOp .add ⟨l1.toArray⟩ ⟨#[32, 61, 32]⟩).run Tryd.prog W = .ok (.string ⟨(l1 ++ [32, 61, 32]).toArray⟩) W) ∧ (∀ W : World, (Op.stringOp .add ⟨(l1 ++ [32, 61, 32]).toArray⟩ ⟨l2.toArray⟩).run Tryd.prog W = .ok (.string ⟨(l1 ++ [32, 61, 32] ++ l2).toArray⟩) W) :=
  ⟨fun W => add_any l1 [32, 61, 32] (by simp only [List.length_cons, List.length_nil]; omega) W, fun W => add_any (l1 ++ [32, 61, 32]) l2 (by simp only [List.length_append, List.length_cons, List.length_nil]; omega) W⟩
end

set_option maxRecDepth 100000 in
set_option maxHeartbeats 2000000 in
theorem l04Line_any (t a k n : Int) (f : Fo) (j o : Int) (g : Fo) (h0 : f.nodes ≤ 1048576) (h1 : g.nodes ≤ 1048576) (hv : validQ t a k n f j o g = true) (A B : Option Addr) (C D b p : Nat) (w : World) (hl : f.Lies w A) (hr : g.Lies w B)
    (c0 : w.cell? ⟨b, p, none⟩ = some (.int .i64 k)) (c1 : w.cell? ⟨b, p + 1, none⟩ = some (.int .i64 n)) (c2 : w.cell? ⟨b, p + 2, none⟩ = some (.slice A f.len C)) (c3 : w.cell? ⟨b, p + 3, none⟩ = some (.int .i64 j)) (c4 : w.cell? ⟨b, p + 4, none⟩ = some (.int .i64 o)) (c5 : w.cell? ⟨b, p + 5, none⟩ = some (.slice B g.len D)) :
    Calls Tryd.prog 24 #[.pointer (some ⟨b, p, none⟩)] w fun e w' => e = .returned (.string ⟨(eqT t a k n f j o g).toArray⟩) ∧ Below w.heap.size w w' := by
  obtain ⟨v1, v2⟩ := validQ_both hv
  have p1 := validE_parts0 v1
  have p2 := validE_parts0 v2
  have hok := ndE_okD t a p1.1 p1.2.1 (f.nodes + 1) f (Nat.lt_succ_self _) false k n p1.2.2
  have hok2 := ndE_okD t a p2.1 p2.2.1 (g.nodes + 1) g (Nat.lt_succ_self _) false j o p2.2.2
  have htl := Nd.tx_len hok
  have htl2 := Nd.tx_len hok2
  have hsz := ndE_size f k n
  have hsz2 := ndE_size g j o
  have HV : eqT t a k n f j o g = (ndE f k n).tx ++ [32, 61, 32] ++ (ndE g j o).tx := if_pos hv
  rw [HV]
  obtain ⟨la, hla⟩ : ∃ l, l = (ndE f k n).tx := ⟨_, rfl⟩
  obtain ⟨lb, hlb⟩ : ∃ l, l = (ndE g j o).tx := ⟨_, rfl⟩
  rw [← hla] at htl ⊢
  rw [← hlb] at htl2 ⊢
  obtain ⟨s1, hs1⟩ : ∃ s : ByteArray, s = ⟨la.toArray⟩ := ⟨_, rfl⟩
  obtain ⟨s2, hs2⟩ : ∃ s : ByteArray, s = ⟨lb.toArray⟩ := ⟨_, rfl⟩
  obtain ⟨s3, hs3⟩ : ∃ s : ByteArray, s = ⟨(la ++ [32, 61, 32]).toArray⟩ := ⟨_, rfl⟩
  obtain ⟨s4, hs4⟩ : ∃ s : ByteArray, s = ⟨(la ++ [32, 61, 32] ++ lb).toArray⟩ := ⟨_, rfl⟩
  have K1 : Hid (∀ W : World, Sees w W → Calls Tryd.prog 45 #[.pointer (some ⟨b, p, none⟩)] W fun e w' => e = .returned (.string s1) ∧ Below W.heap.size W w') := fun W h => by
    rw [hs1, hla]; exact l01Text_any (f.nodes + 1) f (Nat.lt_succ_self _) (by omega) t a false k n A C b p W p1.1 p1.2.1 (hl.sees h) p1.2.2 (kc h c0) (kc h c1) (kc h c2)
  have K2 : Hid (∀ W : World, Sees w W → Calls Tryd.prog 45 #[.pointer (some ⟨b, p + 3, none⟩)] W fun e w' => e = .returned (.string s2) ∧ Below W.heap.size W w') := fun W h => by
    rw [hs2, hlb]; exact l01Text_any (g.nodes + 1) g (Nat.lt_succ_self _) (by omega) t a false j o B D b (p + 3) W p2.1 p2.2.1 (hr.sees h) p2.2.2 (kc h c3) (kc h c4) (kc h c5)
  have q1 : ∀ W : World, (Op.stringOp .add s1 ⟨#[32, 61, 32]⟩).run Tryd.prog W = .ok (.string s3) W := by rw [hs1, hs3]; exact (joins (l1 := la) (l2 := lb) (by omega) (by omega)).1
  have q2 : ∀ W : World, (Op.stringOp .add s3 s2).run Tryd.prog W = .ok (.string s4) W := by rw [hs3, hs2, hs4]; exact (joins (l1 := la) (l2 := lb) (by omega) (by omega)).2
  rw [← hs4]
  have hX : Hid (St w [] w) := ⟨Sees.refl w, trivial⟩
  clear hla hlb hs1 hs2 hs3 hs4 hok hok2 htl htl2 hsz hsz2 HV c0 c1 c2 c3 c4 c5 p1 p2 v1 v2 hv
  go_enter Tryd.func24, Tryd.ntmps24
  go_wp2_with fail
  refine wp_region_quietC w [] (by kernel_rfl) (by kernel_rfl) hX.out ?_
  repeat (first | go_big_quiet_skip | (go_big_quiet_want; apply Exists.intro; refine ⟨fun W hW => ?_, ?_⟩; focus (have hK := Lib.hid hW; obtain ⟨hs, hc⟩ := hW; simp only [Has] at hc; go_simp; (first | (go_at_call_of 45 (Value.pointer (some ⟨b, p, none⟩)); exact quietC_call hK.out (K1.out _ hK.out.1)) | (go_at_call_of 45 (Value.pointer (some ⟨b, p + 3, none⟩)); exact quietC_call hK.out (K2.out _ hK.out.1)) | (go_at_call 45; exact quietC_call hK.out (K2.out _ hK.out.1)) | rfl))) | (go_simp; go_big_quiet_on))
  refine wpQuiet_nil ?_
  intro w1 H1
  go_wp2_with fail
  go_ret
  exact ⟨rfl, H1.1⟩

set_option maxRecDepth 100000 in
set_option maxHeartbeats 2000000 in
theorem specEquationText_any (t a k n : Int) (f : Fo) (j o : Int) (g : Fo) (hf : f.Fits) (hg : g.Fits) (h0 : f.nodes ≤ 1048576) (h1 : g.nodes ≤ 1048576) (A B : Option Addr) (C D : Nat) (w : World) (hl : f.Lies w A) (hr : g.Lies w B) :
    Calls Tryd.prog 7 #[.agg #[.int .i64 t, .int .i64 a], .agg #[.int .i64 k, .int .i64 n, .slice A f.len C, .int .i64 j, .int .i64 o, .slice B g.len D]] w fun e w' => e = .returned (.string ⟨(eqT t a k n f j o g).toArray⟩) ∧ Below w.heap.size w w' := by
  obtain ⟨q, hq⟩ : ∃ q : Bool, q = validQ t a k n f j o g := ⟨_, rfl⟩
  have Z0 : Hid (∀ W : World, Below (w.heap.size + 2) ((w.alloc (.cells #[.int .i64 t, .int .i64 a] 31)).alloc (.cells #[.int .i64 k, .int .i64 n, .slice A f.len C, .int .i64 j, .int .i64 o, .slice B g.len D] 37)) W → W.heap[w.heap.size]? = some (.cells #[.int .i64 t, .int .i64 a] 31 (0, 0)) ∧ W.heap[w.heap.size + 1]? = some (.cells #[.int .i64 k, .int .i64 n, .slice A f.len C, .int .i64 j, .int .i64 o, .slice B g.len D] 37 (0, 0))) := fun W h =>
    ⟨(h.block _ (by omega)).trans ((Below.heap_alloc _ _ _ (by simp <;> omega)).trans (heap_new _ _ _ rfl)), (h.block _ (by omega)).trans (heap_new _ _ _ (by simp))⟩
  have K1 : Hid (∀ W : World, Sees w W → W.heap[w.heap.size + 1]? = some (.cells #[.int .i64 k, .int .i64 n, .slice A f.len C, .int .i64 j, .int .i64 o, .slice B g.len D] 37 (0, 0)) → Calls Tryd.prog 23 #[.agg #[.int .i64 t, .int .i64 a], .pointer (some ⟨w.heap.size + 1, 0, none⟩)] W fun e w' => e = .returned (.bool q) ∧ Below W.heap.size W w') :=
    fun W h hb => by
      obtain ⟨⟨c0, c1, c2, c3, c4, c5⟩, _⟩ := cells6 hb
      rw [hq]; exact l04Equation_any t a k n f j o g hf hg h0 h1 A B C D (w.heap.size + 1) 0 W (hl.sees h) (hr.sees h) c0 c1 c2 c3 c4 c5
  cases q
  · have HD : Hid (eqT t a k n f j o g = []) := if_neg (by rw [← hq]; decide)
    rw [HD.out]
    clear hq HD hl hr Z0
    go_enter Tryd.func7, Tryd.ntmps7
    go_wp2_with fail
    refine (K1.out _ (by unfold Sees; go_grown) (heap_new _ _ _ (by simp))).mono ?_
    rintro e w1 ⟨rfl, hb⟩
    have B1 : Sees w w1 := Sees.below (by unfold Sees; go_grown) hb
    clear hb
    go_wp2_with fail
    go_ret
    exact ⟨rfl, B1⟩
  · obtain ⟨s, hs⟩ : ∃ s : ByteArray, s = ⟨(eqT t a k n f j o g).toArray⟩ := ⟨_, rfl⟩
    have K2 : Hid (∀ W : World, Sees w W → W.heap[w.heap.size + 1]? = some (.cells #[.int .i64 k, .int .i64 n, .slice A f.len C, .int .i64 j, .int .i64 o, .slice B g.len D] 37 (0, 0)) → Calls Tryd.prog 24 #[.pointer (some ⟨w.heap.size + 1, 0, none⟩)] W fun e w' => e = .returned (.string s) ∧ Below W.heap.size W w') :=
      fun W h hb => by
        obtain ⟨⟨c0, c1, c2, c3, c4, c5⟩, _⟩ := cells6 hb
        rw [hs]; exact l04Line_any t a k n f j o g h0 h1 hq.symm A B C D (w.heap.size + 1) 0 W (hl.sees h) (hr.sees h) c0 c1 c2 c3 c4 c5
    rw [← hs]
    clear hq hs hl hr
    go_enter Tryd.func7, Tryd.ntmps7
    go_wp2_with fail
    refine (K1.out _ (by unfold Sees; go_grown) (heap_new _ _ _ (by simp))).mono ?_
    rintro e w1 ⟨rfl, hb⟩
    have B1 : Sees w w1 := Sees.below (by unfold Sees; go_grown) hb
    have HQ := (Z0.out _ (hb.mono (by simp))).2
    clear hb
    go_wp2_with fail
    refine (K2.out _ B1 HQ).mono ?_
    rintro e w2 ⟨rfl, hb⟩
    have B2 := B1.below hb
    clear hb
    go_wp2_with fail
    go_ret
    exact ⟨rfl, B2⟩

set_option maxRecDepth 100000 in
set_option maxHeartbeats 2000000 in
theorem implEquationText_any (t a k n : Int) (f : Fo) (j o : Int) (g : Fo) (hf : f.Fits) (hg : g.Fits) (h0 : f.nodes ≤ 1048576) (h1 : g.nodes ≤ 1048576) (A B : Option Addr) (C D : Nat) (w : World) (hl : f.Lies w A) (hr : g.Lies w B) :
    Calls Tryd.prog 10 #[.agg #[.int .i64 t, .int .i64 a], .agg #[.int .i64 k, .int .i64 n, .slice A f.len C, .int .i64 j, .int .i64 o, .slice B g.len D]] w fun e w' => e = .returned (.string ⟨(eqT t a k n f j o g).toArray⟩) ∧ Below w.heap.size w w' := by
  obtain ⟨q, hq⟩ : ∃ q : Bool, q = validQ t a k n f j o g := ⟨_, rfl⟩
  have Z0 : Hid (∀ W : World, Below (w.heap.size + 2) ((w.alloc (.cells #[.int .i64 t, .int .i64 a] 31)).alloc (.cells #[.int .i64 k, .int .i64 n, .slice A f.len C, .int .i64 j, .int .i64 o, .slice B g.len D] 37)) W → W.heap[w.heap.size]? = some (.cells #[.int .i64 t, .int .i64 a] 31 (0, 0)) ∧ W.heap[w.heap.size + 1]? = some (.cells #[.int .i64 k, .int .i64 n, .slice A f.len C, .int .i64 j, .int .i64 o, .slice B g.len D] 37 (0, 0))) := fun W h =>
    ⟨(h.block _ (by omega)).trans ((Below.heap_alloc _ _ _ (by simp <;> omega)).trans (heap_new _ _ _ rfl)), (h.block _ (by omega)).trans (heap_new _ _ _ (by simp))⟩
  have K1 : Hid (∀ W : World, Sees w W → Calls Tryd.prog 26 #[.agg #[.int .i64 t, .int .i64 a], .agg #[.int .i64 k, .int .i64 n, .slice A f.len C, .int .i64 j, .int .i64 o, .slice B g.len D]] W fun e w' => e = .returned (.bool q) ∧ Below W.heap.size W w') :=
    fun W h => by rw [hq]; exact implValidEquation_any t a k n f j o g h0 h1 A B C D W (hl.sees h) (hr.sees h)
  cases q
  · have HD : Hid (eqT t a k n f j o g = []) := if_neg (by rw [← hq]; decide)
    rw [HD.out]
    clear hq HD hl hr Z0
    go_enter Tryd.func10, Tryd.ntmps10
    go_wp2_with fail
    refine (K1.out _ (by unfold Sees; go_grown)).mono ?_
    rintro e w1 ⟨rfl, hb⟩
    have B1 : Sees w w1 := Sees.below (by unfold Sees; go_grown) hb
    clear hb
    go_wp2_with fail
    go_ret
    exact ⟨rfl, B1⟩
  · obtain ⟨v1, v2⟩ := validQ_both hq.symm
    have p1 := validE_parts0 v1
    have p2 := validE_parts0 v2
    have hok := ndE_okD t a p1.1 p1.2.1 (f.nodes + 1) f (Nat.lt_succ_self _) false k n p1.2.2
    have hok2 := ndE_okD t a p2.1 p2.2.1 (g.nodes + 1) g (Nat.lt_succ_self _) false j o p2.2.2
    have htl := Nd.tx_len hok
    have htl2 := Nd.tx_len hok2
    have hsz := ndE_size f k n
    have hsz2 := ndE_size g j o
    have HV : eqT t a k n f j o g = (ndE f k n).tx ++ [32, 61, 32] ++ (ndE g j o).tx := if_pos hq.symm
    have e1 : exT t a k n f = (ndE f k n).tx := if_pos v1
    have e2 : exT t a j o g = (ndE g j o).tx := if_pos v2
    rw [HV]
    obtain ⟨la, hla⟩ : ∃ l, l = (ndE f k n).tx := ⟨_, rfl⟩
    obtain ⟨lb, hlb⟩ : ∃ l, l = (ndE g j o).tx := ⟨_, rfl⟩
    rw [← hla] at htl e1 ⊢
    rw [← hlb] at htl2 e2 ⊢
    obtain ⟨s1, hs1⟩ : ∃ s : ByteArray, s = ⟨la.toArray⟩ := ⟨_, rfl⟩
    obtain ⟨s2, hs2⟩ : ∃ s : ByteArray, s = ⟨lb.toArray⟩ := ⟨_, rfl⟩
    obtain ⟨s3, hs3⟩ : ∃ s : ByteArray, s = ⟨(la ++ [32, 61, 32]).toArray⟩ := ⟨_, rfl⟩
    obtain ⟨s4, hs4⟩ : ∃ s : ByteArray, s = ⟨(la ++ [32, 61, 32] ++ lb).toArray⟩ := ⟨_, rfl⟩
    have K2 : Hid (∀ W : World, Sees w W → Calls Tryd.prog 27 #[.agg #[.int .i64 t, .int .i64 a], .agg #[.int .i64 k, .int .i64 n, .slice A f.len C]] W fun e w' => e = .returned (.string s1) ∧ Below W.heap.size W w') := fun W h => by
      rw [hs1, ← e1]; exact implExprText_any t a k n f hf h0 A C W (hl.sees h)
    have K3 : Hid (∀ W : World, Sees w W → Calls Tryd.prog 27 #[.agg #[.int .i64 t, .int .i64 a], .agg #[.int .i64 j, .int .i64 o, .slice B g.len D]] W fun e w' => e = .returned (.string s2) ∧ Below W.heap.size W w') := fun W h => by
      rw [hs2, ← e2]; exact implExprText_any t a j o g hg h1 B D W (hr.sees h)
    have q1 : ∀ W : World, (Op.stringOp .add s1 ⟨#[32, 61, 32]⟩).run Tryd.prog W = .ok (.string s3) W := by rw [hs1, hs3]; exact (joins (l1 := la) (l2 := lb) (by omega) (by omega)).1
    have q2 : ∀ W : World, (Op.stringOp .add s3 s2).run Tryd.prog W = .ok (.string s4) W := by rw [hs3, hs2, hs4]; exact (joins (l1 := la) (l2 := lb) (by omega) (by omega)).2
    rw [← hs4]
    clear hla hlb hs1 hs2 hs3 hs4 hok hok2 htl htl2 hsz hsz2 HV p1 p2 v1 v2 hq hl hr e1 e2
    go_enter Tryd.func10, Tryd.ntmps10
    go_wp2_with fail
    refine (K1.out _ (by unfold Sees; go_grown)).mono ?_
    rintro e w1 ⟨rfl, hb⟩
    have B1 : Sees w w1 := Sees.below (by unfold Sees; go_grown) hb
    obtain ⟨HS, HQ⟩ := Z0.out _ (hb.mono (by simp))
    have hX : Hid (St w [(w.heap.size, 0, .int .i64 t), (w.heap.size, 1, .int .i64 a), (w.heap.size + 1, 0, .int .i64 k), (w.heap.size + 1, 1, .int .i64 n), (w.heap.size + 1, 2, .slice A f.len C), (w.heap.size + 1, 3, .int .i64 j), (w.heap.size + 1, 4, .int .i64 o), (w.heap.size + 1, 5, .slice B g.len D)] w1) := by
      obtain ⟨⟨c0, c1, c2, c3, c4, c5⟩, _⟩ := cells6 HQ
      exact ⟨B1, Fo.cell_of_block HS 0, Fo.cell_of_block HS 1, c0, c1, c2, c3, c4, c5, trivial⟩
    clear hb HS HQ
    go_wp2_with fail
    refine wp_region_quietC w [(w.heap.size, 0, .int .i64 t), (w.heap.size, 1, .int .i64 a), (w.heap.size + 1, 0, .int .i64 k), (w.heap.size + 1, 1, .int .i64 n), (w.heap.size + 1, 2, .slice A f.len C), (w.heap.size + 1, 3, .int .i64 j), (w.heap.size + 1, 4, .int .i64 o), (w.heap.size + 1, 5, .slice B g.len D)] (by kernel_rfl) (by kernel_rfl) hX.out ?_
    repeat (first | go_big_quiet_skip | (go_big_quiet_want; apply Exists.intro; refine ⟨fun W hW => ?_, ?_⟩; focus (have hK := Lib.hid hW; obtain ⟨hs, hc⟩ := hW; simp only [Has, and_true] at hc; go_simp; (first | (go_at_call_of 27 (Value.agg #[.int .i64 k, .int .i64 n, .slice A f.len C]); exact quietC_call hK.out (K2.out _ hK.out.1)) | (go_at_call_of 27 (Value.agg #[.int .i64 j, .int .i64 o, .slice B g.len D]); exact quietC_call hK.out (K3.out _ hK.out.1)) | rfl))) | (go_simp; go_big_quiet_on))
    refine wpQuiet_nil ?_
    intro w2 H2
    go_wp2_with fail
    go_ret
    exact ⟨rfl, H2.1⟩
end Go.Proofs.YtgeaiadjmadakaaDoor
