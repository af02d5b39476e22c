/- Contract of impl.exprOf. -/
import Derived.Test.YtlpgkhdecccmlaaRAssA
import Derived.Test.YtlpgkhdecccmlaaRExD
import Derived.Test.YtlpgkhdecccmlaaRSig
import Derived.Lib.Hide
import Derived.Deep.RegionHeld3
import Derived.Deep.DeepCutAuto
namespace Go.Proofs.YtlpgkhdecccmlaaR
open Go.RowKit

/-- What a call hands back that makes an expression with these kids in blocks of its own. -/
def ExEnd (k n : Int) (ks : Fo) (w : World) (e : Ending) (w' : World) : Prop := ∃ A, e = .returned (.agg #[.int .i64 k, .int .i64 n, .slice A ks.len ks.len]) ∧ ks.XIn w' w.heap.size w'.heap.size A ∧ Below w.heap.size w w'
theorem cells3 {W : World} {b : Nat} {x y z : Value} {T : TypeId} (h : W.heap[b]? = some (.cells #[x, y, z] T (0, 0))) : W.cell? ⟨b, 0, none⟩ = some x ∧ W.cell? ⟨b, 1, none⟩ = some y ∧ W.cell? ⟨b, 2, none⟩ = some z ∧ W.frozen? ⟨b, 0, none⟩ = false ∧ W.frozen? ⟨b, 1, none⟩ = false ∧ W.frozen? ⟨b, 2, none⟩ = false :=
  ⟨Fo.cell_of_block h 0, Fo.cell_of_block h 1, Fo.cell_of_block h 2, Fo.unfrozen_of_block h 0, Fo.unfrozen_of_block h 1, Fo.unfrozen_of_block h 2⟩
section
variable {w W : World} {s : Nat} {x y z a b c : Value} {T : TypeId}
/-- Three cells are written, and a block is made. -/
theorem store3 (h : W.heap[s]? = some (.cells #[x, y, z] T (0, 0))) (o : Obj) : ((((W.setCell ⟨s, 0, none⟩ a).setCell ⟨s, 1, none⟩ b).setCell ⟨s, 2, none⟩ c).alloc o).heap[s]? = some (.cells #[a, b, c] T (0, 0)) := by
  rw [Below.heap_alloc _ _ _ (by simpa using (Array.getElem?_eq_some_iff.1 h).1), Fo.block_setCell (Fo.block_setCell (Fo.block_setCell h _) _) _]
  rfl
theorem store3_agree {lo : Nat} (hs : s < lo) (o : Obj) : Fo.Agree W ((((W.setCell ⟨s, 0, none⟩ a).setCell ⟨s, 1, none⟩ b).setCell ⟨s, 2, none⟩ c).alloc o) lo W.heap.size := by
  intro k h1 h2
  rw [Below.heap_alloc _ _ _ (by simpa using h2), Below.heap_setCell _ _ _ _ (by show k ≠ s; omega), Below.heap_setCell _ _ _ _ (by show k ≠ s; omega), Below.heap_setCell _ _ _ _ (by show k ≠ s; omega)]
theorem store3_new (n : Nat) (hn : n = W.heap.size) (o : Obj) : ((((W.setCell ⟨s, 0, none⟩ a).setCell ⟨s, 1, none⟩ b).setCell ⟨s, 2, none⟩ c).alloc o).heap[n]? = some o := heap_new _ _ _ (by simp [hn])
theorem store3_sees (h : Sees w W) (hs : w.heap.size ≤ s) (o : Obj) : Sees w ((((W.setCell ⟨s, 0, none⟩ a).setCell ⟨s, 1, none⟩ b).setCell ⟨s, 2, none⟩ c).alloc o) :=
  Sees.alloc (Below.setCell (Below.setCell (Below.setCell h hs _) hs _) hs _) _
theorem Has.same {W' : World} : ∀ {L : List (Nat × Nat × Value)}, (∀ c ∈ L, W'.heap[c.1]? = W.heap[c.1]?) → Has W L → Has W' L
  | [], _, _ => trivial
  | c :: L, hn, h => ⟨(World.cell?_of_block (a := ⟨c.1, c.2.1, none⟩) (hn c (by simp))).trans h.1, Has.same (fun d hd => hn d (by simp [hd])) h.2⟩
theorem store3_st {L : List (Nat × Nat × Value)} (h : St w L W) (hs : w.heap.size ≤ s) (hn : ∀ c ∈ L, s < c.1 ∧ c.1 < W.heap.size) (o : Obj) : St w L ((((W.setCell ⟨s, 0, none⟩ a).setCell ⟨s, 1, none⟩ b).setCell ⟨s, 2, none⟩ c).alloc o) :=
  ⟨store3_sees h.1 hs o, Has.same (fun c hc => store3_agree (lo := c.1) (hn c hc).1 o c.1 (Nat.le_refl _) (hn c hc).2) h.2⟩
end

set_option maxRecDepth 100000 in
set_option maxHeartbeats 2000000 in
theorem exprOf_any : ∀ (d : Nd) (w : World), d.size ≤ 4194304 → Calls Try.prog 138 #[d.val] w (ExEnd d.kd d.nm d.ks w) := by
  intro d
  induction d with
  | zero =>
    intro w _
    show Calls Try.prog 138 #[.iface 197 (.agg #[])] w _
    have q_one := is_zero_one
    have q_test := is_zero_test
    have q_act := is_zero_act
    have q_not := is_zero_not
    have q_sum := is_zero_sum
    have q_dot := is_zero_dot
    have q_star := is_zero_star
    go_enter Try.func138, Try.ntmps138
    go_wp2_with fail
    refine bodyPost_ret (v := .agg #[.int .i64 1, .int .i64 0, .slice none 0 0]) (by simp [results, Try.results138, go_sem]) rfl ⟨none, rfl, Fo.XIn.nil (by simp <;> omega) _, by go_grown⟩
  | one =>
    intro w _
    show Calls Try.prog 138 #[.iface 249 (.agg #[])] w _
    have q_one := is_one_one
    go_enter Try.func138, Try.ntmps138
    go_wp2_with fail
    refine bodyPost_ret (v := .agg #[.int .i64 2, .int .i64 0, .slice none 0 0]) (by simp [results, Try.results138, go_sem]) rfl ⟨none, rfl, Fo.XIn.nil (by simp <;> omega) _, by go_grown⟩
  | test n =>
    intro w _
    show Calls Try.prog 138 #[.iface 251 (.agg #[.int .i64 n])] w _
    have q_one := is_test_one
    have q_test := is_test_test
    go_enter Try.func138, Try.ntmps138
    go_wp2_with fail
    refine bodyPost_ret (v := .agg #[.int .i64 3, .int .i64 n, .slice none 0 0]) (by simp [results, Try.results138, go_sem]) rfl ⟨none, rfl, Fo.XIn.nil (by simp <;> omega) _, by go_grown⟩
  | act n =>
    intro w _
    show Calls Try.prog 138 #[.iface 252 (.agg #[.int .i64 n])] w _
    have q_one := is_act_one
    have q_test := is_act_test
    have q_act := is_act_act
    go_enter Try.func138, Try.ntmps138
    go_wp2_with fail
    refine bodyPost_ret (v := .agg #[.int .i64 4, .int .i64 n, .slice none 0 0]) (by simp [results, Try.results138, go_sem]) rfl ⟨none, rfl, Fo.XIn.nil (by simp <;> omega) _, by go_grown⟩
  | not a ih =>
    intro w hs
    have hsa : a.size ≤ 4194304 := by simp only [Nd.size] at hs; omega
    have K1 : Hid (∀ W : World, Calls Try.prog 138 #[a.val] W (ExEnd a.kd a.nm a.ks W)) := fun W => ih W hsa
    clear ih hsa hs
    show Calls Try.prog 138 #[.iface 256 (.agg #[a.val, .int .i64 (1 + a.size : Nat)])] w (ExEnd 5 0 (.cons a.kd a.nm a.ks .nil) w)
    obtain ⟨T1, x1, h1⟩ := Nd.val_if a
    rw [h1] at K1 ⊢
    clear h1
    generalize ((1 + a.size : Nat) : Int) = z
    generalize a.kd = k1 at K1 ⊢
    generalize a.nm = n1 at K1 ⊢
    generalize a.ks = f1 at K1 ⊢
    have q_one := is_not_one
    have q_test := is_not_test
    have q_act := is_not_act
    have q_not := is_not_not
    go_enter Try.func138, Try.ntmps138
    go_wp2_with fail
    refine (K1.out _).mono ?_
    rintro e w1 ⟨A1, rfl, hX, hb⟩
    have B1 : Sees w w1 := Below.trans (by go_grown) (hb.mono (B' := w.heap.size) (by simp; omega))
    simp only [World.size_alloc] at hX hb
    have hbk : w1.heap[w.heap.size]? = some (.cells #[.int .i64 0, .int .i64 0, .slice none 0 0] 35 (0, 0)) := (hb.block _ (by omega)).trans (by rw [Below.heap_alloc _ _ _ (by simp)]; exact heap_new _ _ _ rfl)
    obtain ⟨c0, c1, c2, f0, f1', f2⟩ := cells3 hbk
    have HX := Lib.hid hX; have hz := hb.size
    simp only [World.size_alloc] at hz
    have z1 : w.heap.size < w1.heap.size := by omega
    have z2 : w1.heap.size ≠ w.heap.size := by omega
    have z3 : w.heap.size ≠ w1.heap.size := by omega
    clear hX hb hz
    go_wp2_with fail
    obtain ⟨d0, d1, d2, _⟩ := cells3 (store3 (a := .int .i64 5) (b := .int .i64 0) (c := .slice (some ⟨w1.heap.size, 0, none⟩) 1 1) hbk (.cells #[.int .i64 k1, .int .i64 n1, .slice A1 f1.len f1.len] 35))
    refine bodyPost_ret (v := .agg #[.int .i64 5, .int .i64 0, .slice (some ⟨w1.heap.size, 0, none⟩) 1 1]) (by simp [results, Try.results138, go_sem, d0, d1, d2]) rfl ⟨_, rfl, ?_, store3_sees B1 (Nat.le_refl _) _⟩
    exact ((HX.out.mono (lo' := w.heap.size + 1) (by omega) (Nat.le_refl _)).one (store3_agree (by omega) _) (store3_new _ rfl _) (Nat.le_refl _) (by simp)).mono (by omega) (Nat.le_refl _)
  | sum a b iha ihb =>
    intro w hs
    have hsa : a.size ≤ 4194304 ∧ b.size ≤ 4194304 := by simp only [Nd.size] at hs; omega
    have K1 : Hid (∀ W : World, Calls Try.prog 138 #[a.val] W (ExEnd a.kd a.nm a.ks W)) := fun W => iha W hsa.1
    have K2 : Hid (∀ W : World, Calls Try.prog 138 #[b.val] W (ExEnd b.kd b.nm b.ks W)) := fun W => ihb W hsa.2
    clear iha ihb hsa hs
    show Calls Try.prog 138 #[.iface 258 (.agg #[a.val, b.val, .int .i64 (1 + a.size + b.size : Nat)])] w (ExEnd 6 0 (.cons a.kd a.nm a.ks (.cons b.kd b.nm b.ks .nil)) w)
    obtain ⟨T1, x1, h1⟩ := Nd.val_if a
    obtain ⟨T2, x2, h2⟩ := Nd.val_if b
    rw [h1] at K1 ⊢
    rw [h2] at K2 ⊢
    clear h1 h2
    generalize ((1 + a.size + b.size : Nat) : Int) = z
    generalize a.kd = k1 at K1 ⊢
    generalize a.nm = n1 at K1 ⊢
    generalize a.ks = g1 at K1 ⊢
    generalize b.kd = k2 at K2 ⊢
    generalize b.nm = n2 at K2 ⊢
    generalize b.ks = g2 at K2 ⊢
    have q_one := is_sum_one
    have q_test := is_sum_test
    have q_act := is_sum_act
    have q_not := is_sum_not
    have q_sum := is_sum_sum
    go_enter Try.func138, Try.ntmps138
    go_wp2_with fail
    obtain ⟨W0, hW0⟩ : ∃ W0, W0 = (w.alloc (.cells #[.int .i64 0, .int .i64 0, .slice none 0 0] 35)).alloc (.cells #[.iface T1 x1, .iface T2 x2, .int .i64 z] 258) := ⟨_, rfl⟩
    rw [← hW0]
    have HS : Hid (St w [(w.heap.size + 1, 0, .iface T1 x1), (w.heap.size + 1, 1, .iface T2 x2)] W0) := by rw [hW0]; exact ⟨(by unfold Sees; go_grown), (by simp [go_sem]), (by simp [go_sem]), trivial⟩
    have HB0 : Hid (W0.heap[w.heap.size]? = some (.cells #[.int .i64 0, .int .i64 0, .slice none 0 0] 35 (0, 0))) := by show _ = _; rw [hW0, Below.heap_alloc _ _ _ (by simp)]; exact heap_new _ _ _ rfl
    have z0 : W0.heap.size = w.heap.size + 1 + 1 := by rw [hW0]; simp
    clear hW0
    go_region_held3 (fun w' => Sees w w' ∧ w'.cell? ⟨w.heap.size + 1, 0, none⟩ = some (.iface T1 x1) ∧ w'.cell? ⟨w.heap.size + 1, 1, none⟩ = some (.iface T2 x2) ∧ True)
      (first | exact HS.out.drew | exact UA | exact UB | exact UB.alloc _ | exact UBS _ _ _ _ | (go_keep; done))
      (first | (go_at_call_of 138 (Value.iface T1 x1); refine (K1.out _).mono ?_; rintro e wa ⟨A1, rfl, IA, hba⟩; have UA := HS.out.drew.below hba; have HBA := (hba.block _ (show w.heap.size < W0.heap.size by omega)).trans HB0.out; have zA : W0.heap.size ≤ wa.heap.size := hba.size; have HIA := Lib.hid IA; clear IA hba) | (go_at_call_of 138 (Value.iface T2 x2); refine (K2.out _).mono ?_; rintro e wb ⟨A2, rfl, IB, hbb⟩; have UB := UA.below hbb; have HBB := (hbb.block _ (show w.heap.size < wa.heap.size by omega)).trans HBA; obtain ⟨c0, c1, c2, f0, f1', f2⟩ := cells3 HBB; have zB := hbb.size; have z1 : w.heap.size < wb.heap.size := (by omega); have z2 : wb.heap.size ≠ w.heap.size := (by omega); have z3 : w.heap.size ≠ wb.heap.size := (by omega); have HX1 := Lib.hid (HIA.out.agree (Fo.Agree.of_below hbb)); have HX2 := Lib.hid IB; have UBS := fun (p q r : Value) (ob : Obj) => store3_st (a := p) (b := q) (c := r) UB (Nat.le_refl _) (by simp; omega) ob; clear IB hbb))
    go_wp2_with fail
    obtain ⟨d0, d1, d2, _⟩ := cells3 (store3 (a := .int .i64 6) (b := .int .i64 0) (c := .slice (some ⟨wb.heap.size, 0, none⟩) 2 2) HBB (.cells #[.int .i64 k1, .int .i64 n1, .slice A1 g1.len g1.len, .int .i64 k2, .int .i64 n2, .slice A2 g2.len g2.len] 35))
    refine bodyPost_ret (v := .agg #[.int .i64 6, .int .i64 0, .slice (some ⟨wb.heap.size, 0, none⟩) 2 2]) (by simp [results, Try.results138, go_sem, d0, d1, d2]) rfl ⟨_, rfl, ?_, store3_sees UB.1 (Nat.le_refl _) _⟩
    exact ((HX1.out.mono (lo' := w.heap.size + 1) (by show _ ≤ W0.heap.size; omega) (Nat.le_refl _)).two HX2.out (store3_agree (by omega) _) (store3_new _ rfl _) (Nat.le_refl _) (by simp)).mono (by omega) (Nat.le_refl _)
  | dot a b iha ihb =>
    intro w hs
    have hsa : a.size ≤ 4194304 ∧ b.size ≤ 4194304 := by simp only [Nd.size] at hs; omega
    have K1 : Hid (∀ W : World, Calls Try.prog 138 #[a.val] W (ExEnd a.kd a.nm a.ks W)) := fun W => iha W hsa.1
    have K2 : Hid (∀ W : World, Calls Try.prog 138 #[b.val] W (ExEnd b.kd b.nm b.ks W)) := fun W => ihb W hsa.2
    clear iha ihb hsa hs
    show Calls Try.prog 138 #[.iface 259 (.agg #[a.val, b.val, .int .i64 (1 + a.size + b.size : Nat)])] w (ExEnd 7 0 (.cons a.kd a.nm a.ks (.cons b.kd b.nm b.ks .nil)) w)
    obtain ⟨T1, x1, h1⟩ := Nd.val_if a
    obtain ⟨T2, x2, h2⟩ := Nd.val_if b
    rw [h1] at K1 ⊢
    rw [h2] at K2 ⊢
    clear h1 h2
    generalize ((1 + a.size + b.size : Nat) : Int) = z
    generalize a.kd = k1 at K1 ⊢
    generalize a.nm = n1 at K1 ⊢
    generalize a.ks = g1 at K1 ⊢
    generalize b.kd = k2 at K2 ⊢
    generalize b.nm = n2 at K2 ⊢
    generalize b.ks = g2 at K2 ⊢
    have q_one := is_dot_one
    have q_test := is_dot_test
    have q_act := is_dot_act
    have q_not := is_dot_not
    have q_sum := is_dot_sum
    have q_dot := is_dot_dot
    go_enter Try.func138, Try.ntmps138
    go_wp2_with fail
    obtain ⟨W0, hW0⟩ : ∃ W0, W0 = (w.alloc (.cells #[.int .i64 0, .int .i64 0, .slice none 0 0] 35)).alloc (.cells #[.iface T1 x1, .iface T2 x2, .int .i64 z] 259) := ⟨_, rfl⟩
    rw [← hW0]
    have HS : Hid (St w [(w.heap.size + 1, 0, .iface T1 x1), (w.heap.size + 1, 1, .iface T2 x2)] W0) := by rw [hW0]; exact ⟨(by unfold Sees; go_grown), (by simp [go_sem]), (by simp [go_sem]), trivial⟩
    have HB0 : Hid (W0.heap[w.heap.size]? = some (.cells #[.int .i64 0, .int .i64 0, .slice none 0 0] 35 (0, 0))) := by show _ = _; rw [hW0, Below.heap_alloc _ _ _ (by simp)]; exact heap_new _ _ _ rfl
    have z0 : W0.heap.size = w.heap.size + 1 + 1 := by rw [hW0]; simp
    clear hW0
    go_region_held3 (fun w' => Sees w w' ∧ w'.cell? ⟨w.heap.size + 1, 0, none⟩ = some (.iface T1 x1) ∧ w'.cell? ⟨w.heap.size + 1, 1, none⟩ = some (.iface T2 x2) ∧ True)
      (first | exact HS.out.drew | exact UA | exact UB | exact UB.alloc _ | exact UBS _ _ _ _ | (go_keep; done))
      (first | (go_at_call_of 138 (Value.iface T1 x1); refine (K1.out _).mono ?_; rintro e wa ⟨A1, rfl, IA, hba⟩; have UA := HS.out.drew.below hba; have HBA := (hba.block _ (show w.heap.size < W0.heap.size by omega)).trans HB0.out; have zA : W0.heap.size ≤ wa.heap.size := hba.size; have HIA := Lib.hid IA; clear IA hba) | (go_at_call_of 138 (Value.iface T2 x2); refine (K2.out _).mono ?_; rintro e wb ⟨A2, rfl, IB, hbb⟩; have UB := UA.below hbb; have HBB := (hbb.block _ (show w.heap.size < wa.heap.size by omega)).trans HBA; obtain ⟨c0, c1, c2, f0, f1', f2⟩ := cells3 HBB; have zB := hbb.size; have z1 : w.heap.size < wb.heap.size := (by omega); have z2 : wb.heap.size ≠ w.heap.size := (by omega); have z3 : w.heap.size ≠ wb.heap.size := (by omega); have HX1 := Lib.hid (HIA.out.agree (Fo.Agree.of_below hbb)); have HX2 := Lib.hid IB; have UBS := fun (p q r : Value) (ob : Obj) => store3_st (a := p) (b := q) (c := r) UB (Nat.le_refl _) (by simp; omega) ob; clear IB hbb))
    go_wp2_with fail
    obtain ⟨d0, d1, d2, _⟩ := cells3 (store3 (a := .int .i64 7) (b := .int .i64 0) (c := .slice (some ⟨wb.heap.size, 0, none⟩) 2 2) HBB (.cells #[.int .i64 k1, .int .i64 n1, .slice A1 g1.len g1.len, .int .i64 k2, .int .i64 n2, .slice A2 g2.len g2.len] 35))
    refine bodyPost_ret (v := .agg #[.int .i64 7, .int .i64 0, .slice (some ⟨wb.heap.size, 0, none⟩) 2 2]) (by simp [results, Try.results138, go_sem, d0, d1, d2]) rfl ⟨_, rfl, ?_, store3_sees UB.1 (Nat.le_refl _) _⟩
    exact ((HX1.out.mono (lo' := w.heap.size + 1) (by show _ ≤ W0.heap.size; omega) (Nat.le_refl _)).two HX2.out (store3_agree (by omega) _) (store3_new _ rfl _) (Nat.le_refl _) (by simp)).mono (by omega) (Nat.le_refl _)
  | star a ih =>
    intro w hs
    have hsa : a.size ≤ 4194304 := by simp only [Nd.size] at hs; omega
    have K1 : Hid (∀ W : World, Calls Try.prog 138 #[a.val] W (ExEnd a.kd a.nm a.ks W)) := fun W => ih W hsa
    clear ih hsa hs
    show Calls Try.prog 138 #[.iface 255 (.agg #[a.val, .int .i64 (1 + a.size : Nat)])] w (ExEnd 8 0 (.cons a.kd a.nm a.ks .nil) w)
    obtain ⟨T1, x1, h1⟩ := Nd.val_if a
    rw [h1] at K1 ⊢
    clear h1
    generalize ((1 + a.size : Nat) : Int) = z
    generalize a.kd = k1 at K1 ⊢
    generalize a.nm = n1 at K1 ⊢
    generalize a.ks = f1 at K1 ⊢
    have q_one := is_star_one
    have q_test := is_star_test
    have q_act := is_star_act
    have q_not := is_star_not
    have q_sum := is_star_sum
    have q_dot := is_star_dot
    have q_star := is_star_star
    go_enter Try.func138, Try.ntmps138
    go_wp2_with fail
    refine (K1.out _).mono ?_
    rintro e w1 ⟨A1, rfl, hX, hb⟩
    have B1 : Sees w w1 := Below.trans (by go_grown) (hb.mono (B' := w.heap.size) (by simp; omega))
    simp only [World.size_alloc] at hX hb
    have hbk : w1.heap[w.heap.size]? = some (.cells #[.int .i64 0, .int .i64 0, .slice none 0 0] 35 (0, 0)) := (hb.block _ (by omega)).trans (by rw [Below.heap_alloc _ _ _ (by simp)]; exact heap_new _ _ _ rfl)
    obtain ⟨c0, c1, c2, f0, f1', f2⟩ := cells3 hbk
    have HX := Lib.hid hX; have hz := hb.size
    simp only [World.size_alloc] at hz
    have z1 : w.heap.size < w1.heap.size := by omega
    have z2 : w1.heap.size ≠ w.heap.size := by omega
    have z3 : w.heap.size ≠ w1.heap.size := by omega
    clear hX hb hz
    go_wp2_with fail
    obtain ⟨d0, d1, d2, _⟩ := cells3 (store3 (a := .int .i64 8) (b := .int .i64 0) (c := .slice (some ⟨w1.heap.size, 0, none⟩) 1 1) hbk (.cells #[.int .i64 k1, .int .i64 n1, .slice A1 f1.len f1.len] 35))
    refine bodyPost_ret (v := .agg #[.int .i64 8, .int .i64 0, .slice (some ⟨w1.heap.size, 0, none⟩) 1 1]) (by simp [results, Try.results138, go_sem, d0, d1, d2]) rfl ⟨_, rfl, ?_, store3_sees B1 (Nat.le_refl _) _⟩
    exact ((HX.out.mono (lo' := w.heap.size + 1) (by omega) (Nat.le_refl _)).one (store3_agree (by omega) _) (store3_new _ rfl _) (Nat.le_refl _) (by simp)).mono (by omega) (Nat.le_refl _)
end Go.Proofs.YtlpgkhdecccmlaaR
