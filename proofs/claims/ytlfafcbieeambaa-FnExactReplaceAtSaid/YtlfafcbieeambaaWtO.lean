/- impl.withAt: a step of the path. -/
import Derived.Test.YtlfafcbieeambaaWtN
namespace Go.Proofs.Ytlfafcbieeambaa
open Go.RowKit

set_option maxRecDepth 100000 in
set_option maxHeartbeats 4000000 in
theorem withAt_one (t a j o : Int) (g : Fo) (s0 E : Nat) (i : Int) (ih : WithSaid t a j o g s0 E ([])) : WithSaid t a j o g s0 E (i :: []) := by
  intro hx b q k n f A B P C w hs hf hg hp ht hw hm
  have IH := Lib.hid ih; clear ih
  have hi : 0 ≤ i ∧ i < (f.len : Int) := by
    by_cases h : 0 ≤ i ∧ i < (f.len : Int)
    · exact h
    · exact absurd (by simp only [walkP]; rw [if_neg h]) hw
  obtain ⟨k1, n1, ks, rest, hd, _⟩ := f.drop_lt i.toNat (by omega)
  have hfn : f ≠ .nil := by rintro rfl; simp [Fo.len] at hi; omega
  have hn0 := inner_zero ht hfn
  subst hn0
  have hlen : f.len ≤ 1048576 := Nat.le_trans f.len_le_nodes hm
  have hl0 : 0 < f.len := by omega
  obtain ⟨fb, fo, rfl, hfb, hat⟩ := hf hfn
  obtain ⟨pb, po, rfl, hpc⟩ := hp (by simp)
  have p0 : w.cell? ⟨pb, po, none⟩ = some (.int .i64 i) := hpc 0 (by simp)
  have KC : Hid (∀ (W : World) (V : Nat), Sees w W → W.cell? ⟨V, 0, none⟩ = some (.slice (some ⟨fb, fo, none⟩) f.len C) → Calls Try.prog 147 #[.slice (some ⟨V, 0, none⟩) 1 1] W fun e w' => ∃ G C', e = .returned (.slice (some ⟨G, 0, none⟩) f.len C') ∧ W.heap.size ≤ G ∧ G < w'.heap.size ∧ (∀ i, i < f.len * 3 → w'.cell? ⟨G, i, none⟩ = W.cell? ⟨fb, fo + i, none⟩) ∧ (∀ i, w'.frozen? ⟨G, i, none⟩ = false) ∧ Below W.heap.size W w') := fun W V h hc => by
    have hb : fb < w.heap.size := by omega
    exact concatE_any f.len hl0 hlen fb fo C V W hc (fun i hi => by
      obtain ⟨u, h1, h2⟩ := hat.at.some i hi
      exact ⟨u, kc h h1, h2⟩)
  have HAT := Lib.hid hat; have HG := Lib.hid hg
  clear hf hg
  obtain ⟨W0, hW0⟩ : ∃ W0, W0 = ((w.alloc (.cells #[.int .i64 k, .int .i64 0, .slice (some ⟨fb, fo, none⟩) f.len C] 31)).alloc (.cells #[.int .i64 j, .int .i64 o, .slice B g.len E] 31)).alloc (.cells #[.int .i64 0, .int .i64 0, .slice none 0 0] 31) := ⟨_, rfl⟩
  have z0 : W0.heap.size = w.heap.size + 3 := by rw [hW0]; simp
  have S0 : Sees w W0 := by rw [hW0]; exact (((Sees.refl w).alloc _).alloc _).alloc _
  have HBe0 : W0.heap[w.heap.size]? = some (.cells #[.int .i64 k, .int .i64 0, .slice (some ⟨fb, fo, none⟩) f.len C] 31 (0, 0)) := by rw [hW0]; exact (Below.heap_alloc _ _ _ (by simp <;> omega)).trans ((Below.heap_alloc _ _ _ (by simp <;> omega)).trans (heap_new _ _ _ rfl))
  have HBb0 : W0.heap[w.heap.size + 1]? = some (.cells #[.int .i64 j, .int .i64 o, .slice B g.len E] 31 (0, 0)) := by rw [hW0]; exact (Below.heap_alloc _ _ _ (by simp <;> omega)).trans (heap_new _ _ _ (by simp))
  have HBr0 : W0.heap[w.heap.size + 2]? = some (.cells #[.int .i64 0, .int .i64 0, .slice none 0 0] 31 (0, 0)) := by rw [hW0]; exact heap_new _ _ _ (by simp)
  obtain ⟨y, hy⟩ : ∃ y, y = putP ([] : List Int) (j, o, g) k1 n1 ks := ⟨_, rfl⟩
  have htr : treeE t a (b || k == 5) k1 n1 ks = true := by
    have h1 := ht
    unfold treeE at h1
    simp only [Bool.and_eq_true] at h1
    have h2 := tree_drop f i.toNat h1.2
    rw [hd, Fo.tree_cons, Bool.and_eq_true] at h2
    exact h2.1
  have hwr : walkP ([] : List Int) k1 n1 ks (q || k == 5) ≠ none := by simp only [walkP] at hw; rw [if_pos hi, hd] at hw; exact hw
  have hkn : ks.nodes ≤ 1048576 := by
    have h1 := f.nodes_drop i.toNat
    rw [hd] at h1
    simp only [Fo.nodes] at h1
    omega
  have KW : Hid (∀ (W : World) (A1 P1 : Option Addr) (C1 : Nat), Sees w W → ks.LiesP W (· < s0) A1 → Ints W ([] : List Int) P1 → Calls Try.prog 110 #[.agg #[.int .i64 k1, .int .i64 n1, .slice A1 ks.len C1], .slice P1 ([] : List Int).length ([] : List Int).length, .agg #[.int .i64 j, .int .i64 o, .slice B g.len E]] W fun e w' => ∃ A' C', e = .returned (.agg #[.int .i64 y.1, .int .i64 y.2.1, .slice A' y.2.2.len C']) ∧ y.2.2.LiesP w' (fun z => z < s0 ∨ W.heap.size ≤ z) A' ∧ Below W.heap.size W w') := fun W A1 P1 C1 h h1 h2 => by
    rw [hy]
    exact IH.out (Nat.le_trans (Nat.le_succ _) hx) (b || k == 5) (q || k == 5) k1 n1 ks A1 B P1 C1 W (Nat.le_trans hs h.size) h1 (HG.out.agree (fun x hx => Below.block h x (by omega)) (fun _ hx => hx)) h2 htr hwr hkn
  have HPUT : Hid (∀ W (A' : Option Addr) (C' : Nat) (e : Ending), (∃ A1 C1, e = .returned (.agg #[.int .i64 k, .int .i64 0, .slice A1 (f.upd i.toNat (putP ([] : List Int) (j, o, g))).len C1]) ∧ (f.upd i.toNat (putP ([] : List Int) (j, o, g))).LiesP W (fun y => y < s0 ∨ w.heap.size ≤ y) A1 ∧ Below w.heap.size w W) → ∃ A1 C1, e = .returned (.agg #[.int .i64 (putP (i :: ([] : List Int)) (j, o, g) k 0 f).1, .int .i64 (putP (i :: ([] : List Int)) (j, o, g) k 0 f).2.1, .slice A1 (putP (i :: ([] : List Int)) (j, o, g) k 0 f).2.2.len C1]) ∧
        (putP (i :: ([] : List Int)) (j, o, g) k 0 f).2.2.LiesP W (fun y => y < s0 ∨ w.heap.size ≤ y) A1 ∧ Below w.heap.size w W) := fun W A' C' e h => h
  have HD := Lib.hid hd
  have HY := Lib.hid hy
  have HPP : Hid (∀ l (hl : l < ([] : List Int).length), w.cell? ⟨pb, po + 1 + l, none⟩ = some (.int .i64 (nth ([] : List Int) l))) := fun l hl => by
    have h := hpc (l + 1) (by simp only [List.length_cons]; omega)
    rw [show po + (l + 1) = po + 1 + l from by omega] at h
    exact h
  obtain ⟨hi0, hi1⟩ := hi
  clear ht hw htr hwr IH hd hy hpc
  go_enter Try.func110, Try.ntmps110
  have fm1 := parts_method k 0 (some ⟨fb, fo, none⟩) f.len C
  have fc1 := parts_call (.agg #[.int .i64 k, .int .i64 0, .slice (some ⟨fb, fo, none⟩) f.len C])
  have fm2 := with_method k 0 (some ⟨fb, fo, none⟩) f.len C
  have fc2 := with_call (.agg #[.int .i64 k, .int .i64 0, .slice (some ⟨fb, fo, none⟩) f.len C])
  go_wp2_with fail
  rw [← hW0]
  refine (parts_any k 0 (some ⟨fb, fo, none⟩) f.len C W0).mono ?_
  rintro e wp ⟨rfl, hbp⟩
  have zp := hbp.size
  obtain ⟨W1, hW1⟩ : ∃ W1, W1 = wp.alloc (.cells #[.slice (some ⟨fb, fo, none⟩) f.len C] 29) := ⟨_, rfl⟩
  have zw1 : W1.heap.size = wp.heap.size + 1 := by rw [hW1]; simp
  have B01 : Below W0.heap.size W0 W1 := by rw [hW1]; exact Below.alloc hbp zp _
  have SW1 : Sees w W1 := S0.below B01
  have cV : W1.cell? ⟨wp.heap.size, 0, none⟩ = some (.slice (some ⟨fb, fo, none⟩) f.len C) := by
    have h : W1.heap[wp.heap.size]? = some (.cells #[.slice (some ⟨fb, fo, none⟩) f.len C] 29 (0, 0)) := by rw [hW1]; exact heap_new _ _ _ rfl
    exact Fo.cell_of_block h 0
  go_wp2_with fail
  rw [← hW1]
  refine (KC.out _ wp.heap.size SW1 cV).mono ?_
  rintro e w1 ⟨G, C', rfl, hG1, hG2, hcel, hfr, hb01⟩
  have hb : Below W0.heap.size W0 w1 := Below.trans B01 (hb01.mono B01.size)
  have S1 : Sees w w1 := S0.below hb
  have HBe := (hb.block _ (by omega)).trans HBe0
  have HBb := (hb.block _ (by omega)).trans HBb0
  have HBr := (hb.block _ (by omega)).trans HBr0
  have pc := kc S1 p0
  have hrow : f.AtP w1 (· < s0) G 0 := Fo.AtP.moved (fun x hx => S1.block x (by omega)) HAT.out (fun l hl => by
    rw [Nat.zero_add, hcel l hl]; exact SW1.cell (p := ⟨fb, fo + l, none⟩) (by show fb < _; omega))
  obtain ⟨c0, c1, A1, C1, c2, hkl⟩ := hrow.row HD.out
  have e3 : 0 + 3 * i.toNat = i.toNat * 3 := by omega
  rw [e3] at c0 c1 c2
  have fr0 := hfr (i.toNat * 3)
  have fr1 := hfr (i.toNat * 3 + 1)
  have fr2 := hfr (i.toNat * 3 + 2)
  obtain ⟨x0, x1, x2, _⟩ := cells3 HBe
  obtain ⟨y0, y1, y2, _⟩ := cells3 HBb
  obtain ⟨u0, u1, u2, v0, v1, v2⟩ := cells3 HBr
  have HROW := Lib.hid hrow; have HKL := Lib.hid hkl
  have HBE := Lib.hid HBe; have HBR := Lib.hid HBr; have HFR := Lib.hid hfr
  have HS1 := Lib.hid S1
  have zG : w.heap.size + 4 ≤ G := by omega
  clear hb hb01 hcel hfr hrow hkl HBe0 HBb0 HBr0 cV KC S0 z0 hG1 HBe HBb HBr SW1 B01 zw1 zp hbp hW1
  have HW0 := Lib.hid hW0
  clear hW0
  have nG0 : G ≠ w.heap.size := by omega
  have nG1 : w.heap.size ≠ G := by omega
  have nG2 : G ≠ w.heap.size + 1 + 1 := by omega
  have nG3 : w.heap.size + 1 + 1 ≠ G := by omega
  go_wp2_with fail
  go_region_law
    (first
        | (go_simp; go_at_call 110; refine (KW.out _ A1 _ C1 ?_ ?_ ?_).mono ?_; exact HS1.out.drew; exact HKL.out.agree (fun _ _ => rfl) (fun _ h => h); exact fun h => absurd rfl h; rintro e w2 ⟨A2, C2, rfl, hL2, hb2⟩; have HB2 := Lib.hid hb2; have HL2 := Lib.hid hL2; have S2 : Sees w w2 := HS1.out.drew.below hb2; have z2 : w1.heap.size ≤ w2.heap.size := hb2.size; have pc2 := kc S2 p0; have c0' := kc hb2 c0; have c1' := kc hb2 c1; have c2' := kc hb2 c2; have fr0' := (Fo.Agree.frozen (lo := G) (hi := G + 1) (fun x h3 h4 => hb2.block x (by show x < w1.heap.size; omega)) (Nat.le_refl _) (Nat.lt_succ_self _) (i.toNat * 3)).trans fr0; have fr1' := (Fo.Agree.frozen (lo := G) (hi := G + 1) (fun x h3 h4 => hb2.block x (by show x < w1.heap.size; omega)) (Nat.le_refl _) (Nat.lt_succ_self _) (i.toNat * 3 + 1)).trans fr1; have fr2' := (Fo.Agree.frozen (lo := G) (hi := G + 1) (fun x h3 h4 => hb2.block x (by show x < w1.heap.size; omega)) (Nat.le_refl _) (Nat.lt_succ_self _) (i.toNat * 3 + 2)).trans fr2; have x0' := kc hb2 x0; have x1' := kc hb2 x1; have x2' := kc hb2 x2; have u0' := kc hb2 u0; have u1' := kc hb2 u1; have u2' := kc hb2 u2; have HBR2 := Lib.hid ((hb2.block (w.heap.size + 2) (by show w.heap.size + 2 < w1.heap.size; omega)).trans HBR.out); obtain ⟨_, _, _, v0', v1', v2'⟩ := cells3 HBR2.out; have H12 := Lib.hid (show Below w1.heap.size w1 w2 from Below.trans (Below.drew (Below.refl _ _)) hb2); clear hL2 hb2; dsimp only)
        | fail)
  all_goals
    go_wp2_with fail
    refine (with_any k 0 (some ⟨fb, fo, none⟩) (some ⟨G, 0, none⟩) f.len C f.len C' _).mono ?_
    rintro e w6 ⟨rfl, h56⟩
    have h57 : Below w2.heap.size (((w2.setCell ⟨G, i.toNat * 3, none⟩ (.int .i64 y.1)).setCell ⟨G, i.toNat * 3 + 1, none⟩ (.int .i64 y.2.1)).setCell ⟨G, i.toNat * 3 + 2, none⟩ (.slice A2 y.2.2.len C2)) w6 := by first | (simpa only [World.heap_size_setCell] using h56) | (refine Below.mono h56 ?_; simp) | (simpa using h56)
    have HBR6 : w6.heap[w.heap.size + 2]? = some (.cells #[.int .i64 0, .int .i64 0, .slice none 0 0] 31 (0, 0)) := (h57.block _ (by have := (Array.getElem?_eq_some_iff.1 HBR2.out).1; omega)).trans ((put3_heap _ (by omega)).trans HBR2.out)
    have H57 := Lib.hid h57
    have HX6 := Lib.hid HBR6
    obtain ⟨q0, q1, q2, t0, t1, t2⟩ := cells3 HBR6
    clear h56 h57 HBR6 x0' x1' x2' u0' u1' u2' v0' v1' v2' c0' c1' c2' fr0' fr1' fr2' pc2
    go_wp2_with fail
    obtain ⟨HBF, HE⟩ := withAt_end2 (C' := C') (C2 := C2) (k := k) (F := putP [] (j, o, g)) (rb := w.heap.size + 2) hs hG2 (by omega) (by omega) H12.out S2 HROW.out HD.out (by rw [← HY.out]; exact HL2.out) HBR2.out (by rw [← HY.out]; exact H57.out)
    obtain ⟨d0, d1, d2, _⟩ := cells3 HBF
    refine bodyPost_ret (v := .agg #[.int .i64 k, .int .i64 0, .slice (some ⟨G, 0, none⟩) f.len C']) (by simp [results, Try.results110, go_sem, d0, d1, d2]) rfl ?_
    exact HPUT.out _ none 0 _ HE

end Go.Proofs.Ytlfafcbieeambaa
