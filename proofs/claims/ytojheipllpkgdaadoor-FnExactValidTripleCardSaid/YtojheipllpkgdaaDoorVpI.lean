/- Contract of impl.ValidProg. -/
import Derived.Test.YtojheipllpkgdaaDoorVpN
import Derived.Test.YtojheipllpkgdaaDoorVpH
import Derived.Test.YtojheipllpkgdaaDoorSig
namespace Go.Proofs.YtojheipllpkgdaaDoor
open Go.RowKit Go.Shelf
attribute [local go_sem] Oper.semAt_some
set_option linter.unusedVariables false

theorem depth_any (A : Option Addr) (d C : Nat) (hd : d ≤ 1048576) (w : World) : Calls Tryd.prog 39 #[.agg #[.slice A d C]] w fun e w' => e = .returned (.int .i64 ((d : Int) + 1)) ∧ Below w.heap.size w w' := by
  go_enter Tryd.func39, Tryd.ntmps39
  go_wp2_with fail
  go_ret
  exact ⟨rfl, by go_grown⟩
theorem own_blk {β : Type} (b : Nat) (f : β → Array Value) (T : TypeId) : Own (fun (s : β) X => X.heap[b]? = some (.cells (f s) T (0, 0))) := fun s X Y row hs hg hr =>
  (hg.block b (Array.getElem?_eq_some_iff.1 hs).1 (fun e => by obtain ⟨o, ho, hc⟩ := hr b e.symm; rw [hs] at ho; cases ho; cases hc)).trans hs
theorem seven_cells {W : World} {b : Nat} {T : TypeId} {u0 u1 u2 u3 u4 u5 u6 : Value} (h : W.heap[b]? = some (.cells #[u0, u1, u2, u3, u4, u5, u6] T (0, 0))) : W.cell? ⟨b, 0, none⟩ = some u0 ∧ W.cell? ⟨b, 1, none⟩ = some u1 ∧ W.cell? ⟨b, 2, none⟩ = some u2 ∧ W.cell? ⟨b, 3, none⟩ = some u3 ∧ W.cell? ⟨b, 4, none⟩ = some u4 ∧ W.cell? ⟨b, 5, none⟩ = some u5 ∧ W.cell? ⟨b, 6, none⟩ = some u6 :=
  ⟨Fo.cell_of_block h 0, Fo.cell_of_block h 1, Fo.cell_of_block h 2, Fo.cell_of_block h 3, Fo.cell_of_block h 4, Fo.cell_of_block h 5, Fo.cell_of_block h 6⟩

set_option maxHeartbeats 8000000 in
set_option maxRecDepth 100000 in
theorem implValidProg_any (t a k n ck cn : Int) (cf : Fo) (ks : Pg) (hsz : cf.nodes + ks.nodes ≤ 1048576) (hcf : cf.Fits) (hks : ks.Fits) (A B : Option Addr) (C D : Nat) (w : World) (hA : cf.Lies w A) (hB : ks.Lies w B) (hF : Forms w) :
    Calls Tryd.prog 12 #[.agg #[.int .i64 t, .int .i64 a], .agg #[.int .i64 k, .int .i64 n, .int .i64 ck, .int .i64 cn, .slice A cf.len C, .slice B ks.len D]] w fun e w' => e = .returned (.bool (validP t a k n ck cn cf ks)) ∧ Below w.heap.size w w' := by
  have hdd : ∀ k : Nat, (Fence.wide.depth.isSome = true → 1 ≤ k) := fun k h => by cases h
  obtain ⟨w0, hw0⟩ : ∃ w0, w0 = ((w.alloc (.cells #[.int .i64 t, .int .i64 a] 32)).alloc (.cells #[.int .i64 k, .int .i64 n, .int .i64 ck, .int .i64 cn, .slice A cf.len C, .slice B ks.len D] 39)).alloc (.cells #[.bool false] 4) := ⟨_, rfl⟩
  have B0 : Sees w w0 := by rw [hw0]; exact (((Sees.refl w).alloc _).alloc _).alloc _
  have hg0 : w0.heap[w.heap.size]? = some (.cells #[.int .i64 t, .int .i64 a] 32 (0, 0)) := by rw [hw0]; exact (Below.heap_alloc _ _ _ (by simp; omega)).trans ((Below.heap_alloc _ _ _ (by simp)).trans (heap_new _ _ _ rfl))
  have hp0 : w0.heap[w.heap.size + 1]? = some (.cells #[.int .i64 k, .int .i64 n, .int .i64 ck, .int .i64 cn, .slice A cf.len C, .slice B ks.len D] 39 (0, 0)) := by rw [hw0]; exact (Below.heap_alloc _ _ _ (by simp)).trans (heap_new _ _ _ (by simp))
  have hr0 : w0.heap[w.heap.size + 1 + 1]? = some (.cells #[.bool false] 4 (0, 0)) := by rw [hw0]; exact heap_new _ _ _ (by simp)
  have z0 : w.heap.size + 3 ≤ w0.heap.size := by rw [hw0]; simp
  obtain ⟨qs, hqs⟩ : ∃ q : Bool, q = sigOk t a := ⟨_, rfl⟩
  have K1 : Hid (∀ W : World, Calls Tryd.prog 37 #[.agg #[.int .i64 t, .int .i64 a]] W fun e w' => e = .returned (.bool qs) ∧ Below W.heap.size W w') := fun W => by rw [hqs]; exact implValidSig_any t a W
  obtain ⟨qv, hqv⟩ : ∃ q : Bool, q = validP t a k n ck cn cf ks := ⟨_, rfl⟩
  rw [← hqv]
  have a0 := Fo.cell_of_block hg0 0; have a1 := Fo.cell_of_block hg0 1
  rw [hw0] at a0 a1
  refine (callsIn_wide (n := 12)).1 ?_
  refine callsIn_of_wp_marks Tryd.func12 rfl trivial ?_ rfl
  simp only [Tryd.ntmps12, List.size_toArray, List.length_cons, List.length_nil, Nat.reduceAdd, Nat.reduceSub, Array.replicate_succ, Array.replicate_zero, List.push_toArray, List.append_toArray, List.nil_append, List.cons_append]
  have HW0 := Lib.hid hw0
  clear hw0
  have HQV := Lib.hid hqv; clear hqv
  cases qs
  · have HQ : Hid (qv = false) := by show _ = _; rw [HQV.out]; unfold validP; rw [← hqs]; rfl
    clear hqs
    gi_wp2_with ((first | refine ⟨trivial, hdd _, ?_⟩ | refine ⟨trivial, ?_⟩); rw [← HW0.out]; gi_at_call 37; refine (callsIn_wide.2 (K1.out w0)).mono ?_; rintro e w1 ⟨rfl, hb1⟩; have HB1 := Lib.hid hb1; have HG1 := Lib.hid ((hb1.block _ (by omega)).trans hg0); have HP1 := Lib.hid ((hb1.block _ (by omega)).trans hp0); have HR1 := Lib.hid ((hb1.block _ (by omega)).trans hr0); have z1 := hb1.size; clear hb1 a0 a1; have r0 := Fo.cell_of_block HR1.out 0; have f0 := Fo.unfrozen_of_block HR1.out 0; obtain ⟨p0, p1, p2, p3, p4, p5⟩ := six_cells HP1.out)
    have HBF : Hid ((w1.setCell ⟨w.heap.size + 1 + 1, 0, none⟩ (.bool false)).cell? ⟨w.heap.size + 1 + 1, 0, none⟩ = some (.bool false)) := World.cell?_setCell_same (h := r0) ..
    have hcc := HBF.out
    refine ⟨.bool false, by simp [results, Tryd.results12, go_sem, hcc], by rw [HQ.out], Below.setCell (B0.below HB1.out) (show w.heap.size ≤ w.heap.size + 1 + 1 by omega) _⟩
  · have HS := Lib.hid hqs.symm
    clear hqs
    gi_wp2_with (first
      | ((first | refine ⟨trivial, hdd _, ?_⟩ | refine ⟨trivial, ?_⟩); rw [← HW0.out]; gi_at_call 37; refine (callsIn_wide.2 (K1.out w0)).mono ?_; rintro e w1 ⟨rfl, hb1⟩; have HB1 := Lib.hid hb1; have HG1 := Lib.hid ((hb1.block _ (by omega)).trans hg0); have HP1 := Lib.hid ((hb1.block _ (by omega)).trans hp0); have HR1 := Lib.hid ((hb1.block _ (by omega)).trans hr0); have z1 := hb1.size; clear hb1 a0 a1; have r0 := Fo.cell_of_block HR1.out 0; have f0 := Fo.unfrozen_of_block HR1.out 0; obtain ⟨p0, p1, p2, p3, p4, p5⟩ := six_cells HP1.out; have P0 := ka (.cells #[.int .i64 0] 3) p0; have P1 := ka (.cells #[.int .i64 0] 3) p1; have P2 := ka (.cells #[.int .i64 0] 3) p2; have P3 := ka (.cells #[.int .i64 0] 3) p3; have P4 := ka (.cells #[.int .i64 0] 3) p4; have P5 := ka (.cells #[.int .i64 0] 3) p5; clear p0 p1 p2 p3 p4 p5 r0 f0)
      | ((first | refine ⟨trivial, hdd _, ?_⟩ | refine ⟨trivial, ?_⟩); gi_at_call 38; refine (callsIn_wide.2 (nodesIn_any k n ck cn A B cf.len C ks.len D _)).mono ?_; rintro e w3 ⟨rfl, rfl⟩))
    obtain ⟨w2, hw2⟩ : ∃ w2, w2 = w1.alloc (.cells #[.int .i64 0] 3) := ⟨_, rfl⟩
    obtain ⟨w3, hw3⟩ : ∃ w3, w3 = w2.alloc (.cells #[.int .i64 k, .int .i64 n, .int .i64 ck, .int .i64 cn, .slice A cf.len C, .slice B ks.len D] 39) := ⟨_, rfl⟩
    rw [← hw2, ← hw3]
    have B12 : Below w1.heap.size w1 w2 := by rw [hw2]; exact (Below.refl _ _).alloc (Nat.le_refl _) _
    have B23 : Below w2.heap.size w2 w3 := by rw [hw3]; exact (Below.refl _ _).alloc (Nat.le_refl _) _
    have hz2 : w2.heap.size = w1.heap.size + 1 := by rw [hw2]; simp
    have hz3 : w3.heap.size = w1.heap.size + 2 := by rw [hw3]; simp [hz2]
    have B13 : Below w1.heap.size w1 w3 := B12.trans (B23.mono B12.size)
    have SW3 : Below w.heap.size w w3 := (B0.below HB1.out).below B13
    have hc3 : w3.heap[w1.heap.size]? = some (.cells #[.int .i64 ((0 : Nat) : Int)] 3 (0, 0)) := (B23.block _ (by omega)).trans (by rw [hw2]; exact heap_new _ _ _ rfl)
    have hr3 : w3.heap[w.heap.size + 1 + 1]? = some (.cells #[.bool false] 4 (0, 0)) := (B13.block _ (by omega)).trans HR1.out
    have hg3 : w3.heap[w.heap.size]? = some (.cells #[.int .i64 t, .int .i64 a] 32 (0, 0)) := (B13.block _ (by omega)).trans HG1.out
    have hp3 : w3.heap[w1.heap.size + 1]? = some (.cells #[.int .i64 k, .int .i64 n, .int .i64 ck, .int .i64 cn, .slice A cf.len C, .slice B ks.len D] 39 (0, 0)) := by rw [hw3]; exact heap_new _ _ _ hz2.symm
    have hSQ := nodes_seq (fun x => x = w.heap.size + 1 + 1 ∨ x = w1.heap.size) w (w1.heap.size + 1) (fun x hx => by rcases hx with rfl | rfl <;> omega) k n ck cn cf A B C D ks hA (by omega) hcf hB hks (by omega) 11 (w1.heap.size + 1) (by omega) w3 (by omega) (CS.of SW3) hp3
    clear hw2 hw3 B12 B23 B13 P0 P1 P2 P3 P4 P5 hg0 hp0 hr0
    refine range_seqM (E := fun x => x = w.heap.size + 1 + 1 ∨ x = w1.heap.size) rfl (by omega) (gf := 72) (lb := #[.pointer (some ⟨w1.heap.size + 1, 0, none⟩)]) rfl trivial (enters_of Tryd.func72 (by kernel_rfl) rfl) hSQ (Below.refl _ _) (fun _ => rfl)
      (fun pre X => okPre t a (pre.map PV.row) ∧ X.heap[w1.heap.size]? = some (.cells #[.int .i64 (pre.length : Int)] 3 (0, 0)) ∧ X.heap[w.heap.size + 1 + 1]? = some (.cells #[.bool false] 4 (0, 0)) ∧ X.heap[w.heap.size]? = some (.cells #[.int .i64 t, .int .i64 a] 32 (0, 0)) ∧ Below w.heap.size w X)
      (fun pre X => (∃ (xs : List (PV w)) (x : PV w), pre = xs ++ [x] ∧ x.row.okAt t a xs.length = false) ∧ X.heap[w.heap.size + 1 + 1]? = some (.cells #[.bool false] 4 (0, 0)) ∧ Below w.heap.size w X)
      ((ownFrom_pure _ (fun pre => okPre t a (pre.map PV.row))).and ((Own.from (own_blk w1.heap.size (fun (pre : List (PV w)) => #[Value.int .i64 (pre.length : Int)]) 3) _).and ((Own.from (own_blk (w.heap.size + 1 + 1) (fun (pre : List (PV w)) => #[Value.bool false]) 4) _).and ((Own.from (own_blk w.heap.size (fun (pre : List (PV w)) => #[Value.int .i64 t, Value.int .i64 a]) 32) _).and (ownFrom_below (Nat.le_refl _) (by omega))))))
      ((ownFrom_pure _ (fun pre => ∃ (xs : List (PV w)) (x : PV w), pre = xs ++ [x] ∧ x.row.okAt t a xs.length = false)).and ((Own.from (own_blk (w.heap.size + 1 + 1) (fun (pre : List (PV w)) => #[Value.bool false]) 4) _).and (ownFrom_below (Nat.le_refl _) (by omega))))
      ⟨okPre_nil t a, hc3, hr3, hg3, SW3⟩
      (fun x a' X => ∃ Bx, (Bx ≠ w1.heap.size ∧ Bx ≠ w.heap.size + 1 + 1) ∧ X.heap[Bx]? = some (.cells #[.slice x.PA x.d x.PC, .int .i64 x.k, .int .i64 x.n, .int .i64 x.ck, .int .i64 x.cn, .slice x.A x.cf.len x.C, .slice x.B x.ks.len x.D] 79 (0, 0)) ∧ a' = { tmps := #[.agg #[.int .i64 t, .int .i64 a], .agg #[.int .i64 k, .int .i64 n, .int .i64 ck, .int .i64 cn, .slice A cf.len C, .slice B ks.len D], .pointer (some ⟨w.heap.size, 0, none⟩), .pointer (some ⟨w.heap.size + 1, 0, none⟩), .pointer (some ⟨w.heap.size + 1 + 1, 0, none⟩), .pointer (some ⟨w1.heap.size, 0, none⟩), .pointer (some ⟨Bx, 0, none⟩), .agg #[.int .i64 t, .int .i64 a], .bool true, .bool false, .agg #[.int .i64 k, .int .i64 n, .int .i64 ck, .int .i64 cn, .slice A cf.len C, .slice B ks.len D], .func (.func 72) #[] #[.pointer (some ⟨w1.heap.size + 1, 0, none⟩)], .agg #[.slice x.PA x.d x.PC, .int .i64 x.k, .int .i64 x.n, .int .i64 x.ck, .int .i64 x.cn, .slice x.A x.cf.len x.C, .slice x.B x.ks.len x.D], undef, undef, undef, undef, undef, undef, undef, undef, undef, undef, undef, undef, undef, undef, undef, undef, undef], defers := [] })
      (fun x a' s X Y row hs hg hr => by
        obtain ⟨Bx, h0, h1, h2⟩ := hs
        exact ⟨Bx, h0, (hg.block Bx (Array.getElem?_eq_some_iff.1 h1).1 (fun e => by obtain ⟨_, o, ho, hc⟩ := hr Bx e.symm; rw [h1] at ho; cases ho; cases hc)).trans h1, h2⟩) ?assign ?body ?done ?stop
    case assign =>
      rintro l' pre x X K ⟨ho, hc, hr, hg, hB'⟩ hK
      simp only [PV.enc1]
      gi_wp2
      have hb' : Below X.heap.size X (X.alloc (.cells #[.slice x.PA x.d x.PC, .int .i64 x.k, .int .i64 x.n, .int .i64 x.ck, .int .i64 x.cn, .slice x.A x.cf.len x.C, .slice x.B x.ks.len x.D] 79)) := (Below.refl _ _).alloc (Nat.le_refl _) _
      have lt : ∀ {b : Nat} {o : Obj}, X.heap[b]? = some o → b < X.heap.size := fun h => (Array.getElem?_eq_some_iff.1 h).1
      exact hK _ _ (kf_below hb') (KC.of_below hb') ⟨ho, (hb'.block _ (lt hc)).trans hc, (hb'.block _ (lt hr)).trans hr, (hb'.block _ (lt hg)).trans hg, hB'.trans (hb'.mono hB'.size)⟩ ⟨X.heap.size, ⟨by have := lt hc; omega, by have := lt hr; omega⟩, heap_new _ _ _ rfl, rfl⟩
    case body =>
      rintro l' pre x a' X ⟨ho, hc, hr, hg, hB'⟩ ⟨Bx, ⟨nb1, nb2⟩, hx, rfl⟩ hlt
      have hkc := ks.cnt_le
      obtain ⟨c, hcn⟩ : ∃ c : Nat, c = pre.length := ⟨_, rfl⟩
      rw [← hcn] at hc hlt
      have hc9 : c ≤ 1048576 := by omega
      have hd9 : x.d ≤ 1048576 := x.hd
      obtain ⟨X1, hX1⟩ : ∃ X1, X1 = X.setCell ⟨w1.heap.size, 0, none⟩ (.int .i64 ((c : Int) + 1)) := ⟨_, rfl⟩
      have k1 : ∀ b, b ≠ w1.heap.size → X1.heap[b]? = X.heap[b]? := fun b hb => by rw [hX1]; exact Below.heap_setCell _ _ _ _ hb
      have hc1 : Hid (X1.heap[w1.heap.size]? = some (.cells #[.int .i64 ((c : Int) + 1)] 3 (0, 0))) := by show _ = _; rw [hX1, Fo.block_setCell hc _]; rfl
      have hr1 := Lib.hid ((k1 _ (by omega)).trans hr); have hg1 := Lib.hid ((k1 _ (by omega)).trans hg); have hx1 := Lib.hid ((k1 _ nb1).trans hx)
      have HB1' : Hid (Below w.heap.size w X1) := by show Below _ _ _; rw [hX1]; exact Below.setCell hB' (show w.heap.size ≤ w1.heap.size by omega) _
      have KF1 : Hid (KeepsFrom w3.heap.size X X1) := by show KeepsFrom _ _ _; rw [hX1]; exact (KeepsOthers.setCell _ _ _).from _
      have KC1 : Hid (KC (fun x => x = w.heap.size + 1 + 1 ∨ x = w1.heap.size) X X1) := by show KC _ _ _; rw [hX1]; exact KC.grown (grownBy_setCell' X _ _) (fun r e => by cases e; exact .inl (.inr rfl))
      have lx1 : Bx < X1.heap.size := (Array.getElem?_eq_some_iff.1 hx1.out).1
      have lg1 : w.heap.size < X1.heap.size := (Array.getElem?_eq_some_iff.1 hg1.out).1
      have lr1 : w.heap.size + 1 + 1 < X1.heap.size := (Array.getElem?_eq_some_iff.1 hr1.out).1
      have lc1 : w1.heap.size < X1.heap.size := (Array.getElem?_eq_some_iff.1 hc1.out).1
      obtain ⟨ok, hok⟩ : ∃ q : Bool, q = x.row.okAt t a c := ⟨_, rfl⟩
      have RET : Hid (ok = false → ∀ (Y : World) (ac : Act), Below X1.heap.size X1 Y → postM w3.heap.size (fun x => x = w.heap.size + 1 + 1 ∨ x = w1.heap.size) (fun pre X => okPre t a (pre.map PV.row) ∧ X.heap[w1.heap.size]? = some (.cells #[.int .i64 (pre.length : Int)] 3 (0, 0)) ∧ X.heap[w.heap.size + 1 + 1]? = some (.cells #[.bool false] 4 (0, 0)) ∧ X.heap[w.heap.size]? = some (.cells #[.int .i64 t, .int .i64 a] 32 (0, 0)) ∧ Below w.heap.size w X) (fun pre X => (∃ (xs : List (PV w)) (x : PV w), pre = xs ++ [x] ∧ x.row.okAt t a xs.length = false) ∧ X.heap[w.heap.size + 1 + 1]? = some (.cells #[.bool false] 4 (0, 0)) ∧ Below w.heap.size w X) (pre ++ [x]) X .ret ac (Y.setCell ⟨w.heap.size + 1 + 1, 0, none⟩ (.bool false))) := fun hf Y ac hY => by
        have hrY := (hY.block _ lr1).trans hr1.out
        refine ⟨(KF1.out.trans (kf_below hY)).trans ((KeepsOthers.setCell _ _ _).from _), (KC1.out.trans (KC.of_below hY)).trans (KC.grown (grownBy_setCell' Y _ _) (fun r e => by cases e; exact .inl (.inl rfl))), ⟨pre, x, rfl, by rw [← hcn, ← hok]; exact hf⟩, by rw [Fo.block_setCell hrY _]; rfl, Below.setCell (HB1'.out.trans (hY.mono HB1'.out.size)) (show w.heap.size ≤ w.heap.size + 1 + 1 by omega) _⟩
      have CON : Hid (ok = true → ∀ (Y : World) (ac : Act), Below X1.heap.size X1 Y → postM w3.heap.size (fun x => x = w.heap.size + 1 + 1 ∨ x = w1.heap.size) (fun pre X => okPre t a (pre.map PV.row) ∧ X.heap[w1.heap.size]? = some (.cells #[.int .i64 (pre.length : Int)] 3 (0, 0)) ∧ X.heap[w.heap.size + 1 + 1]? = some (.cells #[.bool false] 4 (0, 0)) ∧ X.heap[w.heap.size]? = some (.cells #[.int .i64 t, .int .i64 a] 32 (0, 0)) ∧ Below w.heap.size w X) (fun pre X => (∃ (xs : List (PV w)) (x : PV w), pre = xs ++ [x] ∧ x.row.okAt t a xs.length = false) ∧ X.heap[w.heap.size + 1 + 1]? = some (.cells #[.bool false] 4 (0, 0)) ∧ Below w.heap.size w X) (pre ++ [x]) X .normal ac Y) := fun hf Y ac hY => by
        refine ⟨KF1.out.trans (kf_below hY), KC1.out.trans (KC.of_below hY), ?_, ?_, (hY.block _ lr1).trans hr1.out, (hY.block _ lg1).trans hg1.out, HB1'.out.trans (hY.mono HB1'.out.size)⟩
        · rw [List.map_append]
          exact okPre_snoc ho (by rw [List.length_map, ← hcn, ← hok]; exact hf)
        · rw [(hY.block _ lc1).trans hc1.out, List.length_append, ← hcn]; simp
      obtain ⟨qf, hqf⟩ : ∃ q : Bool, q = pform t a x.k x.n x.ck x.cn x.cf x.ks.len := ⟨_, rfl⟩
      have KH : Hid (∀ W : World, Below w.heap.size w W → Calls Tryd.prog 40 #[.agg #[.int .i64 x.k, .int .i64 x.n, .int .i64 x.ck, .int .i64 x.cn, .slice x.A x.cf.len x.C, .slice x.B x.ks.len x.D], .agg #[.int .i64 t, .int .i64 a]] W fun e w' => e = .returned (.bool qf) ∧ Below W.heap.size W w') := fun W h => by
        rw [hqf]; exact phasForm_any t a x.k x.n x.ck x.cn x.cf x.ks x.hm x.hf (by have := x.ks.len_le_nodes; have := x.hks.1; omega) x.A x.B x.C x.D W (x.hA.sees h) (hF.sees h)
      have hok2 : ok = (decide (c + 1 ≤ 60) && (decide (x.d + 1 ≤ 20) && qf)) := by rw [hok, hqf]; rfl
      have HOK := Lib.hid hok2
      have cc := Fo.cell_of_block hc 0; have cf0 := Fo.unfrozen_of_block hc 0
      obtain ⟨y0, y1, y2, y3, y4, y5, y6⟩ := seven_cells hx1.out
      have s0 := Fo.cell_of_block hg1.out 0; have s1 := Fo.cell_of_block hg1.out 1; have c1 := Fo.cell_of_block hc1.out 0
      have r0 := Fo.cell_of_block hr1.out 0; have f0 := Fo.unfrozen_of_block hr1.out 0
      rw [hX1] at y0 y1 y2 y3 y4 y5 y6 s0 s1 c1 r0 f0
      have HX1 := Lib.hid hX1
      clear hX1 k1 ho hc hr hg hB' hx hok hqf hok2 hcn nb1 nb2
      by_cases h60 : c + 1 ≤ 60
      case neg =>
        have t60 : decide ((60 : Int) < (c : Int) + 1) = true := decide_eq_true (by omega)
        have HF : Hid (ok = false) := by show _ = _; rw [HOK.out, decide_eq_false h60]; rfl
        clear h60
        gi_wp2
        refine ⟨trivial, ?_⟩
        gi_wp2
        refine ⟨trivial, ?_⟩
        gi_wp2
        rw [← HX1.out]
        exact RET.out HF.out X1 _ (Below.refl _ _)
      have t60 : decide ((60 : Int) < (c : Int) + 1) = false := decide_eq_false (by omega)
      by_cases h20 : x.d + 1 ≤ 20
      case neg =>
        have t20 : decide ((20 : Int) < (x.d : Int) + 1) = true := decide_eq_true (by omega)
        have HF : Hid (ok = false) := by show _ = _; rw [HOK.out, decide_eq_false h20]; simp
        clear h60 h20
        gi_wp2_with ((first | refine ⟨trivial, hdd _, ?_⟩ | refine ⟨trivial, ?_⟩); rw [← HX1.out]; gi_at_call 39; refine (CallsIn.inRound l' (callsIn_wide.2 (depth_any x.PA x.d x.PC (by omega) X1))).mono ?_; rintro e X2 ⟨rfl, hb2⟩; have HB2 := Lib.hid hb2; clear hb2 y0 y1 y2 y3 y4 y5 y6 s0 s1; obtain ⟨z0, z1, z2, z3, z4, z5, z6⟩ := seven_cells ((HB2.out.block Bx lx1).trans hx1.out); have s0 := Fo.cell_of_block ((HB2.out.block _ lg1).trans hg1.out) 0; have s1 := Fo.cell_of_block ((HB2.out.block _ lg1).trans hg1.out) 1; have r0 := Fo.cell_of_block ((HB2.out.block _ lr1).trans hr1.out) 0; have f0 := Fo.unfrozen_of_block ((HB2.out.block _ lr1).trans hr1.out) 0)
        refine ⟨trivial, ?_⟩
        gi_wp2
        exact RET.out HF.out X2 _ HB2.out
      have t20 : decide ((20 : Int) < (x.d : Int) + 1) = false := decide_eq_false (by omega)
      cases qf
      · have HF : Hid (ok = false) := by show _ = _; rw [HOK.out]; simp
        clear h60 h20
        gi_wp2_with (first
          | ((first | refine ⟨trivial, hdd _, ?_⟩ | refine ⟨trivial, ?_⟩); rw [← HX1.out]; gi_at_call 39; refine (CallsIn.inRound l' (callsIn_wide.2 (depth_any x.PA x.d x.PC (by omega) X1))).mono ?_; rintro e X2 ⟨rfl, hb2⟩; have HB2 := Lib.hid hb2; clear hb2 y0 y1 y2 y3 y4 y5 y6 s0 s1; obtain ⟨z0, z1, z2, z3, z4, z5, z6⟩ := seven_cells ((HB2.out.block Bx lx1).trans hx1.out); have s0 := Fo.cell_of_block ((HB2.out.block _ lg1).trans hg1.out) 0; have s1 := Fo.cell_of_block ((HB2.out.block _ lg1).trans hg1.out) 1; have r0 := Fo.cell_of_block ((HB2.out.block _ lr1).trans hr1.out) 0; have f0 := Fo.unfrozen_of_block ((HB2.out.block _ lr1).trans hr1.out) 0)
          | ((first | refine ⟨trivial, hdd _, ?_⟩ | refine ⟨trivial, ?_⟩); gi_at_call 40; refine (CallsIn.inRound l' (callsIn_wide.2 (KH.out X2 (HB1'.out.trans (HB2.out.mono HB1'.out.size))))).mono ?_; rintro e X3 ⟨rfl, hb3⟩; have HB3 := Lib.hid (HB2.out.trans (hb3.mono HB2.out.size)); clear hb3 z0 z1 z2 z3 z4 z5 z6 s0 s1 r0 f0; have r0 := Fo.cell_of_block ((HB3.out.block _ lr1).trans hr1.out) 0; have f0 := Fo.unfrozen_of_block ((HB3.out.block _ lr1).trans hr1.out) 0))
        exact RET.out HF.out X3 _ HB3.out
      · have HF : Hid (ok = true) := by show _ = _; rw [HOK.out, decide_eq_true h60, decide_eq_true h20]; rfl
        clear h60 h20
        gi_wp2_with (first
          | ((first | refine ⟨trivial, hdd _, ?_⟩ | refine ⟨trivial, ?_⟩); rw [← HX1.out]; gi_at_call 39; refine (CallsIn.inRound l' (callsIn_wide.2 (depth_any x.PA x.d x.PC (by omega) X1))).mono ?_; rintro e X2 ⟨rfl, hb2⟩; have HB2 := Lib.hid hb2; clear hb2 y0 y1 y2 y3 y4 y5 y6 s0 s1; obtain ⟨z0, z1, z2, z3, z4, z5, z6⟩ := seven_cells ((HB2.out.block Bx lx1).trans hx1.out); have s0 := Fo.cell_of_block ((HB2.out.block _ lg1).trans hg1.out) 0; have s1 := Fo.cell_of_block ((HB2.out.block _ lg1).trans hg1.out) 1; have r0 := Fo.cell_of_block ((HB2.out.block _ lr1).trans hr1.out) 0; have f0 := Fo.unfrozen_of_block ((HB2.out.block _ lr1).trans hr1.out) 0)
          | ((first | refine ⟨trivial, hdd _, ?_⟩ | refine ⟨trivial, ?_⟩); gi_at_call 40; refine (CallsIn.inRound l' (callsIn_wide.2 (KH.out X2 (HB1'.out.trans (HB2.out.mono HB1'.out.size))))).mono ?_; rintro e X3 ⟨rfl, hb3⟩; have HB3 := Lib.hid (HB2.out.trans (hb3.mono HB2.out.size)); clear hb3 z0 z1 z2 z3 z4 z5 z6 s0 s1 r0 f0; have r0 := Fo.cell_of_block ((HB3.out.block _ lr1).trans hr1.out) 0; have f0 := Fo.unfrozen_of_block ((HB3.out.block _ lr1).trans hr1.out) 0))
        exact CON.out HF.out X3 _ HB3.out
    case done =>
      rintro D' ys X hD hS ⟨ho, hc, hr, hg, hB'⟩ hK
      have HT : Hid (qv = true) := by
        show _ = _
        rw [HQV.out]
        refine (validP_pre HS.out).2 ?_
        rw [← hS]
        exact ho
      have r1 := Fo.cell_of_block hr 0; have f1 := Fo.unfrozen_of_block hr 0
      obtain ⟨Y, hY⟩ : ∃ Y, Y = X.setCell ⟨w.heap.size + 1 + 1, 0, none⟩ (.bool true) := ⟨_, rfl⟩
      have hrY : Y.heap[w.heap.size + 1 + 1]? = some (.cells #[.bool true] 4 (0, 0)) := by rw [hY, Fo.block_setCell hr _]; rfl
      have hKY : Y.heap[D']? = some (.deferred (some [])) := by rw [hY]; exact (Below.heap_setCell _ _ _ _ (show D' ≠ w.heap.size + 1 + 1 by omega)).trans hK
      have hBY : Below w.heap.size w Y := by rw [hY]; exact Below.setCell hB' (show w.heap.size ≤ w.heap.size + 1 + 1 by omega) _
      gi_wp2
      rw [← hY]
      refine ⟨by simp, .inl ⟨_, _, rfl, run_takeDeferred hKY, ?_⟩⟩
      have hcc : (Y.putObj D' (.deferred none)).cell? ⟨w.heap.size + 1 + 1, 0, none⟩ = some (.bool true) := (World.cell?_of_block (a := ⟨w.heap.size + 1 + 1, 0, none⟩) (World.putObj_heap_other (show w.heap.size + 1 + 1 ≠ D' by omega))).trans (Fo.cell_of_block hrY 0)
      refine ⟨.bool true, by simp [results, Tryd.results12, go_sem, hcc], by rw [HT.out], hBY.trans (belowK_b (w := w) (Nat.le_refl _) Y D' _ _ (by omega) hKY rfl rfl)⟩
    case stop =>
      rintro D' pre X hD hS ⟨⟨xs, x, rfl, hx⟩, hr, hB'⟩ hK
      have HT : Hid (qv = false) := by
        show _ = _
        rw [HQV.out]
        rw [List.map_append, List.map_cons, List.map_nil] at hS
        exact validP_stop HS.out hS (by rw [List.length_map]; exact hx)
      gi_wp2
      refine ⟨by simp, .inl ⟨_, _, rfl, run_takeDeferred hK, ?_⟩⟩
      have hcc : (X.putObj D' (.deferred none)).cell? ⟨w.heap.size + 1 + 1, 0, none⟩ = some (.bool false) := (World.cell?_of_block (a := ⟨w.heap.size + 1 + 1, 0, none⟩) (World.putObj_heap_other (show w.heap.size + 1 + 1 ≠ D' by omega))).trans (Fo.cell_of_block hr 0)
      refine ⟨.bool false, by simp [results, Tryd.results12, go_sem, hcc], by rw [HT.out], hB'.trans (belowK_b (w := w) (Nat.le_refl _) X D' _ _ (by omega) hK rfl rfl)⟩
end Go.Proofs.YtojheipllpkgdaaDoor
