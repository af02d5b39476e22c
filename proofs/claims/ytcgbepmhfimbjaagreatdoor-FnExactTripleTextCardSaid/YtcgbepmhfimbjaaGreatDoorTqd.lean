/- Contract of impl.ValidProg. Contract of impl.ValidTriple. A builder that a call has made: strings and numbers are written, the text is read. A builder beside a box that is stored into. Plain facts. Contract of the function literal of impl.writeProg: the next word is written, and taken away. How a law's row is closed: a law that answers true and changes nothing that was there. No walk. -/
import Derived.Test.YtcgbepmhfimbjaaGreatDoorTqc
import Derived.Test.YtcgbepmhfimbjaaGreatDoorSig
import Derived.Test.YtcgbepmhfimbjaaGreatDoorTqa
import Derived.Test.YtcgbepmhfimbjaaGreatDoorSpC
import Derived.Test.YtcgbepmhfimbjaaGreatDoorShelf
import Derived.Test.YtcgbepmhfimbjaaGreatDoorTqb
import Derived.Test.YtcgbepmhfimbjaaGreatDoorSep
import Derived.Lib.Hide
import Derived.Test.YtcgbepmhfimbjaaGreatDoorFill
import Derived.StillTailTactics
import Derived.Test.YtcgbepmhfimbjaaGreatDoorRows
import Derived.Test.YtcgbepmhfimbjaaGreatDoorFo
import Derived.Test.YtcgbepmhfimbjaaGreatDoorInts
import Derived.ProofKit
import Derived.OpenShut
import Derived.Below
import Derived.ChangeSame
import Derived.Lib.SmallJoins
import Derived.WideKeyArgs
import Derived.Deep.Slices
namespace Go.Proofs.YtcgbepmhfimbjaaGreatDoor
open Go.RowKit Go.Shelf
attribute [local go_sem] Oper.semAt_some
set_option linter.unusedVariables false

theorem depth_any (A : Option Addr) (d C : Nat) (hd : d ≤ 1048576) (w : World) : Calls Tryz.prog 79 #[.agg #[.slice A d C]] w fun e w' => e = .returned (.int .i64 ((d : Int) + 1)) ∧ Below w.heap.size w w' := by
  go_enter Tryz.func79, Tryz.ntmps79
  go_wp2_with fail
  go_ret
  exact ⟨rfl, by go_grown⟩
theorem own_blk {β : Type} (b : Nat) (f : β → Array Value) (T : TypeId) : Own (fun (s : β) X => X.heap[b]? = some (.cells (f s) T (0, 0))) := fun s X Y row hs hg hr =>
  (hg.block b (Array.getElem?_eq_some_iff.1 hs).1 (fun e => by obtain ⟨o, ho, hc⟩ := hr b e.symm; rw [hs] at ho; cases ho; cases hc)).trans hs
theorem seven_cells {W : World} {b : Nat} {T : TypeId} {u0 u1 u2 u3 u4 u5 u6 : Value} (h : W.heap[b]? = some (.cells #[u0, u1, u2, u3, u4, u5, u6] T (0, 0))) : W.cell? ⟨b, 0, none⟩ = some u0 ∧ W.cell? ⟨b, 1, none⟩ = some u1 ∧ W.cell? ⟨b, 2, none⟩ = some u2 ∧ W.cell? ⟨b, 3, none⟩ = some u3 ∧ W.cell? ⟨b, 4, none⟩ = some u4 ∧ W.cell? ⟨b, 5, none⟩ = some u5 ∧ W.cell? ⟨b, 6, none⟩ = some u6 :=
  ⟨Fo.cell_of_block h 0, Fo.cell_of_block h 1, Fo.cell_of_block h 2, Fo.cell_of_block h 3, Fo.cell_of_block h 4, Fo.cell_of_block h 5, Fo.cell_of_block h 6⟩

set_option maxHeartbeats 8000000 in
set_option maxRecDepth 100000 in
theorem implValidProg_any (t a k n ck cn : Int) (cf : Fo) (ks : Pg) (hsz : cf.nodes + ks.nodes ≤ 1048576) (hcf : cf.Fits) (hks : ks.Fits) (A B : Option Addr) (C D : Nat) (w : World) (hA : cf.Lies w A) (hB : ks.Lies w B) (hF : Forms w) :
    Calls Tryz.prog 50 #[.agg #[.int .i64 t, .int .i64 a], .agg #[.int .i64 k, .int .i64 n, .int .i64 ck, .int .i64 cn, .slice A cf.len C, .slice B ks.len D]] w fun e w' => e = .returned (.bool (validP t a k n ck cn cf ks)) ∧ Below w.heap.size w w' := by
  have hdd : ∀ k : Nat, (Fence.wide.depth.isSome = true → 1 ≤ k) := fun k h => by cases h
  obtain ⟨w0, hw0⟩ : ∃ w0, w0 = ((w.alloc (.cells #[.int .i64 t, .int .i64 a] 34)).alloc (.cells #[.int .i64 k, .int .i64 n, .int .i64 ck, .int .i64 cn, .slice A cf.len C, .slice B ks.len D] 41)).alloc (.cells #[.bool false] 4) := ⟨_, rfl⟩
  have B0 : Sees w w0 := by rw [hw0]; exact (((Sees.refl w).alloc _).alloc _).alloc _
  have hg0 : w0.heap[w.heap.size]? = some (.cells #[.int .i64 t, .int .i64 a] 34 (0, 0)) := by rw [hw0]; exact (Below.heap_alloc _ _ _ (by simp; omega)).trans ((Below.heap_alloc _ _ _ (by simp)).trans (heap_new _ _ _ rfl))
  have hp0 : w0.heap[w.heap.size + 1]? = some (.cells #[.int .i64 k, .int .i64 n, .int .i64 ck, .int .i64 cn, .slice A cf.len C, .slice B ks.len D] 41 (0, 0)) := by rw [hw0]; exact (Below.heap_alloc _ _ _ (by simp)).trans (heap_new _ _ _ (by simp))
  have hr0 : w0.heap[w.heap.size + 1 + 1]? = some (.cells #[.bool false] 4 (0, 0)) := by rw [hw0]; exact heap_new _ _ _ (by simp)
  have z0 : w.heap.size + 3 ≤ w0.heap.size := by rw [hw0]; simp
  obtain ⟨qs, hqs⟩ : ∃ q : Bool, q = sigOk t a := ⟨_, rfl⟩
  have K1 : Hid (∀ W : World, Calls Tryz.prog 63 #[.agg #[.int .i64 t, .int .i64 a]] W fun e w' => e = .returned (.bool qs) ∧ Below W.heap.size W w') := fun W => by rw [hqs]; exact implValidSig_any t a W
  obtain ⟨qv, hqv⟩ : ∃ q : Bool, q = validP t a k n ck cn cf ks := ⟨_, rfl⟩
  rw [← hqv]
  have a0 := Fo.cell_of_block hg0 0; have a1 := Fo.cell_of_block hg0 1
  rw [hw0] at a0 a1
  refine (callsIn_wide (n := 12)).1 ?_
  refine callsIn_of_wp_marks Tryz.func50 rfl trivial ?_ rfl
  simp only [Tryz.ntmps50, List.size_toArray, List.length_cons, List.length_nil, Nat.reduceAdd, Nat.reduceSub, Array.replicate_succ, Array.replicate_zero, List.push_toArray, List.append_toArray, List.nil_append, List.cons_append]
  have HW0 := Lib.hid hw0
  clear hw0
  have HQV := Lib.hid hqv; clear hqv
  cases qs
  · have HQ : Hid (qv = false) := by show _ = _; rw [HQV.out]; unfold validP; rw [← hqs]; rfl
    clear hqs
    gi_wp2_with ((first | refine ⟨trivial, hdd _, ?_⟩ | refine ⟨trivial, ?_⟩); rw [← HW0.out]; gi_at_call 63; refine (callsIn_wide.2 (K1.out w0)).mono ?_; rintro e w1 ⟨rfl, hb1⟩; have HB1 := Lib.hid hb1; have HG1 := Lib.hid ((hb1.block _ (by omega)).trans hg0); have HP1 := Lib.hid ((hb1.block _ (by omega)).trans hp0); have HR1 := Lib.hid ((hb1.block _ (by omega)).trans hr0); have z1 := hb1.size; clear hb1 a0 a1; have r0 := Fo.cell_of_block HR1.out 0; have f0 := Fo.unfrozen_of_block HR1.out 0; obtain ⟨p0, p1, p2, p3, p4, p5⟩ := six_cells HP1.out)
    have HBF : Hid ((w1.setCell ⟨w.heap.size + 1 + 1, 0, none⟩ (.bool false)).cell? ⟨w.heap.size + 1 + 1, 0, none⟩ = some (.bool false)) := World.cell?_setCell_same (h := r0) ..
    have hcc := HBF.out
    refine ⟨.bool false, by simp [results, Tryz.results50, go_sem, hcc], by rw [HQ.out], Below.setCell (B0.below HB1.out) (show w.heap.size ≤ w.heap.size + 1 + 1 by omega) _⟩
  · have HS := Lib.hid hqs.symm
    clear hqs
    gi_wp2_with (first
      | ((first | refine ⟨trivial, hdd _, ?_⟩ | refine ⟨trivial, ?_⟩); rw [← HW0.out]; gi_at_call 63; refine (callsIn_wide.2 (K1.out w0)).mono ?_; rintro e w1 ⟨rfl, hb1⟩; have HB1 := Lib.hid hb1; have HG1 := Lib.hid ((hb1.block _ (by omega)).trans hg0); have HP1 := Lib.hid ((hb1.block _ (by omega)).trans hp0); have HR1 := Lib.hid ((hb1.block _ (by omega)).trans hr0); have z1 := hb1.size; clear hb1 a0 a1; have r0 := Fo.cell_of_block HR1.out 0; have f0 := Fo.unfrozen_of_block HR1.out 0; obtain ⟨p0, p1, p2, p3, p4, p5⟩ := six_cells HP1.out; have P0 := ka (.cells #[.int .i64 0] 3) p0; have P1 := ka (.cells #[.int .i64 0] 3) p1; have P2 := ka (.cells #[.int .i64 0] 3) p2; have P3 := ka (.cells #[.int .i64 0] 3) p3; have P4 := ka (.cells #[.int .i64 0] 3) p4; have P5 := ka (.cells #[.int .i64 0] 3) p5; clear p0 p1 p2 p3 p4 p5 r0 f0)
      | ((first | refine ⟨trivial, hdd _, ?_⟩ | refine ⟨trivial, ?_⟩); gi_at_call 78; refine (callsIn_wide.2 (nodesIn_any k n ck cn A B cf.len C ks.len D _)).mono ?_; rintro e w3 ⟨rfl, rfl⟩))
    obtain ⟨w2, hw2⟩ : ∃ w2, w2 = w1.alloc (.cells #[.int .i64 0] 3) := ⟨_, rfl⟩
    obtain ⟨w3, hw3⟩ : ∃ w3, w3 = w2.alloc (.cells #[.int .i64 k, .int .i64 n, .int .i64 ck, .int .i64 cn, .slice A cf.len C, .slice B ks.len D] 41) := ⟨_, rfl⟩
    rw [← hw2, ← hw3]
    have B12 : Below w1.heap.size w1 w2 := by rw [hw2]; exact (Below.refl _ _).alloc (Nat.le_refl _) _
    have B23 : Below w2.heap.size w2 w3 := by rw [hw3]; exact (Below.refl _ _).alloc (Nat.le_refl _) _
    have hz2 : w2.heap.size = w1.heap.size + 1 := by rw [hw2]; simp
    have hz3 : w3.heap.size = w1.heap.size + 2 := by rw [hw3]; simp [hz2]
    have B13 : Below w1.heap.size w1 w3 := B12.trans (B23.mono B12.size)
    have SW3 : Below w.heap.size w w3 := (B0.below HB1.out).below B13
    have hc3 : w3.heap[w1.heap.size]? = some (.cells #[.int .i64 ((0 : Nat) : Int)] 3 (0, 0)) := (B23.block _ (by omega)).trans (by rw [hw2]; exact heap_new _ _ _ rfl)
    have hr3 : w3.heap[w.heap.size + 1 + 1]? = some (.cells #[.bool false] 4 (0, 0)) := (B13.block _ (by omega)).trans HR1.out
    have hg3 : w3.heap[w.heap.size]? = some (.cells #[.int .i64 t, .int .i64 a] 34 (0, 0)) := (B13.block _ (by omega)).trans HG1.out
    have hp3 : w3.heap[w1.heap.size + 1]? = some (.cells #[.int .i64 k, .int .i64 n, .int .i64 ck, .int .i64 cn, .slice A cf.len C, .slice B ks.len D] 41 (0, 0)) := by rw [hw3]; exact heap_new _ _ _ hz2.symm
    have hSQ := nodes_seq (fun x => x = w.heap.size + 1 + 1 ∨ x = w1.heap.size) w (w1.heap.size + 1) (fun x hx => by rcases hx with rfl | rfl <;> omega) k n ck cn cf A B C D ks hA (by omega) hcf hB hks (by omega) 11 (w1.heap.size + 1) (by omega) w3 (by omega) (CS.of SW3) hp3
    clear hw2 hw3 B12 B23 B13 P0 P1 P2 P3 P4 P5 hg0 hp0 hr0
    refine range_seqM (E := fun x => x = w.heap.size + 1 + 1 ∨ x = w1.heap.size) rfl (by omega) (gf := 113) (lb := #[.pointer (some ⟨w1.heap.size + 1, 0, none⟩)]) rfl trivial (enters_of Tryz.func113 (by kernel_rfl) rfl) hSQ (Below.refl _ _) (fun _ => rfl)
      (fun pre X => okPre t a (pre.map PV.row) ∧ X.heap[w1.heap.size]? = some (.cells #[.int .i64 (pre.length : Int)] 3 (0, 0)) ∧ X.heap[w.heap.size + 1 + 1]? = some (.cells #[.bool false] 4 (0, 0)) ∧ X.heap[w.heap.size]? = some (.cells #[.int .i64 t, .int .i64 a] 34 (0, 0)) ∧ Below w.heap.size w X)
      (fun pre X => (∃ (xs : List (PV w)) (x : PV w), pre = xs ++ [x] ∧ x.row.okAt t a xs.length = false) ∧ X.heap[w.heap.size + 1 + 1]? = some (.cells #[.bool false] 4 (0, 0)) ∧ Below w.heap.size w X)
      ((ownFrom_pure _ (fun pre => okPre t a (pre.map PV.row))).and ((Own.from (own_blk w1.heap.size (fun (pre : List (PV w)) => #[Value.int .i64 (pre.length : Int)]) 3) _).and ((Own.from (own_blk (w.heap.size + 1 + 1) (fun (pre : List (PV w)) => #[Value.bool false]) 4) _).and ((Own.from (own_blk w.heap.size (fun (pre : List (PV w)) => #[Value.int .i64 t, Value.int .i64 a]) 34) _).and (ownFrom_below (Nat.le_refl _) (by omega))))))
      ((ownFrom_pure _ (fun pre => ∃ (xs : List (PV w)) (x : PV w), pre = xs ++ [x] ∧ x.row.okAt t a xs.length = false)).and ((Own.from (own_blk (w.heap.size + 1 + 1) (fun (pre : List (PV w)) => #[Value.bool false]) 4) _).and (ownFrom_below (Nat.le_refl _) (by omega))))
      ⟨okPre_nil t a, hc3, hr3, hg3, SW3⟩
      (fun x a' X => ∃ Bx, (Bx ≠ w1.heap.size ∧ Bx ≠ w.heap.size + 1 + 1) ∧ X.heap[Bx]? = some (.cells #[.slice x.PA x.d x.PC, .int .i64 x.k, .int .i64 x.n, .int .i64 x.ck, .int .i64 x.cn, .slice x.A x.cf.len x.C, .slice x.B x.ks.len x.D] 154 (0, 0)) ∧ a' = { tmps := #[.agg #[.int .i64 t, .int .i64 a], .agg #[.int .i64 k, .int .i64 n, .int .i64 ck, .int .i64 cn, .slice A cf.len C, .slice B ks.len D], .pointer (some ⟨w.heap.size, 0, none⟩), .pointer (some ⟨w.heap.size + 1, 0, none⟩), .pointer (some ⟨w.heap.size + 1 + 1, 0, none⟩), .pointer (some ⟨w1.heap.size, 0, none⟩), .pointer (some ⟨Bx, 0, none⟩), .agg #[.int .i64 t, .int .i64 a], .bool true, .bool false, .agg #[.int .i64 k, .int .i64 n, .int .i64 ck, .int .i64 cn, .slice A cf.len C, .slice B ks.len D], .func (.func 113) #[] #[.pointer (some ⟨w1.heap.size + 1, 0, none⟩)], .agg #[.slice x.PA x.d x.PC, .int .i64 x.k, .int .i64 x.n, .int .i64 x.ck, .int .i64 x.cn, .slice x.A x.cf.len x.C, .slice x.B x.ks.len x.D], undef, undef, undef, undef, undef, undef, undef, undef, undef, undef, undef, undef, undef, undef, undef, undef, undef], defers := [] })
      (fun x a' s X Y row hs hg hr => by
        obtain ⟨Bx, h0, h1, h2⟩ := hs
        exact ⟨Bx, h0, (hg.block Bx (Array.getElem?_eq_some_iff.1 h1).1 (fun e => by obtain ⟨_, o, ho, hc⟩ := hr Bx e.symm; rw [h1] at ho; cases ho; cases hc)).trans h1, h2⟩) ?assign ?body ?done ?stop
    case assign =>
      rintro l' pre x X K ⟨ho, hc, hr, hg, hB'⟩ hK
      simp only [PV.enc1]
      gi_wp2
      have hb' : Below X.heap.size X (X.alloc (.cells #[.slice x.PA x.d x.PC, .int .i64 x.k, .int .i64 x.n, .int .i64 x.ck, .int .i64 x.cn, .slice x.A x.cf.len x.C, .slice x.B x.ks.len x.D] 154)) := (Below.refl _ _).alloc (Nat.le_refl _) _
      have lt : ∀ {b : Nat} {o : Obj}, X.heap[b]? = some o → b < X.heap.size := fun h => (Array.getElem?_eq_some_iff.1 h).1
      exact hK _ _ (kf_below hb') (KC.of_below hb') ⟨ho, (hb'.block _ (lt hc)).trans hc, (hb'.block _ (lt hr)).trans hr, (hb'.block _ (lt hg)).trans hg, hB'.trans (hb'.mono hB'.size)⟩ ⟨X.heap.size, ⟨by have := lt hc; omega, by have := lt hr; omega⟩, heap_new _ _ _ rfl, rfl⟩
    case body =>
      rintro l' pre x a' X ⟨ho, hc, hr, hg, hB'⟩ ⟨Bx, ⟨nb1, nb2⟩, hx, rfl⟩ hlt
      have hkc := ks.cnt_le
      obtain ⟨c, hcn⟩ : ∃ c : Nat, c = pre.length := ⟨_, rfl⟩
      rw [← hcn] at hc hlt
      have hc9 : c ≤ 1048576 := by omega
      have hd9 : x.d ≤ 1048576 := x.hd
      obtain ⟨X1, hX1⟩ : ∃ X1, X1 = X.setCell ⟨w1.heap.size, 0, none⟩ (.int .i64 ((c : Int) + 1)) := ⟨_, rfl⟩
      have k1 : ∀ b, b ≠ w1.heap.size → X1.heap[b]? = X.heap[b]? := fun b hb => by rw [hX1]; exact Below.heap_setCell _ _ _ _ hb
      have hc1 : Hid (X1.heap[w1.heap.size]? = some (.cells #[.int .i64 ((c : Int) + 1)] 3 (0, 0))) := by show _ = _; rw [hX1, Fo.block_setCell hc _]; rfl
      have hr1 := Lib.hid ((k1 _ (by omega)).trans hr); have hg1 := Lib.hid ((k1 _ (by omega)).trans hg); have hx1 := Lib.hid ((k1 _ nb1).trans hx)
      have HB1' : Hid (Below w.heap.size w X1) := by show Below _ _ _; rw [hX1]; exact Below.setCell hB' (show w.heap.size ≤ w1.heap.size by omega) _
      have KF1 : Hid (KeepsFrom w3.heap.size X X1) := by show KeepsFrom _ _ _; rw [hX1]; exact (KeepsOthers.setCell _ _ _).from _
      have KC1 : Hid (KC (fun x => x = w.heap.size + 1 + 1 ∨ x = w1.heap.size) X X1) := by show KC _ _ _; rw [hX1]; exact KC.grown (grownBy_setCell' X _ _) (fun r e => by cases e; exact .inl (.inr rfl))
      have lx1 : Bx < X1.heap.size := (Array.getElem?_eq_some_iff.1 hx1.out).1
      have lg1 : w.heap.size < X1.heap.size := (Array.getElem?_eq_some_iff.1 hg1.out).1
      have lr1 : w.heap.size + 1 + 1 < X1.heap.size := (Array.getElem?_eq_some_iff.1 hr1.out).1
      have lc1 : w1.heap.size < X1.heap.size := (Array.getElem?_eq_some_iff.1 hc1.out).1
      obtain ⟨ok, hok⟩ : ∃ q : Bool, q = x.row.okAt t a c := ⟨_, rfl⟩
      have RET : Hid (ok = false → ∀ (Y : World) (ac : Act), Below X1.heap.size X1 Y → postM w3.heap.size (fun x => x = w.heap.size + 1 + 1 ∨ x = w1.heap.size) (fun pre X => okPre t a (pre.map PV.row) ∧ X.heap[w1.heap.size]? = some (.cells #[.int .i64 (pre.length : Int)] 3 (0, 0)) ∧ X.heap[w.heap.size + 1 + 1]? = some (.cells #[.bool false] 4 (0, 0)) ∧ X.heap[w.heap.size]? = some (.cells #[.int .i64 t, .int .i64 a] 34 (0, 0)) ∧ Below w.heap.size w X) (fun pre X => (∃ (xs : List (PV w)) (x : PV w), pre = xs ++ [x] ∧ x.row.okAt t a xs.length = false) ∧ X.heap[w.heap.size + 1 + 1]? = some (.cells #[.bool false] 4 (0, 0)) ∧ Below w.heap.size w X) (pre ++ [x]) X .ret ac (Y.setCell ⟨w.heap.size + 1 + 1, 0, none⟩ (.bool false))) := fun hf Y ac hY => by
        have hrY := (hY.block _ lr1).trans hr1.out
        refine ⟨(KF1.out.trans (kf_below hY)).trans ((KeepsOthers.setCell _ _ _).from _), (KC1.out.trans (KC.of_below hY)).trans (KC.grown (grownBy_setCell' Y _ _) (fun r e => by cases e; exact .inl (.inl rfl))), ⟨pre, x, rfl, by rw [← hcn, ← hok]; exact hf⟩, by rw [Fo.block_setCell hrY _]; rfl, Below.setCell (HB1'.out.trans (hY.mono HB1'.out.size)) (show w.heap.size ≤ w.heap.size + 1 + 1 by omega) _⟩
      have CON : Hid (ok = true → ∀ (Y : World) (ac : Act), Below X1.heap.size X1 Y → postM w3.heap.size (fun x => x = w.heap.size + 1 + 1 ∨ x = w1.heap.size) (fun pre X => okPre t a (pre.map PV.row) ∧ X.heap[w1.heap.size]? = some (.cells #[.int .i64 (pre.length : Int)] 3 (0, 0)) ∧ X.heap[w.heap.size + 1 + 1]? = some (.cells #[.bool false] 4 (0, 0)) ∧ X.heap[w.heap.size]? = some (.cells #[.int .i64 t, .int .i64 a] 34 (0, 0)) ∧ Below w.heap.size w X) (fun pre X => (∃ (xs : List (PV w)) (x : PV w), pre = xs ++ [x] ∧ x.row.okAt t a xs.length = false) ∧ X.heap[w.heap.size + 1 + 1]? = some (.cells #[.bool false] 4 (0, 0)) ∧ Below w.heap.size w X) (pre ++ [x]) X .normal ac Y) := fun hf Y ac hY => by
        refine ⟨KF1.out.trans (kf_below hY), KC1.out.trans (KC.of_below hY), ?_, ?_, (hY.block _ lr1).trans hr1.out, (hY.block _ lg1).trans hg1.out, HB1'.out.trans (hY.mono HB1'.out.size)⟩
        · rw [List.map_append]
          exact okPre_snoc ho (by rw [List.length_map, ← hcn, ← hok]; exact hf)
        · rw [(hY.block _ lc1).trans hc1.out, List.length_append, ← hcn]; simp
      obtain ⟨qf, hqf⟩ : ∃ q : Bool, q = pform t a x.k x.n x.ck x.cn x.cf x.ks.len := ⟨_, rfl⟩
      have KH : Hid (∀ W : World, Below w.heap.size w W → Calls Tryz.prog 80 #[.agg #[.int .i64 x.k, .int .i64 x.n, .int .i64 x.ck, .int .i64 x.cn, .slice x.A x.cf.len x.C, .slice x.B x.ks.len x.D], .agg #[.int .i64 t, .int .i64 a]] W fun e w' => e = .returned (.bool qf) ∧ Below W.heap.size W w') := fun W h => by
        rw [hqf]; exact phasForm_any t a x.k x.n x.ck x.cn x.cf x.ks x.hm x.hf (by have := x.ks.len_le_nodes; have := x.hks.1; omega) x.A x.B x.C x.D W (x.hA.sees h) (hF.sees h)
      have hok2 : ok = (decide (c + 1 ≤ 60) && (decide (x.d + 1 ≤ 20) && qf)) := by rw [hok, hqf]; rfl
      have HOK := Lib.hid hok2
      have cc := Fo.cell_of_block hc 0; have cf0 := Fo.unfrozen_of_block hc 0
      obtain ⟨y0, y1, y2, y3, y4, y5, y6⟩ := seven_cells hx1.out
      have s0 := Fo.cell_of_block hg1.out 0; have s1 := Fo.cell_of_block hg1.out 1; have c1 := Fo.cell_of_block hc1.out 0
      have r0 := Fo.cell_of_block hr1.out 0; have f0 := Fo.unfrozen_of_block hr1.out 0
      rw [hX1] at y0 y1 y2 y3 y4 y5 y6 s0 s1 c1 r0 f0
      have HX1 := Lib.hid hX1
      clear hX1 k1 ho hc hr hg hB' hx hok hqf hok2 hcn nb1 nb2
      by_cases h60 : c + 1 ≤ 60
      case neg =>
        have t60 : decide ((60 : Int) < (c : Int) + 1) = true := decide_eq_true (by omega)
        have HF : Hid (ok = false) := by show _ = _; rw [HOK.out, decide_eq_false h60]; rfl
        clear h60
        gi_wp2
        refine ⟨trivial, ?_⟩
        gi_wp2
        refine ⟨trivial, ?_⟩
        gi_wp2
        rw [← HX1.out]
        exact RET.out HF.out X1 _ (Below.refl _ _)
      have t60 : decide ((60 : Int) < (c : Int) + 1) = false := decide_eq_false (by omega)
      by_cases h20 : x.d + 1 ≤ 20
      case neg =>
        have t20 : decide ((20 : Int) < (x.d : Int) + 1) = true := decide_eq_true (by omega)
        have HF : Hid (ok = false) := by show _ = _; rw [HOK.out, decide_eq_false h20]; simp
        clear h60 h20
        gi_wp2_with ((first | refine ⟨trivial, hdd _, ?_⟩ | refine ⟨trivial, ?_⟩); rw [← HX1.out]; gi_at_call 79; refine (CallsIn.inRound l' (callsIn_wide.2 (depth_any x.PA x.d x.PC (by omega) X1))).mono ?_; rintro e X2 ⟨rfl, hb2⟩; have HB2 := Lib.hid hb2; clear hb2 y0 y1 y2 y3 y4 y5 y6 s0 s1; obtain ⟨z0, z1, z2, z3, z4, z5, z6⟩ := seven_cells ((HB2.out.block Bx lx1).trans hx1.out); have s0 := Fo.cell_of_block ((HB2.out.block _ lg1).trans hg1.out) 0; have s1 := Fo.cell_of_block ((HB2.out.block _ lg1).trans hg1.out) 1; have r0 := Fo.cell_of_block ((HB2.out.block _ lr1).trans hr1.out) 0; have f0 := Fo.unfrozen_of_block ((HB2.out.block _ lr1).trans hr1.out) 0)
        refine ⟨trivial, ?_⟩
        gi_wp2
        exact RET.out HF.out X2 _ HB2.out
      have t20 : decide ((20 : Int) < (x.d : Int) + 1) = false := decide_eq_false (by omega)
      cases qf
      · have HF : Hid (ok = false) := by show _ = _; rw [HOK.out]; simp
        clear h60 h20
        gi_wp2_with (first
          | ((first | refine ⟨trivial, hdd _, ?_⟩ | refine ⟨trivial, ?_⟩); rw [← HX1.out]; gi_at_call 79; refine (CallsIn.inRound l' (callsIn_wide.2 (depth_any x.PA x.d x.PC (by omega) X1))).mono ?_; rintro e X2 ⟨rfl, hb2⟩; have HB2 := Lib.hid hb2; clear hb2 y0 y1 y2 y3 y4 y5 y6 s0 s1; obtain ⟨z0, z1, z2, z3, z4, z5, z6⟩ := seven_cells ((HB2.out.block Bx lx1).trans hx1.out); have s0 := Fo.cell_of_block ((HB2.out.block _ lg1).trans hg1.out) 0; have s1 := Fo.cell_of_block ((HB2.out.block _ lg1).trans hg1.out) 1; have r0 := Fo.cell_of_block ((HB2.out.block _ lr1).trans hr1.out) 0; have f0 := Fo.unfrozen_of_block ((HB2.out.block _ lr1).trans hr1.out) 0)
          | ((first | refine ⟨trivial, hdd _, ?_⟩ | refine ⟨trivial, ?_⟩); gi_at_call 80; refine (CallsIn.inRound l' (callsIn_wide.2 (KH.out X2 (HB1'.out.trans (HB2.out.mono HB1'.out.size))))).mono ?_; rintro e X3 ⟨rfl, hb3⟩; have HB3 := Lib.hid (HB2.out.trans (hb3.mono HB2.out.size)); clear hb3 z0 z1 z2 z3 z4 z5 z6 s0 s1 r0 f0; have r0 := Fo.cell_of_block ((HB3.out.block _ lr1).trans hr1.out) 0; have f0 := Fo.unfrozen_of_block ((HB3.out.block _ lr1).trans hr1.out) 0))
        exact RET.out HF.out X3 _ HB3.out
      · have HF : Hid (ok = true) := by show _ = _; rw [HOK.out, decide_eq_true h60, decide_eq_true h20]; rfl
        clear h60 h20
        gi_wp2_with (first
          | ((first | refine ⟨trivial, hdd _, ?_⟩ | refine ⟨trivial, ?_⟩); rw [← HX1.out]; gi_at_call 79; refine (CallsIn.inRound l' (callsIn_wide.2 (depth_any x.PA x.d x.PC (by omega) X1))).mono ?_; rintro e X2 ⟨rfl, hb2⟩; have HB2 := Lib.hid hb2; clear hb2 y0 y1 y2 y3 y4 y5 y6 s0 s1; obtain ⟨z0, z1, z2, z3, z4, z5, z6⟩ := seven_cells ((HB2.out.block Bx lx1).trans hx1.out); have s0 := Fo.cell_of_block ((HB2.out.block _ lg1).trans hg1.out) 0; have s1 := Fo.cell_of_block ((HB2.out.block _ lg1).trans hg1.out) 1; have r0 := Fo.cell_of_block ((HB2.out.block _ lr1).trans hr1.out) 0; have f0 := Fo.unfrozen_of_block ((HB2.out.block _ lr1).trans hr1.out) 0)
          | ((first | refine ⟨trivial, hdd _, ?_⟩ | refine ⟨trivial, ?_⟩); gi_at_call 80; refine (CallsIn.inRound l' (callsIn_wide.2 (KH.out X2 (HB1'.out.trans (HB2.out.mono HB1'.out.size))))).mono ?_; rintro e X3 ⟨rfl, hb3⟩; have HB3 := Lib.hid (HB2.out.trans (hb3.mono HB2.out.size)); clear hb3 z0 z1 z2 z3 z4 z5 z6 s0 s1 r0 f0; have r0 := Fo.cell_of_block ((HB3.out.block _ lr1).trans hr1.out) 0; have f0 := Fo.unfrozen_of_block ((HB3.out.block _ lr1).trans hr1.out) 0))
        exact CON.out HF.out X3 _ HB3.out
    case done =>
      rintro D' ys X hD hS ⟨ho, hc, hr, hg, hB'⟩ hK
      have HT : Hid (qv = true) := by
        show _ = _
        rw [HQV.out]
        refine (validP_pre HS.out).2 ?_
        rw [← hS]
        exact ho
      have r1 := Fo.cell_of_block hr 0; have f1 := Fo.unfrozen_of_block hr 0
      obtain ⟨Y, hY⟩ : ∃ Y, Y = X.setCell ⟨w.heap.size + 1 + 1, 0, none⟩ (.bool true) := ⟨_, rfl⟩
      have hrY : Y.heap[w.heap.size + 1 + 1]? = some (.cells #[.bool true] 4 (0, 0)) := by rw [hY, Fo.block_setCell hr _]; rfl
      have hKY : Y.heap[D']? = some (.deferred (some [])) := by rw [hY]; exact (Below.heap_setCell _ _ _ _ (show D' ≠ w.heap.size + 1 + 1 by omega)).trans hK
      have hBY : Below w.heap.size w Y := by rw [hY]; exact Below.setCell hB' (show w.heap.size ≤ w.heap.size + 1 + 1 by omega) _
      gi_wp2
      rw [← hY]
      refine ⟨by simp, .inl ⟨_, _, rfl, run_takeDeferred hKY, ?_⟩⟩
      have hcc : (Y.putObj D' (.deferred none)).cell? ⟨w.heap.size + 1 + 1, 0, none⟩ = some (.bool true) := (World.cell?_of_block (a := ⟨w.heap.size + 1 + 1, 0, none⟩) (World.putObj_heap_other (show w.heap.size + 1 + 1 ≠ D' by omega))).trans (Fo.cell_of_block hrY 0)
      refine ⟨.bool true, by simp [results, Tryz.results50, go_sem, hcc], by rw [HT.out], hBY.trans (belowK_b (w := w) (Nat.le_refl _) Y D' _ _ (by omega) hKY rfl rfl)⟩
    case stop =>
      rintro D' pre X hD hS ⟨⟨xs, x, rfl, hx⟩, hr, hB'⟩ hK
      have HT : Hid (qv = false) := by
        show _ = _
        rw [HQV.out]
        rw [List.map_append, List.map_cons, List.map_nil] at hS
        exact validP_stop HS.out hS (by rw [List.length_map]; exact hx)
      gi_wp2
      refine ⟨by simp, .inl ⟨_, _, rfl, run_takeDeferred hK, ?_⟩⟩
      have hcc : (X.putObj D' (.deferred none)).cell? ⟨w.heap.size + 1 + 1, 0, none⟩ = some (.bool false) := (World.cell?_of_block (a := ⟨w.heap.size + 1 + 1, 0, none⟩) (World.putObj_heap_other (show w.heap.size + 1 + 1 ≠ D' by omega))).trans (Fo.cell_of_block hr 0)
      refine ⟨.bool false, by simp [results, Tryz.results50, go_sem, hcc], by rw [HT.out], hB'.trans (belowK_b (w := w) (Nat.le_refl _) X D' _ _ (by omega) hK rfl rfl)⟩
end Go.Proofs.YtcgbepmhfimbjaaGreatDoor

namespace Go.Proofs.YtcgbepmhfimbjaaGreatDoor
open Go.RowKit
set_option linter.unusedVariables false

set_option maxHeartbeats 2000000 in
set_option maxRecDepth 100000 in
theorem implValidTriple_any (t a pk pn : Int) (pf : Fo) (gk gn gck gcn : Int) (gcf : Fo) (gks : Pg) (qk qn : Int) (qf : Fo) (hsz : pf.nodes + gcf.nodes + gks.nodes + qf.nodes ≤ 1048576) (hpf : pf.Fits) (hgcf : gcf.Fits) (hgks : gks.Fits) (hqf : qf.Fits) (Ap Ac Ag Aq : Option Addr) (Cp Cc Cg Cq : Nat) (w : World) (hA : pf.Lies w Ap) (hB : gcf.Lies w Ac) (hC : gks.Lies w Ag) (hD : qf.Lies w Aq) (hF : Forms w) :
    Calls Tryz.prog 23 #[.agg #[.int .i64 t, .int .i64 a], .agg #[.int .i64 pk, .int .i64 pn, .slice Ap pf.len Cp, .int .i64 gk, .int .i64 gn, .int .i64 gck, .int .i64 gcn, .slice Ac gcf.len Cc, .slice Ag gks.len Cg, .int .i64 qk, .int .i64 qn, .slice Aq qf.len Cq]] w fun e w' => e = .returned (.bool (tripV t a pk pn pf gk gn gck gcn gcf gks qk qn qf)) ∧ Below w.heap.size w w' := by
  obtain ⟨q1, hq1⟩ : ∃ q : Bool, q = condV t a pk pn pf := ⟨_, rfl⟩
  obtain ⟨q2, hq2⟩ : ∃ q : Bool, q = condV t a qk qn qf := ⟨_, rfl⟩
  obtain ⟨q3, hq3⟩ : ∃ q : Bool, q = validP t a gk gn gck gcn gcf gks := ⟨_, rfl⟩
  have K1 : Hid (∀ W : World, Sees w W → Calls Tryz.prog 49 #[.agg #[.int .i64 t, .int .i64 a], .agg #[.int .i64 pk, .int .i64 pn, .slice Ap pf.len Cp]] W fun e w' => e = .returned (.bool q1) ∧ Below W.heap.size W w') := fun W h => by
    rw [hq1]; exact validCondition_any t a pk pn pf (by omega) hpf Ap Cp W (hA.sees h)
  have K2 : Hid (∀ W : World, Sees w W → Calls Tryz.prog 49 #[.agg #[.int .i64 t, .int .i64 a], .agg #[.int .i64 qk, .int .i64 qn, .slice Aq qf.len Cq]] W fun e w' => e = .returned (.bool q2) ∧ Below W.heap.size W w') := fun W h => by
    rw [hq2]; exact validCondition_any t a qk qn qf (by omega) hqf Aq Cq W (hD.sees h)
  have K3 : Hid (∀ W : World, Sees w W → Calls Tryz.prog 50 #[.agg #[.int .i64 t, .int .i64 a], .agg #[.int .i64 gk, .int .i64 gn, .int .i64 gck, .int .i64 gcn, .slice Ac gcf.len Cc, .slice Ag gks.len Cg]] W fun e w' => e = .returned (.bool q3) ∧ Below W.heap.size W w') := fun W h => by
    rw [hq3]; exact implValidProg_any t a gk gn gck gcn gcf gks (by omega) hgcf hgks Ac Ag Cc Cg W (hB.sees h) (hC.sees h) (hF.sees h)
  have HD : Hid (tripV t a pk pn pf gk gn gck gcn gcf gks qk qn qf = (q1 && (q2 && q3))) := by show _ = _; unfold tripV; rw [hq1, hq2, hq3]
  clear hq1 hq2 hq3 hA hB hC hD hpf hgcf hgks hqf hsz hF
  cases q1
  · clear K2 K3
    go_enter Tryz.func23, Tryz.ntmps23
    go_wp2_with fail
    refine (K1.out _ (by unfold Sees; go_grown)).mono ?_
    rintro e w1 ⟨rfl, hb⟩
    have S1 : Hid (St w [(w.heap.size, 0, .int .i64 t), (w.heap.size, 1, .int .i64 a), (w.heap.size + 1, 0, .int .i64 pk), (w.heap.size + 1, 1, .int .i64 pn), (w.heap.size + 1, 2, .slice Ap pf.len Cp), (w.heap.size + 1, 3, .int .i64 gk), (w.heap.size + 1, 4, .int .i64 gn), (w.heap.size + 1, 5, .int .i64 gck), (w.heap.size + 1, 6, .int .i64 gcn), (w.heap.size + 1, 7, .slice Ac gcf.len Cc), (w.heap.size + 1, 8, .slice Ag gks.len Cg), (w.heap.size + 1, 9, .int .i64 qk), (w.heap.size + 1, 10, .int .i64 qn), (w.heap.size + 1, 11, .slice Aq qf.len Cq)] w1) := St.below (l := [(w.heap.size, 0, .int .i64 t), (w.heap.size, 1, .int .i64 a), (w.heap.size + 1, 0, .int .i64 pk), (w.heap.size + 1, 1, .int .i64 pn), (w.heap.size + 1, 2, .slice Ap pf.len Cp), (w.heap.size + 1, 3, .int .i64 gk), (w.heap.size + 1, 4, .int .i64 gn), (w.heap.size + 1, 5, .int .i64 gck), (w.heap.size + 1, 6, .int .i64 gcn), (w.heap.size + 1, 7, .slice Ac gcf.len Cc), (w.heap.size + 1, 8, .slice Ag gks.len Cg), (w.heap.size + 1, 9, .int .i64 qk), (w.heap.size + 1, 10, .int .i64 qn), (w.heap.size + 1, 11, .slice Aq qf.len Cq)]) ⟨(by unfold Sees; go_grown), (by simp [go_sem]), (by simp [go_sem]), (by simp [go_sem]), (by simp [go_sem]), (by simp [go_sem]), (by simp [go_sem]), (by simp [go_sem]), (by simp [go_sem]), (by simp [go_sem]), (by simp [go_sem]), (by simp [go_sem]), (by simp [go_sem]), (by simp [go_sem]), (by simp [go_sem]), trivial⟩ hb
    clear hb
    obtain ⟨B1, y0, y1, x0, x1, x2, x3, x4, x5, x6, x7, x8, x9, x10, x11, _⟩ := S1.out
    go_wp2_with fail
    go_ret
    exact ⟨ret_bool HD.out.symm, B1⟩
  cases q2
  · clear K3
    go_enter Tryz.func23, Tryz.ntmps23
    go_wp2_with fail
    refine (K1.out _ (by unfold Sees; go_grown)).mono ?_
    rintro e w1 ⟨rfl, hb⟩
    have S1 : Hid (St w [(w.heap.size, 0, .int .i64 t), (w.heap.size, 1, .int .i64 a), (w.heap.size + 1, 0, .int .i64 pk), (w.heap.size + 1, 1, .int .i64 pn), (w.heap.size + 1, 2, .slice Ap pf.len Cp), (w.heap.size + 1, 3, .int .i64 gk), (w.heap.size + 1, 4, .int .i64 gn), (w.heap.size + 1, 5, .int .i64 gck), (w.heap.size + 1, 6, .int .i64 gcn), (w.heap.size + 1, 7, .slice Ac gcf.len Cc), (w.heap.size + 1, 8, .slice Ag gks.len Cg), (w.heap.size + 1, 9, .int .i64 qk), (w.heap.size + 1, 10, .int .i64 qn), (w.heap.size + 1, 11, .slice Aq qf.len Cq)] w1) := St.below (l := [(w.heap.size, 0, .int .i64 t), (w.heap.size, 1, .int .i64 a), (w.heap.size + 1, 0, .int .i64 pk), (w.heap.size + 1, 1, .int .i64 pn), (w.heap.size + 1, 2, .slice Ap pf.len Cp), (w.heap.size + 1, 3, .int .i64 gk), (w.heap.size + 1, 4, .int .i64 gn), (w.heap.size + 1, 5, .int .i64 gck), (w.heap.size + 1, 6, .int .i64 gcn), (w.heap.size + 1, 7, .slice Ac gcf.len Cc), (w.heap.size + 1, 8, .slice Ag gks.len Cg), (w.heap.size + 1, 9, .int .i64 qk), (w.heap.size + 1, 10, .int .i64 qn), (w.heap.size + 1, 11, .slice Aq qf.len Cq)]) ⟨(by unfold Sees; go_grown), (by simp [go_sem]), (by simp [go_sem]), (by simp [go_sem]), (by simp [go_sem]), (by simp [go_sem]), (by simp [go_sem]), (by simp [go_sem]), (by simp [go_sem]), (by simp [go_sem]), (by simp [go_sem]), (by simp [go_sem]), (by simp [go_sem]), (by simp [go_sem]), (by simp [go_sem]), trivial⟩ hb
    clear hb
    obtain ⟨B1, y0, y1, x0, x1, x2, x3, x4, x5, x6, x7, x8, x9, x10, x11, _⟩ := S1.out
    go_wp2_with fail
    refine (K2.out _ B1).mono ?_
    rintro e w2 ⟨rfl, hb⟩
    have S2 := Lib.hid (St.below S1.out hb)
    clear hb y0 y1 x0 x1 x2 x3 x4 x5 x6 x7 x8 x9 x10 x11 S1 B1
    obtain ⟨B2, y0, y1, x0, x1, x2, x3, x4, x5, x6, x7, x8, x9, x10, x11, _⟩ := S2.out
    go_wp2_with fail
    go_ret
    exact ⟨ret_bool HD.out.symm, B2⟩
  · skip
    go_enter Tryz.func23, Tryz.ntmps23
    go_wp2_with fail
    refine (K1.out _ (by unfold Sees; go_grown)).mono ?_
    rintro e w1 ⟨rfl, hb⟩
    have S1 : Hid (St w [(w.heap.size, 0, .int .i64 t), (w.heap.size, 1, .int .i64 a), (w.heap.size + 1, 0, .int .i64 pk), (w.heap.size + 1, 1, .int .i64 pn), (w.heap.size + 1, 2, .slice Ap pf.len Cp), (w.heap.size + 1, 3, .int .i64 gk), (w.heap.size + 1, 4, .int .i64 gn), (w.heap.size + 1, 5, .int .i64 gck), (w.heap.size + 1, 6, .int .i64 gcn), (w.heap.size + 1, 7, .slice Ac gcf.len Cc), (w.heap.size + 1, 8, .slice Ag gks.len Cg), (w.heap.size + 1, 9, .int .i64 qk), (w.heap.size + 1, 10, .int .i64 qn), (w.heap.size + 1, 11, .slice Aq qf.len Cq)] w1) := St.below (l := [(w.heap.size, 0, .int .i64 t), (w.heap.size, 1, .int .i64 a), (w.heap.size + 1, 0, .int .i64 pk), (w.heap.size + 1, 1, .int .i64 pn), (w.heap.size + 1, 2, .slice Ap pf.len Cp), (w.heap.size + 1, 3, .int .i64 gk), (w.heap.size + 1, 4, .int .i64 gn), (w.heap.size + 1, 5, .int .i64 gck), (w.heap.size + 1, 6, .int .i64 gcn), (w.heap.size + 1, 7, .slice Ac gcf.len Cc), (w.heap.size + 1, 8, .slice Ag gks.len Cg), (w.heap.size + 1, 9, .int .i64 qk), (w.heap.size + 1, 10, .int .i64 qn), (w.heap.size + 1, 11, .slice Aq qf.len Cq)]) ⟨(by unfold Sees; go_grown), (by simp [go_sem]), (by simp [go_sem]), (by simp [go_sem]), (by simp [go_sem]), (by simp [go_sem]), (by simp [go_sem]), (by simp [go_sem]), (by simp [go_sem]), (by simp [go_sem]), (by simp [go_sem]), (by simp [go_sem]), (by simp [go_sem]), (by simp [go_sem]), (by simp [go_sem]), trivial⟩ hb
    clear hb
    obtain ⟨B1, y0, y1, x0, x1, x2, x3, x4, x5, x6, x7, x8, x9, x10, x11, _⟩ := S1.out
    go_wp2_with fail
    refine (K2.out _ B1).mono ?_
    rintro e w2 ⟨rfl, hb⟩
    have S2 := Lib.hid (St.below S1.out hb)
    clear hb y0 y1 x0 x1 x2 x3 x4 x5 x6 x7 x8 x9 x10 x11 S1 B1
    obtain ⟨B2, y0, y1, x0, x1, x2, x3, x4, x5, x6, x7, x8, x9, x10, x11, _⟩ := S2.out
    go_wp2_with fail
    refine (K3.out _ B2).mono ?_
    rintro e w3 ⟨rfl, hb⟩
    have S3 := Lib.hid (St.below S2.out hb)
    clear hb y0 y1 x0 x1 x2 x3 x4 x5 x6 x7 x8 x9 x10 x11 S2 B2
    obtain ⟨B3, y0, y1, x0, x1, x2, x3, x4, x5, x6, x7, x8, x9, x10, x11, _⟩ := S3.out
    go_wp2_with fail
    go_ret
    exact ⟨ret_bool HD.out.symm, B3⟩

end Go.Proofs.YtcgbepmhfimbjaaGreatDoor

namespace Go.Proofs.YtcgbepmhfimbjaaGreatDoor
open Go.RowKit

/-- A builder in block B that holds these bytes. -/
def Bld (B : Nat) (l : List UInt8) (W : World) : Prop := Lib.IsBuilderF 82 5 B B (Lib.byteCells l) W
/-- What a call leaves that has written. -/
structure Wrote (B : Nat) (l : List UInt8) (w w' : World) : Prop where
  bld : Bld B l w'
  below : Below B w w'
  kept : Lib.OthersKept 5 (some B) w w'
theorem Bld.lt {B : Nat} {l : List UInt8} {W : World} (h : Bld B l W) : B < W.heap.size := by
  rcases h with h | h <;> exact h.lt
theorem Bld.drew {B : Nat} {l : List UInt8} {W : World} (h : Bld B l W) : Bld B l W.drew := by
  rcases h with h | h
  · exact Or.inl h.drew
  · exact Or.inr h.drew
theorem Bld.alloc {B : Nat} {l : List UInt8} {W : World} (h : Bld B l W) (o : Obj) : Bld B l (W.alloc o) := by
  rcases h with h | h
  · exact Or.inl (h.alloc o)
  · exact Or.inr (h.alloc o)
theorem Bld.fresh (w : World) : Bld w.heap.size [] (w.alloc (.cells #[.pointer none, .slice none 0 0] 82)) := Lib.IsBuilderF.of (Lib.fresh_isBuilder _ _ _)
theorem Wrote.trans {B : Nat} {l l' : List UInt8} {a b c : World} (h : Wrote B l a b) (k : Wrote B l' b c) : Wrote B l' a c := ⟨k.bld, h.below.trans k.below, h.kept.trans k.kept⟩
theorem Wrote.to {B : Nat} {l l' : List UInt8} {a b : World} (h : Wrote B l a b) (e : l = l') : Wrote B l' a b := e ▸ h
/-- .. behind a box that the caller has made. -/
theorem Wrote.behind {B : Nat} {l l0 : List UInt8} {a b : World} (h0 : Bld B l0 a) {o : Obj} (h : Wrote B l (a.alloc o) b) : Wrote B l a b :=
  ⟨h.bld, ((Below.refl B a).alloc (Nat.le_of_lt h0.lt) o).trans h.below, ((Lib.OthersKept.refl _ _ a).alloc o).trans h.kept⟩
theorem Wrote.one {B : Nat} {l : List UInt8} {a b : World} (h : Wrote B l a b) {k : Nat} {cs : Array Value} {T : TypeId} (hc : a.heap[k]? = some (.cells cs T (0, 0))) (hT : T ≠ 5) (hk : k ≠ B) : b.heap[k]? = some (.cells cs T (0, 0)) :=
  h.kept k _ hc (fun he => hk (Option.some.inj he)) (fun c fz he => by cases he; exact hT rfl)

theorem write_any {B : Nat} {l : List UInt8} (s : List UInt8) {w : World} (h : Bld B l w) (hl : l.length + s.length ≤ 140737488355328) :
    Calls Tryz.prog 34 #[.pointer (some ⟨B, 0, none⟩), str s] w fun e w' => (∃ z, e = .returned (.tuple #[.int .i64 z, .nilIface])) ∧ Wrote B (l ++ s) w w' := by
  refine (Tryz.Builder_WriteString_k B B (Lib.byteCells l) ⟨s.toArray⟩ w h (by rw [Lib.byteCells_length]; show l.length + s.toArray.size ≤ _; simpa using hl) (Nat.le_of_lt h.lt)).mono ?_
  rintro e w' ⟨rfl, hb, h1, h2⟩
  refine ⟨⟨_, rfl⟩, Or.inr ?_, h1, h2⟩
  rw [Lib.byteCells_append]
  exact hb
theorem string_any {B : Nat} {l : List UInt8} {w : World} (h : Bld B l w) :
    Calls Tryz.prog 39 #[.pointer (some ⟨B, 0, none⟩)] w fun e w' => e = .returned (str l) ∧ Below B w w' :=
  (Tryz.Builder_String_any_k B B l w h (Nat.le_of_lt h.lt)).mono fun _ _ ⟨h1, _, h2, _⟩ => ⟨h1, h2⟩
theorem formatInt_any (n : Int) (h0 : 0 ≤ n) (h1 : n < 100) (w : World) :
    Calls Tryz.prog 101 #[.int .i64 n, .int .i64 10] w fun e w' => e = .returned (str (Lib.decDigits n.toNat)) ∧ w' = w := by
  obtain ⟨m, rfl⟩ := Int.eq_ofNat_of_zero_le h0
  exact Tryz.strconv_FormatInt_10_small m (by omega) w

set_option maxHeartbeats 1000000 in
theorem writeNumber_any {B : Nat} {l : List UInt8} (s : List UInt8) (n : Int) (h0 : 0 ≤ n) (h1 : n < 100) {w : World} (h : Bld B l w) (hl : l.length + s.length + 2 ≤ 140737488355328) :
    Calls Tryz.prog 67 #[.pointer (some ⟨B, 0, none⟩), str s, .int .i64 n] w fun e w' => e = .returned (.tuple #[]) ∧ Wrote B (l ++ (s ++ Lib.decDigits n.toNat)) w w' := by
  have hd : (Lib.decDigits n.toNat).length ≤ 2 := by
    by_cases h10 : n.toNat < 10
    · rw [Lib.decDigits_one h10]; simp
    · rw [Lib.decDigits_two h10 (by omega)]; simp
  have K1 : Hid (Calls Tryz.prog 34 #[.pointer (some ⟨B, 0, none⟩), str s] w fun e w' => (∃ z, e = .returned (.tuple #[.int .i64 z, .nilIface])) ∧ Wrote B (l ++ s) w w') := write_any s h (by omega)
  have K2 : Hid (∀ W, Bld B (l ++ s) W → Calls Tryz.prog 34 #[.pointer (some ⟨B, 0, none⟩), str (Lib.decDigits n.toNat)] W fun e w' => (∃ z, e = .returned (.tuple #[.int .i64 z, .nilIface])) ∧ Wrote B (l ++ s ++ Lib.decDigits n.toNat) W w') := fun W hW => write_any _ hW (by simp only [List.length_append]; omega)
  have K3 : Hid (∀ W, Calls Tryz.prog 101 #[.int .i64 n, .int .i64 10] W fun e w' => e = .returned (str (Lib.decDigits n.toNat)) ∧ w' = W) := fun W => formatInt_any n h0 h1 W
  clear hl hd h0 h1
  generalize str (Lib.decDigits n.toNat) = v at K2 K3
  generalize str s = u at K1 ⊢
  go_enter Tryz.func67, Tryz.ntmps67
  go_wp2_with fail
  refine K1.out.mono ?_
  rintro e w1 ⟨⟨z, rfl⟩, hw1⟩
  go_wp2_with fail
  refine (K3.out _).mono ?_
  rintro e w2 ⟨rfl, rfl⟩
  go_wp2_with fail
  refine (K2.out _ hw1.bld).mono ?_
  rintro e w3 ⟨⟨z, rfl⟩, hw3⟩
  go_wp2_with fail
  go_end0
  exact ⟨rfl, (hw1.trans hw3).to (List.append_assoc ..)⟩
end Go.Proofs.YtcgbepmhfimbjaaGreatDoor

namespace Go.Proofs.YtcgbepmhfimbjaaGreatDoor
open Go.RowKit
set_option linter.unusedVariables false

theorem Bld.store {B bw i : Nat} {l : List UInt8} {W : World} {cs : Array Value} {T : TypeId} {x : Value} (h : Bld B l W) (hk : W.heap[bw]? = some (.cells cs T (0, 0))) (hT : T ≠ 5) (hB : bw ≠ B) : Bld B l (W.setCell ⟨bw, i, none⟩ x) := by
  have ks : ∀ k, k ≠ bw → (W.setCell ⟨bw, i, none⟩ x).heap[k]? = W.heap[k]? := fun k hk => Below.heap_setCell _ _ _ _ hk
  have one : ∀ p, Lib.BuilderAtF 82 5 B B p (Lib.byteCells l) W → Lib.BuilderAtF 82 5 B B p (Lib.byteCells l) (W.setCell ⟨bw, i, none⟩ x) := fun p h => by
    obtain ⟨hB2, v, hb, hown, hne⟩ := h
    refine ⟨hB2, v, (ks B (Ne.symm hB)).trans hb, ⟨hown.1, ?_⟩, hne⟩
    rcases hown.2 with hn | ⟨g, cap, cur, fz, hv, hbg, hg, rest⟩
    · exact .inl hn
    · have hkg : g ≠ bw := by
        intro e1
        rw [e1, hk] at hg
        cases hg
        exact hT rfl
      exact .inr ⟨g, cap, cur, fz, hv, hbg, (ks g hkg).trans hg, rest⟩
  exact h.elim (fun x => .inl (one _ x)) (fun x => .inr (one _ x))
/-- What a call leaves that has written, and stored into the box bw. -/
structure WroteW (B bw : Nat) (l : List UInt8) (v : Value) (T : TypeId) (w w' : World) : Prop where
  bld : Bld B l w'
  below : Below B w w'
  kept : ∀ k o, w.heap[k]? = some o → k ≠ B → k ≠ bw → (∀ c fz, o ≠ .cells c 5 fz) → w'.heap[k]? = some o
  box : w'.heap[bw]? = some (.cells #[v] T (0, 0))
theorem WroteW.of {B bw : Nat} {l : List UInt8} {u v : Value} {T : TypeId} {w w1 : World} (h : Wrote B l w w1) (hk : w.heap[bw]? = some (.cells #[u] T (0, 0))) (hT : T ≠ 5) (hB : B < bw) : WroteW B bw l v T w (w1.setCell ⟨bw, 0, none⟩ v) := by
  have hk1 := h.one hk hT (by omega)
  have ks : ∀ k, k ≠ bw → (w1.setCell ⟨bw, 0, none⟩ v).heap[k]? = w1.heap[k]? := fun k hk => Below.heap_setCell _ _ _ _ hk
  exact ⟨h.bld.store hk1 hT (by omega), h.below.setCell (show B ≤ bw by omega) v, fun k o h1 h2 h3 h4 => (ks k h3).trans (h.kept k o h1 (fun he => h2 (Option.some.inj he)) h4), by rw [Fo.block_setCell hk1 _]; rfl⟩
theorem WroteW.one {B bw : Nat} {l : List UInt8} {v : Value} {T T2 : TypeId} {a b : World} (h : WroteW B bw l v T a b) {k : Nat} {cs : Array Value} (hc : a.heap[k]? = some (.cells cs T2 (0, 0))) (hT : T2 ≠ 5) (hk : k ≠ B) (hk2 : k ≠ bw) : b.heap[k]? = some (.cells cs T2 (0, 0)) :=
  h.kept k _ hc hk hk2 (fun c fz he => by cases he; exact hT rfl)
/-- .. seen from a world in which the box was not yet there. -/
theorem WroteW.after {B bw : Nat} {l0 l : List UInt8} {v : Value} {T : TypeId} {w a b : World} (h0 : Wrote B l0 w a) (h : WroteW B bw l v T a b) (hbw : w.heap.size ≤ bw) : Wrote B l w b :=
  ⟨h.bld, h0.below.trans h.below, fun k o h1 h2 h3 => h.kept k o (h0.kept k o h1 h2 h3) (fun he => h2 (congrArg some he)) (fun he => by have := (Array.getElem?_eq_some_iff.1 h1).1; omega) h3⟩
theorem Wrote.alloc {B : Nat} {l : List UInt8} {a b : World} (h : Wrote B l a b) (o : Obj) : Wrote B l a (b.alloc o) :=
  ⟨h.bld.alloc o, h.below.alloc (Nat.le_of_lt h.bld.lt) o, h.kept.alloc o⟩
theorem Wrote.start {B : Nat} {l : List UInt8} {w : World} (h : Bld B l w) : Wrote B l w w := ⟨h, Below.refl _ _, Lib.OthersKept.refl _ _ _⟩
end Go.Proofs.YtcgbepmhfimbjaaGreatDoor

namespace Go.Proofs.YtcgbepmhfimbjaaGreatDoor
open Go.RowKit
set_option linter.unusedVariables false

theorem Wrote.undrew {B : Nat} {l : List UInt8} {a b : World} (h : Wrote B l a.drew b) : Wrote B l a b := ⟨h.bld, ⟨h.below.os, h.below.tape, h.below.output, h.below.size, h.below.block⟩, h.kept⟩
set_option maxHeartbeats 1000000 in
set_option maxRecDepth 100000 in
theorem word_1 {B bo bw b o : Nat} {l s : List UInt8} {w : World} (h : Bld B l w) (hbo : w.heap[bo]? = some (.cells #[.pointer (some ⟨B, 0, none⟩)] 79 (0, 0))) (hbw : w.heap[bw]? = some (.cells #[.slice (some ⟨b, o, none⟩) 1 1] 170 (0, 0))) (hc : w.cell? ⟨b, o, none⟩ = some (str s)) (hB : B < bw) (hl : l.length + s.length ≤ 140737488355328) :
    Calls Tryz.prog 88 #[.pointer (some ⟨bo, 0, none⟩), .pointer (some ⟨bw, 0, none⟩)] w fun e w' => e = .returned (.tuple #[]) ∧ WroteW B bw (l ++ s) (.slice (some ⟨b, o, none⟩) 0 0) 170 w w' := by
  have K1 : Hid (∀ W : World, W.heap = w.heap → Bld B l W → Calls Tryz.prog 34 #[.pointer (some ⟨B, 0, none⟩), str s] W fun e w' => (∃ z, e = .returned (.tuple #[.int .i64 z, .nilIface])) ∧ Wrote B (l ++ s) W w') := fun W _ hW => write_any s hW hl
  have HBW := Lib.hid hbw; have HD := Lib.hid h.drew; have HB := Lib.hid hB
  have g0 := Fo.cell_of_block hbo 0; have g1 := Fo.cell_of_block hbw 0
  generalize str s = v at K1 hc
  clear hbo hbw h hl hB
  go_enter Tryz.func88, Tryz.ntmps88
  go_wp2_with fail
  go_still_tail 4, (by kernel_rfl)
  change wpList _ _ _ _ _ w.drew
  clear g0 g1 hc
  go_wp2_with fail
  refine (K1.out w.drew rfl HD.out).mono ?_
  rintro e w1 ⟨⟨z, rfl⟩, hw1⟩
  have hb1 := hw1.one (a := w.drew) HBW.out (by decide) (Nat.ne_of_gt HB.out)
  have g1 := Fo.cell_of_block hb1 0; have f1 := Fo.unfrozen_of_block hb1 0
  have HW1 := Lib.hid hw1.undrew
  clear hw1 hb1 K1
  go_wp2_with fail
  go_end0
  exact ⟨rfl, WroteW.of HW1.out HBW.out (by decide) HB.out⟩
set_option maxHeartbeats 1000000 in
set_option maxRecDepth 100000 in
theorem word_2 {B bo bw b o : Nat} {l s : List UInt8} {w : World} (h : Bld B l w) (hbo : w.heap[bo]? = some (.cells #[.pointer (some ⟨B, 0, none⟩)] 79 (0, 0))) (hbw : w.heap[bw]? = some (.cells #[.slice (some ⟨b, o, none⟩) 2 2] 170 (0, 0))) (hc : w.cell? ⟨b, o, none⟩ = some (str s)) (hB : B < bw) (hl : l.length + s.length ≤ 140737488355328) :
    Calls Tryz.prog 88 #[.pointer (some ⟨bo, 0, none⟩), .pointer (some ⟨bw, 0, none⟩)] w fun e w' => e = .returned (.tuple #[]) ∧ WroteW B bw (l ++ s) (.slice (some ⟨b, o + 1, none⟩) 1 1) 170 w w' := by
  have K1 : Hid (∀ W : World, W.heap = w.heap → Bld B l W → Calls Tryz.prog 34 #[.pointer (some ⟨B, 0, none⟩), str s] W fun e w' => (∃ z, e = .returned (.tuple #[.int .i64 z, .nilIface])) ∧ Wrote B (l ++ s) W w') := fun W _ hW => write_any s hW hl
  have HBW := Lib.hid hbw; have HD := Lib.hid h.drew; have HB := Lib.hid hB
  have g0 := Fo.cell_of_block hbo 0; have g1 := Fo.cell_of_block hbw 0
  generalize str s = v at K1 hc
  clear hbo hbw h hl hB
  go_enter Tryz.func88, Tryz.ntmps88
  go_wp2_with fail
  go_still_tail 4, (by kernel_rfl)
  change wpList _ _ _ _ _ w.drew
  clear g0 g1 hc
  go_wp2_with fail
  refine (K1.out w.drew rfl HD.out).mono ?_
  rintro e w1 ⟨⟨z, rfl⟩, hw1⟩
  have hb1 := hw1.one (a := w.drew) HBW.out (by decide) (Nat.ne_of_gt HB.out)
  have g1 := Fo.cell_of_block hb1 0; have f1 := Fo.unfrozen_of_block hb1 0
  have HW1 := Lib.hid hw1.undrew
  clear hw1 hb1 K1
  go_wp2_with fail
  go_end0
  exact ⟨rfl, WroteW.of HW1.out HBW.out (by decide) HB.out⟩
set_option maxHeartbeats 1000000 in
set_option maxRecDepth 100000 in
theorem word_3 {B bo bw b o : Nat} {l s : List UInt8} {w : World} (h : Bld B l w) (hbo : w.heap[bo]? = some (.cells #[.pointer (some ⟨B, 0, none⟩)] 79 (0, 0))) (hbw : w.heap[bw]? = some (.cells #[.slice (some ⟨b, o, none⟩) 3 3] 170 (0, 0))) (hc : w.cell? ⟨b, o, none⟩ = some (str s)) (hB : B < bw) (hl : l.length + s.length ≤ 140737488355328) :
    Calls Tryz.prog 88 #[.pointer (some ⟨bo, 0, none⟩), .pointer (some ⟨bw, 0, none⟩)] w fun e w' => e = .returned (.tuple #[]) ∧ WroteW B bw (l ++ s) (.slice (some ⟨b, o + 1, none⟩) 2 2) 170 w w' := by
  have K1 : Hid (∀ W : World, W.heap = w.heap → Bld B l W → Calls Tryz.prog 34 #[.pointer (some ⟨B, 0, none⟩), str s] W fun e w' => (∃ z, e = .returned (.tuple #[.int .i64 z, .nilIface])) ∧ Wrote B (l ++ s) W w') := fun W _ hW => write_any s hW hl
  have HBW := Lib.hid hbw; have HD := Lib.hid h.drew; have HB := Lib.hid hB
  have g0 := Fo.cell_of_block hbo 0; have g1 := Fo.cell_of_block hbw 0
  generalize str s = v at K1 hc
  clear hbo hbw h hl hB
  go_enter Tryz.func88, Tryz.ntmps88
  go_wp2_with fail
  go_still_tail 4, (by kernel_rfl)
  change wpList _ _ _ _ _ w.drew
  clear g0 g1 hc
  go_wp2_with fail
  refine (K1.out w.drew rfl HD.out).mono ?_
  rintro e w1 ⟨⟨z, rfl⟩, hw1⟩
  have hb1 := hw1.one (a := w.drew) HBW.out (by decide) (Nat.ne_of_gt HB.out)
  have g1 := Fo.cell_of_block hb1 0; have f1 := Fo.unfrozen_of_block hb1 0
  have HW1 := Lib.hid hw1.undrew
  clear hw1 hb1 K1
  go_wp2_with fail
  go_end0
  exact ⟨rfl, WroteW.of HW1.out HBW.out (by decide) HB.out⟩
set_option maxHeartbeats 1000000 in
set_option maxRecDepth 100000 in
theorem word_4 {B bo bw b o : Nat} {l s : List UInt8} {w : World} (h : Bld B l w) (hbo : w.heap[bo]? = some (.cells #[.pointer (some ⟨B, 0, none⟩)] 79 (0, 0))) (hbw : w.heap[bw]? = some (.cells #[.slice (some ⟨b, o, none⟩) 4 4] 170 (0, 0))) (hc : w.cell? ⟨b, o, none⟩ = some (str s)) (hB : B < bw) (hl : l.length + s.length ≤ 140737488355328) :
    Calls Tryz.prog 88 #[.pointer (some ⟨bo, 0, none⟩), .pointer (some ⟨bw, 0, none⟩)] w fun e w' => e = .returned (.tuple #[]) ∧ WroteW B bw (l ++ s) (.slice (some ⟨b, o + 1, none⟩) 3 3) 170 w w' := by
  have K1 : Hid (∀ W : World, W.heap = w.heap → Bld B l W → Calls Tryz.prog 34 #[.pointer (some ⟨B, 0, none⟩), str s] W fun e w' => (∃ z, e = .returned (.tuple #[.int .i64 z, .nilIface])) ∧ Wrote B (l ++ s) W w') := fun W _ hW => write_any s hW hl
  have HBW := Lib.hid hbw; have HD := Lib.hid h.drew; have HB := Lib.hid hB
  have g0 := Fo.cell_of_block hbo 0; have g1 := Fo.cell_of_block hbw 0
  generalize str s = v at K1 hc
  clear hbo hbw h hl hB
  go_enter Tryz.func88, Tryz.ntmps88
  go_wp2_with fail
  go_still_tail 4, (by kernel_rfl)
  change wpList _ _ _ _ _ w.drew
  clear g0 g1 hc
  go_wp2_with fail
  refine (K1.out w.drew rfl HD.out).mono ?_
  rintro e w1 ⟨⟨z, rfl⟩, hw1⟩
  have hb1 := hw1.one (a := w.drew) HBW.out (by decide) (Nat.ne_of_gt HB.out)
  have g1 := Fo.cell_of_block hb1 0; have f1 := Fo.unfrozen_of_block hb1 0
  have HW1 := Lib.hid hw1.undrew
  clear hw1 hb1 K1
  go_wp2_with fail
  go_end0
  exact ⟨rfl, WroteW.of HW1.out HBW.out (by decide) HB.out⟩
end Go.Proofs.YtcgbepmhfimbjaaGreatDoor

namespace Go.Proofs.YtcgbepmhfimbjaaGreatDoor
open Go.RowKit Go.WideShapes Go.ChangeShapes Go.ChangeAt Go.Deep Go.WideElems

theorem Tryz.own : ownKnob Tryz.prog.godebug = none := by kernel_rfl
theorem Tryz.laidOut : laidOutB Tryz.prog = true := by kernel_rfl
theorem Tryz.kids : Go.Kids Tryz.prog (· < Tryz.prog.types.size) := kids_rows (by kernel_rfl) (by kernel_rfl)
theorem Tryz.full : ∀ t e, t < Tryz.prog.types.size → Tryz.prog.underlying t = some (.slice e) → 0 < Tryz.prog.cellsOf e := slices_full_of Tryz.prog (by kernel_rfl)

section
variable {H : Type} {enc : TypeId × Value → H} {P : Program}

theorem post_of_below {f : Func} {s : ChangeSpec} {apart fresh handsOn again : Bool} {W W' : World} {args : Array Value} {v : Value} {ds gs : List (DataW H)} {before pa pv : List MemPlace}
    (hW : DataW.Whole enc P f.params.toList s.vars apart W args.toList ds gs before)
    (hres : ∀ (b : Nat) (sp : Nat → Bool) (hd : Bool), DataW.TrodAll enc P W' b sp hd f.resultTypes.toList (v.resultList f.resultTypes.size) (s.fn H (ds ++ gs)).results [])
    (hargs : ∀ sp : Nat → Bool, (∀ p ∈ before, sp p.block = true) → DataW.TrodAll enc P W' 0 sp true f.params.toList args.toList (s.fn H (ds ++ gs)).args pa)
    (hvars : ∀ sp : Nat → Bool, (∀ p ∈ before, sp p.block = true) → DataW.TrodVars enc P W' sp s.vars (s.fn H (ds ++ gs)).vars pv)
    (hps : before = pa ++ pv) (hb : Below W.heap.size W W')
    (hok : ∀ (j : Nat) (t : TypeId) (r : Value), f.resultTypes[j]? = some t → (v.resultList f.resultTypes.size)[j]? = some r → Value.okWide P W' .any 0 t r) :
    s.post enc P f apart fresh handsOn again W args v W' := by
  have hlt : ∀ p ∈ before, p.block < W.heap.size := fun p hp => hW.lt p hp
  have hold : ∀ p ∈ before, (fun b => decide (b < W.heap.size)) p.block = true := fun p hp => by simpa using hlt p hp
  refine ⟨ds, gs, before, [], pa, pv, hW, hres _ _ _, hargs _ hold, hvars _ hold, World.keptBut_mono (fun p hp => ⟨hp, ?_⟩) (hb.frame (· ∈ before)), fun _ => ?_⟩
  · rw [hps, List.mem_append] at hp
    exact Or.inr hp
  · obtain ⟨_, _, _, _, _, hz, hn⟩ := hW
    refine ⟨hok, _, _, ([] ++ pa) ++ pv, ⟨[] ++ pa, pv, trodAll_append (hargs _ (fun _ _ => rfl)) (hres _ _ _), hvars _ (fun _ _ => rfl), rfl, ?_, ?_⟩, ?_⟩
    · intro b off hp
      have hin : MemPlace.cell b off ∈ before := by rw [hps]; simpa using hp
      rw [hb.frozen (hlt _ hin)]
      exact hz b off hin
    · intro ha
      have := hn ha
      rw [hps] at this
      simpa using this
    · intro p hp _
      rw [hps]
      simpa using hp

/-- Arguments read behind the call as they did, where nothing that was there has changed. -/
theorem trodAll_stays (hl : laidOutB P = true) {W W' : World} {sp : Nat → Bool} (hb : Below W.heap.size W W') :
    ∀ {ts : List TypeId} {vs : List Value} {ds : List (DataW H)} {ps : List MemPlace}, (∀ t ∈ ts, P.readableRec t = true ∧ t < P.types.size) →
      DataW.TrodAll enc P W 0 (fun _ => true) true ts vs ds ps → (∀ x ∈ ps, x.block < W.heap.size) → (∀ x ∈ ps, sp x.block = true) → DataW.TrodAll enc P W' 0 sp true ts vs ds ps
  | [], [], [], _, _, h, _, _ => h
  | _ :: _, _ :: _, _ :: _, _, hT, ⟨p, q, h1, h2, e⟩, hlt, hs => ⟨p, q,
      WideElems.Trod_stays hl (hT _ (List.mem_cons.2 (Or.inl rfl))).1 (hT _ (List.mem_cons.2 (Or.inl rfl))).2 h1 (fun x hx => hb.same (hlt x (by rw [e]; exact List.mem_append_left _ hx))) (fun x hx => hs x (by rw [e]; exact List.mem_append_left _ hx)),
      trodAll_stays hl hb (fun t ht => hT t (List.mem_cons.2 (Or.inr ht))) h2 (fun x hx => hlt x (by rw [e]; exact List.mem_append_right _ hx)) (fun x hx => hs x (by rw [e]; exact List.mem_append_right _ hx)), e⟩

/-- A LAW's END: it answers true, and nothing that was there has changed. -/
theorem law_end {f : Func} {s : ChangeSpec} {W W' : World} {args : Array Value} {ds gs : List (DataW H)} {before : List MemPlace} {tb : TypeId}
    (hl : laidOutB P = true) (ub : P.underlying tb = some .bool) (hv : s.vars = []) (hr : f.resultTypes = #[tb]) (hp : ∀ t ∈ f.params.toList, P.readableRec t = true ∧ t < P.types.size)
    (hfn : (s.fn H (ds ++ gs)).results = [.lit (.bool true)]) (hfa : (s.fn H (ds ++ gs)).args = ds) (hfv : (s.fn H (ds ++ gs)).vars = [])
    (hW : DataW.Whole enc P f.params.toList s.vars false W args.toList ds gs before) (hb : Below W.heap.size W W') : s.post enc P f false true false false W args (.bool true) W' := by
  have hW' := hW
  obtain ⟨p, q, hA, hV, hpq, _, _⟩ := hW
  rw [hv] at hV
  obtain ⟨rfl, rfl⟩ := trodVars_none hV
  refine post_of_below (pa := p) (pv := []) hW' ?_ ?_ ?_ hpq hb ?_
  · intro b sp hd
    rw [hr, hfn]
    exact trodAll_mk1 (shut_bool ub _)
  · intro sp hsp
    rw [hfa]
    exact trodAll_stays hl hb hp hA (fun x hx => hW'.lt x (by rw [hpq]; exact List.mem_append_left _ hx)) (fun x hx => hsp x (by rw [hpq]; exact List.mem_append_left _ hx))
  · intro sp _
    rw [hv, hfv]
    exact rfl
  · exact ok_one hr rfl (okWide_bool_mk ub _)

/-- A signature handed by value: two integers. -/
theorem open_sig {W : World} {base : Nat} {t : TypeId} {v : Value} {d : DataW H} {p : List MemPlace} {f0 f1 : Field} (hs : P.underlying t = some (.struct #[f0, f1])) (hone : oneCellFields P #[f0, f1] = true) (hC : P.cellsOf t = 2)
    (u0 : P.underlying f0.type = some (.int .i64)) (u1 : P.underlying f1.type = some (.int .i64)) (hok : Value.okWide P W .any base t v) (h : DataW.Trod enc P W 0 (fun _ => true) true t v d p) :
    ∃ x y : Int, v = .agg #[.int .i64 x, .int .i64 y] ∧ (Lit.int .i64 x).wf = true ∧ (Lit.int .i64 y).wf = true := by
  obtain ⟨c0, c1, y0, y1, m, rfl, rfl, rfl, hy0, hy1⟩ := Joins.open_agg2 hs hone hC hok h
  obtain ⟨x, hx, _, wx⟩ := DataW.trod_int u0 hy0
  obtain ⟨y, hy, _, wy⟩ := DataW.trod_int u1 hy1
  simp at hx hy
  subst hx; subst hy
  exact ⟨x, y, rfl, wx, wy⟩
end

set_option maxRecDepth 100000 in
theorem lsig_open {H : Type} {enc : TypeId × Value → H} {W : World} {base : Nat} {v : Value} {d : DataW H} {p : List MemPlace} (hok : Value.okWide Tryz.prog W .any base 23 v) (h : DataW.Trod enc Tryz.prog W 0 (fun _ => true) true 23 v d p) :
    ∃ x y : Int, v = .agg #[.int .i64 x, .int .i64 y] ∧ (Lit.int .i64 x).wf = true ∧ (Lit.int .i64 y).wf = true :=
  open_sig Tryz.underlying23 (by kernel_rfl) (by kernel_rfl) Tryz.underlying2 Tryz.underlying2 hok h

theorem Tryz.cellsE : Tryz.prog.cellsOf 26 = 3 := by kernel_rfl

/-- A list of rows out of its rows, from the last one on. -/
theorem forest_of_rows {W : World} {b o len : Nat} {K N : Nat → Int} {S : Nat → Fo} {A : Nat → Option Addr} {C : Nat → Nat}
    (h : ∀ i, i < len → W.cell? ⟨b, o + i * 3, none⟩ = some (.int .i64 (K i)) ∧ W.cell? ⟨b, o + i * 3 + 1, none⟩ = some (.int .i64 (N i)) ∧ W.cell? ⟨b, o + i * 3 + 2, none⟩ = some (.slice (A i) (S i).len (C i)) ∧ (S i).Lies W (A i) ∧ (S i).len ≤ 9223372036854775807 ∧ (S i).Fits) :
    ∀ j, j ≤ len → ∃ f : Fo, f.len = j ∧ f.At W b (o + (len - j) * 3) ∧ f.Fits := by
  intro j
  induction j with
  | zero => intro _; exact ⟨.nil, rfl, trivial, trivial⟩
  | succ j ih =>
    intro hj
    obtain ⟨f, h1, h2, h3⟩ := ih (by omega)
    obtain ⟨g0, g1, g2, g3, g4, g5⟩ := h (len - (j + 1)) (by omega)
    refine ⟨.cons (K (len - (j + 1))) (N (len - (j + 1))) (S (len - (j + 1))) f, by simp [Fo.len, h1], ⟨g0, g1, ⟨A _, C _, g2, g3⟩, ?_⟩, g4, g5, h3⟩
    rw [show o + (len - (j + 1)) * 3 + 3 = o + (len - j) * 3 from by omega]
    exact h2

set_option maxRecDepth 100000 in
theorem lforest_open {H : Type} {enc : TypeId × Value → H} {W : World} : ∀ (fuel : Nat) (cs : List Value) (x : DataW H × List MemPlace),
    DataW.trod enc Tryz.prog W 0 (fun _ => true) true fuel 24 cs = some x → ∃ (f : Fo) (A : Option Addr) (C : Nat), cs = [.slice A f.len C] ∧ f.Lies W A ∧ f.len ≤ 9223372036854775807 ∧ f.Fits := by
  intro fuel
  induction fuel using Nat.strongRecOn with
  | _ fuel ih =>
    intro cs x h
    rcases DataW.trod_slice Tryz.underlying24 h with ⟨rfl, _⟩ | ⟨a, len, cap, elems, rest, n, hn, rfl, rfl, hb, hl, hm, hlen, hel, hsp, hns⟩
    · exact ⟨.nil, none, 0, rfl, fun h => absurd rfl h, Nat.zero_le _, trivial⟩
    · have one : ∀ i, i < len → ∃ z : Int × Int × Fo × Option Addr × Nat, W.cell? (a.add (i * 3)) = some (.int .i64 z.1) ∧ W.cell? (a.add (i * 3 + 1)) = some (.int .i64 z.2.1) ∧
          W.cell? (a.add (i * 3 + 2)) = some (.slice z.2.2.2.1 z.2.2.1.len z.2.2.2.2) ∧ z.2.2.1.Lies W z.2.2.2.1 ∧ z.2.2.1.len ≤ 9223372036854775807 ∧ z.2.2.1.Fits := by
        intro i hi
        have key := hel i hi
        rw [List.getElem?_eq_getElem (by omega), Tryz.cellsE] at key
        obtain ⟨cs', h1, h2⟩ := Option.bind_eq_some_iff.1 key
        obtain ⟨_, hl3, hc⟩ := World.cells?_some h1
        obtain ⟨xs, m, rfl, _, _, hxl, hf⟩ := DataW.trod_struct Tryz.underlying26 h2
        match xs, hxl, cs', hl3 with
        | [y0, y1, y2], _, [v0, v1, v2], _ =>
          have g0 : DataW.trod enc Tryz.prog W 0 (fun _ => true) true m 2 [v0] = some y0 := hf 0 _ rfl
          have g1 : DataW.trod enc Tryz.prog W 0 (fun _ => true) true m 2 [v1] = some y1 := hf 1 _ rfl
          have g2 : DataW.trod enc Tryz.prog W 0 (fun _ => true) true m 24 [v2] = some y2 := hf 2 _ rfl
          obtain ⟨k, hk, _, _⟩ := DataW.trod_int Tryz.underlying2 g0
          obtain ⟨nn, hnn, _, _⟩ := DataW.trod_int Tryz.underlying2 g1
          obtain ⟨f, A, C, hf2, l1, l2, l3⟩ := ih m (by omega) _ _ g2
          simp at hk hnn hf2
          subst hk; subst hnn; subst hf2
          have c0 := hc 0 (by omega)
          have c1 := hc 1 (by omega)
          have c2 := hc 2 (by omega)
          rw [add_add] at c0 c1 c2
          exact ⟨(k, nn, f, A, C), c0, c1, c2, l1, l2, l3⟩
      obtain ⟨b, o, spot⟩ := a
      by_cases h0 : len = 0
      · subst h0
        exact ⟨.nil, _, _, rfl, fun h => absurd rfl h, Nat.zero_le _, trivial⟩
      have : Inhabited (Option Addr × Nat) := ⟨(none, 0)⟩
      have : Inhabited (Int × Int × Fo × Option Addr × Nat) := ⟨(0, 0, .nil, none, 0)⟩
      obtain ⟨Z, hZ⟩ := choose_lt one
      have hspot : spot = none := by
        have := (hZ 0 (by omega)).1
        simpa [Addr.add] using World.cell?_spot this
      subst hspot
      obtain ⟨f, e1, e2, e3⟩ := forest_of_rows (W := W) (b := b) (o := o) (len := len) (K := fun i => (Z i).1) (N := fun i => (Z i).2.1) (S := fun i => (Z i).2.2.1) (A := fun i => (Z i).2.2.2.1) (C := fun i => (Z i).2.2.2.2)
        (fun i hi => by
          obtain ⟨q0, q1, q2, q3, q4, q5⟩ := hZ i hi
          rw [add_plain] at q0 q1 q2
          exact ⟨q0, q1, q2, q3, q4, q5⟩) len (Nat.le_refl _)
      rw [Nat.sub_self, Nat.zero_mul] at e2
      subst e1
      exact ⟨f, some ⟨b, o, none⟩, cap, rfl, fun _ => ⟨b, o, rfl, e2⟩, by unfold maxLen at hm; omega, e3⟩

set_option maxRecDepth 100000 in
/-- An expression handed by value. -/
theorem lexpr_open {H : Type} {enc : TypeId × Value → H} {W : World} {base : Nat} {v : Value} {d : DataW H} {p : List MemPlace} (hok : Value.okWide Tryz.prog W .any base 26 v) (h : DataW.Trod enc Tryz.prog W 0 (fun _ => true) true 26 v d p) :
    ∃ (k n : Int) (f : Fo) (A : Option Addr) (C : Nat), v = .agg #[.int .i64 k, .int .i64 n, .slice A f.len C] ∧ f.Lies W A ∧ f.len ≤ 9223372036854775807 ∧ f.Fits ∧ (Lit.int .i64 k).wf = true ∧ (Lit.int .i64 n).wf = true := by
  obtain ⟨c0, c1, c2, y0, y1, y2, m, rfl, _, _, g0, g1, g2⟩ := Joins.open_agg3 Tryz.underlying26 (by kernel_rfl) Tryz.cellsE hok h
  obtain ⟨k, hk, _, wk⟩ := DataW.trod_int Tryz.underlying2 g0
  obtain ⟨n, hn, _, wn⟩ := DataW.trod_int Tryz.underlying2 g1
  obtain ⟨f, A, C, hf, l1, l2, l3⟩ := lforest_open _ _ _ g2
  simp at hk hn hf
  subst hk; subst hn; subst hf
  exact ⟨k, n, f, A, C, rfl, l1, l2, l3, wk, wn⟩

/-- A list of integers, read. -/
theorem ints_open {H : Type} {enc : TypeId × Value → H} {W : World} {fuel : Nat} {cs : List Value} {x : DataW H × List MemPlace} (h : DataW.trod enc Tryz.prog W 0 (fun _ => true) true fuel 129 cs = some x) :
    ∃ (xs : List Int) (A : Option Addr) (C : Nat), cs = [.slice A xs.length C] ∧ Ints W xs A ∧ xs.length ≤ 9223372036854775807 ∧ ∀ v ∈ xs, (Lit.int .i64 v).wf = true := by
  rcases open_slice1 Tryz.underlying129 (by kernel_rfl) h with ⟨rfl, _⟩ | ⟨a, len, cap, m, n, V, D, Pl, rfl, hb, hl, hm, hmm, rfl, hx⟩
  · exact ⟨[], none, 0, rfl, fun h => absurd rfl h, Nat.zero_le _, fun v hv => absurd hv (by simp)⟩
  · simp only [if_true] at hmm
    have one : ∀ i, i < len → ∃ z : Int, W.cell? (a.add i) = some (.int .i64 z) ∧ (Lit.int .i64 z).wf = true := fun i hi => by
      obtain ⟨h1, h2⟩ := hx i (by omega)
      obtain ⟨z, hz, _, wz⟩ := DataW.trod_int Tryz.underlying2 h2
      simp at hz
      exact ⟨z, by rw [h1, hz], wz⟩
    obtain ⟨Z, hZ⟩ := choose_lt one
    refine ⟨(List.range len).map Z, some a, cap, by simp, ?_, by simp; unfold maxLen at hm; omega, ?_⟩
    · intro hne
      have hpos : 0 < len := by
        rcases Nat.eq_zero_or_pos len with h0 | h0
        · subst h0; simp at hne
        · exact h0
      obtain ⟨b, o, spot⟩ := a
      have hspot : spot = none := by simpa [Addr.add] using World.cell?_spot (hZ 0 hpos).1
      subst hspot
      refine ⟨b, o, rfl, fun i hi => ?_⟩
      have hi' : i < len := by simpa using hi
      have := (hZ i hi').1
      rw [add_plain] at this
      rw [this]
      simp [nth, List.getD, hi']
    · intro v hv
      obtain ⟨i, hi, rfl⟩ := List.mem_map.1 hv
      exact (hZ i (by simpa using hi)).2

end Go.Proofs.YtcgbepmhfimbjaaGreatDoor
