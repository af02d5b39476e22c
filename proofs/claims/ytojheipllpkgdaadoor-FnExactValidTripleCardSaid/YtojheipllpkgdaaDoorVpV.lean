/- The nodes of a program, one after the other: what impl.visit tells its caller's rounds. -/
import Derived.Test.YtojheipllpkgdaaDoorSqM
import Derived.Test.YtojheipllpkgdaaDoorVpD
import Derived.Test.YtojheipllpkgdaaDoorCat
import Derived.RegionIn
import Derived.Stop.RegionWithIn
import Derived.Shelf.RegionOpen
import Derived.RangeFuncBound
namespace Go.Proofs.YtojheipllpkgdaaDoor
open Go.RowKit Go.Shelf
attribute [local go_sem] Oper.semAt_some
set_option linter.unusedVariables false

theorem cell_obj {W : World} {b o : Nat} {v : Value} (h : W.cell? ⟨b, o, none⟩ = some v) : ∃ x, W.heap[b]? = some x ∧ x.isCells = true := by
  unfold World.cell? at h
  cases hx : W.heap[b]? with
  | none => rw [hx] at h; cases h
  | some x => rw [hx] at h; cases x <;> first | (cases h; done) | exact ⟨_, rfl, rfl⟩
theorem KC.cell {E : Nat → Prop} {W W' : World} (h : KC E W W') {b o : Nat} {v : Value} (hE : ¬ E b) (hc : W.cell? ⟨b, o, none⟩ = some v) : W'.cell? ⟨b, o, none⟩ = some v := by
  obtain ⟨x, hx, hk⟩ := cell_obj hc
  exact (World.cell?_of_block (a := ⟨b, o, none⟩) ((h.same b x hE hx hk).trans hx.symm)).trans hc
/-- The cells of an older world are as they were. -/
def CS (w0 W : World) : Prop := ∀ (b o : Nat) (v : Value), w0.cell? ⟨b, o, none⟩ = some v → W.cell? ⟨b, o, none⟩ = some v
theorem CS.of {w0 W : World} (h : Below w0.heap.size w0 W) : CS w0 W := fun b o v hc => (h.cell (p := ⟨b, o, none⟩) (World.block_lt_of_cell? _ _ hc)).trans hc
theorem CS.kc {w0 W W' : World} {E : Nat → Prop} (h : CS w0 W) (hE : ∀ k, E k → w0.heap.size ≤ k) (k : KC E W W') : CS w0 W' := fun b o v hc => k.cell (fun he => by have := hE b he; have := World.block_lt_of_cell? _ _ hc; simp at this; omega) (h b o v hc)
theorem CS.below {w0 W W' : World} (h : CS w0 W) (k : Below W.heap.size W W') : CS w0 W' := fun b o v hc => (k.cell (p := ⟨b, o, none⟩) (World.block_lt_of_cell? _ _ (h b o v hc))).trans (h b o v hc)
/-- A path, in a block from n1 on. -/
def PthIn (W : World) (xs : List Int) (n1 : Nat) (A : Option Addr) : Prop := xs ≠ [] → ∃ b o, A = some ⟨b, o, none⟩ ∧ n1 ≤ b ∧ ∀ i, i < xs.length → W.cell? ⟨b, o + i, none⟩ = some (.int .i64 (nth xs i))
theorem PthIn.kc {W W' : World} {xs : List Int} {n1 : Nat} {A : Option Addr} {E : Nat → Prop} (h : PthIn W xs n1 A) (hE : ∀ k, E k → k < n1) (k : KC E W W') : PthIn W' xs n1 A := fun hn =>
  let ⟨b, o, ha, hb, hc⟩ := h hn; ⟨b, o, ha, hb, fun i hi => k.cell (fun he => by have := hE b he; omega) (hc i hi)⟩
theorem PthIn.ints {W : World} {xs : List Int} {n1 : Nat} {A : Option Addr} (h : PthIn W xs n1 A) : Ints W xs A := fun hn => let ⟨b, o, ha, _, hc⟩ := h hn; ⟨b, o, ha, hc⟩
theorem PthIn.of {W : World} {xs : List Int} {n1 lo hi : Nat} {A : Option Addr} (h : IntsIn W xs lo hi A) (hl : n1 ≤ lo) : PthIn W xs n1 A := fun hn => by
  rcases h with ⟨h, _⟩ | ⟨b, ha, h1, h2, _, hc⟩
  · exact absurd h hn
  · exact ⟨b, 0, ha, by omega, fun i hi => by rw [Nat.zero_add]; exact hc i hi⟩

/-- A node of a program that lies in a world, and a path to it. -/
structure PV (w0 : World) where
  d : Nat
  PA : Option Addr
  PC : Nat
  k : Int
  n : Int
  ck : Int
  cn : Int
  cf : Fo
  A : Option Addr
  C : Nat
  ks : Pg
  B : Option Addr
  D : Nat
  hA : cf.Lies w0 A
  hm : cf.nodes ≤ 1048576
  hf : cf.Fits
  hB : ks.Lies w0 B
  hks : ks.nodes ≤ 1048576 ∧ ks.Fits
  hd : d ≤ 1048576
def PV.row {w0 : World} (x : PV w0) : PRow := ⟨x.d + 1, x.k, x.n, x.ck, x.cn, x.cf, x.ks⟩
def PV.agg {w0 : World} (x : PV w0) : Value := .agg #[.int .i64 x.k, .int .i64 x.n, .int .i64 x.ck, .int .i64 x.cn, .slice x.A x.cf.len x.C, .slice x.B x.ks.len x.D]
def PV.enc2 {w0 : World} (x : PV w0) : Array Value := #[.slice x.PA x.d x.PC, .agg #[.int .i64 x.k, .int .i64 x.n, .int .i64 x.ck, .int .i64 x.cn, .slice x.A x.cf.len x.C, .slice x.B x.ks.len x.D]]

theorem pparts_any (k n ck cn : Int) (A B : Option Addr) (l C m D : Nat) (w : World) : Calls Tryd.prog 141 #[.agg #[.int .i64 k, .int .i64 n, .int .i64 ck, .int .i64 cn, .slice A l C, .slice B m D]] w fun e w' => e = .returned (.slice B m D) ∧ Below w.heap.size w w' := by
  go_enter Tryd.func141, Tryd.ntmps141
  go_wp2_with fail
  go_ret
  exact ⟨rfl, by go_grown⟩
theorem pparts_method (k n ck cn : Int) (A B : Option Addr) (l C m D : Nat) (w : World) : (method 309 39 (.agg #[.int .i64 k, .int .i64 n, .int .i64 ck, .int .i64 cn, .slice A l C, .slice B m D]) "loop.example/g01101/impl.parts").run Tryd.prog w = .ok (141, .agg #[.int .i64 k, .int .i64 n, .int .i64 ck, .int .i64 cn, .slice A l C, .slice B m D]) w := by kernel_rfl
theorem pparts_call (x : Value) (w : World) : (callFunc 141 #[x]).run Tryd.prog w = .ok (.enter 141 #[x]) w := by kernel_rfl
theorem yieldAny {m : Nat} (m' : Nat) {P : Program} {l : Nat} {args : Array Value} {W : World} {R : Ending → World → Prop} (h : YieldAt Fence.wide m P l args W R) : YieldAt Fence.wide m' P l args W R := by
  obtain ⟨fn, tmps, assign, body, hy, h1, h2⟩ := h
  exact ⟨fn, tmps, assign, body, hy, h1, fun c cs hr => h2 c cs (fun d hd => by cases hd)⟩
theorem grown_none {A A' : World} (h : Below A.heap.size A A') : A.grownBy A' none := ⟨h.os, h.tape, h.output, h.size, fun k hk _ => h.block k hk⟩
theorem concat_path {W : World} {xs : List Int} {j : Nat} {n1 b bb C : Nat} {PA : Option Addr} {PC : Nat} (hl : xs.length ≤ 1048576) (hn : n1 ≤ W.heap.size) (h0 : W.cell? ⟨b, 0, none⟩ = some (.slice PA xs.length PC)) (h1 : W.cell? ⟨b, 1, none⟩ = some (.slice (some ⟨bb, 0, none⟩) 1 1)) (h2 : W.cell? ⟨bb, 0, none⟩ = some (.int .i64 (j : Int))) (hp : Ints W xs PA) :
    Calls Tryd.prog 111 #[.slice (some ⟨b, 0, none⟩) 2 C] W fun e w' => ∃ Z C', e = .returned (.slice Z (xs ++ [(j : Int)]).length C') ∧ PthIn w' (xs ++ [(j : Int)]) n1 Z ∧ Below W.heap.size W w' := by
  have hfl : ([xs, [(j : Int)]] : List (List Int)).flatten = xs ++ [(j : Int)] := by simp
  refine (concat_any [xs, [(j : Int)]] (by rw [hfl]; simp; omega) (by simp) b C W (fun i hi => ?_)).mono ?_
  · rcases i with _ | _ | i
    · exact ⟨PA, PC, h0, hp⟩
    · exact ⟨_, 1, h1, fun _ => ⟨bb, 0, rfl, fun i hi => by
        have : i = 0 := by simp at hi; omega
        subst this
        exact h2⟩⟩
    · simp at hi; omega
  · rintro e w' ⟨A, C', he, hi, hb⟩
    rw [hfl] at he hi
    exact ⟨A, C', he, PthIn.of hi hn, hb⟩
theorem six_cells {W : World} {b : Nat} {T : TypeId} {u0 u1 u2 u3 u4 u5 : Value} (h : W.heap[b]? = some (.cells #[u0, u1, u2, u3, u4, u5] T (0, 0))) : W.cell? ⟨b, 0, none⟩ = some u0 ∧ W.cell? ⟨b, 1, none⟩ = some u1 ∧ W.cell? ⟨b, 2, none⟩ = some u2 ∧ W.cell? ⟨b, 3, none⟩ = some u3 ∧ W.cell? ⟨b, 4, none⟩ = some u4 ∧ W.cell? ⟨b, 5, none⟩ = some u5 :=
  ⟨Fo.cell_of_block h 0, Fo.cell_of_block h 1, Fo.cell_of_block h 2, Fo.cell_of_block h 3, Fo.cell_of_block h 4, Fo.cell_of_block h 5⟩

theorem twoA {n : Nat} {W0 W : World} (h : Below n W0 W) (hn : n ≤ W.heap.size) (x y : Obj) : Below n W0 ((W.alloc x).alloc y).drew := ((h.alloc hn _).alloc (by simp; omega) _).drew
theorem twoB {n : Nat} {W0 W : World} (h : Below n W0 W) (hn : n ≤ W.heap.size) (x y : Obj) : Below n W0 ((W.drew.alloc x).alloc y) := ((h.drew.alloc hn _).alloc (by simp; omega) _)
theorem first_of {n : Nat} {W0 W w' : World} {x y : Obj} (h : Below n W0 W) (hn : n ≤ W.heap.size) (hb : Below ((W.alloc x).alloc y).drew.heap.size ((W.alloc x).alloc y).drew w') : Below n W0 w' := (twoA h hn x y).trans (hb.mono (by simp; omega))
/-- How visit ends. -/
def VEnd {w0 : World} (E : Nat → Prop) (J Jx : List (PV w0) → World → Prop) (full : List PRow) (pre : List (PV w0)) (W : World) (e : Ending) (W' : World) : Prop :=
  (e = .returned (.bool true) ∧ ∃ xs : List (PV w0), xs.map PV.row = full ∧ J (pre ++ xs) W' ∧ KC E W W') ∨ (e = .returned (.bool false) ∧ ∃ xs : List (PV w0), xs.map PV.row <+: full ∧ Jx (pre ++ xs) W')

set_option maxHeartbeats 8000000 in
set_option maxRecDepth 100000 in
theorem visit_any (E : Nat → Prop) (w0 : World) (n1 : Nat) (hE : ∀ k, E k → w0.heap.size ≤ k ∧ k < n1) (l N : Nat) (J Jx : List (PV w0) → World → Prop) (hJ : ∀ s A A', J s A → Below A.heap.size A A' → J s A')
    (hY : ∀ pre (x : PV w0) W, J pre W → pre.length < N → YieldAt Fence.wide 0 Tryd.prog l x.enc2 W fun e W' => (e = .returned (.bool true) ∧ J (pre ++ [x]) W' ∧ KC E W W') ∨ (e = .returned (.bool false) ∧ Jx (pre ++ [x]) W')) :
    ∀ (M : Nat) (ks : Pg), ks.nodes < M → ks.Fits → ∀ (k n ck cn : Int) (cf : Fo) (A B : Option Addr) (C D : Nat), cf.Lies w0 A → cf.nodes ≤ 1048576 → cf.Fits → ks.Lies w0 B → ∀ (pth : List Int) (PA : Option Addr) (PC m : Nat) (pre : List (PV w0)) (W : World), pth.length + ks.nodes ≤ 1048576 → n1 ≤ W.heap.size → CS w0 W → PthIn W pth n1 PA → J pre W → pre.length + (1 + ks.cnt) ≤ N →
      CallsIn Fence.wide m Tryd.prog 102 #[.agg #[.int .i64 k, .int .i64 n, .int .i64 ck, .int .i64 cn, .slice A cf.len C, .slice B ks.len D], .slice PA pth.length PC, .func (.yield l) #[] #[]] W (VEnd E J Jx ((Pg.cons k n ck cn cf ks .nil).pre (pth.length + 1)) pre W) := by
  intro M
  induction M with
  | zero => intro ks h; exact absurd h (Nat.not_lt_zero _)
  | succ M ih =>
    intro ks hM hks k n ck cn cf A B C D hA hcm hcf hB pth PA PC m pre W hsz hn1 hCS hP hj hN
    have hm : ks.nodes ≤ 1048576 := by omega
    obtain ⟨x0, hx0⟩ : ∃ x0 : PV w0, x0 = ⟨pth.length, PA, PC, k, n, ck, cn, cf, A, C, ks, B, D, hA, hcm, hcf, hB, ⟨hm, hks⟩, by omega⟩ := ⟨_, rfl⟩
    have hrow : x0.row = ⟨pth.length + 1, k, n, ck, cn, cf, ks⟩ := by rw [hx0]; rfl
    have henc : x0.enc2 = #[.slice PA pth.length PC, .agg #[.int .i64 k, .int .i64 n, .int .i64 ck, .int .i64 cn, .slice A cf.len C, .slice B ks.len D]] := by rw [hx0]; rfl
    have hfull : (Pg.cons k n ck cn cf ks .nil).pre (pth.length + 1) = ⟨pth.length + 1, k, n, ck, cn, cf, ks⟩ :: (ks.pre (pth.length + 1 + 1) ++ []) := rfl
    obtain ⟨full, hfu⟩ : ∃ full, full = (Pg.cons k n ck cn cf ks .nil).pre (pth.length + 1) := ⟨_, rfl⟩
    rw [← hfu] at hfull ⊢
    have hflen : full.length = 1 + ks.cnt := by rw [hfu, Pg.pre_len]; simp [Pg.cnt]
    obtain ⟨W1, hW1⟩ : ∃ W1, W1 = W.alloc (.cells #[.int .i64 k, .int .i64 n, .int .i64 ck, .int .i64 cn, .slice A cf.len C, .slice B ks.len D] 39) := ⟨_, rfl⟩
    have B1 : Below W.heap.size W W1 := by rw [hW1]; exact (Below.refl _ _).alloc (Nat.le_refl _) _
    have hb1 : W1.heap[W.heap.size]? = some (.cells #[.int .i64 k, .int .i64 n, .int .i64 ck, .int .i64 cn, .slice A cf.len C, .slice B ks.len D] 39 (0, 0)) := by rw [hW1]; exact heap_new _ _ _ rfl
    have hnE : ¬ E W.heap.size := fun h => by have := (hE _ h).2; omega
    obtain ⟨p0, p1, p2, p3, p4, p5⟩ := six_cells hb1
    have hYY := (hY pre x0 W1 (hJ _ _ _ hj B1) (by omega)).mono (R' := fun e W2 =>
      (e = .returned (.bool true) ∧ Hid (J (pre ++ [x0]) W2 ∧ KC E W W2) ∧ W2.cell? ⟨W.heap.size, 0, none⟩ = some (.int .i64 k) ∧ W2.cell? ⟨W.heap.size, 1, none⟩ = some (.int .i64 n) ∧ W2.cell? ⟨W.heap.size, 2, none⟩ = some (.int .i64 ck) ∧ W2.cell? ⟨W.heap.size, 3, none⟩ = some (.int .i64 cn) ∧ W2.cell? ⟨W.heap.size, 4, none⟩ = some (.slice A cf.len C) ∧ W2.cell? ⟨W.heap.size, 5, none⟩ = some (.slice B ks.len D)) ∨ (e = .returned (.bool false) ∧ Hid (Jx (pre ++ [x0]) W2)))
      (fun e W2 h => h.elim (fun ⟨he, hj2, hk2⟩ => .inl ⟨he, ⟨hj2, (KC.of_below B1).trans hk2⟩, hk2.cell hnE p0, hk2.cell hnE p1, hk2.cell hnE p2, hk2.cell hnE p3, hk2.cell hnE p4, hk2.cell hnE p5⟩) (fun ⟨he, hx⟩ => .inr ⟨he, hx⟩))
    rw [henc] at hYY
    have HFIN : Hid ([x0].map PV.row ++ (ks.drop 0).pre (pth.length + 1 + 1) = full) := by
      show _ = _
      rw [hfull, List.map_cons, hrow]
      simp [Pg.drop]
    have HPRE : Hid ([x0].map PV.row <+: full) := ⟨ks.pre (pth.length + 1 + 1), by rw [hfull, List.map_cons, hrow]; simp⟩
    have IH := Lib.hid ih; have HE := Lib.hid hE; have HJ := Lib.hid hJ; have HCS := Lib.hid hCS; have HP := Lib.hid hP; have HB := Lib.hid hB; have HF := Lib.hid hks; have HN := Lib.hid hN; have HNE := Lib.hid hnE
    have HFL := Lib.hid hflen
    have hdd : ∀ k : Nat, (Fence.wide.depth.isSome = true → 1 ≤ k) := fun k h => by cases h
    obtain ⟨fn, tmps, assign, body, hy, hR⟩ := yieldAny (m - 1) hYY
    have HR := Lib.hid hR
    have pm := pparts_method k n ck cn A B cf.len C ks.len D
    have pc := pparts_call (.agg #[.int .i64 k, .int .i64 n, .int .i64 ck, .int .i64 cn, .slice A cf.len C, .slice B ks.len D])
    rw [hW1] at hy HR
    have HW1 := Lib.hid hW1
    clear ih hE hJ hY hCS hP hB hks hN hnE hflen hYY hR hfu hfull hrow henc hx0 hA hcm hcf hj B1 hb1 p0 p1 p2 p3 p4 p5 hW1
    refine callsIn_of_wp Tryd.func102 rfl trivial ?_ rfl
    simp only [Tryd.ntmps102, List.size_toArray, List.length_cons, List.length_nil, Nat.reduceAdd, Nat.reduceSub, Array.replicate_succ, Array.replicate_zero, List.push_toArray, List.append_toArray, List.nil_append, List.cons_append]
    gi_wp2_with (first
      | ((try refine ⟨hdd _, ?_⟩); refine HR.out.mono ?_; clear HR; rintro e W2 (⟨rfl, HJ2, r0, r1, r2, r3, r4, r5⟩ | ⟨rfl, HX2⟩))
      | (refine ⟨trivial, hdd _, ?_⟩; gi_at_call 141; refine (callsIn_wide.2 (pparts_any k n ck cn A B cf.len C ks.len D W2)).mono ?_; rintro e W3 ⟨rfl, hb3⟩))
    rotate_left
    · go_ret
      exact Or.inr ⟨rfl, [x0], HPRE.out, HX2.out⟩
    have HJ3 : Hid (J (pre ++ [x0]) W3 ∧ KC E W W3) := ⟨HJ.out _ _ _ HJ2.out.1 hb3, HJ2.out.2.trans (KC.of_below hb3)⟩
    clear HJ2 hb3 r0 r1 r2 r3 r4 r5 pm pc hy HPRE
    gi_loopw [18] (fun i wr => ∃ (j : Nat) (xs : List (PV w0)), j ≤ ks.len ∧ i = .int .i64 j ∧ Hid (xs.map PV.row ++ (ks.drop j).pre (pth.length + 1 + 1) = full) ∧ Hid (J (pre ++ xs) wr ∧ KC E W wr)) (fun i _ => ks.len - (intOf i).toNat)
    case atStart => exact ⟨0, [x0], Nat.zero_le _, rfl, HFIN.out, HJ3.out⟩
    case round =>
      obtain ⟨j, xs, hj, rfl, HQ, HJr⟩ := hrel
      clear HJ3 HFIN
      by_cases hjl : j < ks.len
      · have JL := Lib.hid hjl
        have hsr : CS w0 wr := HCS.out.kc (fun k hk => (HE.out k hk).1) HJr.out.2
        have hpr : PthIn wr pth n1 PA := HP.out.kc (fun k hk => (HE.out k hk).2) HJr.out.2
        have hnr : n1 ≤ wr.heap.size := Nat.le_trans hn1 HJr.out.2.size
        obtain ⟨b', o', rfl, hat⟩ := HB.out (by rintro rfl; simp [Pg.len] at hjl)
        obtain ⟨k', n', ck', cn', cf', ks', r', A1, C1, B1, D1, e1, e2, c0, c1, c2, c3, c4, hl1, c5, hl2⟩ := Pg.Lies.row hat hjl
        have hfd := Pg.fits_drop HF.out j
        have hnd := ks.nodes_drop j
        have hqq := HQ.out
        rw [e1.out] at hfd hnd hqq
        simp only [Pg.nodes] at hnd
        have hlen : xs.length + (1 + ks'.cnt) ≤ 1 + ks.cnt := by
          have h1 := congrArg List.length hqq
          rw [HFL.out, List.length_append, List.length_map, Pg.pre_len] at h1
          simp only [Pg.cnt] at h1
          omega
        have hq2 : xs.map PV.row ++ ((Pg.cons k' n' ck' cn' cf' ks' .nil).pre (pth.length + 1 + 1) ++ (ks.drop (j + 1)).pre (pth.length + 1 + 1)) = full := by
          rw [e2.out, ← hqq]
          simp [Pg.pre]
        obtain ⟨kid, hkid⟩ : ∃ g, g = (Pg.cons k' n' ck' cn' cf' ks' .nil).pre (pth.length + 1 + 1) := ⟨_, rfl⟩
        rw [← hkid] at hq2
        have d0 := hsr _ _ _ c0; have d1 := hsr _ _ _ c1; have d2 := hsr _ _ _ c2; have d3 := hsr _ _ _ c3; have d4 := hsr _ _ _ c4; have d5 := hsr _ _ _ c5
        obtain ⟨W4, hW4⟩ : ∃ W4, W4 = wr.alloc (.cells #[.int .i64 k', .int .i64 n', .int .i64 ck', .int .i64 cn', .slice A1 cf'.len C1, .slice B1 ks'.len D1] 39) := ⟨_, rfl⟩
        obtain ⟨bk, hbk⟩ : ∃ bk, bk = wr.heap.size := ⟨_, rfl⟩
        have hb4 : Below wr.heap.size wr W4 := by rw [hW4]; exact (Below.refl _ _).alloc (Nat.le_refl _) _
        have hk4 : W4.heap[bk]? = some (.cells #[.int .i64 k', .int .i64 n', .int .i64 ck', .int .i64 cn', .slice A1 cf'.len C1, .slice B1 ks'.len D1] 39 (0, 0)) := by rw [hW4]; exact heap_new _ _ _ hbk
        have lk4 : bk < W4.heap.size := by rw [hW4, hbk]; simp
        have hl2' : ks'.nodes < M := by omega
        have KV : Hid (∀ (W : World) (Z : Option Addr) (C' m' : Nat), Below wr.heap.size wr W → PthIn W (pth ++ [(j : Int)]) n1 Z → CallsIn Fence.wide m' Tryd.prog 102 #[.agg #[.int .i64 k', .int .i64 n', .int .i64 ck', .int .i64 cn', .slice A1 cf'.len C1, .slice B1 ks'.len D1], .slice Z (pth.length + 1) C', .func (.yield l) #[] #[]] W fun e W' => ∃ q : Bool, e = .returned (.bool q) ∧ Hid ((q = true ∧ ∃ ys : List (PV w0), ys.map PV.row = kid ∧ J (pre ++ xs ++ ys) W' ∧ KC E W W') ∨ (q = false ∧ ∃ ys : List (PV w0), ys.map PV.row <+: kid ∧ Jx (pre ++ xs ++ ys) W'))) := fun W Z C' m' hbw hpw => by
          have h := IH.out ks' hl2' hfd.2.2.1 k' n' ck' cn' cf' A1 B1 C1 D1 hl1 (by omega) hfd.1.2 hl2 (pth ++ [(j : Int)]) Z C' m' (pre ++ xs) W (by simp; omega) (Nat.le_trans hnr hbw.size) (hsr.below hbw) hpw (HJ.out _ _ _ HJr.out.1 hbw) (by have := HN.out; simp; omega)
          rw [show (pth ++ [(j : Int)]).length = pth.length + 1 by simp, ← hkid] at h
          exact h.mono fun e W' h => h.elim (fun ⟨he, h⟩ => ⟨true, he, Or.inl ⟨rfl, h⟩⟩) (fun ⟨he, h⟩ => ⟨false, he, Or.inr ⟨rfl, h⟩⟩)
        have KT : Hid (∀ (W : World) (b bb : Nat), Below wr.heap.size wr W → W.cell? ⟨b, 0, none⟩ = some (.slice PA pth.length PC) → W.cell? ⟨b, 1, none⟩ = some (.slice (some ⟨bb, 0, none⟩) 1 1) → W.cell? ⟨bb, 0, none⟩ = some (.int .i64 (j : Int)) → Calls Tryd.prog 111 #[.slice (some ⟨b, 0, none⟩) 2 2] W fun e w' => ∃ Z C', e = .returned (.slice Z (pth.length + 1) C') ∧ PthIn w' (pth ++ [(j : Int)]) n1 Z ∧ Below W.heap.size W w') := fun W b bb hbw h0 h1 h2 => by
          have h := concat_path (C := 2) (by omega) (Nat.le_trans hnr hbw.size) h0 h1 h2 (hpr.ints.below hbw)
          rw [show (pth ++ [(j : Int)]).length = pth.length + 1 by simp] at h
          exact h
        have HQ2 := Lib.hid hq2; have HB4 := Lib.hid hb4; have HW4 := Lib.hid hW4; have HK4 := Lib.hid hk4; have HBK := Lib.hid hbk
        have j0 : (0 : Int) ≤ (j : Int) := Int.natCast_nonneg _
        have j1 : (j : Int) < (ks.len : Int) := by omega
        have j9 : j < 1048576 := by have := ks.len_le_nodes; omega
        clear hsr hpr hnr hat e1 e2 c0 c1 c2 c3 c4 c5 hl1 hl2 hfd hnd hqq hlen hq2 hkid hb4 hk4 hl2' hjl HQ hbk
        gi_wp2
        rw [← hW4, ← HBK.out]
        clear hW4 d0 d1 d2 d3 d4 d5
        obtain ⟨t0, t1, t2, t3, t4, t5⟩ := six_cells HK4.out
        gi_region_with (first
          | (refine ⟨trivial, hdd _, ?_⟩; gi_at_call 111; refine (callsIn_wide.2 (KT.out _ _ W4.heap.size ?_ ?_ ?_ ?_)).mono ?_; (exact twoA HB4.out HB4.out.size _ _); (simp [go_sem]); (simp [go_sem]); (simp [go_sem]); rintro e W5 ⟨Z, C', rfl, hz, hb5⟩; have S5 : Below wr.heap.size wr W5 := (first_of HB4.out HB4.out.size hb5); have S45 := first_of (Below.refl W4.heap.size W4) (Nat.le_refl _) hb5; have v0 := (S45.cell (p := ⟨bk, 0, none⟩) lk4).trans t0; have v1 := (S45.cell (p := ⟨bk, 1, none⟩) lk4).trans t1; have v2 := (S45.cell (p := ⟨bk, 2, none⟩) lk4).trans t2; have v3 := (S45.cell (p := ⟨bk, 3, none⟩) lk4).trans t3; have v4 := (S45.cell (p := ⟨bk, 4, none⟩) lk4).trans t4; have v5 := (S45.cell (p := ⟨bk, 5, none⟩) lk4).trans t5; clear hb5 S45)
          | (refine ⟨trivial, hdd _, ?_⟩; gi_at_call 102; refine (KV.out _ _ _ _ S5 hz).mono ?_; rintro e W6 ⟨q6, rfl, H6⟩))
        all_goals
          rcases H6.out with ⟨rfl, ys, hys, hj6, hk6⟩ | ⟨rfl, ys, hys, hx6⟩
          · have HK6 : Hid (KC E W W6) := HJr.out.2.trans ((KC.of_below S5).trans hk6)
            have HQ6 : Hid ((xs ++ ys).map PV.row ++ (ks.drop (j + 1)).pre (pth.length + 1 + 1) = full) := by show _ = _; rw [List.map_append, hys, List.append_assoc]; exact HQ2.out
            have HJ6 : Hid (J (pre ++ (xs ++ ys)) W6) := by show J _ _; rw [← List.append_assoc]; exact hj6
            clear H6 hys hj6 hk6 v0 v1 v2 v3 v4 v5 t0 t1 t2 t3 t4 t5
            gi_wp2
            go_roundw
            case rel => exact ⟨j + 1, xs ++ ys, JL.out, by go_num, HQ6.out, HJ6.out, HK6.out⟩
            case measure => have := JL.out; simp [intOf]; omega
          · have HQ6 : Hid ((xs ++ ys).map PV.row <+: full) := by
              obtain ⟨r, hr⟩ := hys
              refine ⟨r ++ (ks.drop (j + 1)).pre (pth.length + 1 + 1), ?_⟩
              rw [← HQ2.out, List.map_append, ← hr]
              simp
            have HJ6 : Hid (Jx (pre ++ (xs ++ ys)) W6) := by show Jx _ _; rw [← List.append_assoc]; exact hx6
            clear H6 hys hx6 v0 v1 v2 v3 v4 v5 t0 t1 t2 t3 t4 t5
            gi_wp2
            go_ret
            exact Or.inr ⟨rfl, xs ++ ys, HQ6.out, HJ6.out⟩
      · have hje : j = ks.len := by omega
        have hall : xs.map PV.row = full := by
          have := HQ.out
          rw [hje, Pg.drop_len] at this
          simpa [Pg.pre] using this
        gi_wp2
        go_ret
        exact Or.inl ⟨rfl, xs, hall, HJr.out.1, HJr.out.2⟩
end Go.Proofs.YtojheipllpkgdaaDoor
