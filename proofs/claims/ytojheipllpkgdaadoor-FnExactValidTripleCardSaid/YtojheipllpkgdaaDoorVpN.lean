/- impl.places, impl.nodesIn: iterators over the nodes of a program. -/
import Derived.Test.YtojheipllpkgdaaDoorVpV
namespace Go.Proofs.YtojheipllpkgdaaDoor
open Go.RowKit Go.Shelf
attribute [local go_sem] Oper.semAt_some
set_option linter.unusedVariables false

theorem places_any (k n ck cn : Int) (A B : Option Addr) (l C m D : Nat) (w : World) :
    Calls Tryd.prog 73 #[.agg #[.int .i64 k, .int .i64 n, .int .i64 ck, .int .i64 cn, .slice A l C, .slice B m D]] w fun e w' => e = .returned (.func (.func 101) #[] #[.pointer (some ⟨w.heap.size, 0, none⟩)]) ∧ w' = w.alloc (.cells #[.int .i64 k, .int .i64 n, .int .i64 ck, .int .i64 cn, .slice A l C, .slice B m D] 39) := by
  refine (callsIn_wide (n := 4)).1 ?_
  refine callsIn_of_wp Tryd.func73 rfl trivial ?_ rfl
  simp only [Tryd.ntmps73, List.size_toArray, List.length_cons, List.length_nil, Nat.reduceAdd, Nat.reduceSub, Array.replicate_succ, Array.replicate_zero, List.push_toArray, List.append_toArray, List.nil_append, List.cons_append]
  gi_wp2
  go_ret
  exact ⟨rfl, rfl⟩
theorem nodesIn_any (k n ck cn : Int) (A B : Option Addr) (l C m D : Nat) (w : World) :
    Calls Tryd.prog 38 #[.agg #[.int .i64 k, .int .i64 n, .int .i64 ck, .int .i64 cn, .slice A l C, .slice B m D]] w fun e w' => e = .returned (.func (.func 72) #[] #[.pointer (some ⟨w.heap.size, 0, none⟩)]) ∧ w' = w.alloc (.cells #[.int .i64 k, .int .i64 n, .int .i64 ck, .int .i64 cn, .slice A l C, .slice B m D] 39) := by
  refine (callsIn_wide (n := 4)).1 ?_
  refine callsIn_of_wp Tryd.func38 rfl trivial ?_ rfl
  simp only [Tryd.ntmps38, List.size_toArray, List.length_cons, List.length_nil, Nat.reduceAdd, Nat.reduceSub, Array.replicate_succ, Array.replicate_zero, List.push_toArray, List.append_toArray, List.nil_append, List.cons_append]
  gi_wp2
  go_ret
  exact ⟨rfl, rfl⟩

set_option maxHeartbeats 4000000 in
set_option maxRecDepth 100000 in
theorem places_stops (E : Nat → Prop) (w0 : World) (n1 : Nat) (hE : ∀ k, E k → w0.heap.size ≤ k ∧ k < n1) (k n ck cn : Int) (cf : Fo) (A B : Option Addr) (C D : Nat) (ks : Pg) (hA : cf.Lies w0 A) (hcm : cf.nodes ≤ 1048576) (hcf : cf.Fits) (hB : ks.Lies w0 B) (hks : ks.Fits) (hsz : ks.nodes ≤ 1048576) (m Bs : Nat) (w : World) (hn1 : n1 ≤ w.heap.size) (hcs : CS w0 w)
    (hbs : w.heap[Bs]? = some (.cells #[.int .i64 k, .int .i64 n, .int .i64 ck, .int .i64 cn, .slice A cf.len C, .slice B ks.len D] 39 (0, 0))) :
    SeqStopsK Fence.wide m Tryd.prog 101 #[.pointer (some ⟨Bs, 0, none⟩)] (PV.enc2 (w0 := w0)) (KC E) (fun xs => xs.map PV.row = (Pg.cons k n ck cn cf ks .nil).pre 1) (fun xs => xs.map PV.row <+: (Pg.cons k n ck cn cf ks .nil).pre 1) (1 + ks.cnt) w := fun l J Jx W hW hJ hJx hY h0 => by
  have hdd : ∀ k : Nat, (Fence.wide.depth.isSome = true → 1 ≤ k) := fun k h => by cases h
  have hb := (hW.block Bs (Array.getElem?_eq_some_iff.1 hbs).1).trans hbs
  have hV := visit_any E w0 n1 hE l (1 + ks.cnt) J Jx (fun s X Y hs hxy => hJ s X Y none hs (grown_none hxy) (fun r e => by cases e)) (fun pre x W1 hj hl => yieldAny 0 (hY pre x W1 hj hl)) (ks.nodes + 1) ks (Nat.lt_succ_self _) hks k n ck cn cf A B C D hA hcm hcf hB [] none 0 (m - 1) [] W (by simp; omega) (Nat.le_trans hn1 hW.size) (hcs.below hW) (fun h => absurd rfl h) h0 (by simp)
  obtain ⟨c0, c1, c2, c3, c4, c5⟩ := six_cells hb
  have HV := Lib.hid hV
  clear hV hb hY h0 hJ hJx
  refine callsIn_of_wp Tryd.func101 rfl trivial ?_ rfl
  simp only [Tryd.ntmps101, List.size_toArray, List.length_cons, List.length_nil, Nat.reduceAdd, Nat.reduceSub, Array.replicate_succ, Array.replicate_zero, List.push_toArray, List.append_toArray, List.nil_append, List.cons_append]
  gi_wp2_with (refine ⟨trivial, hdd _, ?_⟩; refine HV.out.mono ?_; rintro e W1 (⟨rfl, xs, hxs, hj, hk⟩ | ⟨rfl, xs, hxs, hx⟩))
  · go_end0
    exact ⟨⟨_, rfl⟩, Or.inl ⟨xs, hxs, by simpa using hj⟩⟩
  · go_end0
    exact ⟨⟨_, rfl⟩, Or.inr ⟨xs, hxs, by simpa using hx⟩⟩

def PV.enc1 {w0 : World} (x : PV w0) : Array Value := #[.agg #[.slice x.PA x.d x.PC, .int .i64 x.k, .int .i64 x.n, .int .i64 x.ck, .int .i64 x.cn, .slice x.A x.cf.len x.C, .slice x.B x.ks.len x.D]]
theorem ownUp {β : Type} {B B' : Nat} {I : β → World → Prop} (h : OwnFrom B I) (hB : B ≤ B') : OwnFrom B' I := fun s X Y row hs hg hr => h s X Y row hs hg fun r e => ⟨Nat.le_trans hB (hr r e).1, (hr r e).2⟩
theorem kfUp {B B' : Nat} {W W' : World} (h : KeepsFrom B W W') (hB : B ≤ B') : KeepsFrom B' W W' := ⟨h.size, fun k o h2 h3 h4 => h.same k o (Nat.le_trans hB h2) h3 h4⟩

set_option maxHeartbeats 8000000 in
set_option maxRecDepth 100000 in
theorem nodes_seq (E : Nat → Prop) (w0 : World) (n1 : Nat) (hE : ∀ k, E k → w0.heap.size ≤ k ∧ k < n1) (k n ck cn : Int) (cf : Fo) (A B : Option Addr) (C D : Nat) (ks : Pg) (hA : cf.Lies w0 A) (hcm : cf.nodes ≤ 1048576) (hcf : cf.Fits) (hB : ks.Lies w0 B) (hks : ks.Fits) (hsz : ks.nodes ≤ 1048576) (m Bs : Nat) (hm : 4 ≤ m) (w : World) (hn1 : n1 ≤ w.heap.size) (hcs : CS w0 w)
    (hbs : w.heap[Bs]? = some (.cells #[.int .i64 k, .int .i64 n, .int .i64 ck, .int .i64 cn, .slice A cf.len C, .slice B ks.len D] 39 (0, 0))) :
    SeqM Fence.wide m Tryd.prog 72 #[.pointer (some ⟨Bs, 0, none⟩)] (PV.enc1 (w0 := w0)) E (fun xs => xs.map PV.row = (Pg.cons k n ck cn cf ks .nil).pre 1) (fun xs => xs.map PV.row <+: (Pg.cons k n ck cn cf ks .nil).pre 1) (1 + ks.cnt) w := fun l J Jx W hW hJ hJx hY h0 => by
  have hdd : ∀ k : Nat, (Fence.wide.depth.isSome = true → 1 ≤ k) := fun k h => by cases h
  have h1 : 1 ≤ m := by omega
  have hb := (hW.block Bs (Array.getElem?_eq_some_iff.1 hbs).1).trans hbs
  have lbs : Bs < W.heap.size := (Array.getElem?_eq_some_iff.1 hb).1
  obtain ⟨W1, hW1⟩ : ∃ W1, W1 = W.alloc (.cells #[.func (.yield l) #[] #[]] 122) := ⟨_, rfl⟩
  obtain ⟨W2, hW2⟩ : ∃ W2, W2 = W1.alloc (.cells #[.int .i64 k, .int .i64 n, .int .i64 ck, .int .i64 cn, .slice A cf.len C, .slice B ks.len D] 39) := ⟨_, rfl⟩
  have B1 : Below W.heap.size W W1 := by rw [hW1]; exact (Below.refl _ _).alloc (Nat.le_refl _) _
  have B2 : Below W1.heap.size W1 W2 := by rw [hW2]; exact (Below.refl _ _).alloc (Nat.le_refl _) _
  have B12 : Below W.heap.size W W2 := B1.trans (B2.mono B1.size)
  obtain ⟨c0, c1, c2, c3, c4, c5⟩ := six_cells ((B1.block Bs lbs).trans hb)
  have hy1 : W1.heap[W.heap.size]? = some (.cells #[.func (.yield l) #[] #[]] 122 (0, 0)) := by rw [hW1]; exact heap_new _ _ _ rfl
  have ly1 : W.heap.size < W1.heap.size := by rw [hW1]; simp
  have hy2 := (B2.block _ ly1).trans hy1
  have hp2 : W2.heap[W1.heap.size]? = some (.cells #[.int .i64 k, .int .i64 n, .int .i64 ck, .int .i64 cn, .slice A cf.len C, .slice B ks.len D] 39 (0, 0)) := by rw [hW2]; exact heap_new _ _ _ rfl
  have hST := places_stops E w0 n1 hE k n ck cn cf A B C D ks hA hcm hcf hB hks hsz (m - 1) W1.heap.size W2 (by have := hW.size; have := B12.size; omega) ((hcs.below hW).below B12) hp2
  have hJ2 : J [] W2 := hJ _ _ _ none h0 (grown_none B12) (fun r e => by cases e)
  have hnE : ¬ E W.heap.size := fun h => by have := (hE _ h).2; have := hW.size; omega
  rw [hW1] at c0 c1 c2 c3 c4 c5
  refine callsIn_of_wp_marks Tryd.func72 rfl trivial ?_ rfl
  simp only [Tryd.ntmps72, List.size_toArray, List.length_cons, List.length_nil, Nat.reduceAdd, Nat.reduceSub, Array.replicate_succ, Array.replicate_zero, List.push_toArray, List.append_toArray, List.nil_append, List.cons_append]
  gi_wp2_with ((first | refine ⟨trivial, hdd _, ?_⟩ | refine ⟨trivial, ?_⟩); gi_at_call 73; refine (callsIn_wide.2 (places_any k n ck cn A B cf.len C ks.len D _)).mono ?_; rintro e w2 ⟨rfl, rfl⟩)
  rw [← hW1, ← hW2]
  have hz1 : W1.heap.size = W.heap.size + 1 := by rw [hW1]; simp
  have hz2 : W2.heap.size = W.heap.size + 2 := by rw [hW2]; simp [hz1]
  rw [hz1] at hST
  have cy2 := Fo.cell_of_block hy2 0
  clear hbs hb hW1 hW2 B1 B2 hy1 hp2 c0 c1 c2 c3 c4 c5
  refine wpIn_rangeFunc_ownH rfl h1 (gf := 101) (lb := #[.pointer (some ⟨W.heap.size + 1, 0, none⟩)]) rfl trivial (enters_of Tryd.func101 (by kernel_rfl) rfl) hST (fun h h' => KC.trans h h') (fun X l' o o' _ h ho _ => KC.put _ h ho) (Below.refl _ _) (fun _ => rfl)
    (fun pre X => J pre X ∧ X.cell? ⟨W.heap.size, 0, none⟩ = some (.func (.yield l) #[] #[]))
    (fun c pre X => c = .ret ∧ Jx pre X)
    ((ownUp hJ (by omega)).and (Own.from (fun s X Y row hs hg hr => cell_kept hs hg hr) _))
    (fun c => (ownFrom_pure _ (fun _ => c = .ret)).and (ownUp hJx (by omega)))
    ⟨hJ2, cy2⟩
    (fun x a' X => ∃ Bx, X.heap[Bx]? = some (.cells #[.int .i64 x.k, .int .i64 x.n, .int .i64 x.ck, .int .i64 x.cn, .slice x.A x.cf.len x.C, .slice x.B x.ks.len x.D] 39 (0, 0)) ∧ a' = { tmps := #[.func (.yield l) #[] #[], .pointer (some ⟨Bs, 0, none⟩), .pointer (some ⟨W.heap.size, 0, none⟩), .slice x.PA x.d x.PC, .pointer (some ⟨Bx, 0, none⟩), .agg #[.int .i64 k, .int .i64 n, .int .i64 ck, .int .i64 cn, .slice A cf.len C, .slice B ks.len D], .func (.func 101) #[] #[.pointer (some ⟨W.heap.size + 1, 0, none⟩)], .slice x.PA x.d x.PC, .agg #[.int .i64 x.k, .int .i64 x.n, .int .i64 x.ck, .int .i64 x.cn, .slice x.A x.cf.len x.C, .slice x.B x.ks.len x.D], undef, undef, undef, undef, undef, undef, undef], defers := [] })
    (fun x a' s X Y row hs hg hr => by
      obtain ⟨Bx, h1, h2⟩ := hs
      exact ⟨Bx, (hg.block Bx (Array.getElem?_eq_some_iff.1 h1).1 (fun e => by obtain ⟨_, o, ho, hc⟩ := hr Bx e.symm; rw [h1] at ho; cases ho; cases hc)).trans h1, h2⟩) ?assign ?body ?done ?stop
  case assign =>
    rintro l' pre x X K ⟨hi, hc⟩ hK
    simp only [PV.enc2]
    gi_wp2
    have hb' : Below X.heap.size X (X.alloc (.cells #[.int .i64 x.k, .int .i64 x.n, .int .i64 x.ck, .int .i64 x.cn, .slice x.A x.cf.len x.C, .slice x.B x.ks.len x.D] 39)) := (Below.refl _ _).alloc (Nat.le_refl _) _
    exact hK _ _ (kf_below hb') (KC.of_below hb') ⟨hJ _ _ _ none hi (grown_none hb') (fun r e => by cases e), kc hb' hc⟩ ⟨X.heap.size, heap_new _ _ _ rfl, rfl⟩
  case body =>
    rintro l' pre x a' X hl' hr' ⟨hi, hc⟩ ⟨Bx, hbx, rfl⟩ hlt
    have hYY := hY pre x X hi hlt
    obtain ⟨fn, tmps, assign, body, hy, hR⟩ := yieldAny (m - 1 - 1 - 1) hYY
    have HR : Hid (RoundIn (Fence.wide.inRound l') (m - 1 - 1 - 1) Tryd.prog l fn tmps assign body X fun e X' => (e = .returned (.bool true) ∧ J (pre ++ [x]) X' ∧ KeepsFrom W.heap.size X X' ∧ KC E X X') ∨ (e = .returned (.bool false) ∧ Jx (pre ++ [x]) X' ∧ KeepsFrom W.heap.size X X' ∧ KC E X X')) := hR
    simp only [PV.enc1] at hy
    obtain ⟨b0, b1, b2, b3, b4, b5⟩ := six_cells hbx
    have HC := Lib.hid hc
    clear hR hYY hbx hi
    have hmm : 1 ≤ m - 1 - 1 := by omega
    gi_wp2_with ((try first | refine ⟨hdd _, ?_⟩); refine HR.out.mono ?_; clear HR; rintro e X' (⟨rfl, hj, hkf, hkc⟩ | ⟨rfl, hj, hkf, hkc⟩))
    · exact ⟨kfUp hkf (by omega), hkc, hj, hkc.cell hnE HC.out⟩
    · exact ⟨kfUp hkf (by omega), rfl, hj⟩
  case done =>
    rintro D' ys X hD hS ⟨hj, _⟩ hK
    gi_wp2
    refine ⟨by simp, .inl ⟨_, _, rfl, run_takeDeferred hK, ?_⟩⟩
    exact ⟨_, results_none rfl _ _ _, ⟨_, rfl⟩, Or.inl ⟨ys, hS, OwnFrom.putObj hJ _ hj (by omega) hK rfl⟩⟩
  case stop =>
    rintro D' c pre X hD hS ⟨rfl, hj⟩ hK
    gi_wp2
    refine ⟨by simp, .inl ⟨_, _, rfl, run_takeDeferred hK, ?_⟩⟩
    exact ⟨_, results_none rfl _ _ _, ⟨_, rfl⟩, Or.inr ⟨pre, hS, OwnFrom.putObj hJx _ hj (by omega) hK rfl⟩⟩
end Go.Proofs.YtojheipllpkgdaaDoor
