/- FnExactJoinModels: for all arguments impl.JoinModels answers as the model does, changes none of them, and its answer owns its memory. No condition. -/
import Derived.Test.YtcgbepmhfimbjaaJqb
import Derived.Test.YtcgbepmhfimbjaaJqd
import Derived.Deep.RegionLaw
import Derived.Test.YtcgbepmhfimbjaaRows
import Derived.Test.YtcgbepmhfimbjaaFo
import Derived.Test.YtcgbepmhfimbjaaInts
import Derived.ProofKit
import Derived.OpenShut
import Derived.Below
import Derived.ChangeSame
import Derived.Lib.SmallJoins
import Derived.WideKeyArgs
import Derived.Deep.Slices
import Derived.Test.YtcgbepmhfimbjaaAut
import Derived.Test.YtcgbepmhfimbjaaMod
import Derived.Test.YtcgbepmhfimbjaaLJoinModels
namespace Go.Proofs.Ytcgbepmhfimbjaa
open Go.RowKit
set_option linter.unusedVariables false

/-- append of a row of Booleans onto a row of the call's own, as one step of a region. -/
theorem step_add {ops : Array Oper} {o : Oper} {a : Act} {K : Act → World → Prop} {Q : Exit → Act → World → Prop} {F : Prop} (W : World) (hgd : o.guard = none) (s x : Operand)
    (ho : o.op = .call { callee := .builtin .append, args := #[s, x], argTypes := #[104, 104] })
    (base m n nr rb oz c cap0 g0 : Nat) (xs row : List Bool) (hs : a.eval s = .slice (some ⟨g0, 0, none⟩) m cap0) (hx : a.eval x = .slice (some ⟨rb, oz, none⟩) nr c) (hnr : row.length = nr) (hbase : base ≤ W.heap.size)
    (hown : W.ownsRow base 4 1 (.slice (some ⟨g0, 0, none⟩) m cap0) m (xs.map Value.bool)) (hrow : ∀ (j : Nat) (u : Bool), row[j]? = some u → W.cell? ⟨rb, oz + j, none⟩ = some (.bool u)) (hn : 1 ≤ row.length) (hmn : m + row.length = n) (h8 : n ≤ 1024)
    (h : ∀ g cap w', Below base W w' → w'.ownsRow base 4 1 (.slice (some ⟨g, 0, none⟩) n cap) n ((xs ++ row).map Value.bool) → K (a.put o.dst (.slice (some ⟨g, 0, none⟩) n cap)) w') :
    if Region.wanted o (yielded ops a.tmps) = true then Oper.wp Try.prog o a W K Q else F := by
  have hw : Region.wanted o (yielded ops a.tmps) = true := by simp [Region.wanted, hgd]
  rw [if_pos hw]
  subst hmn hnr
  obtain ⟨i, hi, hz, hsz, hby⟩ := Try.elB.hi
  obtain ⟨v', w', hrun, h2, h3, _, h5⟩ := run_append_own_at (P := Try.prog) W base 104 o.type 4 i (.bool false) 1 1 Try.elB.ht hi hz hsz hby rfl (by omega) _ m (xs.map Value.bool) hown ⟨rb, oz, none⟩ row.length c (row.map Value.bool) (by simp) (fun j u hu => by
      rw [List.getElem?_map] at hu
      obtain ⟨q, hq, rfl⟩ := Option.map_eq_some_iff.1 hu
      rw [addr_add]
      exact hrow j q hq) (fun u hu => by obtain ⟨q, _, rfl⟩ := List.mem_map.1 hu; rfl) (by simp only [maxLen]; omega) (by omega) (by omega)
  unfold Oper.wp execOp
  simp only [ho, resolve, invoke, builtin, Sem.run_bind, Sem.run_pure, Result.andThen_ok, List.map_toArray, List.map_cons, List.map_nil, hs, hx, hrun]
  have hlt0 := hown.lt
  have hbel : Below base W w' := ⟨h3.os, h3.tape, h3.output, h3.size, fun k hk => h3.block k (by omega) (fun he => by have := (hlt0 k he.symm).1; omega)⟩
  rw [← List.map_append] at h2
  rcases h2.2 with ⟨rfl, h0⟩ | ⟨g, cap, cur, rfl, _⟩
  · omega
  · exact h g cap w' hbel h2
theorem own_bools {W : World} {base g n cap : Nat} {xs : List Bool} (h2 : W.ownsRow base 4 1 (.slice (some ⟨g, 0, none⟩) n cap) n (xs.map Value.bool)) : BoolsF W xs (some ⟨g, 0, none⟩) (rng base W.heap.size) := by
  have hl := h2.1
  simp at hl
  have hlt := h2.lt
  rcases h2.2 with ⟨h0, h1⟩ | ⟨g', cap', cur, he, hb, hg, hnn, _, hs2, ht⟩
  · cases h0
  · simp only [Value.slice.injEq, Option.some.injEq, Addr.mk.injEq, and_true] at he
    obtain ⟨rfl, rfl⟩ : g = g' ∧ cap = cap' := ⟨he.1, he.2.2⟩
    refine Or.inr ⟨g, rfl, hlt g rfl, fun j => Fo.unfrozen_of_block hg j, fun j u hu => ?_⟩
    obtain ⟨hl2, _⟩ := List.getElem?_eq_some_iff.1 hu
    rw [Fo.cell_of_block hg, ← Array.getElem?_toList]
    have h6 : (cur.toList.take (n * 1))[j]? = some (.bool u) := by rw [ht, List.getElem?_map, hu]; rfl
    rw [List.getElem?_take, if_pos (by omega)] at h6
    exact h6
theorem step_copy_cells {P : Program} {w : World} {ops : Array Oper} {o : Oper} {a : Act} {K : Act → World → Prop} {Q : Exit → Act → World → Prop} {F : Prop} (hgd : o.guard = none) (d s : Operand) (dT sT : TypeId)
    (ho : o.op = .call { callee := .builtin .copy, args := #[d, s], argTypes := #[dT, sT] }) (elem : TypeId) (hu : P.underlying dT = some (.slice elem)) (hsz : (P.info? elem).map (·.size) = some 1)
    (b off dLen dCap : Nat) (ad : Addr) (sLen sCap : Nat) (hd : a.eval d = .slice (some ⟨b, off, none⟩) dLen dCap) (hs : a.eval s = .slice (some ad) sLen sCap) (cs : List Value) (hn : cs.length = Nat.min sLen dLen)
    (hsrc : ∀ j v, cs[j]? = some v → w.cell? (ad.add j) = some v) (hc : ∀ j, j < cs.length → (w.cell? ⟨b, off + j, none⟩).isSome = true) (hf : ∀ j, j < cs.length → w.frozen? ⟨b, off + j, none⟩ = false) (h1 : ∀ v ∈ cs, v.oneCell' = true)
    (h : K (a.put o.dst (goInt cs.length)) (w.setCells b off cs)) : if Region.wanted o (yielded ops a.tmps) = true then Oper.wp P o a w K Q else F := by
  have hw : Region.wanted o (yielded ops a.tmps) = true := by simp [Region.wanted, hgd]
  rw [if_pos hw]
  have hrun := run_copy_cells (P := P) w dT sT o.type elem b off dLen dCap ad sLen sCap cs hu hsz hn hsrc hc hf h1
  unfold Oper.wp
  simp [execOp, ho, resolve, invoke, builtin, hd, hs, hrun, Result.andThen]
  exact h

set_option maxHeartbeats 4000000 in
set_option maxRecDepth 100000 in
theorem specJoin_no1 (t a p q t' a' : Int) (ac : List (List Bool)) (nx : List (List (List Bool))) (bc : List (List Bool)) (ny : List (List (List Bool))) (hs : SmallM ac nx) (hs2 : SmallM bc ny) (hv1 : validM t a p ac nx = false) (A B A2 B2 : Option Addr) (C D C2 D2 : Nat) (w : World) (hA0 : BB 0 w ac A) (hB0 : BBB 0 w nx B) (hA20 : BB 0 w bc A2) (hB20 : BBB 0 w ny B2) :
    Calls Try.prog 11 #[.agg #[.int .i64 t, .int .i64 a, .int .i64 p, .slice A ac.length C, .slice B nx.length D], .agg #[.int .i64 t', .int .i64 a', .int .i64 q, .slice A2 bc.length C2, .slice B2 ny.length D2]] w (MEnd 0 0 0 [] [] 1 w) := by
  obtain ⟨w0, hw0⟩ : ∃ w0, w0 = ((w.alloc (.cells #[.int .i64 t, .int .i64 a, .int .i64 p, .slice A ac.length C, .slice B nx.length D] 31)).alloc (.cells #[.int .i64 t', .int .i64 a', .int .i64 q, .slice A2 bc.length C2, .slice B2 ny.length D2] 31)).alloc (.cells #[.int .i64 0, .int .i64 0, .int .i64 0, .slice none 0 0, .slice none 0 0] 31) := ⟨_, rfl⟩
  have B0 : Sees w w0 := by rw [hw0]; exact (((Sees.refl w).alloc _).alloc _).alloc _
  have hA := hA0.sees B0; have hB := hB0.sees B0; have hA2 := hA20.sees B0; have hB2 := hB20.sees B0
  have hc0 : w0.heap[w.heap.size]? = some (.cells #[.int .i64 t, .int .i64 a, .int .i64 p, .slice A ac.length C, .slice B nx.length D] 31 (0, 0)) := by
    rw [hw0]; exact (Below.heap_alloc _ _ _ (by simp; omega)).trans ((Below.heap_alloc _ _ _ (by simp)).trans (heap_new _ _ _ rfl))
  have hd0 : w0.heap[w.heap.size + 1]? = some (.cells #[.int .i64 t', .int .i64 a', .int .i64 q, .slice A2 bc.length C2, .slice B2 ny.length D2] 31 (0, 0)) := by
    rw [hw0]; exact (Below.heap_alloc _ _ _ (by simp)).trans (heap_new _ _ _ (by simp))
  have hr0 : w0.heap[w.heap.size + 1 + 1]? = some (.cells #[.int .i64 0, .int .i64 0, .int .i64 0, .slice none 0 0, .slice none 0 0] 31 (0, 0)) := by
    rw [hw0]; exact heap_new _ _ _ (by simp)
  have z0 : w.heap.size + 3 ≤ w0.heap.size := by rw [hw0]; simp
  have K1 : Hid (∀ W : World, Sees w0 W → Calls Try.prog 61 #[.pointer (some ⟨w.heap.size, 0, none⟩)] W fun e w' => e = .returned (.bool false) ∧ Below W.heap.size W w') := fun W h => by
    obtain ⟨g0, g1, g2, g3, g4, _, _, _, _, _⟩ := five_facts ((h.block _ (by omega)).trans hc0)
    rw [← hv1]; exact l05Ok_any _ _ _ ac nx hs A B C D _ W (hA.sees h) (hB.sees h) g0 g1 g2 g3 g4
  have HC0 := Lib.hid hc0; have HD0 := Lib.hid hd0; have HR0 := Lib.hid hr0
  have FIN : Hid (∀ W : World, Below w0.heap.size w0 W → Sees w W) := fun W h => B0.below h
  clear hA hB hA2 hB2 hA0 hB0 hA20 hB20 hs hs2 B0 hc0 hd0 hr0 hv1
  obtain ⟨c0, c1, c2, c3, c4, _, _, _, _, _⟩ := five_facts HC0.out
  obtain ⟨d0, d1, d2, d3, d4, _, _, _, _, _⟩ := five_facts HD0.out
  go_enter Try.func11, Try.ntmps11
  have HW0 := Lib.hid hw0
  go_wp2_with fail
  rw [← hw0]
  clear hw0
  refine (K1.out _ (Sees.refl _)).mono ?_
  rintro e w1 ⟨rfl, hb⟩
  have HB1 := Lib.hid hb
  have HC1 := Lib.hid ((hb.block _ (by omega)).trans HC0.out)
  have HD1 := Lib.hid ((hb.block _ (by omega)).trans HD0.out)
  have HR1 := Lib.hid ((hb.block _ (by omega)).trans HR0.out)
  have z1 : w.heap.size + 3 ≤ w1.heap.size := Nat.le_trans z0 hb.size
  clear hb K1 c0 c1 c2 c3 c4 d0 d1 d2 d3 d4
  obtain ⟨c0, c1, c2, c3, c4, _, _, _, _, _⟩ := five_facts HC1.out
  obtain ⟨d0, d1, d2, d3, d4, _, _, _, _, _⟩ := five_facts HD1.out
  obtain ⟨u0, u1, u2, u3, u4, x0, x1, x2, x3, x4⟩ := five_facts HR1.out
  go_wp2_with fail
  obtain ⟨y0, y1, y2, y3, y4, _, _, _, _, _⟩ := five_facts (five_block HR1.out (.int .i64 0) (.int .i64 0) (.int .i64 0) (.slice none 0 0) (.slice none 0 0))
  refine bodyPost_ret (v := .tuple #[.agg #[.int .i64 0, .int .i64 0, .int .i64 0, .slice none 0 0, .slice none 0 0], .int .i64 1]) (by simp [results, Try.results11, go_sem, y0, y1, y2, y3, y4]) rfl ?_
  exact MEnd.no (five_below (FIN.out _ HB1.out) (by omega) _ _ _ _ _)
set_option maxHeartbeats 4000000 in
set_option maxRecDepth 100000 in
theorem specJoin_no2 (t a p q t' a' : Int) (ac : List (List Bool)) (nx : List (List (List Bool))) (bc : List (List Bool)) (ny : List (List (List Bool))) (hs : SmallM ac nx) (hs2 : SmallM bc ny) (hv1 : validM t a p ac nx = true) (hv2 : validM t' a' q bc ny = false) (A B A2 B2 : Option Addr) (C D C2 D2 : Nat) (w : World) (hA0 : BB 0 w ac A) (hB0 : BBB 0 w nx B) (hA20 : BB 0 w bc A2) (hB20 : BBB 0 w ny B2) :
    Calls Try.prog 11 #[.agg #[.int .i64 t, .int .i64 a, .int .i64 p, .slice A ac.length C, .slice B nx.length D], .agg #[.int .i64 t', .int .i64 a', .int .i64 q, .slice A2 bc.length C2, .slice B2 ny.length D2]] w (MEnd 0 0 0 [] [] 1 w) := by
  obtain ⟨w0, hw0⟩ : ∃ w0, w0 = ((w.alloc (.cells #[.int .i64 t, .int .i64 a, .int .i64 p, .slice A ac.length C, .slice B nx.length D] 31)).alloc (.cells #[.int .i64 t', .int .i64 a', .int .i64 q, .slice A2 bc.length C2, .slice B2 ny.length D2] 31)).alloc (.cells #[.int .i64 0, .int .i64 0, .int .i64 0, .slice none 0 0, .slice none 0 0] 31) := ⟨_, rfl⟩
  have B0 : Sees w w0 := by rw [hw0]; exact (((Sees.refl w).alloc _).alloc _).alloc _
  have hA := hA0.sees B0; have hB := hB0.sees B0; have hA2 := hA20.sees B0; have hB2 := hB20.sees B0
  have hc0 : w0.heap[w.heap.size]? = some (.cells #[.int .i64 t, .int .i64 a, .int .i64 p, .slice A ac.length C, .slice B nx.length D] 31 (0, 0)) := by
    rw [hw0]; exact (Below.heap_alloc _ _ _ (by simp; omega)).trans ((Below.heap_alloc _ _ _ (by simp)).trans (heap_new _ _ _ rfl))
  have hd0 : w0.heap[w.heap.size + 1]? = some (.cells #[.int .i64 t', .int .i64 a', .int .i64 q, .slice A2 bc.length C2, .slice B2 ny.length D2] 31 (0, 0)) := by
    rw [hw0]; exact (Below.heap_alloc _ _ _ (by simp)).trans (heap_new _ _ _ (by simp))
  have hr0 : w0.heap[w.heap.size + 1 + 1]? = some (.cells #[.int .i64 0, .int .i64 0, .int .i64 0, .slice none 0 0, .slice none 0 0] 31 (0, 0)) := by
    rw [hw0]; exact heap_new _ _ _ (by simp)
  have z0 : w.heap.size + 3 ≤ w0.heap.size := by rw [hw0]; simp
  have K1 : Hid (∀ W : World, Sees w0 W → Calls Try.prog 61 #[.pointer (some ⟨w.heap.size, 0, none⟩)] W fun e w' => e = .returned (.bool true) ∧ Below W.heap.size W w') := fun W h => by
    obtain ⟨g0, g1, g2, g3, g4, _, _, _, _, _⟩ := five_facts ((h.block _ (by omega)).trans hc0)
    rw [← hv1]; exact l05Ok_any _ _ _ ac nx hs A B C D _ W (hA.sees h) (hB.sees h) g0 g1 g2 g3 g4
  have K2 : Hid (∀ W : World, Sees w0 W → Calls Try.prog 61 #[.pointer (some ⟨w.heap.size + 1, 0, none⟩)] W fun e w' => e = .returned (.bool false) ∧ Below W.heap.size W w') := fun W h => by
    obtain ⟨g0, g1, g2, g3, g4, _, _, _, _, _⟩ := five_facts ((h.block _ (by omega)).trans hd0)
    rw [← hv2]; exact l05Ok_any _ _ _ bc ny hs2 A2 B2 C2 D2 _ W (hA2.sees h) (hB2.sees h) g0 g1 g2 g3 g4
  have HC0 := Lib.hid hc0; have HD0 := Lib.hid hd0; have HR0 := Lib.hid hr0
  have FIN : Hid (∀ W : World, Below w0.heap.size w0 W → Sees w W) := fun W h => B0.below h
  clear hA hB hA2 hB2 hA0 hB0 hA20 hB20 hs hs2 B0 hc0 hd0 hr0 hv1 hv2
  obtain ⟨c0, c1, c2, c3, c4, _, _, _, _, _⟩ := five_facts HC0.out
  obtain ⟨d0, d1, d2, d3, d4, _, _, _, _, _⟩ := five_facts HD0.out
  go_enter Try.func11, Try.ntmps11
  have HW0 := Lib.hid hw0
  go_wp2_with fail
  rw [← hw0]
  clear hw0
  refine (K1.out _ (Sees.refl _)).mono ?_
  rintro e w1 ⟨rfl, hb⟩
  have HB1 := Lib.hid hb
  have HC1 := Lib.hid ((hb.block _ (by omega)).trans HC0.out)
  have HD1 := Lib.hid ((hb.block _ (by omega)).trans HD0.out)
  have HR1 := Lib.hid ((hb.block _ (by omega)).trans HR0.out)
  have z1 : w.heap.size + 3 ≤ w1.heap.size := Nat.le_trans z0 hb.size
  clear hb K1 c0 c1 c2 c3 c4 d0 d1 d2 d3 d4
  obtain ⟨c0, c1, c2, c3, c4, _, _, _, _, _⟩ := five_facts HC1.out
  obtain ⟨d0, d1, d2, d3, d4, _, _, _, _, _⟩ := five_facts HD1.out
  go_wp2_with fail
  refine (K2.out _ HB1.out).mono ?_
  rintro e w2 ⟨rfl, hb⟩
  have HB2 := Lib.hid (HB1.out.trans (hb.mono HB1.out.size))
  have HC2 := Lib.hid ((hb.block _ (by omega)).trans HC1.out)
  have HD2 := Lib.hid ((hb.block _ (by omega)).trans HD1.out)
  have HR2 := Lib.hid ((hb.block _ (by omega)).trans HR1.out)
  have z2 : w.heap.size + 3 ≤ w2.heap.size := Nat.le_trans z1 hb.size
  clear hb K2 c0 c1 c2 c3 c4 d0 d1 d2 d3 d4
  obtain ⟨c0, c1, c2, c3, c4, _, _, _, _, _⟩ := five_facts HC2.out
  obtain ⟨d0, d1, d2, d3, d4, _, _, _, _, _⟩ := five_facts HD2.out
  obtain ⟨u0, u1, u2, u3, u4, x0, x1, x2, x3, x4⟩ := five_facts HR2.out
  go_wp2_with fail
  obtain ⟨y0, y1, y2, y3, y4, _, _, _, _, _⟩ := five_facts (five_block HR2.out (.int .i64 0) (.int .i64 0) (.int .i64 0) (.slice none 0 0) (.slice none 0 0))
  refine bodyPost_ret (v := .tuple #[.agg #[.int .i64 0, .int .i64 0, .int .i64 0, .slice none 0 0, .slice none 0 0], .int .i64 1]) (by simp [results, Try.results11, go_sem, y0, y1, y2, y3, y4]) rfl ?_
  exact MEnd.no (five_below (FIN.out _ HB2.out) (by omega) _ _ _ _ _)
set_option maxHeartbeats 4000000 in
set_option maxRecDepth 100000 in
theorem specJoin_far (t a p q t' a' : Int) (ac : List (List Bool)) (nx : List (List (List Bool))) (bc : List (List Bool)) (ny : List (List (List Bool))) (hs : SmallM ac nx) (hs2 : SmallM bc ny) (hv1 : validM t a p ac nx = true) (hv2 : validM t' a' q bc ny = true) (hne : ¬ (t = t' ∧ a = a')) (A B A2 B2 : Option Addr) (C D C2 D2 : Nat) (w : World) (hA0 : BB 0 w ac A) (hB0 : BBB 0 w nx B) (hA20 : BB 0 w bc A2) (hB20 : BBB 0 w ny B2) :
    Calls Try.prog 11 #[.agg #[.int .i64 t, .int .i64 a, .int .i64 p, .slice A ac.length C, .slice B nx.length D], .agg #[.int .i64 t', .int .i64 a', .int .i64 q, .slice A2 bc.length C2, .slice B2 ny.length D2]] w (MEnd 0 0 0 [] [] 2 w) := by
  obtain ⟨w0, hw0⟩ : ∃ w0, w0 = ((w.alloc (.cells #[.int .i64 t, .int .i64 a, .int .i64 p, .slice A ac.length C, .slice B nx.length D] 31)).alloc (.cells #[.int .i64 t', .int .i64 a', .int .i64 q, .slice A2 bc.length C2, .slice B2 ny.length D2] 31)).alloc (.cells #[.int .i64 0, .int .i64 0, .int .i64 0, .slice none 0 0, .slice none 0 0] 31) := ⟨_, rfl⟩
  have B0 : Sees w w0 := by rw [hw0]; exact (((Sees.refl w).alloc _).alloc _).alloc _
  have hA := hA0.sees B0; have hB := hB0.sees B0; have hA2 := hA20.sees B0; have hB2 := hB20.sees B0
  have hc0 : w0.heap[w.heap.size]? = some (.cells #[.int .i64 t, .int .i64 a, .int .i64 p, .slice A ac.length C, .slice B nx.length D] 31 (0, 0)) := by
    rw [hw0]; exact (Below.heap_alloc _ _ _ (by simp; omega)).trans ((Below.heap_alloc _ _ _ (by simp)).trans (heap_new _ _ _ rfl))
  have hd0 : w0.heap[w.heap.size + 1]? = some (.cells #[.int .i64 t', .int .i64 a', .int .i64 q, .slice A2 bc.length C2, .slice B2 ny.length D2] 31 (0, 0)) := by
    rw [hw0]; exact (Below.heap_alloc _ _ _ (by simp)).trans (heap_new _ _ _ (by simp))
  have hr0 : w0.heap[w.heap.size + 1 + 1]? = some (.cells #[.int .i64 0, .int .i64 0, .int .i64 0, .slice none 0 0, .slice none 0 0] 31 (0, 0)) := by
    rw [hw0]; exact heap_new _ _ _ (by simp)
  have z0 : w.heap.size + 3 ≤ w0.heap.size := by rw [hw0]; simp
  have K1 : Hid (∀ W : World, Sees w0 W → Calls Try.prog 61 #[.pointer (some ⟨w.heap.size, 0, none⟩)] W fun e w' => e = .returned (.bool true) ∧ Below W.heap.size W w') := fun W h => by
    obtain ⟨g0, g1, g2, g3, g4, _, _, _, _, _⟩ := five_facts ((h.block _ (by omega)).trans hc0)
    rw [← hv1]; exact l05Ok_any _ _ _ ac nx hs A B C D _ W (hA.sees h) (hB.sees h) g0 g1 g2 g3 g4
  have K2 : Hid (∀ W : World, Sees w0 W → Calls Try.prog 61 #[.pointer (some ⟨w.heap.size + 1, 0, none⟩)] W fun e w' => e = .returned (.bool true) ∧ Below W.heap.size W w') := fun W h => by
    obtain ⟨g0, g1, g2, g3, g4, _, _, _, _, _⟩ := five_facts ((h.block _ (by omega)).trans hd0)
    rw [← hv2]; exact l05Ok_any _ _ _ bc ny hs2 A2 B2 C2 D2 _ W (hA2.sees h) (hB2.sees h) g0 g1 g2 g3 g4
  have HC0 := Lib.hid hc0; have HD0 := Lib.hid hd0; have HR0 := Lib.hid hr0
  have FIN : Hid (∀ W : World, Below w0.heap.size w0 W → Sees w W) := fun W h => B0.below h
  clear hA hB hA2 hB2 hA0 hB0 hA20 hB20 hs hs2 B0 hc0 hd0 hr0 hv1 hv2
  obtain ⟨c0, c1, c2, c3, c4, _, _, _, _, _⟩ := five_facts HC0.out
  obtain ⟨d0, d1, d2, d3, d4, _, _, _, _, _⟩ := five_facts HD0.out
  go_enter Try.func11, Try.ntmps11
  have HW0 := Lib.hid hw0
  go_wp2_with fail
  rw [← hw0]
  clear hw0
  refine (K1.out _ (Sees.refl _)).mono ?_
  rintro e w1 ⟨rfl, hb⟩
  have HB1 := Lib.hid hb
  have HC1 := Lib.hid ((hb.block _ (by omega)).trans HC0.out)
  have HD1 := Lib.hid ((hb.block _ (by omega)).trans HD0.out)
  have HR1 := Lib.hid ((hb.block _ (by omega)).trans HR0.out)
  have z1 : w.heap.size + 3 ≤ w1.heap.size := Nat.le_trans z0 hb.size
  clear hb K1 c0 c1 c2 c3 c4 d0 d1 d2 d3 d4
  obtain ⟨c0, c1, c2, c3, c4, _, _, _, _, _⟩ := five_facts HC1.out
  obtain ⟨d0, d1, d2, d3, d4, _, _, _, _, _⟩ := five_facts HD1.out
  go_wp2_with fail
  refine (K2.out _ HB1.out).mono ?_
  rintro e w2 ⟨rfl, hb⟩
  have HB2 := Lib.hid (HB1.out.trans (hb.mono HB1.out.size))
  have HC2 := Lib.hid ((hb.block _ (by omega)).trans HC1.out)
  have HD2 := Lib.hid ((hb.block _ (by omega)).trans HD1.out)
  have HR2 := Lib.hid ((hb.block _ (by omega)).trans HR1.out)
  have z2 : w.heap.size + 3 ≤ w2.heap.size := Nat.le_trans z1 hb.size
  clear hb K2 c0 c1 c2 c3 c4 d0 d1 d2 d3 d4
  obtain ⟨c0, c1, c2, c3, c4, _, _, _, _, _⟩ := five_facts HC2.out
  obtain ⟨d0, d1, d2, d3, d4, _, _, _, _, _⟩ := five_facts HD2.out
  obtain ⟨u0, u1, u2, u3, u4, x0, x1, x2, x3, x4⟩ := five_facts HR2.out
  go_wp2_with fail
  all_goals
    obtain ⟨y0, y1, y2, y3, y4, _, _, _, _, _⟩ := five_facts (five_block HR2.out (.int .i64 0) (.int .i64 0) (.int .i64 0) (.slice none 0 0) (.slice none 0 0))
    refine bodyPost_ret (v := .tuple #[.agg #[.int .i64 0, .int .i64 0, .int .i64 0, .slice none 0 0, .slice none 0 0], .int .i64 2]) (by simp [results, Try.results11, go_sem, y0, y1, y2, y3, y4]) rfl ?_
    exact MEnd.no (five_below (FIN.out _ HB2.out) (by omega) _ _ _ _ _)
set_option maxHeartbeats 4000000 in
set_option maxRecDepth 100000 in
theorem specJoin_big (t a p q : Int) (ac : List (List Bool)) (nx : List (List (List Bool))) (bc : List (List Bool)) (ny : List (List (List Bool))) (hs : SmallM ac nx) (hs2 : SmallM bc ny) (hv1 : validM t a p ac nx = true) (hv2 : validM t a q bc ny = true) (hbig : ¬ p + q ≤ 8) (A B A2 B2 : Option Addr) (C D C2 D2 : Nat) (w : World) (hA0 : BB 0 w ac A) (hB0 : BBB 0 w nx B) (hA20 : BB 0 w bc A2) (hB20 : BBB 0 w ny B2) :
    Calls Try.prog 11 #[.agg #[.int .i64 t, .int .i64 a, .int .i64 p, .slice A ac.length C, .slice B nx.length D], .agg #[.int .i64 t, .int .i64 a, .int .i64 q, .slice A2 bc.length C2, .slice B2 ny.length D2]] w (MEnd 0 0 0 [] [] 3 w) := by
  obtain ⟨_, _, _, _, hp1, hp8, _, _, _, _⟩ := validM_bd hv1
  obtain ⟨_, _, _, _, hq1, hq8, _, _, _, _⟩ := validM_bd hv2
  obtain ⟨w0, hw0⟩ : ∃ w0, w0 = ((w.alloc (.cells #[.int .i64 t, .int .i64 a, .int .i64 p, .slice A ac.length C, .slice B nx.length D] 31)).alloc (.cells #[.int .i64 t, .int .i64 a, .int .i64 q, .slice A2 bc.length C2, .slice B2 ny.length D2] 31)).alloc (.cells #[.int .i64 0, .int .i64 0, .int .i64 0, .slice none 0 0, .slice none 0 0] 31) := ⟨_, rfl⟩
  have B0 : Sees w w0 := by rw [hw0]; exact (((Sees.refl w).alloc _).alloc _).alloc _
  have hA := hA0.sees B0; have hB := hB0.sees B0; have hA2 := hA20.sees B0; have hB2 := hB20.sees B0
  have hc0 : w0.heap[w.heap.size]? = some (.cells #[.int .i64 t, .int .i64 a, .int .i64 p, .slice A ac.length C, .slice B nx.length D] 31 (0, 0)) := by
    rw [hw0]; exact (Below.heap_alloc _ _ _ (by simp; omega)).trans ((Below.heap_alloc _ _ _ (by simp)).trans (heap_new _ _ _ rfl))
  have hd0 : w0.heap[w.heap.size + 1]? = some (.cells #[.int .i64 t, .int .i64 a, .int .i64 q, .slice A2 bc.length C2, .slice B2 ny.length D2] 31 (0, 0)) := by
    rw [hw0]; exact (Below.heap_alloc _ _ _ (by simp)).trans (heap_new _ _ _ (by simp))
  have hr0 : w0.heap[w.heap.size + 1 + 1]? = some (.cells #[.int .i64 0, .int .i64 0, .int .i64 0, .slice none 0 0, .slice none 0 0] 31 (0, 0)) := by
    rw [hw0]; exact heap_new _ _ _ (by simp)
  have z0 : w.heap.size + 3 ≤ w0.heap.size := by rw [hw0]; simp
  have K1 : Hid (∀ W : World, Sees w0 W → Calls Try.prog 61 #[.pointer (some ⟨w.heap.size, 0, none⟩)] W fun e w' => e = .returned (.bool true) ∧ Below W.heap.size W w') := fun W h => by
    obtain ⟨g0, g1, g2, g3, g4, _, _, _, _, _⟩ := five_facts ((h.block _ (by omega)).trans hc0)
    rw [← hv1]; exact l05Ok_any _ _ _ ac nx hs A B C D _ W (hA.sees h) (hB.sees h) g0 g1 g2 g3 g4
  have K2 : Hid (∀ W : World, Sees w0 W → Calls Try.prog 61 #[.pointer (some ⟨w.heap.size + 1, 0, none⟩)] W fun e w' => e = .returned (.bool true) ∧ Below W.heap.size W w') := fun W h => by
    obtain ⟨g0, g1, g2, g3, g4, _, _, _, _, _⟩ := five_facts ((h.block _ (by omega)).trans hd0)
    rw [← hv2]; exact l05Ok_any _ _ _ bc ny hs2 A2 B2 C2 D2 _ W (hA2.sees h) (hB2.sees h) g0 g1 g2 g3 g4
  have HC0 := Lib.hid hc0; have HD0 := Lib.hid hd0; have HR0 := Lib.hid hr0
  have FIN : Hid (∀ W : World, Below w0.heap.size w0 W → Sees w W) := fun W h => B0.below h
  have y4 : IntKind.i64.wrap (p + q) = p + q := IntWalk.i64_in _ (by omega)
  have y5 : (8 : Int) < p + q := by omega
  clear hA hB hA2 hB2 hA0 hB0 hA20 hB20 hs hs2 B0 hc0 hd0 hr0 hv1 hv2
  obtain ⟨c0, c1, c2, c3, c4, _, _, _, _, _⟩ := five_facts HC0.out
  obtain ⟨d0, d1, d2, d3, d4, _, _, _, _, _⟩ := five_facts HD0.out
  go_enter Try.func11, Try.ntmps11
  have HW0 := Lib.hid hw0
  go_wp2_with fail
  rw [← hw0]
  clear hw0
  refine (K1.out _ (Sees.refl _)).mono ?_
  rintro e w1 ⟨rfl, hb⟩
  have HB1 := Lib.hid hb
  have HC1 := Lib.hid ((hb.block _ (by omega)).trans HC0.out)
  have HD1 := Lib.hid ((hb.block _ (by omega)).trans HD0.out)
  have HR1 := Lib.hid ((hb.block _ (by omega)).trans HR0.out)
  have z1 : w.heap.size + 3 ≤ w1.heap.size := Nat.le_trans z0 hb.size
  clear hb K1 c0 c1 c2 c3 c4 d0 d1 d2 d3 d4
  obtain ⟨c0, c1, c2, c3, c4, _, _, _, _, _⟩ := five_facts HC1.out
  obtain ⟨d0, d1, d2, d3, d4, _, _, _, _, _⟩ := five_facts HD1.out
  go_wp2_with fail
  refine (K2.out _ HB1.out).mono ?_
  rintro e w2 ⟨rfl, hb⟩
  have HB2 := Lib.hid (HB1.out.trans (hb.mono HB1.out.size))
  have HC2 := Lib.hid ((hb.block _ (by omega)).trans HC1.out)
  have HD2 := Lib.hid ((hb.block _ (by omega)).trans HD1.out)
  have HR2 := Lib.hid ((hb.block _ (by omega)).trans HR1.out)
  have z2 : w.heap.size + 3 ≤ w2.heap.size := Nat.le_trans z1 hb.size
  clear hb K2 c0 c1 c2 c3 c4 d0 d1 d2 d3 d4
  obtain ⟨c0, c1, c2, c3, c4, _, _, _, _, _⟩ := five_facts HC2.out
  obtain ⟨d0, d1, d2, d3, d4, _, _, _, _, _⟩ := five_facts HD2.out
  obtain ⟨u0, u1, u2, u3, u4, x0, x1, x2, x3, x4⟩ := five_facts HR2.out
  go_wp2_with fail
  obtain ⟨y0, y1, y2, y3, y4, _, _, _, _, _⟩ := five_facts (five_block HR2.out (.int .i64 0) (.int .i64 0) (.int .i64 0) (.slice none 0 0) (.slice none 0 0))
  refine bodyPost_ret (v := .tuple #[.agg #[.int .i64 0, .int .i64 0, .int .i64 0, .slice none 0 0, .slice none 0 0], .int .i64 3]) (by simp [results, Try.results11, go_sem, y0, y1, y2, y3, y4]) rfl ?_
  exact MEnd.no (five_below (FIN.out _ HB2.out) (by omega) _ _ _ _ _)
set_option maxHeartbeats 4000000 in
set_option maxRecDepth 100000 in
theorem specJoin_yes (t a p q : Nat) (ac : List (List Bool)) (nx : List (List (List Bool))) (bc : List (List Bool)) (ny : List (List (List Bool))) (hs : SmallM ac nx) (hs2 : SmallM bc ny) (hv1 : validM t a p ac nx = true) (hv2 : validM t a q bc ny = true) (hpq : p + q ≤ 8) (A B A2 B2 : Option Addr) (C D C2 D2 : Nat) (w : World) (hA0 : BB 0 w ac A) (hB0 : BBB 0 w nx B) (hA20 : BB 0 w bc A2) (hB20 : BBB 0 w ny B2) :
    Calls Try.prog 11 #[.agg #[.int .i64 (t : Int), .int .i64 (a : Int), .int .i64 (p : Int), .slice A ac.length C, .slice B nx.length D], .agg #[.int .i64 (t : Int), .int .i64 (a : Int), .int .i64 (q : Int), .slice A2 bc.length C2, .slice B2 ny.length D2]] w (MEnd t a ((p : Int) + q) (jmT t p q ac bc) (jmA a p q nx ny) 0 w) := by
  obtain ⟨_, ht3, _, ha4, hp1, hp8, hal, hnl, har, hnr⟩ := validM_bd hv1
  obtain ⟨_, _, _, _, hq1, hq8, hbl, hml, hbr, hmr⟩ := validM_bd hv2
  have hal' : ac.length = t := by omega
  have hnl' : nx.length = a := by omega
  have hbl' : bc.length = t := by omega
  have hml' : ny.length = a := by omega
  have HAR : Hid (∀ r ∈ ac, r.length = p) := fun r hr => by have := har r hr; omega
  have HBR : Hid (∀ r ∈ bc, r.length = q) := fun r hr => by have := hbr r hr; omega
  have HNR : Hid (∀ rows ∈ nx, rows.length = p ∧ ∀ r ∈ rows, r.length = p) := fun rows hr => ⟨by have := (hnr rows hr).1; omega, fun r h => by have := (hnr rows hr).2 r h; omega⟩
  have HMR : Hid (∀ rows ∈ ny, rows.length = q ∧ ∀ r ∈ rows, r.length = q) := fun rows hr => ⟨by have := (hmr rows hr).1; omega, fun r h => by have := (hmr rows hr).2 r h; omega⟩
  obtain ⟨w0, hw0⟩ : ∃ w0, w0 = ((w.alloc (.cells #[.int .i64 (t : Int), .int .i64 (a : Int), .int .i64 (p : Int), .slice A ac.length C, .slice B nx.length D] 31)).alloc (.cells #[.int .i64 (t : Int), .int .i64 (a : Int), .int .i64 (q : Int), .slice A2 bc.length C2, .slice B2 ny.length D2] 31)).alloc (.cells #[.int .i64 0, .int .i64 0, .int .i64 0, .slice none 0 0, .slice none 0 0] 31) := ⟨_, rfl⟩
  have B0 : Sees w w0 := by rw [hw0]; exact (((Sees.refl w).alloc _).alloc _).alloc _
  have hA := hA0.sees B0; have hB := hB0.sees B0; have hA2 := hA20.sees B0; have hB2 := hB20.sees B0
  have hc0 : w0.heap[w.heap.size]? = some (.cells #[.int .i64 (t : Int), .int .i64 (a : Int), .int .i64 (p : Int), .slice A ac.length C, .slice B nx.length D] 31 (0, 0)) := by
    rw [hw0]; exact (Below.heap_alloc _ _ _ (by simp; omega)).trans ((Below.heap_alloc _ _ _ (by simp)).trans (heap_new _ _ _ rfl))
  have hd0 : w0.heap[w.heap.size + 1]? = some (.cells #[.int .i64 (t : Int), .int .i64 (a : Int), .int .i64 (q : Int), .slice A2 bc.length C2, .slice B2 ny.length D2] 31 (0, 0)) := by
    rw [hw0]; exact (Below.heap_alloc _ _ _ (by simp)).trans (heap_new _ _ _ (by simp))
  have hr0 : w0.heap[w.heap.size + 1 + 1]? = some (.cells #[.int .i64 0, .int .i64 0, .int .i64 0, .slice none 0 0, .slice none 0 0] 31 (0, 0)) := by
    rw [hw0]; exact heap_new _ _ _ (by simp)
  have z0 : w.heap.size + 3 ≤ w0.heap.size := by rw [hw0]; simp
  have K1 : Hid (∀ W : World, Sees w0 W → Calls Try.prog 61 #[.pointer (some ⟨w.heap.size, 0, none⟩)] W fun e w' => e = .returned (.bool true) ∧ Below W.heap.size W w') := fun W h => by
    obtain ⟨g0, g1, g2, g3, g4, _, _, _, _, _⟩ := five_facts ((h.block _ (by omega)).trans hc0)
    rw [← hv1]; exact l05Ok_any _ _ _ ac nx hs A B C D _ W (hA.sees h) (hB.sees h) g0 g1 g2 g3 g4
  have K2 : Hid (∀ W : World, Sees w0 W → Calls Try.prog 61 #[.pointer (some ⟨w.heap.size + 1, 0, none⟩)] W fun e w' => e = .returned (.bool true) ∧ Below W.heap.size W w') := fun W h => by
    obtain ⟨g0, g1, g2, g3, g4, _, _, _, _, _⟩ := five_facts ((h.block _ (by omega)).trans hd0)
    rw [← hv2]; exact l05Ok_any _ _ _ bc ny hs2 A2 B2 C2 D2 _ W (hA2.sees h) (hB2.sees h) g0 g1 g2 g3 g4
  have HC0 := Lib.hid hc0; have HD0 := Lib.hid hd0; have HR0 := Lib.hid hr0
  have FIN : Hid (∀ W : World, Below w0.heap.size w0 W → Sees w W) := fun W h => B0.below h
  have HA := Lib.hid hA; have HB := Lib.hid hB; have HA2 := Lib.hid hA2; have HB2m := Lib.hid hB2
  have y4 : IntKind.i64.wrap ((p : Int) + (q : Int)) = (p : Int) + (q : Int) := IntWalk.i64_in _ (by omega)
  have y5 : ¬ (8 : Int) < (p : Int) + (q : Int) := by omega
  have KN : Hid (∀ W : World, Calls Try.prog 62 #[.int .i64 ((p : Int) + (q : Int))] W fun e w' => ∃ A C, e = .returned (.slice A (p + q) C) ∧ BBX w' (tab (p + q) (p + q) off2) A (rng W.heap.size w'.heap.size) ∧ Below W.heap.size W w') := fun W => by
    have h := l05NoneX_any (p + q) hpq W
    rw [show ((p + q : Nat) : Int) = (p : Int) + (q : Int) by omega] at h
    have e : List.replicate (p + q) (List.replicate (p + q) false) = tab (p + q) (p + q) off2 := by simp [tab, off2, List.map_const']
    rw [e] at h
    exact h
  have HPQ := Lib.hid hpq
  have HAL := Lib.hid hal'; have HNL := Lib.hid hnl'; have HBL := Lib.hid hbl'; have HML := Lib.hid hml'
  have ht3' : t ≤ 3 := by omega
  have ha4' : a ≤ 4 := by omega
  have hp1' : 1 ≤ p := by omega
  have hq1' : 1 ≤ q := by omega
  have HT3 := Lib.hid ht3'; have HA4 := Lib.hid ha4'; have HP1 := Lib.hid hp1'; have HQ1 := Lib.hid hq1'
  rw [hal', hnl'] at HC0
  rw [hbl', hml'] at HD0
  rw [hal', hnl', hbl', hml'] at hw0
  rw [hal', hnl', hbl', hml']
  clear hA hB hA2 hB2 hA0 hB0 hA20 hB20 hs hs2 B0 hc0 hd0 hr0 hv1 hv2 ht3 ha4 hp1 hp8 hal hnl har hnr hq1 hq8 hbl hml hbr hmr hal' hnl' hbl' hml' hpq ht3' ha4' hp1' hq1'
  obtain ⟨c0, c1, c2, c3, c4, _, _, _, _, _⟩ := five_facts HC0.out
  obtain ⟨d0, d1, d2, d3, d4, _, _, _, _, _⟩ := five_facts HD0.out
  go_enter Try.func11, Try.ntmps11
  have HW0 := Lib.hid hw0
  go_wp2_with fail
  rw [← hw0]
  clear hw0
  refine (K1.out _ (Sees.refl _)).mono ?_
  rintro e w1 ⟨rfl, hb⟩
  have HB1 := Lib.hid hb
  have HC1 := Lib.hid ((hb.block _ (by omega)).trans HC0.out)
  have HD1 := Lib.hid ((hb.block _ (by omega)).trans HD0.out)
  have HR1 := Lib.hid ((hb.block _ (by omega)).trans HR0.out)
  have z1 : w.heap.size + 3 ≤ w1.heap.size := Nat.le_trans z0 hb.size
  clear hb K1 c0 c1 c2 c3 c4 d0 d1 d2 d3 d4
  obtain ⟨c0, c1, c2, c3, c4, _, _, _, _, _⟩ := five_facts HC1.out
  obtain ⟨d0, d1, d2, d3, d4, _, _, _, _, _⟩ := five_facts HD1.out
  go_wp2_with fail
  refine (K2.out _ HB1.out).mono ?_
  rintro e w2 ⟨rfl, hb⟩
  have HB2 := Lib.hid (HB1.out.trans (hb.mono HB1.out.size))
  have HC2 := Lib.hid ((hb.block _ (by omega)).trans HC1.out)
  have HD2 := Lib.hid ((hb.block _ (by omega)).trans HD1.out)
  have HR2 := Lib.hid ((hb.block _ (by omega)).trans HR1.out)
  have z2 : w.heap.size + 3 ≤ w2.heap.size := Nat.le_trans z1 hb.size
  clear hb K2 c0 c1 c2 c3 c4 d0 d1 d2 d3 d4
  obtain ⟨c0, c1, c2, c3, c4, _, _, _, _, _⟩ := five_facts HC2.out
  obtain ⟨d0, d1, d2, d3, d4, _, _, _, _, _⟩ := five_facts HD2.out
  obtain ⟨w3, hw3⟩ : ∃ w3, w3 = w2.alloc (.cells #[.int .i64 (t : Int), .int .i64 (a : Int), .int .i64 ((p : Int) + (q : Int)), .slice none 0 0, .slice none 0 0] 31) := ⟨_, rfl⟩
  have hb3 : Below w2.heap.size w2 w3 := by rw [hw3]; exact (Below.refl _ _).alloc (Nat.le_refl _) _
  have hz3 : w2.heap.size < w3.heap.size := by rw [hw3]; simp
  have HZ3 := Lib.hid hz3
  have H3 : Hid (BA 104 BoolsF List.length (fun v => #[.int .i64 (t : Int), .int .i64 (a : Int), .int .i64 ((p : Int) + (q : Int)), v, .slice none 0 0]) w2.heap.size w3 ((jmT t p q ac bc).take 0) (.slice none 0 0) w3) := ⟨by rw [hw3]; exact heap_new _ _ _ rfl, Acc.start, ButF.refl _ _, hz3⟩
  have HB3 := Lib.hid hb3
  have S02 : Hid (Sees w0 w2) := HB2.out
  clear hb3 hz3
  have HW3 := Lib.hid hw3
  go_wp2_with fail
  rw [← hw3]
  clear hw3 c0 c1 c2 c3 c4 d0 d1 d2 d3 d4
  go_loopw [7] (fun i wr => ∃ (j : Nat) (v : Value), j ≤ t ∧ i = .int .i64 j ∧ Hid (BA 104 BoolsF List.length (fun v => #[.int .i64 (t : Int), .int .i64 (a : Int), .int .i64 ((p : Int) + (q : Int)), v, .slice none 0 0]) w2.heap.size w3 ((jmT t p q ac bc).take j) v wr)) (fun i _ => t - (intOf i).toNat)
  case atStart => exact ⟨0, _, Nat.zero_le _, rfl, H3.out⟩
  case round =>
    obtain ⟨j, v, hj, rfl, hS⟩ := hrel
    clear H3
    obtain ⟨w4, rfl⟩ : ∃ w4, w4 = wr := ⟨_, rfl⟩
    have B4 := Lib.hid (hS.out.but.old HB3.out)
    have HC4 := Lib.hid ((B4.out.block w.heap.size (by omega)).trans HC2.out)
    have HD4 := Lib.hid ((B4.out.block (w.heap.size + 1) (by omega)).trans HD2.out)
    obtain ⟨c0, c1, c2, c3, c4, _, _, _, _, _⟩ := five_facts HC4.out
    have zw1 : w2.heap.size < w4.heap.size := Nat.lt_of_lt_of_le HZ3.out hS.out.but.size
    have zw0 : w.heap.size + 3 ≤ w4.heap.size := by omega
    have s4 : Sees w0 w4 := S02.out.below B4.out
    have S04 := Lib.hid s4
    by_cases hjt : j < t
    · have JL := Lib.hid hjt
      have hja : j < ac.length := by rw [HAL.out]; exact hjt
      have hjb : j < bc.length := by rw [HBL.out]; exact hjt
      have hra : ac[j].length = p := HAR.out ac[j] (List.getElem_mem hja)
      have hrb : bc[j].length = q := HBR.out bc[j] (List.getElem_mem hjb)
      have hstep := jmT_step (p := p) (q := q) hjt hja hjb hra hrb
      obtain ⟨bA, oA, _, hAe, hat⟩ := (HA.out.sees S02.out) (by rintro rfl; simp at hja)
      obtain ⟨RA, DA, cA, qA⟩ := hat j ac[j] (List.getElem?_eq_getElem hja)
      obtain ⟨bB, oB, _, hBe, hbt⟩ := (HA2.out.sees S02.out) (by rintro rfl; simp at hjb)
      obtain ⟨RB, DB, cB, qB⟩ := hbt j bc[j] (List.getElem?_eq_getElem hjb)
      obtain ⟨ra, hrae⟩ : ∃ row, row = ac[j] := ⟨_, rfl⟩
      obtain ⟨rb, hrbe⟩ : ∃ row, row = bc[j] := ⟨_, rfl⟩
      rw [← hrae] at cA qA hra hstep
      rw [← hrbe] at cB qB hrb hstep
      obtain ⟨yA, zA, _, hRA, hatA⟩ := qA (by rintro rfl; simp at hra; have := HP1.out; omega)
      obtain ⟨yB, zB, _, hRB, hatB⟩ := qB (by rintro rfl; simp at hrb; have := HQ1.out; omega)
      rw [hra] at cA
      rw [hrb] at cB
      have HATA : Hid (∀ (k : Nat) (u : Bool), ra[k]? = some u → w4.cell? ⟨yA, zA + k, none⟩ = some (.bool u)) := fun k u hk => kc B4.out (hatA k u hk)
      have HATB : Hid (∀ (k : Nat) (u : Bool), rb[k]? = some u → w4.cell? ⟨yB, zB + k, none⟩ = some (.bool u)) := fun k u hk => kc B4.out (hatB k u hk)
      have HST := Lib.hid hstep; have HRA := Lib.hid hra; have HRB := Lib.hid hrb
      have HRA1 : Hid (1 ≤ ra.length) := by show _ ≤ _; rw [hra]; exact HP1.out
      have HRB1 : Hid (1 ≤ rb.length) := by show _ ≤ _; rw [hrb]; exact HQ1.out
      have HL1 : Hid (0 + ra.length = p) := by show _ = _; omega
      have HL2 : Hid (p + rb.length = p + q) := by show _ = _; omega
      have hlen : ((jmT t p q ac bc).take j).length = j := by rw [List.length_take, jmT_len]; omega
      have HLEN := Lib.hid hlen
      have hlap : (ra ++ rb).length = p + q := by rw [List.length_append, hra, hrb]
      have HLAP := Lib.hid hlap
      have j0 : (0 : Int) ≤ (j : Int) := Int.natCast_nonneg _
      have j1 : (j : Int) < (t : Int) := by omega
      have j4 : j ≤ 1048576 := by have := HT3.out; omega
      obtain ⟨m0, m1, m2, m3, m4, n0, n1, n2, n3, n4⟩ := five_facts hS.out.box
      have OWN0 : Hid ((w4.alloc (.cells #[] 4)).ownsRow w4.heap.size 4 1 (.slice (some ⟨w4.heap.size, 0, none⟩) 0 0) 0 (([] : List Bool).map Value.bool)) := World.ownsRow_made w4 #[] 0 (Nat.le_refl _) (Nat.zero_le _) rfl
      subst hAe hBe hRA hRB
      obtain ⟨_, _, _, g3, _, _, _, _, _, _⟩ := five_facts HC2.out
      obtain ⟨_, _, _, h3, _, _, _, _, _, _⟩ := five_facts HD2.out
      have HL0 : Hid (St w2 [(w.heap.size, 3, .slice (some ⟨bA, oA, none⟩) t C), (w.heap.size + 1, 3, .slice (some ⟨bB, oB, none⟩) t C2), (bA, oA + j, .slice (some ⟨yA, zA, none⟩) p DA), (bB, oB + j, .slice (some ⟨yB, zB, none⟩) q DB), (w2.heap.size, 3, v)] w4) := ⟨B4.out, kc B4.out g3, kc B4.out h3, kc B4.out cA, kc B4.out cB, m3, trivial⟩
      have HG3 := Lib.hid g3; have HH3 := Lib.hid h3; have HCA := Lib.hid cA; have HCB2 := Lib.hid cB
      clear hstep hrae hrbe hra hrb hja hjb hat hbt qA qB hlen hatA hatB hjt hlap hj cA cB g3 h3 m0 m1 m2 m3 m4 n0 n1 n2 n3 n4 OWN0 y4 y5
      go_wp2_with fail
      refine wp_region_last (S := fun W' => St w2 [(w.heap.size, 3, .slice (some ⟨bA, oA, none⟩) t C), (w.heap.size + 1, 3, .slice (some ⟨bB, oB, none⟩) t C2), (bA, oA + j, .slice (some ⟨yA, zA, none⟩) p DA), (bB, oB + j, .slice (some ⟨yB, zB, none⟩) q DB), (w2.heap.size, 3, v)] W') 18 (by kernel_rfl) (HL0.out.drew) (fun HS => ?_)
      obtain ⟨w20, ew20⟩ : ∃ wn, wn = w4.drew := ⟨_, rfl⟩
      have hsd : Below w4.heap.size w4 w20 := by rw [ew20]; exact (Below.refl _ _).drew
      have hzd : w20.heap.size = w4.heap.size := by rw [ew20]; rfl
      have HSD := Lib.hid hsd; have HZD := Lib.hid hzd
      rw [← ew20] at HS ⊢
      clear ew20 hsd hzd
      refine wpAnyL_take (i := 0) (oi := { dst := some 47, op := Op.fieldAddr 31 (Operand.tmp 6) 2, type := 0, pos := "l05_costs.go:136", after := #[], guard := none }) (v := .pointer (some ⟨w2.heap.size, 3, none⟩)) rfl (by kernel_rfl) (by kernel_rfl) (by kernel_rfl) (by kernel_rfl) (by kernel_rfl) (fun _ _ _ h => h) (Or.inl ⟨rfl, fun W hW => by (obtain ⟨_, y0_, y1_, y2_, y3_, y4_, _⟩ := hW; go_simp; try rfl)⟩) HS ?_
      try simp only [Act.put, List.setIfInBounds_toArray, List.set_cons_zero, List.set_cons_succ]
      refine wpAnyL_take (i := 1) (oi := { dst := some 48, op := Op.load 24 (Operand.tmp 47), type := 24, pos := "l05_costs.go:136", after := #[{ on := 0, ground := Ground.data }], guard := none }) (v := v) rfl (by kernel_rfl) (by kernel_rfl) (by kernel_rfl) (by kernel_rfl) (by kernel_rfl) (fun _ _ _ h => h) (Or.inl ⟨rfl, fun W hW => by (obtain ⟨_, y0_, y1_, y2_, y3_, y4_, _⟩ := hW; go_simp; try rfl)⟩) HS ?_
      try simp only [Act.put, List.setIfInBounds_toArray, List.set_cons_zero, List.set_cons_succ]
      refine wpAnyL_take (i := 3) (oi := { dst := some 50, op := Op.fieldAddr 31 (Operand.tmp 2) 2, type := 0, pos := "l05_costs.go:136", after := #[], guard := none }) (v := .pointer (some ⟨w.heap.size, 3, none⟩)) rfl (by kernel_rfl) (by kernel_rfl) (by kernel_rfl) (by kernel_rfl) (by kernel_rfl) (fun _ _ _ h => h) (Or.inl ⟨rfl, fun W hW => by (obtain ⟨_, y0_, y1_, y2_, y3_, y4_, _⟩ := hW; go_simp; try rfl)⟩) HS ?_
      try simp only [Act.put, List.setIfInBounds_toArray, List.set_cons_zero, List.set_cons_succ]
      refine wpAnyL_take (i := 4) (oi := { dst := some 51, op := Op.load 24 (Operand.tmp 50), type := 24, pos := "l05_costs.go:136", after := #[{ on := 3, ground := Ground.data }], guard := none }) (v := .slice (some ⟨bA, oA, none⟩) t C) rfl (by kernel_rfl) (by kernel_rfl) (by kernel_rfl) (by kernel_rfl) (by kernel_rfl) (fun _ _ _ h => h) (Or.inl ⟨rfl, fun W hW => by (obtain ⟨_, y0_, y1_, y2_, y3_, y4_, _⟩ := hW; go_simp; try rfl)⟩) HS ?_
      try simp only [Act.put, List.setIfInBounds_toArray, List.set_cons_zero, List.set_cons_succ]
      refine wpAnyL_take (i := 5) (oi := { dst := some 52, op := Op.move (Operand.tmp 7), type := 3, pos := "l05_costs.go:136", after := #[], guard := none }) (v := .int .i64 j) rfl (by kernel_rfl) (by kernel_rfl) (by kernel_rfl) (by kernel_rfl) (by kernel_rfl) (fun _ _ _ h => h) (Or.inl ⟨rfl, fun W hW => by (obtain ⟨_, y0_, y1_, y2_, y3_, y4_, _⟩ := hW; go_simp; try rfl)⟩) HS ?_
      try simp only [Act.put, List.setIfInBounds_toArray, List.set_cons_zero, List.set_cons_succ]
      refine wpAnyL_take (i := 6) (oi := { dst := some 53, op := Op.indexAddr 24 (Operand.tmp 51) (Operand.tmp 52), type := 0, pos := "l05_costs.go:136", after := #[{ on := 4, ground := Ground.data }, { on := 5, ground := Ground.data }], guard := none }) (v := .pointer (some ⟨bA, oA + j, none⟩)) rfl (by kernel_rfl) (by kernel_rfl) (by kernel_rfl) (by kernel_rfl) (by kernel_rfl) (fun _ _ _ h => h) (Or.inl ⟨rfl, fun W hW => by (obtain ⟨_, y0_, y1_, y2_, y3_, y4_, _⟩ := hW; go_simp; try rfl)⟩) HS ?_
      try simp only [Act.put, List.setIfInBounds_toArray, List.set_cons_zero, List.set_cons_succ]
      refine wpAnyL_take (i := 7) (oi := { dst := some 54, op := Op.load 104 (Operand.tmp 53), type := 104, pos := "l05_costs.go:136", after := #[{ on := 6, ground := Ground.data }], guard := none }) (v := .slice (some ⟨yA, zA, none⟩) p DA) rfl (by kernel_rfl) (by kernel_rfl) (by kernel_rfl) (by kernel_rfl) (by kernel_rfl) (fun _ _ _ h => h) (Or.inl ⟨rfl, fun W hW => by (obtain ⟨_, y0_, y1_, y2_, y3_, y4_, _⟩ := hW; go_simp; try rfl)⟩) HS ?_
      try simp only [Act.put, List.setIfInBounds_toArray, List.set_cons_zero, List.set_cons_succ]
      refine wpAnyL_take (i := 9) (oi := { dst := some 56, op := Op.fieldAddr 31 (Operand.tmp 3) 2, type := 0, pos := "l05_costs.go:136", after := #[], guard := none }) (v := .pointer (some ⟨w.heap.size + 1, 3, none⟩)) rfl (by kernel_rfl) (by kernel_rfl) (by kernel_rfl) (by kernel_rfl) (by kernel_rfl) (fun _ _ _ h => h) (Or.inl ⟨rfl, fun W hW => by (obtain ⟨_, y0_, y1_, y2_, y3_, y4_, _⟩ := hW; go_simp; try rfl)⟩) HS ?_
      try simp only [Act.put, List.setIfInBounds_toArray, List.set_cons_zero, List.set_cons_succ]
      refine wpAnyL_take (i := 10) (oi := { dst := some 57, op := Op.load 24 (Operand.tmp 56), type := 24, pos := "l05_costs.go:136", after := #[{ on := 9, ground := Ground.data }], guard := none }) (v := .slice (some ⟨bB, oB, none⟩) t C2) rfl (by kernel_rfl) (by kernel_rfl) (by kernel_rfl) (by kernel_rfl) (by kernel_rfl) (fun _ _ _ h => h) (Or.inl ⟨rfl, fun W hW => by (obtain ⟨_, y0_, y1_, y2_, y3_, y4_, _⟩ := hW; go_simp; try rfl)⟩) HS ?_
      try simp only [Act.put, List.setIfInBounds_toArray, List.set_cons_zero, List.set_cons_succ]
      refine wpAnyL_take (i := 11) (oi := { dst := some 58, op := Op.move (Operand.tmp 7), type := 3, pos := "l05_costs.go:136", after := #[], guard := none }) (v := .int .i64 j) rfl (by kernel_rfl) (by kernel_rfl) (by kernel_rfl) (by kernel_rfl) (by kernel_rfl) (fun _ _ _ h => h) (Or.inl ⟨rfl, fun W hW => by (obtain ⟨_, y0_, y1_, y2_, y3_, y4_, _⟩ := hW; go_simp; try rfl)⟩) HS ?_
      try simp only [Act.put, List.setIfInBounds_toArray, List.set_cons_zero, List.set_cons_succ]
      refine wpAnyL_take (i := 12) (oi := { dst := some 59, op := Op.indexAddr 24 (Operand.tmp 57) (Operand.tmp 58), type := 0, pos := "l05_costs.go:136", after := #[{ on := 10, ground := Ground.data }, { on := 11, ground := Ground.data }], guard := none }) (v := .pointer (some ⟨bB, oB + j, none⟩)) rfl (by kernel_rfl) (by kernel_rfl) (by kernel_rfl) (by kernel_rfl) (by kernel_rfl) (fun _ _ _ h => h) (Or.inl ⟨rfl, fun W hW => by (obtain ⟨_, y0_, y1_, y2_, y3_, y4_, _⟩ := hW; go_simp; try rfl)⟩) HS ?_
      try simp only [Act.put, List.setIfInBounds_toArray, List.set_cons_zero, List.set_cons_succ]
      refine wpAnyL_take (i := 13) (oi := { dst := some 60, op := Op.load 104 (Operand.tmp 59), type := 104, pos := "l05_costs.go:136", after := #[{ on := 12, ground := Ground.data }], guard := none }) (v := .slice (some ⟨yB, zB, none⟩) q DB) rfl (by kernel_rfl) (by kernel_rfl) (by kernel_rfl) (by kernel_rfl) (by kernel_rfl) (fun _ _ _ h => h) (Or.inl ⟨rfl, fun W hW => by (obtain ⟨_, y0_, y1_, y2_, y3_, y4_, _⟩ := hW; go_simp; try rfl)⟩) HS ?_
      try simp only [Act.put, List.setIfInBounds_toArray, List.set_cons_zero, List.set_cons_succ]
      refine wpAnyL_ready (i := 2) (o := { dst := some 49, op := Op.buildSlice 104 0 #[], type := 104, pos := "l05_costs.go:136", after := #[], guard := none }) (by kernel_rfl) rfl (fun K hK => ?_)
      go_simp
      obtain ⟨w21, ew21⟩ : ∃ wn, wn = w20.alloc (.cells #[] 4) := ⟨_, rfl⟩
      have hs1 : Below w4.heap.size w4 w21 := by rw [ew21]; exact HSD.out.alloc HSD.out.size _
      have hown : w21.ownsRow w4.heap.size 4 1 (.slice (some ⟨w20.heap.size, 0, none⟩) 0 0) 0 (([] : List Bool).map Value.bool) := by rw [ew21]; exact World.ownsRow_made w20 #[] 0 HSD.out.size (Nat.zero_le _) rfl
      rw [← ew21]
      have HS1 := Lib.hid hs1; have HO0 := Lib.hid hown
      have HS' : St w2 [(w.heap.size, 3, .slice (some ⟨bA, oA, none⟩) t C), (w.heap.size + 1, 3, .slice (some ⟨bB, oB, none⟩) t C2), (bA, oA + j, .slice (some ⟨yA, zA, none⟩) p DA), (bB, oB + j, .slice (some ⟨yB, zB, none⟩) q DB), (w2.heap.size, 3, v)] w21 := by rw [ew21]; exact HS.alloc _
      clear HS hs1 hown ew21
      have HS := HS'; clear HS'
      refine hK.out _ _ HS ?_
      clear hK K
      try simp only [Act.put, List.setIfInBounds_toArray, List.set_cons_zero, List.set_cons_succ]
      refine wpAnyL_ready (i := 8) (o := { dst := some 55, op := Op.call { callee := Callee.builtin Builtin.append, args := #[Operand.tmp 49, Operand.tmp 54], argTypes := #[104, 104] }, type := 104, pos := "l05_costs.go:136", after := #[{ on := 2, ground := Ground.data }, { on := 7, ground := Ground.data }], guard := none }) (by kernel_rfl) rfl (fun K hK => ?_)
      refine step_add w21 (by rfl) _ _ (by rfl) w4.heap.size 0 p p yA zA DA 0 w20.heap.size [] ra (by rfl) (by rfl) HRA.out HS1.out.size HO0.out (fun k u hk => kc HS1.out (HATA.out k u hk)) HRA1.out HL1.out (by have := HPQ.out; omega) ?_
      intro g1 cap1 wa hbel ho1
      have hsa : Below w4.heap.size w4 wa := HS1.out.trans hbel
      have HSA := Lib.hid hsa; have HO1 := Lib.hid ho1
      have HS' : St w2 [(w.heap.size, 3, .slice (some ⟨bA, oA, none⟩) t C), (w.heap.size + 1, 3, .slice (some ⟨bB, oB, none⟩) t C2), (bA, oA + j, .slice (some ⟨yA, zA, none⟩) p DA), (bB, oB + j, .slice (some ⟨yB, zB, none⟩) q DB), (w2.heap.size, 3, v)] wa := ⟨B4.out.trans (hsa.mono B4.out.size), kc hsa HL0.out.2.1, kc hsa HL0.out.2.2.1, kc hsa HL0.out.2.2.2.1, kc hsa HL0.out.2.2.2.2.1, kc hsa HL0.out.2.2.2.2.2.1, trivial⟩
      clear HS hbel ho1 hsa HS1 HO0
      have HS := HS'; clear HS'
      refine hK.out _ _ HS ?_
      clear hK K
      try simp only [Act.put, List.setIfInBounds_toArray, List.set_cons_zero, List.set_cons_succ]
      refine wpAnyL_ready (i := 14) (o := { dst := some 61, op := Op.call { callee := Callee.builtin Builtin.append, args := #[Operand.tmp 55, Operand.tmp 60], argTypes := #[104, 104] }, type := 104, pos := "l05_costs.go:136", after := #[{ on := 8, ground := Ground.data }, { on := 13, ground := Ground.data }, { on := 8, ground := Ground.chain }], guard := none }) (by kernel_rfl) rfl (fun K hK => ?_)
      refine step_add wa (by rfl) _ _ (by rfl) w4.heap.size p (p + q) q yB zB DB cap1 g1 ra rb (by rfl) (by rfl) HRB.out HSA.out.size HO1.out (fun k u hk => kc HSA.out (HATB.out k u hk)) HRB1.out HL2.out (by have := HPQ.out; omega) ?_
      intro g2 cap2 wb hbel ho2
      have hsb : Below w4.heap.size w4 wb := HSA.out.trans hbel
      have HSB := Lib.hid hsb
      have hbools := own_bools ho2
      have HU := Lib.hid (hS.out.grow boolsF_ok hsb)
      obtain ⟨vals, hvl, hown, hpp⟩ := Acc.push boolsF_ok hS.out.acc hS.out.but.size hsb hbools (Wa := wb.alloc (.cells #[.slice (some ⟨g2, 0, none⟩) (p + q) cap2] 104)) (C := cap2) ((Below.refl _ _).alloc (Nat.le_refl _) _)
      rw [HLEN.out, HLAP.out] at hpp
      rw [HLEN.out] at hown
      have HOWN := Lib.hid hown; have HPP := Lib.hid hpp
      have HS' : St w2 [(w.heap.size, 3, .slice (some ⟨bA, oA, none⟩) t C), (w.heap.size + 1, 3, .slice (some ⟨bB, oB, none⟩) t C2), (bA, oA + j, .slice (some ⟨yA, zA, none⟩) p DA), (bB, oB + j, .slice (some ⟨yB, zB, none⟩) q DB), (w2.heap.size, 3, v)] wb := ⟨B4.out.trans (hsb.mono B4.out.size), kc hsb HL0.out.2.1, kc hsb HL0.out.2.2.1, kc hsb HL0.out.2.2.2.1, kc hsb HL0.out.2.2.2.2.1, kc hsb HL0.out.2.2.2.2.2.1, trivial⟩
      clear HS hbel ho2 hsb HSA HO1 hown hpp hbools hvl
      have HS := HS'; clear HS'
      refine hK.out _ _ HS ?_
      clear hK K
      try simp only [Act.put, List.setIfInBounds_toArray, List.set_cons_zero, List.set_cons_succ]
      refine wpAnyL_ready (i := 15) (o := { dst := some 62, op := Op.buildSlice 24 1 #[(0, Operand.tmp 61)], type := 24, pos := "l05_costs.go:136", after := #[{ on := 14, ground := Ground.data }], guard := none }) (by kernel_rfl) rfl (fun K hK => ?_)
      go_simp
      obtain ⟨wc, ewc⟩ : ∃ wn, wn = wb.alloc (.cells #[.slice (some ⟨g2, 0, none⟩) (p + q) cap2] 104) := ⟨_, rfl⟩
      rw [← ewc]
      rw [← ewc] at HOWN HPP
      have hzc : wc.heap.size = wb.heap.size + 1 := by rw [ewc]; simp
      have hcb : wc.cell? ⟨wb.heap.size, 0, none⟩ = some (.slice (some ⟨g2, 0, none⟩) (p + q) cap2) := by rw [ewc]; simp [go_sem]
      have hU2 : BA 104 BoolsF List.length (fun v => #[.int .i64 (t : Int), .int .i64 (a : Int), .int .i64 ((p : Int) + (q : Int)), v, .slice none 0 0]) w2.heap.size w3 ((jmT t p q ac bc).take j) v wc := by rw [ewc]; exact HU.out.grow boolsF_ok ((Below.refl _ _).alloc (Nat.le_refl _) _)
      have HU2 := Lib.hid hU2; have HCB := Lib.hid hcb; have HZC := Lib.hid hzc
      have HS' : St w2 [(w.heap.size, 3, .slice (some ⟨bA, oA, none⟩) t C), (w.heap.size + 1, 3, .slice (some ⟨bB, oB, none⟩) t C2), (bA, oA + j, .slice (some ⟨yA, zA, none⟩) p DA), (bB, oB + j, .slice (some ⟨yB, zB, none⟩) q DB), (w2.heap.size, 3, v)] wc := by rw [ewc]; exact HS.alloc _
      clear HS HU ewc hU2 hcb hzc
      have HS := HS'; clear HS'
      refine hK.out _ _ HS ?_
      clear hK K
      try simp only [Act.put, List.setIfInBounds_toArray, List.set_cons_zero, List.set_cons_succ]
      refine wpAnyL_ready (i := 16) (o := { dst := some 63, op := Op.call { callee := Callee.builtin Builtin.append, args := #[Operand.tmp 48, Operand.tmp 62], argTypes := #[24, 24] }, type := 24, pos := "l05_costs.go:136", after := #[{ on := 1, ground := Ground.data }, { on := 15, ground := Ground.data }, { on := 14, ground := Ground.chain }], guard := none }) (by kernel_rfl) rfl (fun K hK => ?_)
      refine step_one Try.elBB wc (by rfl) _ _ (by rfl) w3.heap.size j wb.heap.size v (.slice (some ⟨g2, 0, none⟩) (p + q) cap2) vals (by rfl) (by rfl) HOWN.out HCB.out rfl j4 HU2.out.but.size ?_
      intro v' w' ho hg hat
      have hacc := HPP.out v' w' ho hg hat
      obtain ⟨Zv, lv, Cv, hvf⟩ := (accForm hacc)
      subst hvf
      obtain ⟨hX, hbx⟩ := BA.push (i := 3) boolsF_ok (fun _ _ => rfl) HU2.out hacc hg
      have HX := Lib.hid hX; have HBX := Lib.hid hbx
      have h2' : Below w2.heap.size w2 w' := by have h := hX.but.old HB3.out; exact ⟨h.os, h.tape, h.output, by have := h.size; simpa using this, fun k hk => (Below.heap_setCell _ _ _ _ (by show k ≠ w2.heap.size; omega)).symm.trans (h.block k hk)⟩
      obtain ⟨_, _, _, q3, _, _, _, _, t3, _⟩ := five_facts hbx
      have HS' : St w2 [(w.heap.size, 3, .slice (some ⟨bA, oA, none⟩) t C), (w.heap.size + 1, 3, .slice (some ⟨bB, oB, none⟩) t C2), (bA, oA + j, .slice (some ⟨yA, zA, none⟩) p DA), (bB, oB + j, .slice (some ⟨yB, zB, none⟩) q DB), (w2.heap.size, 3, v)] w' := ⟨h2', kc h2' HG3.out, kc h2' HH3.out, kc h2' HCA.out, kc h2' HCB2.out, q3, trivial⟩
      have HT3' := Lib.hid t3
      clear HS hX hbx hacc ho hg hat h2' q3 t3 HOWN HPP HCB
      have HS := HS'; clear HS'
      refine hK.out _ _ HS ?_
      clear hK K
      try simp only [Act.put, List.setIfInBounds_toArray, List.set_cons_zero, List.set_cons_succ]
      refine wpAnyL_take (i := 17) (oi := { dst := some 64, op := Op.fieldAddr 31 (Operand.tmp 6) 2, type := 0, pos := "l05_costs.go:136", after := #[{ on := 0, ground := Ground.phase }, { on := 1, ground := Ground.phase }, { on := 2, ground := Ground.phase }, { on := 3, ground := Ground.phase }, { on := 4, ground := Ground.phase }, { on := 5, ground := Ground.phase }, { on := 6, ground := Ground.phase }, { on := 7, ground := Ground.phase }, { on := 8, ground := Ground.phase }, { on := 9, ground := Ground.phase }, { on := 10, ground := Ground.phase }, { on := 11, ground := Ground.phase }, { on := 12, ground := Ground.phase }, { on := 13, ground := Ground.phase }, { on := 14, ground := Ground.phase }, { on := 15, ground := Ground.phase }, { on := 16, ground := Ground.phase }], guard := none }) (v := .pointer (some ⟨w2.heap.size, 3, none⟩)) rfl (by kernel_rfl) (by kernel_rfl) (by kernel_rfl) (by kernel_rfl) (by kernel_rfl) (fun _ _ _ h => h) (Or.inl ⟨rfl, fun W hW => by (obtain ⟨_, y0_, y1_, y2_, y3_, y4_, _⟩ := hW; go_simp; try rfl)⟩) HS ?_
      try simp only [Act.put, List.setIfInBounds_toArray, List.set_cons_zero, List.set_cons_succ]
      refine wpAnyL_last (o := { dst := none, op := Op.store 24 (Operand.tmp 64) (Operand.tmp 63), type := 0, pos := "l05_costs.go:136", after := #[{ on := 17, ground := Ground.data }, { on := 16, ground := Ground.data }, { on := 16, ground := Ground.chain }, { on := 0, ground := Ground.phase }, { on := 1, ground := Ground.phase }, { on := 2, ground := Ground.phase }, { on := 3, ground := Ground.phase }, { on := 4, ground := Ground.phase }, { on := 5, ground := Ground.phase }, { on := 6, ground := Ground.phase }, { on := 7, ground := Ground.phase }, { on := 8, ground := Ground.phase }, { on := 9, ground := Ground.phase }, { on := 10, ground := Ground.phase }, { on := 11, ground := Ground.phase }, { on := 12, ground := Ground.phase }, { on := 13, ground := Ground.phase }, { on := 14, ground := Ground.phase }, { on := 15, ground := Ground.phase }, { on := 16, ground := Ground.phase }], guard := none }) (by kernel_rfl) rfl (by kernel_rfl) (fun K hK => ?_)
      have q3 := HS.2.2.2.2.2.1
      have t3 := HT3'.out
      go_simp
      refine hK.out _ _ ?_
      clear hK K HS
      try simp only [Act.put]
      have HX2 : Hid (BA 104 BoolsF List.length (fun v => #[.int .i64 (t : Int), .int .i64 (a : Int), .int .i64 ((p : Int) + (q : Int)), v, .slice none 0 0]) w2.heap.size w3 ((jmT t p q ac bc).take (j + 1)) (.slice Zv lv Cv) (w'.setCell ⟨w2.heap.size, 3, none⟩ (.slice Zv lv Cv))) := by rw [HST.out]; exact HX.out
      go_wp2_with fail
      go_roundw
      case rel => exact ⟨j + 1, _, JL.out, by go_num, HX2.out⟩
      case measure => have := JL.out; simp [intOf]; omega
    · obtain rfl : t = j := by omega
      have hall : (jmT t p q ac bc).take t = jmT t p q ac bc := List.take_of_length_le (by rw [jmT_len]; exact Nat.le_refl _)
      rw [hall] at hS
      obtain ⟨E1, G1, hv1, hR1⟩ := hS.out.acc.done
      rw [jmT_len] at hv1
      subst hv1
      obtain ⟨w5, rfl⟩ : ∃ w5, w5 = w4 := ⟨_, rfl⟩
      have B35 : Hid (w3.heap.size ≤ w5.heap.size) := hS.out.but.size
      have HT5 : Hid (BBF w5 (jmT t p q ac bc) E1 (rng w3.heap.size w5.heap.size)) := hR1
      have H5 : Hid (BA 24 BBF List.length (fun v => #[.int .i64 (t : Int), .int .i64 (a : Int), .int .i64 ((p : Int) + (q : Int)), .slice E1 t G1, v]) w2.heap.size w5 ((jmA a p q nx ny).take 0) (.slice none 0 0) w5) := ⟨hS.out.box, Acc.start, ButF.refl _ _, zw1⟩
      clear hR1 hall hS s4
      go_wp2_with fail
      clear c0 c1 c2 c3 c4 y4 y5
      go_loopw [8] (fun i wr => ∃ (j : Nat) (v : Value), j ≤ a ∧ i = .int .i64 j ∧ Hid (BA 24 BBF List.length (fun v => #[.int .i64 (t : Int), .int .i64 (a : Int), .int .i64 ((p : Int) + (q : Int)), .slice E1 t G1, v]) w2.heap.size w5 ((jmA a p q nx ny).take j) v wr)) (fun i _ => a - (intOf i).toNat)
      case atStart => exact ⟨0, _, Nat.zero_le _, rfl, H5.out⟩
      case round =>
        obtain ⟨j, v, hj, rfl, hS⟩ := hrel
        clear H5
        obtain ⟨w6, rfl⟩ : ∃ w6, w6 = wr := ⟨_, rfl⟩
        have B6 := Lib.hid (hS.out.but.old B4.out)
        have z6 : w2.heap.size < w6.heap.size := Nat.lt_of_lt_of_le zw1 hS.out.but.size
        have HC6 := Lib.hid ((B6.out.block w.heap.size (by omega)).trans HC2.out)
        have HD6 := Lib.hid ((B6.out.block (w.heap.size + 1) (by omega)).trans HD2.out)
        obtain ⟨c0, c1, c2, c3, c4, _, _, _, _, _⟩ := five_facts HC6.out
        by_cases hja : j < a
        · have hjn : j < nx.length := by rw [HNL.out]; exact hja
          have hjm : j < ny.length := by rw [HML.out]; exact hja
          obtain ⟨bA, oA, _, hAe, hat⟩ := (HB.out.sees S02.out) (by rintro rfl; simp at hjn)
          obtain ⟨RA, DA, cA, qA⟩ := hat j nx[j] (List.getElem?_eq_getElem hjn)
          obtain ⟨bB, oB, _, hBe, hbt⟩ := (HB2m.out.sees S02.out) (by rintro rfl; simp at hjm)
          obtain ⟨RB, DB, cB, qB⟩ := hbt j ny[j] (List.getElem?_eq_getElem hjm)
          obtain ⟨hr1, hr2⟩ := HNR.out nx[j] (List.getElem_mem hjn)
          obtain ⟨hs1, hs2⟩ := HMR.out ny[j] (List.getElem_mem hjm)
          have hstep := jmA_step (p := p) (q := q) (nx := nx) (ny := ny) hja
          obtain ⟨rA, hrA⟩ : ∃ x, x = nx[j] := ⟨_, rfl⟩
          obtain ⟨rB, hrB⟩ : ∃ x, x = ny[j] := ⟨_, rfl⟩
          have HGA : Hid (∀ x z, (rA.getD x []).getD z false = at3 nx j x z) := fun x z => by rw [hrA]; simp [at3, List.getD, hjn]
          have HGB : Hid (∀ x z, (rB.getD x []).getD z false = at3 ny j x z) := fun x z => by rw [hrB]; simp [at3, List.getD, hjm]
          rw [← hrA] at cA qA hr1 hr2
          rw [← hrB] at cB qB hs1 hs2
          obtain ⟨eA, fA, _, hRA, hatA⟩ := qA (by rintro rfl; simp at hr1; have := HP1.out; omega)
          obtain ⟨eB, fB, _, hRB, hatB⟩ := qB (by rintro rfl; simp at hs1; have := HQ1.out; omega)
          rw [hr1] at cA
          rw [hs1] at cB
          have HATA := Lib.hid hatA; have HATB := Lib.hid hatB; have HRA1 := Lib.hid hr1; have HRA2 := Lib.hid hr2; have HRB1 := Lib.hid hs1; have HRB2 := Lib.hid hs2
          have HST := Lib.hid hstep; have JL := Lib.hid hja
          subst hAe hBe hRA hRB
          obtain ⟨_, _, g2, _, g4, _, _, _, _, _⟩ := five_facts HC2.out
          obtain ⟨_, _, h2, _, h4, _, _, _, _, _⟩ := five_facts HD2.out
          have HG2 := Lib.hid g2; have HG4 := Lib.hid g4; have HH2 := Lib.hid h2; have HH4 := Lib.hid h4; have HCA := Lib.hid cA; have HCB := Lib.hid cB
          have j0 : (0 : Int) ≤ (j : Int) := Int.natCast_nonneg _
          have j1 : (j : Int) < (a : Int) := by omega
          obtain ⟨m0, m1, m2, m3, m4, n0, n1, n2, n3, n4⟩ := five_facts hS.out.box
          clear hstep hrA hrB hr1 hr2 hs1 hs2 hat hbt qA qB hatA hatB hjn hjm hja hj g2 g4 h2 h4 cA cB
          go_wp2_with fail
          refine (KN.out _).mono ?_
          rintro e w7 ⟨A2, C2, rfl, hN, hb7⟩
          have B67 := Lib.hid hb7
          have B7 := Lib.hid (B6.out.trans (hb7.mono B6.out.size))
          have P0 : Hid (BBX w7 (tab (p + q) (p + q) (plT 0 p (at3 nx j) off2 0)) A2 (rng w6.heap.size w7.heap.size)) := by show BBX _ _ _ _; rw [plT_zero]; exact hN
          have z7 : w6.heap.size ≤ w7.heap.size := hb7.size
          clear hN hb7 c0 c1 c2 c3 c4 m0 m1 m2 m3 m4 n0 n1 n2 n3 n4
          go_wp2_with fail
          go_loopw [10] (fun i wr => ∃ x : Nat, x ≤ p ∧ i = .int .i64 x ∧ Hid (BBX wr (tab (p + q) (p + q) (plT 0 p (at3 nx j) off2 x)) A2 (rng w6.heap.size w7.heap.size)) ∧ Hid (ButF (rng w6.heap.size w7.heap.size) w7 wr)) (fun i _ => p - (intOf i).toNat)
          case atStart => exact ⟨0, Nat.zero_le _, rfl, P0.out, ButF.refl _ _⟩
          case round =>
            obtain ⟨x, hx, rfl, hP, hW⟩ := hrel
            clear P0
            have s2 : Below w2.heap.size w2 wr := B7.out.trans ⟨hW.out.os, hW.out.tape, hW.out.output, hW.out.size, fun k hk => hW.out.block k (by have := B7.out.size; omega) (fun h => by have := h.1; omega)⟩
            have HS2 := Lib.hid s2
            have c2 := kc s2 HG2.out
            by_cases hxp : x < p
            · have XP := Lib.hid hxp
              have hxr : x < rA.length := by rw [HRA1.out]; exact hxp
              obtain ⟨R2, DR2, cR0, qR⟩ := HATA.out x rA[x] (List.getElem?_eq_getElem hxr)
              have hrl : rA[x].length = p := HRA2.out rA[x] (List.getElem_mem hxr)
              obtain ⟨row, hrow⟩ : ∃ row, row = rA[x] := ⟨_, rfl⟩
              have hrg : ∀ z, z < p → row.getD z false = at3 nx j x z := fun z _ => by rw [← HGA.out x z, hrow]; simp [List.getD, hxr]
              rw [← hrow] at cR0 qR hrl
              obtain ⟨y2, z2, _, hR2, hat2⟩ := qR (by rintro rfl; simp at hrl; have := HP1.out; omega)
              rw [hrl] at cR0
              subst hR2
              obtain ⟨wd, hwd⟩ : ∃ wd, wd = wr.drew := ⟨_, rfl⟩
              have hPd : BBX wd (tab (p + q) (p + q) (plT 0 p (at3 nx j) off2 x)) A2 (rng w6.heap.size w7.heap.size) := bbX_ok.keep hP.out fun k _ => by rw [hwd]; rfl
              have sd : Below w2.heap.size w2 wd := by rw [hwd]; exact s2.drew
              obtain ⟨b, r, hA1, hF1, hF2, e0, e1, e2, hput⟩ := BBX.copy hPd (x := x) (by omega) (by have := HP1.out; omega)
              have hput2 := hput row 0 (by rw [hrl]; omega)
              have hst := plT_step (f := 0) (T := off2) (x := x) hrl hrg; rw [Nat.zero_add] at hst; rw [hst] at hput2
              have HPUT := Lib.hid hput2
              have HBUT : Hid (ButF (rng w6.heap.size w7.heap.size) w7 (wd.setCells r 0 (row.map Value.bool))) := ButF.sets hF2 _ _ _ (by rw [hwd]; exact hW.out.draws)
              have HSRC : Hid (∀ (j : Nat) (v : Value), (row.map Value.bool)[j]? = some v → wd.cell? ((⟨y2, z2, none⟩ : Addr).add j) = some v) := fun j v hj => by
                rw [List.getElem?_map] at hj
                obtain ⟨u, hu, rfl⟩ := Option.map_eq_some_iff.1 hj
                rw [addr_add]; exact kc sd (hat2 j u hu)
              have HN : Hid ((row.map Value.bool).length = Nat.min p (p + q)) := by show _ = _; rw [List.length_map, hrl]; simp only [Nat.min_def]; split <;> omega
              have HC : Hid (∀ j, j < (row.map Value.bool).length → (wd.cell? ⟨r, 0 + j, none⟩).isSome = true) := fun j hj => e2 (0 + j) (by rw [List.length_map, hrl] at hj; omega)
              have HF : Hid (∀ j, j < (row.map Value.bool).length → wd.frozen? ⟨r, 0 + j, none⟩ = false) := fun j _ => e1 (0 + j)
              have HO : Hid (∀ v ∈ row.map Value.bool, v.oneCell' = true) := fun v hv => by obtain ⟨u, _, rfl⟩ := List.mem_map.1 hv; rfl
              have q0 : (0 : Int) ≤ (x : Int) := Int.natCast_nonneg _
              have q1 : (x : Int) < (p : Int) := by omega
              have q6 : ¬ (p : Int) + (q : Int) ≤ (x : Int) := by omega
              have HL : Hid (St w2 [(b, x, .slice (some ⟨r, 0, none⟩) (p + q) (p + q)), (w.heap.size, 4, .slice (some ⟨bA, oA, none⟩) a D), (bA, oA + j, .slice (some ⟨eA, fA, none⟩) p DA), (eA, fA + x, .slice (some ⟨y2, z2, none⟩) p DR2)] wr.drew) := by rw [← hwd]; exact ⟨sd, e0, kc sd HG4.out, kc sd HCA.out, kc sd cR0, trivial⟩
              clear qR hrow hrg hput hput2 hat2 hF1 hF2 e1 e2 hP hW s2 sd cR0 hxr hrl e0 hst
              subst hA1
              go_wp2_with fail
              refine wp_region_last (S := fun W' => St w2 [(b, x, .slice (some ⟨r, 0, none⟩) (p + q) (p + q)), (w.heap.size, 4, .slice (some ⟨bA, oA, none⟩) a D), (bA, oA + j, .slice (some ⟨eA, fA, none⟩) p DA), (eA, fA + x, .slice (some ⟨y2, z2, none⟩) p DR2)] W') 12 (by kernel_rfl) HL.out (fun HS => ?_)
              rw [← hwd] at HS ⊢
              clear hwd
              refine wpAnyL_take (i := 0) (oi := { dst := some 81, op := Op.move (Operand.tmp 9), type := 24, pos := "l05_costs.go:141", after := #[], guard := none }) (v := .slice (some ⟨b, 0, none⟩) (p + q) C2) rfl (by kernel_rfl) (by kernel_rfl) (by kernel_rfl) (by kernel_rfl) (by kernel_rfl) (fun _ _ _ h => h) (Or.inl ⟨rfl, fun W hW => by (obtain ⟨_, y0_, y1_, y2_, y3_, _⟩ := hW; go_simp; try rfl)⟩) HS ?_
              try simp only [Act.put, List.setIfInBounds_toArray, List.set_cons_zero, List.set_cons_succ]
              refine wpAnyL_take (i := 1) (oi := { dst := some 82, op := Op.move (Operand.tmp 10), type := 2, pos := "l05_costs.go:141", after := #[], guard := none }) (v := .int .i64 x) rfl (by kernel_rfl) (by kernel_rfl) (by kernel_rfl) (by kernel_rfl) (by kernel_rfl) (fun _ _ _ h => h) (Or.inl ⟨rfl, fun W hW => by (obtain ⟨_, y0_, y1_, y2_, y3_, _⟩ := hW; go_simp; try rfl)⟩) HS ?_
              try simp only [Act.put, List.setIfInBounds_toArray, List.set_cons_zero, List.set_cons_succ]
              refine wpAnyL_take (i := 2) (oi := { dst := some 83, op := Op.indexAddr 24 (Operand.tmp 81) (Operand.tmp 82), type := 0, pos := "l05_costs.go:141", after := #[{ on := 0, ground := Ground.data }, { on := 1, ground := Ground.data }], guard := none }) (v := .pointer (some ⟨b, x, none⟩)) rfl (by kernel_rfl) (by kernel_rfl) (by kernel_rfl) (by kernel_rfl) (by kernel_rfl) (fun _ _ _ h => h) (Or.inl ⟨rfl, fun W hW => by (obtain ⟨_, y0_, y1_, y2_, y3_, _⟩ := hW; go_simp; try rfl)⟩) HS ?_
              try simp only [Act.put, List.setIfInBounds_toArray, List.set_cons_zero, List.set_cons_succ]
              refine wpAnyL_take (i := 3) (oi := { dst := some 84, op := Op.load 104 (Operand.tmp 83), type := 104, pos := "l05_costs.go:141", after := #[{ on := 2, ground := Ground.data }], guard := none }) (v := .slice (some ⟨r, 0, none⟩) (p + q) (p + q)) rfl (by kernel_rfl) (by kernel_rfl) (by kernel_rfl) (by kernel_rfl) (by kernel_rfl) (fun _ _ _ h => h) (Or.inl ⟨rfl, fun W hW => by (obtain ⟨_, y0_, y1_, y2_, y3_, _⟩ := hW; go_simp; try rfl)⟩) HS ?_
              try simp only [Act.put, List.setIfInBounds_toArray, List.set_cons_zero, List.set_cons_succ]
              refine wpAnyL_take (i := 4) (oi := { dst := some 85, op := Op.fieldAddr 31 (Operand.tmp 2) 3, type := 0, pos := "l05_costs.go:141", after := #[], guard := none }) (v := .pointer (some ⟨w.heap.size, 4, none⟩)) rfl (by kernel_rfl) (by kernel_rfl) (by kernel_rfl) (by kernel_rfl) (by kernel_rfl) (fun _ _ _ h => h) (Or.inl ⟨rfl, fun W hW => by (obtain ⟨_, y0_, y1_, y2_, y3_, _⟩ := hW; go_simp; try rfl)⟩) HS ?_
              try simp only [Act.put, List.setIfInBounds_toArray, List.set_cons_zero, List.set_cons_succ]
              refine wpAnyL_take (i := 5) (oi := { dst := some 86, op := Op.load 25 (Operand.tmp 85), type := 25, pos := "l05_costs.go:141", after := #[{ on := 4, ground := Ground.data }], guard := none }) (v := .slice (some ⟨bA, oA, none⟩) a D) rfl (by kernel_rfl) (by kernel_rfl) (by kernel_rfl) (by kernel_rfl) (by kernel_rfl) (fun _ _ _ h => h) (Or.inl ⟨rfl, fun W hW => by (obtain ⟨_, y0_, y1_, y2_, y3_, _⟩ := hW; go_simp; try rfl)⟩) HS ?_
              try simp only [Act.put, List.setIfInBounds_toArray, List.set_cons_zero, List.set_cons_succ]
              refine wpAnyL_take (i := 6) (oi := { dst := some 87, op := Op.move (Operand.tmp 8), type := 3, pos := "l05_costs.go:141", after := #[], guard := none }) (v := .int .i64 j) rfl (by kernel_rfl) (by kernel_rfl) (by kernel_rfl) (by kernel_rfl) (by kernel_rfl) (fun _ _ _ h => h) (Or.inl ⟨rfl, fun W hW => by (obtain ⟨_, y0_, y1_, y2_, y3_, _⟩ := hW; go_simp; try rfl)⟩) HS ?_
              try simp only [Act.put, List.setIfInBounds_toArray, List.set_cons_zero, List.set_cons_succ]
              refine wpAnyL_take (i := 7) (oi := { dst := some 88, op := Op.indexAddr 25 (Operand.tmp 86) (Operand.tmp 87), type := 0, pos := "l05_costs.go:141", after := #[{ on := 5, ground := Ground.data }, { on := 6, ground := Ground.data }], guard := none }) (v := .pointer (some ⟨bA, oA + j, none⟩)) rfl (by kernel_rfl) (by kernel_rfl) (by kernel_rfl) (by kernel_rfl) (by kernel_rfl) (fun _ _ _ h => h) (Or.inl ⟨rfl, fun W hW => by (obtain ⟨_, y0_, y1_, y2_, y3_, _⟩ := hW; go_simp; try rfl)⟩) HS ?_
              try simp only [Act.put, List.setIfInBounds_toArray, List.set_cons_zero, List.set_cons_succ]
              refine wpAnyL_take (i := 8) (oi := { dst := some 89, op := Op.load 24 (Operand.tmp 88), type := 24, pos := "l05_costs.go:141", after := #[{ on := 7, ground := Ground.data }], guard := none }) (v := .slice (some ⟨eA, fA, none⟩) p DA) rfl (by kernel_rfl) (by kernel_rfl) (by kernel_rfl) (by kernel_rfl) (by kernel_rfl) (fun _ _ _ h => h) (Or.inl ⟨rfl, fun W hW => by (obtain ⟨_, y0_, y1_, y2_, y3_, _⟩ := hW; go_simp; try rfl)⟩) HS ?_
              try simp only [Act.put, List.setIfInBounds_toArray, List.set_cons_zero, List.set_cons_succ]
              refine wpAnyL_take (i := 9) (oi := { dst := some 90, op := Op.move (Operand.tmp 10), type := 2, pos := "l05_costs.go:141", after := #[], guard := none }) (v := .int .i64 x) rfl (by kernel_rfl) (by kernel_rfl) (by kernel_rfl) (by kernel_rfl) (by kernel_rfl) (fun _ _ _ h => h) (Or.inl ⟨rfl, fun W hW => by (obtain ⟨_, y0_, y1_, y2_, y3_, _⟩ := hW; go_simp; try rfl)⟩) HS ?_
              try simp only [Act.put, List.setIfInBounds_toArray, List.set_cons_zero, List.set_cons_succ]
              refine wpAnyL_take (i := 10) (oi := { dst := some 91, op := Op.indexAddr 24 (Operand.tmp 89) (Operand.tmp 90), type := 0, pos := "l05_costs.go:141", after := #[{ on := 8, ground := Ground.data }, { on := 9, ground := Ground.data }], guard := none }) (v := .pointer (some ⟨eA, fA + x, none⟩)) rfl (by kernel_rfl) (by kernel_rfl) (by kernel_rfl) (by kernel_rfl) (by kernel_rfl) (fun _ _ _ h => h) (Or.inl ⟨rfl, fun W hW => by (obtain ⟨_, y0_, y1_, y2_, y3_, _⟩ := hW; go_simp; try rfl)⟩) HS ?_
              try simp only [Act.put, List.setIfInBounds_toArray, List.set_cons_zero, List.set_cons_succ]
              refine wpAnyL_take (i := 11) (oi := { dst := some 92, op := Op.load 104 (Operand.tmp 91), type := 104, pos := "l05_costs.go:141", after := #[{ on := 10, ground := Ground.data }], guard := none }) (v := .slice (some ⟨y2, z2, none⟩) p DR2) rfl (by kernel_rfl) (by kernel_rfl) (by kernel_rfl) (by kernel_rfl) (by kernel_rfl) (fun _ _ _ h => h) (Or.inl ⟨rfl, fun W hW => by (obtain ⟨_, y0_, y1_, y2_, y3_, _⟩ := hW; go_simp; try rfl)⟩) HS ?_
              try simp only [Act.put, List.setIfInBounds_toArray, List.set_cons_zero, List.set_cons_succ]
              refine wpAnyL_last (o := { dst := some 93, op := Op.call { callee := Callee.builtin Builtin.copy, args := #[Operand.tmp 84, Operand.tmp 92], argTypes := #[104, 104] }, type := 3, pos := "l05_costs.go:141", after := #[{ on := 3, ground := Ground.data }, { on := 11, ground := Ground.data }], guard := none }) (by kernel_rfl) rfl (by kernel_rfl) (fun K hK => ?_)
              refine step_copy_cells (by rfl) _ _ _ _ (by rfl) 4 (by exact Try.underlying104) (by kernel_rfl) r 0 (p + q) (p + q) ⟨y2, z2, none⟩ p DR2 (by rfl) (by rfl) (row.map Value.bool) HN.out HSRC.out HC.out HF.out HO.out ?_
              refine hK.out _ _ ?_
              clear hK K HS
              try simp only [Act.put]
              go_wp2_with fail
              go_roundw
              case rel => exact ⟨x + 1, XP.out, by go_num, HPUT.out, HBUT.out⟩
              case measure => have := XP.out; simp [intOf]; omega
            · obtain rfl : x = p := by omega
              obtain ⟨w8, rfl⟩ : ∃ w8, w8 = wr := ⟨_, rfl⟩
              have P1 : Hid (BBX w8 (tab (x + q) (x + q) (plT x q (at3 ny j) (plT 0 x (at3 nx j) off2 x) 0)) A2 (rng w6.heap.size w7.heap.size)) := by show BBX _ _ _ _; rw [plT_zero]; exact hP.out
              have hW8 := Lib.hid hW.out
              clear hP hW
              go_wp2_with fail
              clear c2 s2
              go_loopw [11] (fun i wr => ∃ y : Nat, y ≤ q ∧ i = .int .i64 y ∧ Hid (BBX wr (tab (x + q) (x + q) (plT x q (at3 ny j) (plT 0 x (at3 nx j) off2 x) y)) A2 (rng w6.heap.size w7.heap.size)) ∧ Hid (ButF (rng w6.heap.size w7.heap.size) w7 wr)) (fun i _ => q - (intOf i).toNat)
              case atStart => exact ⟨0, Nat.zero_le _, rfl, P1.out, hW8.out⟩
              case round =>
                obtain ⟨y, hy, rfl, hP, hW⟩ := hrel
                clear P1
                have s2 : Below w2.heap.size w2 wr := B7.out.trans ⟨hW.out.os, hW.out.tape, hW.out.output, hW.out.size, fun k hk => hW.out.block k (by have := B7.out.size; omega) (fun h => by have := h.1; omega)⟩
                have HS2y := Lib.hid s2
                have d2 := kc s2 HH2.out
                by_cases hyq : y < q
                · have XP := Lib.hid hyq
                  have hxr : y < rB.length := by rw [HRB1.out]; exact hyq
                  obtain ⟨R2, DR2, cR0, qR⟩ := HATB.out y rB[y] (List.getElem?_eq_getElem hxr)
                  have hrl : rB[y].length = q := HRB2.out rB[y] (List.getElem_mem hxr)
                  obtain ⟨row, hrow⟩ : ∃ row, row = rB[y] := ⟨_, rfl⟩
                  have hrg : ∀ z, z < q → row.getD z false = at3 ny j y z := fun z _ => by rw [← HGB.out y z, hrow]; simp [List.getD, hxr]
                  rw [← hrow] at cR0 qR hrl
                  obtain ⟨y2, z2, _, hR2, hat2⟩ := qR (by rintro rfl; simp at hrl; have := HQ1.out; omega)
                  rw [hrl] at cR0
                  subst hR2
                  obtain ⟨wd, hwd⟩ : ∃ wd, wd = wr.drew := ⟨_, rfl⟩
                  have hPd : BBX wd (tab (x + q) (x + q) (plT x q (at3 ny j) (plT 0 x (at3 nx j) off2 x) y)) A2 (rng w6.heap.size w7.heap.size) := bbX_ok.keep hP.out fun k _ => by rw [hwd]; rfl
                  have sd : Below w2.heap.size w2 wd := by rw [hwd]; exact s2.drew
                  obtain ⟨b, r, hA1, hF1, hF2, e0, e1, e2, hput⟩ := BBX.copy hPd (x := x + y) (by omega) (by have := HP1.out; omega)
                  have hput2 := hput row x (by rw [hrl]; omega)
                  rw [plT_step hrl hrg] at hput2
                  have HPUT := Lib.hid hput2
                  have HBUT : Hid (ButF (rng w6.heap.size w7.heap.size) w7 (wd.setCells r x (row.map Value.bool))) := ButF.sets hF2 _ _ _ (by rw [hwd]; exact hW.out.draws)
                  have HSRC : Hid (∀ (j : Nat) (v : Value), (row.map Value.bool)[j]? = some v → wd.cell? ((⟨y2, z2, none⟩ : Addr).add j) = some v) := fun j v hj => by
                    rw [List.getElem?_map] at hj
                    obtain ⟨u, hu, rfl⟩ := Option.map_eq_some_iff.1 hj
                    rw [addr_add]; exact kc sd (hat2 j u hu)
                  have HN : Hid ((row.map Value.bool).length = Nat.min q (x + q)) := by show _ = _; rw [List.length_map, hrl]; simp only [Nat.min_def]; split <;> omega
                  have HN2 : Hid ((row.map Value.bool).length = Nat.min q q) := by show _ = _; rw [List.length_map, hrl]; simp
                  have HC : Hid (∀ j, j < (row.map Value.bool).length → (wd.cell? ⟨r, x + j, none⟩).isSome = true) := fun j hj => e2 (x + j) (by rw [List.length_map, hrl] at hj; omega)
                  have HF : Hid (∀ j, j < (row.map Value.bool).length → wd.frozen? ⟨r, x + j, none⟩ = false) := fun j _ => e1 (x + j)
                  have HO : Hid (∀ v ∈ row.map Value.bool, v.oneCell' = true) := fun v hv => by obtain ⟨u, _, rfl⟩ := List.mem_map.1 hv; rfl
                  have q0 : (0 : Int) ≤ (y : Int) := Int.natCast_nonneg _
                  have q1 : (y : Int) < (q : Int) := by omega
                  have q6 : ¬ (x : Int) + (q : Int) < (x : Int) := by omega
                  have HL : Hid (St w2 [(w.heap.size, 2, .int .i64 (x : Int)), (b, x + y, .slice (some ⟨r, 0, none⟩) (x + q) (x + q)), (w.heap.size + 1, 4, .slice (some ⟨bB, oB, none⟩) a D2), (bB, oB + j, .slice (some ⟨eB, fB, none⟩) q DB), (eB, fB + y, .slice (some ⟨y2, z2, none⟩) q DR2)] wr.drew) := by rw [← hwd]; exact ⟨sd, kc sd HG2.out, e0, kc sd HH4.out, kc sd HCB.out, kc sd cR0, trivial⟩
                  have q2 : IntKind.i64.wrap ((x : Int) + (y : Int)) = (x : Int) + (y : Int) := IntWalk.i64_in _ (by have := HPQ.out; omega)
                  have q3 : ((x : Int) + (y : Int)).toNat = x + y := by omega
                  have q4 : (0 : Int) ≤ (x : Int) + (y : Int) := by omega
                  have q5 : ¬ q = 0 := by omega
                  clear qR hrow hrg hput hput2 hat2 hF1 hF2 e1 e2 hP hW s2 sd cR0 hxr hrl e0 
                  subst hA1
                  go_wp2_with fail
                  refine wp_region_last (S := fun W' => St w2 [(w.heap.size, 2, .int .i64 (x : Int)), (b, x + y, .slice (some ⟨r, 0, none⟩) (x + q) (x + q)), (w.heap.size + 1, 4, .slice (some ⟨bB, oB, none⟩) a D2), (bB, oB + j, .slice (some ⟨eB, fB, none⟩) q DB), (eB, fB + y, .slice (some ⟨y2, z2, none⟩) q DR2)] W') 18 (by kernel_rfl) HL.out (fun HS => ?_)
                  rw [← hwd] at HS ⊢
                  clear hwd
                  refine wpAnyL_take (i := 0) (oi := { dst := some 100, op := Op.move (Operand.tmp 9), type := 24, pos := "l05_costs.go:144", after := #[], guard := none }) (v := .slice (some ⟨b, 0, none⟩) (x + q) C2) rfl (by kernel_rfl) (by kernel_rfl) (by kernel_rfl) (by kernel_rfl) (by kernel_rfl) (fun _ _ _ h => h) (Or.inl ⟨rfl, fun W hW => by (obtain ⟨_, y0_, y1_, y2_, y3_, y4_, _⟩ := hW; go_simp; try rfl)⟩) HS ?_
                  try simp only [Act.put, List.setIfInBounds_toArray, List.set_cons_zero, List.set_cons_succ]
                  refine wpAnyL_take (i := 1) (oi := { dst := some 101, op := Op.fieldAddr 31 (Operand.tmp 2) 1, type := 0, pos := "l05_costs.go:144", after := #[], guard := none }) (v := .pointer (some ⟨w.heap.size, 2, none⟩)) rfl (by kernel_rfl) (by kernel_rfl) (by kernel_rfl) (by kernel_rfl) (by kernel_rfl) (fun _ _ _ h => h) (Or.inl ⟨rfl, fun W hW => by (obtain ⟨_, y0_, y1_, y2_, y3_, y4_, _⟩ := hW; go_simp; try rfl)⟩) HS ?_
                  try simp only [Act.put, List.setIfInBounds_toArray, List.set_cons_zero, List.set_cons_succ]
                  refine wpAnyL_take (i := 2) (oi := { dst := some 102, op := Op.load 2 (Operand.tmp 101), type := 2, pos := "l05_costs.go:144", after := #[{ on := 1, ground := Ground.data }], guard := none }) (v := .int .i64 (x : Int)) rfl (by kernel_rfl) (by kernel_rfl) (by kernel_rfl) (by kernel_rfl) (by kernel_rfl) (fun _ _ _ h => h) (Or.inl ⟨rfl, fun W hW => by (obtain ⟨_, y0_, y1_, y2_, y3_, y4_, _⟩ := hW; go_simp; try rfl)⟩) HS ?_
                  try simp only [Act.put, List.setIfInBounds_toArray, List.set_cons_zero, List.set_cons_succ]
                  refine wpAnyL_take (i := 3) (oi := { dst := some 103, op := Op.move (Operand.tmp 11), type := 2, pos := "l05_costs.go:144", after := #[], guard := none }) (v := .int .i64 y) rfl (by kernel_rfl) (by kernel_rfl) (by kernel_rfl) (by kernel_rfl) (by kernel_rfl) (fun _ _ _ h => h) (Or.inl ⟨rfl, fun W hW => by (obtain ⟨_, y0_, y1_, y2_, y3_, y4_, _⟩ := hW; go_simp; try rfl)⟩) HS ?_
                  try simp only [Act.put, List.setIfInBounds_toArray, List.set_cons_zero, List.set_cons_succ]
                  refine wpAnyL_take (i := 4) (oi := { dst := some 104, op := Op.binOp BinOp.add 2 (Operand.tmp 102) (Operand.tmp 103) 2, type := 2, pos := "l05_costs.go:144", after := #[{ on := 2, ground := Ground.data }, { on := 3, ground := Ground.data }], guard := none }) (v := .int .i64 ((x : Int) + (y : Int))) rfl (by kernel_rfl) (by kernel_rfl) (by kernel_rfl) (by kernel_rfl) (by kernel_rfl) (fun _ _ _ h => h) (Or.inl ⟨rfl, fun W hW => by (obtain ⟨_, y0_, y1_, y2_, y3_, y4_, _⟩ := hW; go_simp; try rfl)⟩) HS ?_
                  try simp only [Act.put, List.setIfInBounds_toArray, List.set_cons_zero, List.set_cons_succ]
                  refine wpAnyL_take (i := 5) (oi := { dst := some 105, op := Op.indexAddr 24 (Operand.tmp 100) (Operand.tmp 104), type := 0, pos := "l05_costs.go:144", after := #[{ on := 0, ground := Ground.data }, { on := 4, ground := Ground.data }], guard := none }) (v := .pointer (some ⟨b, x + y, none⟩)) rfl (by kernel_rfl) (by kernel_rfl) (by kernel_rfl) (by kernel_rfl) (by kernel_rfl) (fun _ _ _ h => h) (Or.inl ⟨rfl, fun W hW => by (obtain ⟨_, y0_, y1_, y2_, y3_, y4_, _⟩ := hW; go_simp; try rfl)⟩) HS ?_
                  try simp only [Act.put, List.setIfInBounds_toArray, List.set_cons_zero, List.set_cons_succ]
                  refine wpAnyL_take (i := 6) (oi := { dst := some 106, op := Op.load 104 (Operand.tmp 105), type := 104, pos := "l05_costs.go:144", after := #[{ on := 5, ground := Ground.data }], guard := none }) (v := .slice (some ⟨r, 0, none⟩) (x + q) (x + q)) rfl (by kernel_rfl) (by kernel_rfl) (by kernel_rfl) (by kernel_rfl) (by kernel_rfl) (fun _ _ _ h => h) (Or.inl ⟨rfl, fun W hW => by (obtain ⟨_, y0_, y1_, y2_, y3_, y4_, _⟩ := hW; go_simp; try rfl)⟩) HS ?_
                  try simp only [Act.put, List.setIfInBounds_toArray, List.set_cons_zero, List.set_cons_succ]
                  refine wpAnyL_take (i := 7) (oi := { dst := some 107, op := Op.fieldAddr 31 (Operand.tmp 2) 1, type := 0, pos := "l05_costs.go:144", after := #[], guard := none }) (v := .pointer (some ⟨w.heap.size, 2, none⟩)) rfl (by kernel_rfl) (by kernel_rfl) (by kernel_rfl) (by kernel_rfl) (by kernel_rfl) (fun _ _ _ h => h) (Or.inl ⟨rfl, fun W hW => by (obtain ⟨_, y0_, y1_, y2_, y3_, y4_, _⟩ := hW; go_simp; try rfl)⟩) HS ?_
                  try simp only [Act.put, List.setIfInBounds_toArray, List.set_cons_zero, List.set_cons_succ]
                  refine wpAnyL_take (i := 8) (oi := { dst := some 108, op := Op.load 2 (Operand.tmp 107), type := 2, pos := "l05_costs.go:144", after := #[{ on := 7, ground := Ground.data }], guard := none }) (v := .int .i64 (x : Int)) rfl (by kernel_rfl) (by kernel_rfl) (by kernel_rfl) (by kernel_rfl) (by kernel_rfl) (fun _ _ _ h => h) (Or.inl ⟨rfl, fun W hW => by (obtain ⟨_, y0_, y1_, y2_, y3_, y4_, _⟩ := hW; go_simp; try rfl)⟩) HS ?_
                  try simp only [Act.put, List.setIfInBounds_toArray, List.set_cons_zero, List.set_cons_succ]
                  refine wpAnyL_take (i := 9) (oi := { dst := some 109, op := Op.slice 104 (Operand.tmp 106) (some (Operand.tmp 108)) none none, type := 104, pos := "l05_costs.go:144", after := #[{ on := 6, ground := Ground.data }, { on := 8, ground := Ground.data }], guard := none }) (v := .slice (some ⟨r, x, none⟩) q q) rfl (by kernel_rfl) (by kernel_rfl) (by kernel_rfl) (by kernel_rfl) (by kernel_rfl) (fun _ _ _ h => h) (Or.inl ⟨rfl, fun W hW => by (obtain ⟨_, y0_, y1_, y2_, y3_, y4_, _⟩ := hW; go_simp; try rfl)⟩) HS ?_
                  try simp only [Act.put, List.setIfInBounds_toArray, List.set_cons_zero, List.set_cons_succ]
                  refine wpAnyL_take (i := 10) (oi := { dst := some 110, op := Op.fieldAddr 31 (Operand.tmp 3) 3, type := 0, pos := "l05_costs.go:144", after := #[], guard := none }) (v := .pointer (some ⟨w.heap.size + 1, 4, none⟩)) rfl (by kernel_rfl) (by kernel_rfl) (by kernel_rfl) (by kernel_rfl) (by kernel_rfl) (fun _ _ _ h => h) (Or.inl ⟨rfl, fun W hW => by (obtain ⟨_, y0_, y1_, y2_, y3_, y4_, _⟩ := hW; go_simp; try rfl)⟩) HS ?_
                  try simp only [Act.put, List.setIfInBounds_toArray, List.set_cons_zero, List.set_cons_succ]
                  refine wpAnyL_take (i := 11) (oi := { dst := some 111, op := Op.load 25 (Operand.tmp 110), type := 25, pos := "l05_costs.go:144", after := #[{ on := 10, ground := Ground.data }], guard := none }) (v := .slice (some ⟨bB, oB, none⟩) a D2) rfl (by kernel_rfl) (by kernel_rfl) (by kernel_rfl) (by kernel_rfl) (by kernel_rfl) (fun _ _ _ h => h) (Or.inl ⟨rfl, fun W hW => by (obtain ⟨_, y0_, y1_, y2_, y3_, y4_, _⟩ := hW; go_simp; try rfl)⟩) HS ?_
                  try simp only [Act.put, List.setIfInBounds_toArray, List.set_cons_zero, List.set_cons_succ]
                  refine wpAnyL_take (i := 12) (oi := { dst := some 112, op := Op.move (Operand.tmp 8), type := 3, pos := "l05_costs.go:144", after := #[], guard := none }) (v := .int .i64 j) rfl (by kernel_rfl) (by kernel_rfl) (by kernel_rfl) (by kernel_rfl) (by kernel_rfl) (fun _ _ _ h => h) (Or.inl ⟨rfl, fun W hW => by (obtain ⟨_, y0_, y1_, y2_, y3_, y4_, _⟩ := hW; go_simp; try rfl)⟩) HS ?_
                  try simp only [Act.put, List.setIfInBounds_toArray, List.set_cons_zero, List.set_cons_succ]
                  refine wpAnyL_take (i := 13) (oi := { dst := some 113, op := Op.indexAddr 25 (Operand.tmp 111) (Operand.tmp 112), type := 0, pos := "l05_costs.go:144", after := #[{ on := 11, ground := Ground.data }, { on := 12, ground := Ground.data }], guard := none }) (v := .pointer (some ⟨bB, oB + j, none⟩)) rfl (by kernel_rfl) (by kernel_rfl) (by kernel_rfl) (by kernel_rfl) (by kernel_rfl) (fun _ _ _ h => h) (Or.inl ⟨rfl, fun W hW => by (obtain ⟨_, y0_, y1_, y2_, y3_, y4_, _⟩ := hW; go_simp; try rfl)⟩) HS ?_
                  try simp only [Act.put, List.setIfInBounds_toArray, List.set_cons_zero, List.set_cons_succ]
                  refine wpAnyL_take (i := 14) (oi := { dst := some 114, op := Op.load 24 (Operand.tmp 113), type := 24, pos := "l05_costs.go:144", after := #[{ on := 13, ground := Ground.data }], guard := none }) (v := .slice (some ⟨eB, fB, none⟩) q DB) rfl (by kernel_rfl) (by kernel_rfl) (by kernel_rfl) (by kernel_rfl) (by kernel_rfl) (fun _ _ _ h => h) (Or.inl ⟨rfl, fun W hW => by (obtain ⟨_, y0_, y1_, y2_, y3_, y4_, _⟩ := hW; go_simp; try rfl)⟩) HS ?_
                  try simp only [Act.put, List.setIfInBounds_toArray, List.set_cons_zero, List.set_cons_succ]
                  refine wpAnyL_take (i := 15) (oi := { dst := some 115, op := Op.move (Operand.tmp 11), type := 2, pos := "l05_costs.go:144", after := #[], guard := none }) (v := .int .i64 y) rfl (by kernel_rfl) (by kernel_rfl) (by kernel_rfl) (by kernel_rfl) (by kernel_rfl) (fun _ _ _ h => h) (Or.inl ⟨rfl, fun W hW => by (obtain ⟨_, y0_, y1_, y2_, y3_, y4_, _⟩ := hW; go_simp; try rfl)⟩) HS ?_
                  try simp only [Act.put, List.setIfInBounds_toArray, List.set_cons_zero, List.set_cons_succ]
                  refine wpAnyL_take (i := 16) (oi := { dst := some 116, op := Op.indexAddr 24 (Operand.tmp 114) (Operand.tmp 115), type := 0, pos := "l05_costs.go:144", after := #[{ on := 14, ground := Ground.data }, { on := 15, ground := Ground.data }], guard := none }) (v := .pointer (some ⟨eB, fB + y, none⟩)) rfl (by kernel_rfl) (by kernel_rfl) (by kernel_rfl) (by kernel_rfl) (by kernel_rfl) (fun _ _ _ h => h) (Or.inl ⟨rfl, fun W hW => by (obtain ⟨_, y0_, y1_, y2_, y3_, y4_, _⟩ := hW; go_simp; try rfl)⟩) HS ?_
                  try simp only [Act.put, List.setIfInBounds_toArray, List.set_cons_zero, List.set_cons_succ]
                  refine wpAnyL_take (i := 17) (oi := { dst := some 117, op := Op.load 104 (Operand.tmp 116), type := 104, pos := "l05_costs.go:144", after := #[{ on := 16, ground := Ground.data }], guard := none }) (v := .slice (some ⟨y2, z2, none⟩) q DR2) rfl (by kernel_rfl) (by kernel_rfl) (by kernel_rfl) (by kernel_rfl) (by kernel_rfl) (fun _ _ _ h => h) (Or.inl ⟨rfl, fun W hW => by (obtain ⟨_, y0_, y1_, y2_, y3_, y4_, _⟩ := hW; go_simp; try rfl)⟩) HS ?_
                  try simp only [Act.put, List.setIfInBounds_toArray, List.set_cons_zero, List.set_cons_succ]
                  refine wpAnyL_last (o := { dst := some 118, op := Op.call { callee := Callee.builtin Builtin.copy, args := #[Operand.tmp 109, Operand.tmp 117], argTypes := #[104, 104] }, type := 3, pos := "l05_costs.go:144", after := #[{ on := 9, ground := Ground.data }, { on := 17, ground := Ground.data }], guard := none }) (by kernel_rfl) rfl (by kernel_rfl) (fun K hK => ?_)
                  refine step_copy_cells (by rfl) _ _ _ _ (by rfl) 4 (by exact Try.underlying104) (by kernel_rfl) r x (q) (q) ⟨y2, z2, none⟩ q DR2 (by rfl) (by rfl) (row.map Value.bool) HN2.out HSRC.out HC.out HF.out HO.out ?_
                  refine hK.out _ _ ?_
                  clear hK K HS
                  try simp only [Act.put]
                  go_wp2_with fail
                  go_roundw
                  case rel => exact ⟨y + 1, XP.out, by go_num, HPUT.out, HBUT.out⟩
                  case measure => have := XP.out; simp [intOf]; omega
                · obtain rfl : y = q := by omega
                  obtain ⟨w9, rfl⟩ : ∃ w9, w9 = wr := ⟨_, rfl⟩
                  have hsa : Below w6.heap.size w6 w9 := but_young hW.out B67.out
                  have h0 : BBF w9 (tab (x + y) (x + y) (jmF x y nx ny j)) A2 (rng w6.heap.size w7.heap.size) := RowsX.toF hP.out
                  have hQ2 : BBF w9 (tab (x + y) (x + y) (jmF x y nx ny j)) A2 (rng w6.heap.size w9.heap.size) := bbF_ok.mono h0 fun k hk => ⟨hk.1, Nat.lt_of_lt_of_le hk.2 hW.out.size⟩
                  have hU := hS.out.grow bbF_ok hsa
                  obtain ⟨vals, hvl, hown, hpp⟩ := Acc.push bbF_ok hS.out.acc hS.out.but.size hsa hQ2 (Wa := w9.alloc (.cells #[.slice A2 (x + y) C2] 24)) (C := C2) ((Below.refl _ _).alloc (Nat.le_refl _) _)
                  have hlen : ((jmA a x y nx ny).take j).length = j := by rw [List.length_take, jmA_len]; have := JL.out; omega
                  have hln : List.length (tab (x + y) (x + y) (jmF x y nx ny j)) = x + y := tab_len _ _ _
                  rw [hln, hlen] at hpp
                  rw [hlen] at hown
                  have HU := Lib.hid hU; have HOWN := Lib.hid hown; have HPP := Lib.hid hpp
                  obtain ⟨p0, p1, p2, p3, p4, o0, o1, o2, o3, o4⟩ := five_facts HU.out.box
                  clear h0 hsa hQ2 hU hown hpp hvl hlen hln hP hW s2
                  go_wp2_with (at_builtin; refine wpList_one Try.elBBB _ rfl _ _ rfl w5.heap.size j w9.heap.size v (.slice A2 (x + y) C2) vals rfl ?hx HOWN.out ?hc rfl ?hn ?hz ?_)
                  case hx => (first | rfl | simp)
                  case hc => simp [go_sem]
                  case hn => have := JL.out; have := HA4.out; omega
                  case hz => have := HU.out.but.size; simp; omega
                  intro v' w' ho hg hat
                  have hacc := HPP.out v' w' ho hg (by simpa using hat)
                  obtain ⟨Zv, lv, Cv, hvf⟩ := (accForm hacc)
                  subst hvf
                  obtain ⟨hX, hbx⟩ := BA.push (i := 4) bbF_ok (fun _ _ => rfl) (HU.out.grow bbF_ok ((Below.refl _ _).alloc (Nat.le_refl _) (.cells #[.slice A2 (x + y) C2] 24))) hacc hg
                  obtain ⟨q0, q1, q2, q3, q4, t0, t1, t2, t3, t4⟩ := five_facts hbx
                  have HX2 : Hid (BA 24 BBF List.length (fun v => #[.int .i64 (t : Int), .int .i64 (a : Int), .int .i64 ((x : Int) + (y : Int)), .slice E1 t G1, v]) w2.heap.size w5 ((jmA a x y nx ny).take (j + 1)) (.slice Zv lv Cv) (w'.setCell ⟨w2.heap.size, 4, none⟩ (.slice Zv lv Cv))) := by rw [HST.out]; exact hX
                  clear hX hacc ho hg hat p0 p1 p2 p3 p4 o0 o1 o2 o3 o4 hbx d2
                  go_wp2_with fail
                  go_roundw
                  case rel => exact ⟨j + 1, _, JL.out, by go_num, HX2.out⟩
                  case measure => have := JL.out; simp [intOf]; omega
        · obtain rfl : j = a := by omega
          have HR6 := (B6.out.block (w.heap.size + 1 + 1) (by omega)).trans HR2.out
          obtain ⟨u0, u1, u2, u3, u4, x0, x1, x2, x3, x4⟩ := five_facts HR6
          have hall : (jmA j p q nx ny).take j = jmA j p q nx ny := List.take_of_length_le (by rw [jmA_len]; exact Nat.le_refl _)
          rw [hall] at hS
          obtain ⟨E2, G2, hv2, hR2⟩ := hS.out.acc.done
          rw [jmA_len] at hv2
          subst hv2
          obtain ⟨m0, m1, m2, m3, m4, n0, n1, n2, n3, n4⟩ := five_facts hS.out.box
          have HR2' := Lib.hid hR2
          have HT6 : Hid (BBF w6 (jmT t p q ac bc) E1 (rng w3.heap.size w5.heap.size)) := bbF_ok.keep HT5.out fun k hk => hS.out.but.block k hk.2 (by have := hk.1; have := HZ3.out; show k ≠ _; omega)
          clear hR2
          go_wp2_with fail
          obtain ⟨y0, y1, y2, y3, y4, _, _, _, _, _⟩ := five_facts (five_block HR6 (.int .i64 (t : Int)) (.int .i64 (j : Int)) (.int .i64 ((p : Int) + (q : Int))) (.slice E1 t G1) (.slice E2 j G2))
          refine bodyPost_ret (v := .tuple #[.agg #[.int .i64 (t : Int), .int .i64 (j : Int), .int .i64 ((p : Int) + (q : Int)), .slice E1 t G1, .slice E2 j G2], .int .i64 0]) (by simp [results, Try.results11, go_sem, y0, y1, y2, y3, y4]) rfl ?_
          exact mend5 HT6.out HR2'.out (FIN.out _ (S02.out.below B6.out)) (show w.heap.size ≤ w.heap.size + 1 + 1 by omega) (by have := HZ3.out; omega) B35.out (Nat.le_refl _) hS.out.but.size (Nat.le_refl _) (jmT_len _ _ _ _ _) (jmA_len _ _ _ _ _) _ _ _ _ _
theorem specJoinModels_any (t a p : Int) (ac : List (List Bool)) (nx : List (List (List Bool))) (t' a' q : Int) (bc : List (List Bool)) (ny : List (List (List Bool))) (hs : SmallM ac nx) (hs2 : SmallM bc ny) (A B A2 B2 : Option Addr) (C D C2 D2 : Nat) (w : World) (hA0 : BB 0 w ac A) (hB0 : BBB 0 w nx B) (hA20 : BB 0 w bc A2) (hB20 : BBB 0 w ny B2) :
    Calls Try.prog 11 #[.agg #[.int .i64 t, .int .i64 a, .int .i64 p, .slice A ac.length C, .slice B nx.length D], .agg #[.int .i64 t', .int .i64 a', .int .i64 q, .slice A2 bc.length C2, .slice B2 ny.length D2]] w (JEnd t a p ac nx t' a' q bc ny w) := by
  by_cases hv1 : validM t a p ac nx = true
  · by_cases hv2 : validM t' a' q bc ny = true
    · by_cases hse : t = t' ∧ a = a'
      · obtain ⟨rfl, rfl⟩ := hse
        by_cases hbig : p + q ≤ 8
        · obtain ⟨ht, _, ha, _, hp, _⟩ := validM_bd hv1
          obtain ⟨_, _, _, _, hq, _⟩ := validM_bd hv2
          obtain ⟨t, rfl⟩ := Int.eq_ofNat_of_zero_le ht
          obtain ⟨a, rfl⟩ := Int.eq_ofNat_of_zero_le ha
          obtain ⟨p, rfl⟩ := Int.eq_ofNat_of_zero_le (show 0 ≤ p by omega)
          obtain ⟨q, rfl⟩ := Int.eq_ofNat_of_zero_le (show 0 ≤ q by omega)
          exact (specJoin_yes t a p q ac nx bc ny hs hs2 hv1 hv2 (by omega) A B A2 B2 C D C2 D2 w hA0 hB0 hA20 hB20).mono fun e w' h => JEnd.yes ⟨hv1, hv2⟩ (by omega) h
        · exact (specJoin_big t a p q ac nx bc ny hs hs2 hv1 hv2 hbig A B A2 B2 C D C2 D2 w hA0 hB0 hA20 hB20).mono fun e w' h => JEnd.big ⟨hv1, hv2⟩ ⟨rfl, rfl⟩ hbig h
      · exact (specJoin_far t a p q t' a' ac nx bc ny hs hs2 hv1 hv2 hse A B A2 B2 C D C2 D2 w hA0 hB0 hA20 hB20).mono fun e w' h => JEnd.far ⟨hv1, hv2⟩ hse h
    · have hv2' : validM t' a' q bc ny = false := by simpa using hv2
      exact (specJoin_no2 t a p q t' a' ac nx bc ny hs hs2 hv1 hv2' A B A2 B2 C D C2 D2 w hA0 hB0 hA20 hB20).mono fun e w' h => JEnd.no (fun h => hv2 h.2) h
  · have hv1' : validM t a p ac nx = false := by simpa using hv1
    exact (specJoin_no1 t a p q t' a' ac nx bc ny hs hs2 hv1' A B A2 B2 C D C2 D2 w hA0 hB0 hA20 hB20).mono fun e w' h => JEnd.no (fun h => hv1 h.1) h
end Go.Proofs.Ytcgbepmhfimbjaa

namespace Go.Proofs.Ytcgbepmhfimbjaa
open Go.RowKit Go.WideShapes Go.ChangeShapes Go.ChangeAt Go.Deep Go.WideElems

theorem Try.own : ownKnob Try.prog.godebug = none := by kernel_rfl
theorem Try.laidOut : laidOutB Try.prog = true := by kernel_rfl
theorem Try.kids : Go.Kids Try.prog (· < Try.prog.types.size) := kids_rows (by kernel_rfl) (by kernel_rfl)
theorem Try.full : ∀ t e, t < Try.prog.types.size → Try.prog.underlying t = some (.slice e) → 0 < Try.prog.cellsOf e := slices_full_of Try.prog (by kernel_rfl)

section
variable {H : Type} {enc : TypeId × Value → H} {P : Program}

theorem post_of_below {f : Func} {s : ChangeSpec} {apart fresh handsOn again : Bool} {W W' : World} {args : Array Value} {v : Value} {ds gs : List (DataW H)} {before pa pv : List MemPlace}
    (hW : DataW.Whole enc P f.params.toList s.vars apart W args.toList ds gs before)
    (hres : ∀ (b : Nat) (sp : Nat → Bool) (hd : Bool), DataW.TrodAll enc P W' b sp hd f.resultTypes.toList (v.resultList f.resultTypes.size) (s.fn H (ds ++ gs)).results [])
    (hargs : ∀ sp : Nat → Bool, (∀ p ∈ before, sp p.block = true) → DataW.TrodAll enc P W' 0 sp true f.params.toList args.toList (s.fn H (ds ++ gs)).args pa)
    (hvars : ∀ sp : Nat → Bool, (∀ p ∈ before, sp p.block = true) → DataW.TrodVars enc P W' sp s.vars (s.fn H (ds ++ gs)).vars pv)
    (hps : before = pa ++ pv) (hb : Below W.heap.size W W')
    (hok : ∀ (j : Nat) (t : TypeId) (r : Value), f.resultTypes[j]? = some t → (v.resultList f.resultTypes.size)[j]? = some r → Value.okWide P W' .any 0 t r) :
    s.post enc P f apart fresh handsOn again W args v W' := by
  have hlt : ∀ p ∈ before, p.block < W.heap.size := fun p hp => hW.lt p hp
  have hold : ∀ p ∈ before, (fun b => decide (b < W.heap.size)) p.block = true := fun p hp => by simpa using hlt p hp
  refine ⟨ds, gs, before, [], pa, pv, hW, hres _ _ _, hargs _ hold, hvars _ hold, World.keptBut_mono (fun p hp => ⟨hp, ?_⟩) (hb.frame (· ∈ before)), fun _ => ?_⟩
  · rw [hps, List.mem_append] at hp
    exact Or.inr hp
  · obtain ⟨_, _, _, _, _, hz, hn⟩ := hW
    refine ⟨hok, _, _, ([] ++ pa) ++ pv, ⟨[] ++ pa, pv, trodAll_append (hargs _ (fun _ _ => rfl)) (hres _ _ _), hvars _ (fun _ _ => rfl), rfl, ?_, ?_⟩, ?_⟩
    · intro b off hp
      have hin : MemPlace.cell b off ∈ before := by rw [hps]; simpa using hp
      rw [hb.frozen (hlt _ hin)]
      exact hz b off hin
    · intro ha
      have := hn ha
      rw [hps] at this
      simpa using this
    · intro p hp _
      rw [hps]
      simpa using hp

/-- Arguments read behind the call as they did, where nothing that was there has changed. -/
theorem trodAll_stays (hl : laidOutB P = true) {W W' : World} {sp : Nat → Bool} (hb : Below W.heap.size W W') :
    ∀ {ts : List TypeId} {vs : List Value} {ds : List (DataW H)} {ps : List MemPlace}, (∀ t ∈ ts, P.readableRec t = true ∧ t < P.types.size) →
      DataW.TrodAll enc P W 0 (fun _ => true) true ts vs ds ps → (∀ x ∈ ps, x.block < W.heap.size) → (∀ x ∈ ps, sp x.block = true) → DataW.TrodAll enc P W' 0 sp true ts vs ds ps
  | [], [], [], _, _, h, _, _ => h
  | _ :: _, _ :: _, _ :: _, _, hT, ⟨p, q, h1, h2, e⟩, hlt, hs => ⟨p, q,
      WideElems.Trod_stays hl (hT _ (List.mem_cons.2 (Or.inl rfl))).1 (hT _ (List.mem_cons.2 (Or.inl rfl))).2 h1 (fun x hx => hb.same (hlt x (by rw [e]; exact List.mem_append_left _ hx))) (fun x hx => hs x (by rw [e]; exact List.mem_append_left _ hx)),
      trodAll_stays hl hb (fun t ht => hT t (List.mem_cons.2 (Or.inr ht))) h2 (fun x hx => hlt x (by rw [e]; exact List.mem_append_right _ hx)) (fun x hx => hs x (by rw [e]; exact List.mem_append_right _ hx)), e⟩

/-- A LAW's END: it answers true, and nothing that was there has changed. -/
theorem law_end {f : Func} {s : ChangeSpec} {W W' : World} {args : Array Value} {ds gs : List (DataW H)} {before : List MemPlace} {tb : TypeId}
    (hl : laidOutB P = true) (ub : P.underlying tb = some .bool) (hv : s.vars = []) (hr : f.resultTypes = #[tb]) (hp : ∀ t ∈ f.params.toList, P.readableRec t = true ∧ t < P.types.size)
    (hfn : (s.fn H (ds ++ gs)).results = [.lit (.bool true)]) (hfa : (s.fn H (ds ++ gs)).args = ds) (hfv : (s.fn H (ds ++ gs)).vars = [])
    (hW : DataW.Whole enc P f.params.toList s.vars false W args.toList ds gs before) (hb : Below W.heap.size W W') : s.post enc P f false true false false W args (.bool true) W' := by
  have hW' := hW
  obtain ⟨p, q, hA, hV, hpq, _, _⟩ := hW
  rw [hv] at hV
  obtain ⟨rfl, rfl⟩ := trodVars_none hV
  refine post_of_below (pa := p) (pv := []) hW' ?_ ?_ ?_ hpq hb ?_
  · intro b sp hd
    rw [hr, hfn]
    exact trodAll_mk1 (shut_bool ub _)
  · intro sp hsp
    rw [hfa]
    exact trodAll_stays hl hb hp hA (fun x hx => hW'.lt x (by rw [hpq]; exact List.mem_append_left _ hx)) (fun x hx => hsp x (by rw [hpq]; exact List.mem_append_left _ hx))
  · intro sp _
    rw [hv, hfv]
    exact rfl
  · exact ok_one hr rfl (okWide_bool_mk ub _)

/-- A signature handed by value: two integers. -/
theorem open_sig {W : World} {base : Nat} {t : TypeId} {v : Value} {d : DataW H} {p : List MemPlace} {f0 f1 : Field} (hs : P.underlying t = some (.struct #[f0, f1])) (hone : oneCellFields P #[f0, f1] = true) (hC : P.cellsOf t = 2)
    (u0 : P.underlying f0.type = some (.int .i64)) (u1 : P.underlying f1.type = some (.int .i64)) (hok : Value.okWide P W .any base t v) (h : DataW.Trod enc P W 0 (fun _ => true) true t v d p) :
    ∃ x y : Int, v = .agg #[.int .i64 x, .int .i64 y] ∧ (Lit.int .i64 x).wf = true ∧ (Lit.int .i64 y).wf = true := by
  obtain ⟨c0, c1, y0, y1, m, rfl, rfl, rfl, hy0, hy1⟩ := Joins.open_agg2 hs hone hC hok h
  obtain ⟨x, hx, _, wx⟩ := DataW.trod_int u0 hy0
  obtain ⟨y, hy, _, wy⟩ := DataW.trod_int u1 hy1
  simp at hx hy
  subst hx; subst hy
  exact ⟨x, y, rfl, wx, wy⟩
end

set_option maxRecDepth 100000 in
theorem lsig_open {H : Type} {enc : TypeId × Value → H} {W : World} {base : Nat} {v : Value} {d : DataW H} {p : List MemPlace} (hok : Value.okWide Try.prog W .any base 23 v) (h : DataW.Trod enc Try.prog W 0 (fun _ => true) true 23 v d p) :
    ∃ x y : Int, v = .agg #[.int .i64 x, .int .i64 y] ∧ (Lit.int .i64 x).wf = true ∧ (Lit.int .i64 y).wf = true :=
  open_sig Try.underlying23 (by kernel_rfl) (by kernel_rfl) Try.underlying2 Try.underlying2 hok h

theorem Try.cellsE : Try.prog.cellsOf 40 = 3 := by kernel_rfl

/-- A list of rows out of its rows, from the last one on. -/
theorem forest_of_rows {W : World} {b o len : Nat} {K N : Nat → Int} {S : Nat → Fo} {A : Nat → Option Addr} {C : Nat → Nat}
    (h : ∀ i, i < len → W.cell? ⟨b, o + i * 3, none⟩ = some (.int .i64 (K i)) ∧ W.cell? ⟨b, o + i * 3 + 1, none⟩ = some (.int .i64 (N i)) ∧ W.cell? ⟨b, o + i * 3 + 2, none⟩ = some (.slice (A i) (S i).len (C i)) ∧ (S i).Lies W (A i) ∧ (S i).len ≤ 9223372036854775807 ∧ (S i).Fits) :
    ∀ j, j ≤ len → ∃ f : Fo, f.len = j ∧ f.At W b (o + (len - j) * 3) ∧ f.Fits := by
  intro j
  induction j with
  | zero => intro _; exact ⟨.nil, rfl, trivial, trivial⟩
  | succ j ih =>
    intro hj
    obtain ⟨f, h1, h2, h3⟩ := ih (by omega)
    obtain ⟨g0, g1, g2, g3, g4, g5⟩ := h (len - (j + 1)) (by omega)
    refine ⟨.cons (K (len - (j + 1))) (N (len - (j + 1))) (S (len - (j + 1))) f, by simp [Fo.len, h1], ⟨g0, g1, ⟨A _, C _, g2, g3⟩, ?_⟩, g4, g5, h3⟩
    rw [show o + (len - (j + 1)) * 3 + 3 = o + (len - j) * 3 from by omega]
    exact h2

set_option maxRecDepth 100000 in
theorem lforest_open {H : Type} {enc : TypeId × Value → H} {W : World} : ∀ (fuel : Nat) (cs : List Value) (x : DataW H × List MemPlace),
    DataW.trod enc Try.prog W 0 (fun _ => true) true fuel 38 cs = some x → ∃ (f : Fo) (A : Option Addr) (C : Nat), cs = [.slice A f.len C] ∧ f.Lies W A ∧ f.len ≤ 9223372036854775807 ∧ f.Fits := by
  intro fuel
  induction fuel using Nat.strongRecOn with
  | _ fuel ih =>
    intro cs x h
    rcases DataW.trod_slice Try.underlying38 h with ⟨rfl, _⟩ | ⟨a, len, cap, elems, rest, n, hn, rfl, rfl, hb, hl, hm, hlen, hel, hsp, hns⟩
    · exact ⟨.nil, none, 0, rfl, fun h => absurd rfl h, Nat.zero_le _, trivial⟩
    · have one : ∀ i, i < len → ∃ z : Int × Int × Fo × Option Addr × Nat, W.cell? (a.add (i * 3)) = some (.int .i64 z.1) ∧ W.cell? (a.add (i * 3 + 1)) = some (.int .i64 z.2.1) ∧
          W.cell? (a.add (i * 3 + 2)) = some (.slice z.2.2.2.1 z.2.2.1.len z.2.2.2.2) ∧ z.2.2.1.Lies W z.2.2.2.1 ∧ z.2.2.1.len ≤ 9223372036854775807 ∧ z.2.2.1.Fits := by
        intro i hi
        have key := hel i hi
        rw [List.getElem?_eq_getElem (by omega), Try.cellsE] at key
        obtain ⟨cs', h1, h2⟩ := Option.bind_eq_some_iff.1 key
        obtain ⟨_, hl3, hc⟩ := World.cells?_some h1
        obtain ⟨xs, m, rfl, _, _, hxl, hf⟩ := DataW.trod_struct Try.underlying40 h2
        match xs, hxl, cs', hl3 with
        | [y0, y1, y2], _, [v0, v1, v2], _ =>
          have g0 : DataW.trod enc Try.prog W 0 (fun _ => true) true m 2 [v0] = some y0 := hf 0 _ rfl
          have g1 : DataW.trod enc Try.prog W 0 (fun _ => true) true m 2 [v1] = some y1 := hf 1 _ rfl
          have g2 : DataW.trod enc Try.prog W 0 (fun _ => true) true m 38 [v2] = some y2 := hf 2 _ rfl
          obtain ⟨k, hk, _, _⟩ := DataW.trod_int Try.underlying2 g0
          obtain ⟨nn, hnn, _, _⟩ := DataW.trod_int Try.underlying2 g1
          obtain ⟨f, A, C, hf2, l1, l2, l3⟩ := ih m (by omega) _ _ g2
          simp at hk hnn hf2
          subst hk; subst hnn; subst hf2
          have c0 := hc 0 (by omega)
          have c1 := hc 1 (by omega)
          have c2 := hc 2 (by omega)
          rw [add_add] at c0 c1 c2
          exact ⟨(k, nn, f, A, C), c0, c1, c2, l1, l2, l3⟩
      obtain ⟨b, o, spot⟩ := a
      by_cases h0 : len = 0
      · subst h0
        exact ⟨.nil, _, _, rfl, fun h => absurd rfl h, Nat.zero_le _, trivial⟩
      have : Inhabited (Option Addr × Nat) := ⟨(none, 0)⟩
      have : Inhabited (Int × Int × Fo × Option Addr × Nat) := ⟨(0, 0, .nil, none, 0)⟩
      obtain ⟨Z, hZ⟩ := choose_lt one
      have hspot : spot = none := by
        have := (hZ 0 (by omega)).1
        simpa [Addr.add] using World.cell?_spot this
      subst hspot
      obtain ⟨f, e1, e2, e3⟩ := forest_of_rows (W := W) (b := b) (o := o) (len := len) (K := fun i => (Z i).1) (N := fun i => (Z i).2.1) (S := fun i => (Z i).2.2.1) (A := fun i => (Z i).2.2.2.1) (C := fun i => (Z i).2.2.2.2)
        (fun i hi => by
          obtain ⟨q0, q1, q2, q3, q4, q5⟩ := hZ i hi
          rw [add_plain] at q0 q1 q2
          exact ⟨q0, q1, q2, q3, q4, q5⟩) len (Nat.le_refl _)
      rw [Nat.sub_self, Nat.zero_mul] at e2
      subst e1
      exact ⟨f, some ⟨b, o, none⟩, cap, rfl, fun _ => ⟨b, o, rfl, e2⟩, by unfold maxLen at hm; omega, e3⟩

set_option maxRecDepth 100000 in
/-- An expression handed by value. -/
theorem lexpr_open {H : Type} {enc : TypeId × Value → H} {W : World} {base : Nat} {v : Value} {d : DataW H} {p : List MemPlace} (hok : Value.okWide Try.prog W .any base 40 v) (h : DataW.Trod enc Try.prog W 0 (fun _ => true) true 40 v d p) :
    ∃ (k n : Int) (f : Fo) (A : Option Addr) (C : Nat), v = .agg #[.int .i64 k, .int .i64 n, .slice A f.len C] ∧ f.Lies W A ∧ f.len ≤ 9223372036854775807 ∧ f.Fits ∧ (Lit.int .i64 k).wf = true ∧ (Lit.int .i64 n).wf = true := by
  obtain ⟨c0, c1, c2, y0, y1, y2, m, rfl, _, _, g0, g1, g2⟩ := Joins.open_agg3 Try.underlying40 (by kernel_rfl) Try.cellsE hok h
  obtain ⟨k, hk, _, wk⟩ := DataW.trod_int Try.underlying2 g0
  obtain ⟨n, hn, _, wn⟩ := DataW.trod_int Try.underlying2 g1
  obtain ⟨f, A, C, hf, l1, l2, l3⟩ := lforest_open _ _ _ g2
  simp at hk hn hf
  subst hk; subst hn; subst hf
  exact ⟨k, n, f, A, C, rfl, l1, l2, l3, wk, wn⟩

/-- A list of integers, read. -/
theorem ints_open {H : Type} {enc : TypeId × Value → H} {W : World} {fuel : Nat} {cs : List Value} {x : DataW H × List MemPlace} (h : DataW.trod enc Try.prog W 0 (fun _ => true) true fuel 41 cs = some x) :
    ∃ (xs : List Int) (A : Option Addr) (C : Nat), cs = [.slice A xs.length C] ∧ Ints W xs A ∧ xs.length ≤ 9223372036854775807 ∧ ∀ v ∈ xs, (Lit.int .i64 v).wf = true := by
  rcases open_slice1 Try.underlying41 (by kernel_rfl) h with ⟨rfl, _⟩ | ⟨a, len, cap, m, n, V, D, Pl, rfl, hb, hl, hm, hmm, rfl, hx⟩
  · exact ⟨[], none, 0, rfl, fun h => absurd rfl h, Nat.zero_le _, fun v hv => absurd hv (by simp)⟩
  · simp only [if_true] at hmm
    have one : ∀ i, i < len → ∃ z : Int, W.cell? (a.add i) = some (.int .i64 z) ∧ (Lit.int .i64 z).wf = true := fun i hi => by
      obtain ⟨h1, h2⟩ := hx i (by omega)
      obtain ⟨z, hz, _, wz⟩ := DataW.trod_int Try.underlying2 h2
      simp at hz
      exact ⟨z, by rw [h1, hz], wz⟩
    obtain ⟨Z, hZ⟩ := choose_lt one
    refine ⟨(List.range len).map Z, some a, cap, by simp, ?_, by simp; unfold maxLen at hm; omega, ?_⟩
    · intro hne
      have hpos : 0 < len := by
        rcases Nat.eq_zero_or_pos len with h0 | h0
        · subst h0; simp at hne
        · exact h0
      obtain ⟨b, o, spot⟩ := a
      have hspot : spot = none := by simpa [Addr.add] using World.cell?_spot (hZ 0 hpos).1
      subst hspot
      refine ⟨b, o, rfl, fun i hi => ?_⟩
      have hi' : i < len := by simpa using hi
      have := (hZ i hi').1
      rw [add_plain] at this
      rw [this]
      simp [nth, List.getD, hi']
    · intro v hv
      obtain ⟨i, hi, rfl⟩ := List.mem_map.1 hv
      exact (hZ i (by simpa using hi)).2

set_option maxRecDepth 100000 in
/-- A word handed by value. -/
theorem lword_open {H : Type} {enc : TypeId × Value → H} {W : World} {base : Nat} {v : Value} {d : DataW H} {p : List MemPlace} (hok : Value.okWide Try.prog W .any base 43 v) (h : DataW.Trod enc Try.prog W 0 (fun _ => true) true 43 v d p) :
    ∃ (xs ys : List Int) (A B : Option Addr) (C D : Nat), v = .agg #[.slice A xs.length C, .slice B ys.length D] ∧ Ints W xs A ∧ Ints W ys B ∧ (xs.length ≤ 9223372036854775807 ∧ ys.length ≤ 9223372036854775807) ∧ ((∀ v ∈ xs, (Lit.int .i64 v).wf = true) ∧ ∀ v ∈ ys, (Lit.int .i64 v).wf = true) := by
  obtain ⟨c0, c1, y0, y1, m, rfl, _, _, g0, g1⟩ := Joins.open_agg2 Try.underlying43 (by kernel_rfl) (by kernel_rfl) hok h
  obtain ⟨xs, A, C, hx, l1, l2, l3⟩ := ints_open g0
  obtain ⟨ys, B, D, hy, m1, m2, m3⟩ := ints_open g1
  simp at hx hy
  subst hx; subst hy
  exact ⟨xs, ys, A, B, C, D, rfl, l1, m1, ⟨l2, m2⟩, l3, m3⟩

end Go.Proofs.Ytcgbepmhfimbjaa

namespace Go.Proofs.Ytcgbepmhfimbjaa
open Go.RowKit Go.WideShapes Go.ChangeShapes Go.ChangeAt Go.Deep Go.WideElems

theorem list_open {H : Type} {enc : TypeId × Value → H} {W : World} {t e : TypeId} (ht : Try.prog.underlying t = some (.slice e)) (hc : Try.prog.cellsOf e = 1) {α : Type} [Inhabited α] {Fit : α → Prop} {G : α → Value → Prop}
    (one : ∀ n v y, DataW.trod enc Try.prog W 0 (fun _ => true) true n e [v] = some y → ∃ x : α, G x v ∧ Fit x)
    {fuel : Nat} {cs : List Value} {x : DataW H × List MemPlace} (h : DataW.trod enc Try.prog W 0 (fun _ => true) true fuel t cs = some x) :
    ∃ (xs : List α) (A : Option Addr) (C : Nat), cs = [.slice A xs.length C] ∧ xs.length ≤ 9223372036854775807 ∧ (∀ x ∈ xs, Fit x) ∧ (xs ≠ [] → ∃ b o, A = some ⟨b, o, none⟩ ∧ ∀ i x, xs[i]? = some x → ∃ v, W.cell? ⟨b, o + i, none⟩ = some v ∧ G x v) := by
  rcases open_slice1 ht hc h with ⟨rfl, _⟩ | ⟨a, len, cap, m, n, V, D, Pl, rfl, hb, hl, hm, hmm, rfl, hx⟩
  · exact ⟨[], none, 0, rfl, Nat.zero_le _, fun x hx => absurd hx (by simp), fun h => absurd rfl h⟩
  · simp only [if_true] at hmm
    have each : ∀ i, i < len → ∃ z : α, G z (V i) ∧ Fit z := fun i hi => one n (V i) _ (hx i (by omega)).2
    obtain ⟨Z, hZ⟩ := choose_lt each
    refine ⟨(List.range len).map Z, some a, cap, by simp, by simp; unfold maxLen at hm; omega, ?_, ?_⟩
    · intro x hx
      obtain ⟨i, hi, rfl⟩ := List.mem_map.1 hx
      exact (hZ i (by simpa using hi)).2
    · intro hne
      have hpos : 0 < len := by
        rcases Nat.eq_zero_or_pos len with h0 | h0
        · subst h0; simp at hne
        · exact h0
      obtain ⟨b, o, spot⟩ := a
      have hspot : spot = none := by simpa [Addr.add] using World.cell?_spot (hx 0 (by omega)).1
      subst hspot
      refine ⟨b, o, rfl, fun i x hi => ?_⟩
      obtain ⟨hil, he⟩ := List.getElem?_eq_some_iff.1 hi
      have hi' : i < len := by simpa using hil
      have hz : Z i = x := by rw [← he]; simp
      have := (hx i (by omega)).1
      rw [add_plain] at this
      exact ⟨V i, this, by rw [← hz]; exact (hZ i hi').1⟩

section
variable {H : Type} {enc : TypeId × Value → H} {W : World} {fuel : Nat} {cs : List Value} {x : DataW H × List MemPlace}
theorem boolsL_open (h : DataW.trod enc Try.prog W 0 (fun _ => true) true fuel 104 cs = some x) : ∃ (xs : List Bool) (A : Option Addr) (C : Nat), cs = [.slice A xs.length C] ∧ BoolsL 0 W xs A ∧ xs.length ≤ 9223372036854775807 := by
  obtain ⟨xs, A, C, e, hl, _, hc⟩ := list_open (Fit := fun _ => True) (G := fun b v => v = .bool b) Try.underlying104 (by kernel_rfl) (fun n v y h => by
    obtain ⟨b, hb, _⟩ := DataW.trod_bool Try.underlying4 h
    simp at hb
    exact ⟨b, hb, trivial⟩) h
  exact ⟨xs, A, C, e, fun hn => let ⟨b, o, hA, hh⟩ := hc hn; ⟨b, o, Nat.zero_le _, hA, fun i x hi => let ⟨v, h1, h2⟩ := hh i x hi; by rw [← h2]; exact h1⟩, hl⟩
theorem intsL_open (h : DataW.trod enc Try.prog W 0 (fun _ => true) true fuel 41 cs = some x) : ∃ (xs : List Int) (A : Option Addr) (C : Nat), cs = [.slice A xs.length C] ∧ IntsL 0 W xs A ∧ xs.length ≤ 9223372036854775807 := by
  obtain ⟨xs, A, C, e, h1, h2, _⟩ := ints_open h
  exact ⟨xs, A, C, e, IntsL.of h1, h2⟩
theorem rows3_open {t e : TypeId} (ht : Try.prog.underlying t = some (.slice e)) (hc : Try.prog.cellsOf e = 1) {β : Type} {Q : Nat → World → List β → Option Addr → Prop} {Fit : List β → Prop}
    (one : ∀ n v y, DataW.trod enc Try.prog W 0 (fun _ => true) true n e [v] = some y → ∃ (xs : List β) (A : Option Addr) (C : Nat), [v] = [.slice A xs.length C] ∧ Q 0 W xs A ∧ Fit xs)
    (h : DataW.trod enc Try.prog W 0 (fun _ => true) true fuel t cs = some x) :
    ∃ (xs : List (List β)) (A : Option Addr) (C : Nat), cs = [.slice A xs.length C] ∧ Rows3 Q List.length 0 W xs A ∧ (xs.length ≤ 9223372036854775807 ∧ ∀ x ∈ xs, Fit x) := by
  obtain ⟨xs, A, C, e, hl, hf, hh⟩ := list_open (Fit := Fit) (G := fun (x : List β) v => ∃ B C, v = .slice B x.length C ∧ Q 0 W x B) ht hc (fun n v y h => by
    obtain ⟨xs, A, C, hv, hq, hf⟩ := one n v y h
    simp at hv
    exact ⟨xs, ⟨A, C, hv, hq⟩, hf⟩) h
  exact ⟨xs, A, C, e, fun hn => let ⟨b, o, hA, hk⟩ := hh hn; ⟨b, o, Nat.zero_le _, hA, fun i x hi => let ⟨v, h1, B, C, h2, h3⟩ := hk i x hi; ⟨B, C, by rw [← h2]; exact h1, h3⟩⟩, hl, hf⟩
theorem bb_open (h : DataW.trod enc Try.prog W 0 (fun _ => true) true fuel 24 cs = some x) : ∃ (xs : List (List Bool)) (A : Option Addr) (C : Nat), cs = [.slice A xs.length C] ∧ BB 0 W xs A ∧ (xs.length ≤ 9223372036854775807 ∧ ∀ x ∈ xs, x.length ≤ 9223372036854775807) :=
  rows3_open Try.underlying24 (by kernel_rfl) (fun _ _ _ h => boolsL_open h) h
theorem ii_open (h : DataW.trod enc Try.prog W 0 (fun _ => true) true fuel 242 cs = some x) : ∃ (xs : List (List Int)) (A : Option Addr) (C : Nat), cs = [.slice A xs.length C] ∧ II 0 W xs A ∧ (xs.length ≤ 9223372036854775807 ∧ ∀ x ∈ xs, x.length ≤ 9223372036854775807) :=
  rows3_open Try.underlying242 (by kernel_rfl) (fun _ _ _ h => intsL_open h) h
theorem iii_open (h : DataW.trod enc Try.prog W 0 (fun _ => true) true fuel 69 cs = some x) : ∃ (xs : List (List (List Int))) (A : Option Addr) (C : Nat), cs = [.slice A xs.length C] ∧ III 0 W xs A ∧ (xs.length ≤ 9223372036854775807 ∧ ∀ x ∈ xs, x.length ≤ 9223372036854775807 ∧ ∀ y ∈ x, y.length ≤ 9223372036854775807) :=
  rows3_open Try.underlying69 (by kernel_rfl) (fun _ _ _ h => ii_open h) h
end

set_option maxRecDepth 100000 in
theorem laut_open {H : Type} {enc : TypeId × Value → H} {W : World} {base : Nat} {v : Value} {d : DataW H} {p : List MemPlace} (hok : Value.okWide Try.prog W .any base 71 v) (h : DataW.Trod enc Try.prog W 0 (fun _ => true) true 71 v d p) :
    ∃ (t a : Int) (ac : List (List Bool)) (nx : List (List (List Int))) (A B : Option Addr) (C D : Nat), v = .agg #[.int .i64 t, .int .i64 a, .slice A ac.length C, .slice B nx.length D] ∧ BB 0 W ac A ∧ III 0 W nx B ∧ FitA ac nx ∧ (Lit.int .i64 t).wf = true ∧ (Lit.int .i64 a).wf = true := by
  obtain ⟨cs, rfl, hsz⟩ := okWide_struct Try.underlying71 hok
  obtain ⟨c0, c1, c2, c3, rfl⟩ := Joins.array4 (hsz.trans (by kernel_rfl : Try.prog.cellsOf 71 = 4))
  obtain ⟨fuel, hf⟩ := h
  obtain ⟨y0, y1, y2, n, _, _, h0, h1, h2⟩ := trod_struct3 Try.underlying71 hf
  have s0 : Try.prog.cellsOf 23 = 2 := by kernel_rfl
  have s1 : Try.prog.cellsOf 24 = 1 := by kernel_rfl
  have s2 : Try.prog.cellsOf 69 = 1 := by kernel_rfl
  simp only [Value.cells, s0, s1, s2] at h0 h1 h2
  simp at h0 h1 h2
  obtain ⟨u0, u1, n2, _, _, g0, g1⟩ := trod_struct2 Try.underlying23 h0
  have i1 : Try.prog.cellsOf 2 = 1 := by kernel_rfl
  simp only [i1] at g0 g1
  simp at g0 g1
  obtain ⟨t, ht, _, wt⟩ := DataW.trod_int Try.underlying2 g0
  obtain ⟨a, ha, _, wa⟩ := DataW.trod_int Try.underlying2 g1
  obtain ⟨ac, A, C, hac, l1, l2⟩ := bb_open h1
  obtain ⟨nx, B, D, hnx, m1, m2⟩ := iii_open h2
  simp at ht ha hac hnx
  subst ht; subst ha; subst hac; subst hnx
  exact ⟨t, a, ac, nx, A, B, C, D, rfl, l1, m1, ⟨l2.1, l2.2, m2.1, m2.2⟩, wt, wa⟩
end Go.Proofs.Ytcgbepmhfimbjaa

namespace Go.Proofs.Ytcgbepmhfimbjaa
open Go.RowKit Go.WideShapes Go.ChangeShapes Go.ChangeAt Go.Deep Go.WideElems

theorem array_five {α : Type} {cs : Array α} (h : cs.size = 5) : ∃ a b c d e, cs = #[a, b, c, d, e] := by
  obtain ⟨l⟩ := cs
  match l, h with
  | [a, b, c, d, e], _ => exact ⟨a, b, c, d, e, rfl⟩
theorem bbb_open {H : Type} {enc : TypeId × Value → H} {W : World} {fuel : Nat} {cs : List Value} {x : DataW H × List MemPlace} (h : DataW.trod enc Try.prog W 0 (fun _ => true) true fuel 25 cs = some x) : ∃ (xs : List (List (List Bool))) (A : Option Addr) (C : Nat), cs = [.slice A xs.length C] ∧ BBB 0 W xs A ∧ (xs.length ≤ 9223372036854775807 ∧ ∀ x ∈ xs, x.length ≤ 9223372036854775807 ∧ ∀ y ∈ x, y.length ≤ 9223372036854775807) :=
  rows3_open Try.underlying25 (by kernel_rfl) (fun _ _ _ h => bb_open h) h

set_option maxRecDepth 100000 in
theorem lmodel_open {H : Type} {enc : TypeId × Value → H} {W : World} {base : Nat} {v : Value} {d : DataW H} {p : List MemPlace} (hok : Value.okWide Try.prog W .any base 27 v) (h : DataW.Trod enc Try.prog W 0 (fun _ => true) true 27 v d p) :
    ∃ (t a q : Int) (ac : List (List Bool)) (nx : List (List (List Bool))) (A B : Option Addr) (C D : Nat), v = .agg #[.int .i64 t, .int .i64 a, .int .i64 q, .slice A ac.length C, .slice B nx.length D] ∧ BB 0 W ac A ∧ BBB 0 W nx B ∧ FitM ac nx ∧ (Lit.int .i64 t).wf = true ∧ (Lit.int .i64 a).wf = true ∧ (Lit.int .i64 q).wf = true := by
  obtain ⟨cs, rfl, hsz⟩ := okWide_struct Try.underlying27 hok
  obtain ⟨c0, c1, c2, c3, c4, rfl⟩ := array_five (hsz.trans (by kernel_rfl : Try.prog.cellsOf 27 = 5))
  obtain ⟨fuel, hf⟩ := h
  obtain ⟨y0, y1, y2, y3, n, _, _, h0, h1, h2, h3⟩ := Joins.trod_struct4 Try.underlying27 hf
  have s0 : Try.prog.cellsOf 23 = 2 := by kernel_rfl
  have s1 : Try.prog.cellsOf 24 = 1 := by kernel_rfl
  have s2 : Try.prog.cellsOf 25 = 1 := by kernel_rfl
  have i1 : Try.prog.cellsOf 2 = 1 := by kernel_rfl
  simp only [Value.cells, s0, s1, s2, i1] at h0 h1 h2 h3
  simp at h0 h1 h2 h3
  obtain ⟨u0, u1, n2, _, _, g0, g1⟩ := trod_struct2 Try.underlying23 h0
  simp only [i1] at g0 g1
  simp at g0 g1
  obtain ⟨t, ht, _, wt⟩ := DataW.trod_int Try.underlying2 g0
  obtain ⟨a, ha, _, wa⟩ := DataW.trod_int Try.underlying2 g1
  obtain ⟨q, hq, _, wq⟩ := DataW.trod_int Try.underlying2 h1
  obtain ⟨ac, A, C, hac, l1, l2⟩ := bb_open h2
  obtain ⟨nx, B, D, hnx, m1, m2⟩ := bbb_open h3
  simp at ht ha hq hac hnx
  subst ht; subst ha; subst hq; subst hac; subst hnx
  exact ⟨t, a, q, ac, nx, A, B, C, D, rfl, l1, m1, ⟨l2.1, l2.2, m2.1, m2.2⟩, wt, wa, wq⟩

end Go.Proofs.Ytcgbepmhfimbjaa

namespace Go.Proofs.Ytcgbepmhfimbjaa
open Go.RowKit Go.WideShapes Go.ChangeShapes Go.ChangeAt Go.Deep Go.WideElems
set_option linter.unusedVariables false


set_option maxRecDepth 100000 in
theorem joinModels_lifted (os : Os) (started : os.Started) (H : Type) (enc : TypeId × Value → H) :
    ReturnsInHanded {} Try.checked os 3 .any (Rows.fnExactJoinModelsSpec.pre6 enc Try.prog Try.f3 Rows.fnExactJoinModelsRow.domain false) (Rows.fnExactJoinModelsSpec.post enc Try.prog Try.f3 false true false false) := by
  refine returnsInHanded_of_change (C := Try.checked) Try.own started (by kernel_rfl) Try.func3
    (ChangeSpec.witness6 (enc := enc) (C := Try.checked) false ⟨#[], #[.agg #[.int .i64 0, .int .i64 0, .int .i64 0, .slice none 0 0, .slice none 0 0], .agg #[.int .i64 0, .int .i64 0, .int .i64 0, .slice none 0 0, .slice none 0 0]], []⟩ 8 (by kernel_rfl) (by kernel_rfl) (by kernel_rfl) (by kernel_rfl)) ?_
  intro W base args ds gs before hval0 hW _ _
  have hval : ∀ (j : Nat) t v, Try.f3.params[j]? = some t → args[j]? = some v → Value.okWide Try.prog W .any base t v := hval0
  have hW' := hW
  obtain ⟨p, q, hA0, hV, rfl, _, _⟩ := hW
  have hA : DataW.TrodAll enc Try.prog W 0 (fun _ => true) true Try.f3.params.toList args.toList ds p := hA0
  rw [Try.params3] at hA hval
  obtain ⟨v0, v1, d0, d1, z0, z1, rfl, rfl, rfl, h0, h1⟩ := trodAll_two hA
  obtain ⟨rfl, rfl⟩ := trodVars_none hV
  obtain ⟨t0, a0, u0, ac0, nx0, A0, B0, C0, D0, rfl, hl0, hr0, hm0, wt0, wa0, wu0⟩ := lmodel_open (hval 0 27 v0 rfl rfl) h0
  obtain ⟨t1, a1, u1, ac1, nx1, A1, B1, C1, D1, rfl, hl1, hr1, hm1, wt1, wa1, wu1⟩ := lmodel_open (hval 1 27 v1 rfl rfl) h1
  clear hA0 hval0
  refine (lawJoinModels t0 a0 u0 ac0 nx0 A0 B0 C0 D0 t1 a1 u1 ac1 nx1 A1 B1 C1 D1 (fun _ => jmO_small t0 a0 u0 ac0 nx0 t1 a1 u1 ac1 nx1) (fun h0 W Z0 Y0 Z1 Y1 h h' g g' => specJoinModels_any t0 a0 u0 ac0 nx0 t1 a1 u1 ac1 nx1 (modN_small (by omega)) (modN_small (by omega)) Z0 Y0 Z1 Y1 _ _ _ _ W h h' g g') (fun h0 W Z0 Y0 Z1 Y1 h h' g g' => implJoinModels_any t0 a0 u0 ac0 nx0 t1 a1 u1 ac1 nx1 (modN_small (by omega)) (modN_small (by omega)) Z0 Y0 Z1 Y1 _ _ _ _ W h h' g g') W hm0 hl0 hr0 hm1 hl1 hr1).mono fun e W' ⟨he, hb⟩ => ?_
  subst he
  exact ⟨_, rfl, law_end Try.laidOut Try.underlying4 rfl (by kernel_rfl) (by rw [Try.params3]; intro t ht; simp at ht; rcases ht with rfl <;> exact ⟨by kernel_rfl, of_decide_eq_true (by kernel_rfl)⟩) rfl rfl rfl hW' hb⟩

theorem joinModels_holds : Rows.FnExactJoinModelsSaid :=
  OpenClaim.holds_of_wide 3 Try.f3 rfl rfl rfl rfl rfl rfl rfl ⟨rfl, rfl, rfl, rfl, rfl⟩ rfl rfl rfl rfl rfl (by kernel_rfl) Try.func3 (by kernel_rfl)
    (of_decide_eq_true (by kernel_rfl)) (by unfold Func.isWrapper; first | (rw [if_pos (by decide +kernel)]; kernel_rfl) | (rw [if_neg (by decide +kernel)]; exact ⟨rfl, rfl⟩))
    (fun os started H enc _ => joinModels_lifted os started H enc)

#print axioms joinModels_holds
end Go.Proofs.Ytcgbepmhfimbjaa
