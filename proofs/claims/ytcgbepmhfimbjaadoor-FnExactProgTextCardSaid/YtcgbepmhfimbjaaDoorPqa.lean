/- How a law's row is closed: a law that answers true and changes nothing that was there. No walk. Contract of impl.Prog.hasForm. The table of forms as the program's text lays it; it stays. The words of the table of forms as the program's text lays them. Contracts of the nodes' sizes and of impl.newNot, newSum, newDot, newStar. Contract of impl.nodeOf. -/
import Derived.Test.YtcgbepmhfimbjaaDoorRows
import Derived.Test.YtcgbepmhfimbjaaDoorFo
import Derived.Test.YtcgbepmhfimbjaaDoorInts
import Derived.ProofKit
import Derived.OpenShut
import Derived.Below
import Derived.ChangeSame
import Derived.Lib.SmallJoins
import Derived.WideKeyArgs
import Derived.Deep.Slices
import Derived.Test.YtcgbepmhfimbjaaDoorVpD
import Derived.Test.YtcgbepmhfimbjaaDoorQuietC
import Derived.LaidMore
import Derived.Carry
import Derived.ChangeOld
import Derived.Stop.Joined
import Derived.SevenTiedAt
import Derived.MakeChecks
import Derived.Test.YtcgbepmhfimbjaaDoorTx
import Derived.Test.YtcgbepmhfimbjaaDoorNd
import Derived.Test.YtcgbepmhfimbjaaDoorSep
import Derived.Lib.Hide
import Derived.Deep.RegionWith
namespace Go.Proofs.YtcgbepmhfimbjaaDoor
open Go.RowKit Go.WideShapes Go.ChangeShapes Go.ChangeAt Go.Deep Go.WideElems

theorem Tryd.own : ownKnob Tryd.prog.godebug = none := by kernel_rfl
theorem Tryd.laidOut : laidOutB Tryd.prog = true := by kernel_rfl
theorem Tryd.kids : Go.Kids Tryd.prog (· < Tryd.prog.types.size) := kids_rows (by kernel_rfl) (by kernel_rfl)
theorem Tryd.full : ∀ t e, t < Tryd.prog.types.size → Tryd.prog.underlying t = some (.slice e) → 0 < Tryd.prog.cellsOf e := slices_full_of Tryd.prog (by kernel_rfl)

section
variable {H : Type} {enc : TypeId × Value → H} {P : Program}

theorem post_of_below {f : Func} {s : ChangeSpec} {apart fresh handsOn again : Bool} {W W' : World} {args : Array Value} {v : Value} {ds gs : List (DataW H)} {before pa pv : List MemPlace}
    (hW : DataW.Whole enc P f.params.toList s.vars apart W args.toList ds gs before)
    (hres : ∀ (b : Nat) (sp : Nat → Bool) (hd : Bool), DataW.TrodAll enc P W' b sp hd f.resultTypes.toList (v.resultList f.resultTypes.size) (s.fn H (ds ++ gs)).results [])
    (hargs : ∀ sp : Nat → Bool, (∀ p ∈ before, sp p.block = true) → DataW.TrodAll enc P W' 0 sp true f.params.toList args.toList (s.fn H (ds ++ gs)).args pa)
    (hvars : ∀ sp : Nat → Bool, (∀ p ∈ before, sp p.block = true) → DataW.TrodVars enc P W' sp s.vars (s.fn H (ds ++ gs)).vars pv)
    (hps : before = pa ++ pv) (hb : Below W.heap.size W W')
    (hok : ∀ (j : Nat) (t : TypeId) (r : Value), f.resultTypes[j]? = some t → (v.resultList f.resultTypes.size)[j]? = some r → Value.okWide P W' .any 0 t r) :
    s.post enc P f apart fresh handsOn again W args v W' := by
  have hlt : ∀ p ∈ before, p.block < W.heap.size := fun p hp => hW.lt p hp
  have hold : ∀ p ∈ before, (fun b => decide (b < W.heap.size)) p.block = true := fun p hp => by simpa using hlt p hp
  refine ⟨ds, gs, before, [], pa, pv, hW, hres _ _ _, hargs _ hold, hvars _ hold, World.keptBut_mono (fun p hp => ⟨hp, ?_⟩) (hb.frame (· ∈ before)), fun _ => ?_⟩
  · rw [hps, List.mem_append] at hp
    exact Or.inr hp
  · obtain ⟨_, _, _, _, _, hz, hn⟩ := hW
    refine ⟨hok, _, _, ([] ++ pa) ++ pv, ⟨[] ++ pa, pv, trodAll_append (hargs _ (fun _ _ => rfl)) (hres _ _ _), hvars _ (fun _ _ => rfl), rfl, ?_, ?_⟩, ?_⟩
    · intro b off hp
      have hin : MemPlace.cell b off ∈ before := by rw [hps]; simpa using hp
      rw [hb.frozen (hlt _ hin)]
      exact hz b off hin
    · intro ha
      have := hn ha
      rw [hps] at this
      simpa using this
    · intro p hp _
      rw [hps]
      simpa using hp

/-- Arguments read behind the call as they did, where nothing that was there has changed. -/
theorem trodAll_stays (hl : laidOutB P = true) {W W' : World} {sp : Nat → Bool} (hb : Below W.heap.size W W') :
    ∀ {ts : List TypeId} {vs : List Value} {ds : List (DataW H)} {ps : List MemPlace}, (∀ t ∈ ts, P.readableRec t = true ∧ t < P.types.size) →
      DataW.TrodAll enc P W 0 (fun _ => true) true ts vs ds ps → (∀ x ∈ ps, x.block < W.heap.size) → (∀ x ∈ ps, sp x.block = true) → DataW.TrodAll enc P W' 0 sp true ts vs ds ps
  | [], [], [], _, _, h, _, _ => h
  | _ :: _, _ :: _, _ :: _, _, hT, ⟨p, q, h1, h2, e⟩, hlt, hs => ⟨p, q,
      WideElems.Trod_stays hl (hT _ (List.mem_cons.2 (Or.inl rfl))).1 (hT _ (List.mem_cons.2 (Or.inl rfl))).2 h1 (fun x hx => hb.same (hlt x (by rw [e]; exact List.mem_append_left _ hx))) (fun x hx => hs x (by rw [e]; exact List.mem_append_left _ hx)),
      trodAll_stays hl hb (fun t ht => hT t (List.mem_cons.2 (Or.inr ht))) h2 (fun x hx => hlt x (by rw [e]; exact List.mem_append_right _ hx)) (fun x hx => hs x (by rw [e]; exact List.mem_append_right _ hx)), e⟩

/-- A LAW's END: it answers true, and nothing that was there has changed. -/
theorem law_end {f : Func} {s : ChangeSpec} {W W' : World} {args : Array Value} {ds gs : List (DataW H)} {before : List MemPlace} {tb : TypeId}
    (hl : laidOutB P = true) (ub : P.underlying tb = some .bool) (hv : s.vars = []) (hr : f.resultTypes = #[tb]) (hp : ∀ t ∈ f.params.toList, P.readableRec t = true ∧ t < P.types.size)
    (hfn : (s.fn H (ds ++ gs)).results = [.lit (.bool true)]) (hfa : (s.fn H (ds ++ gs)).args = ds) (hfv : (s.fn H (ds ++ gs)).vars = [])
    (hW : DataW.Whole enc P f.params.toList s.vars false W args.toList ds gs before) (hb : Below W.heap.size W W') : s.post enc P f false true false false W args (.bool true) W' := by
  have hW' := hW
  obtain ⟨p, q, hA, hV, hpq, _, _⟩ := hW
  rw [hv] at hV
  obtain ⟨rfl, rfl⟩ := trodVars_none hV
  refine post_of_below (pa := p) (pv := []) hW' ?_ ?_ ?_ hpq hb ?_
  · intro b sp hd
    rw [hr, hfn]
    exact trodAll_mk1 (shut_bool ub _)
  · intro sp hsp
    rw [hfa]
    exact trodAll_stays hl hb hp hA (fun x hx => hW'.lt x (by rw [hpq]; exact List.mem_append_left _ hx)) (fun x hx => hsp x (by rw [hpq]; exact List.mem_append_left _ hx))
  · intro sp _
    rw [hv, hfv]
    exact rfl
  · exact ok_one hr rfl (okWide_bool_mk ub _)

/-- A signature handed by value: two integers. -/
theorem open_sig {W : World} {base : Nat} {t : TypeId} {v : Value} {d : DataW H} {p : List MemPlace} {f0 f1 : Field} (hs : P.underlying t = some (.struct #[f0, f1])) (hone : oneCellFields P #[f0, f1] = true) (hC : P.cellsOf t = 2)
    (u0 : P.underlying f0.type = some (.int .i64)) (u1 : P.underlying f1.type = some (.int .i64)) (hok : Value.okWide P W .any base t v) (h : DataW.Trod enc P W 0 (fun _ => true) true t v d p) :
    ∃ x y : Int, v = .agg #[.int .i64 x, .int .i64 y] ∧ (Lit.int .i64 x).wf = true ∧ (Lit.int .i64 y).wf = true := by
  obtain ⟨c0, c1, y0, y1, m, rfl, rfl, rfl, hy0, hy1⟩ := Joins.open_agg2 hs hone hC hok h
  obtain ⟨x, hx, _, wx⟩ := DataW.trod_int u0 hy0
  obtain ⟨y, hy, _, wy⟩ := DataW.trod_int u1 hy1
  simp at hx hy
  subst hx; subst hy
  exact ⟨x, y, rfl, wx, wy⟩
end

set_option maxRecDepth 100000 in
theorem lsig_open {H : Type} {enc : TypeId × Value → H} {W : World} {base : Nat} {v : Value} {d : DataW H} {p : List MemPlace} (hok : Value.okWide Tryd.prog W .any base 23 v) (h : DataW.Trod enc Tryd.prog W 0 (fun _ => true) true 23 v d p) :
    ∃ x y : Int, v = .agg #[.int .i64 x, .int .i64 y] ∧ (Lit.int .i64 x).wf = true ∧ (Lit.int .i64 y).wf = true :=
  open_sig Tryd.underlying23 (by kernel_rfl) (by kernel_rfl) Tryd.underlying2 Tryd.underlying2 hok h

theorem Tryd.cellsE : Tryd.prog.cellsOf 26 = 3 := by kernel_rfl

/-- A list of rows out of its rows, from the last one on. -/
theorem forest_of_rows {W : World} {b o len : Nat} {K N : Nat → Int} {S : Nat → Fo} {A : Nat → Option Addr} {C : Nat → Nat}
    (h : ∀ i, i < len → W.cell? ⟨b, o + i * 3, none⟩ = some (.int .i64 (K i)) ∧ W.cell? ⟨b, o + i * 3 + 1, none⟩ = some (.int .i64 (N i)) ∧ W.cell? ⟨b, o + i * 3 + 2, none⟩ = some (.slice (A i) (S i).len (C i)) ∧ (S i).Lies W (A i) ∧ (S i).len ≤ 9223372036854775807 ∧ (S i).Fits) :
    ∀ j, j ≤ len → ∃ f : Fo, f.len = j ∧ f.At W b (o + (len - j) * 3) ∧ f.Fits := by
  intro j
  induction j with
  | zero => intro _; exact ⟨.nil, rfl, trivial, trivial⟩
  | succ j ih =>
    intro hj
    obtain ⟨f, h1, h2, h3⟩ := ih (by omega)
    obtain ⟨g0, g1, g2, g3, g4, g5⟩ := h (len - (j + 1)) (by omega)
    refine ⟨.cons (K (len - (j + 1))) (N (len - (j + 1))) (S (len - (j + 1))) f, by simp [Fo.len, h1], ⟨g0, g1, ⟨A _, C _, g2, g3⟩, ?_⟩, g4, g5, h3⟩
    rw [show o + (len - (j + 1)) * 3 + 3 = o + (len - j) * 3 from by omega]
    exact h2

set_option maxRecDepth 100000 in
theorem lforest_open {H : Type} {enc : TypeId × Value → H} {W : World} : ∀ (fuel : Nat) (cs : List Value) (x : DataW H × List MemPlace),
    DataW.trod enc Tryd.prog W 0 (fun _ => true) true fuel 24 cs = some x → ∃ (f : Fo) (A : Option Addr) (C : Nat), cs = [.slice A f.len C] ∧ f.Lies W A ∧ f.len ≤ 9223372036854775807 ∧ f.Fits := by
  intro fuel
  induction fuel using Nat.strongRecOn with
  | _ fuel ih =>
    intro cs x h
    rcases DataW.trod_slice Tryd.underlying24 h with ⟨rfl, _⟩ | ⟨a, len, cap, elems, rest, n, hn, rfl, rfl, hb, hl, hm, hlen, hel, hsp, hns⟩
    · exact ⟨.nil, none, 0, rfl, fun h => absurd rfl h, Nat.zero_le _, trivial⟩
    · have one : ∀ i, i < len → ∃ z : Int × Int × Fo × Option Addr × Nat, W.cell? (a.add (i * 3)) = some (.int .i64 z.1) ∧ W.cell? (a.add (i * 3 + 1)) = some (.int .i64 z.2.1) ∧
          W.cell? (a.add (i * 3 + 2)) = some (.slice z.2.2.2.1 z.2.2.1.len z.2.2.2.2) ∧ z.2.2.1.Lies W z.2.2.2.1 ∧ z.2.2.1.len ≤ 9223372036854775807 ∧ z.2.2.1.Fits := by
        intro i hi
        have key := hel i hi
        rw [List.getElem?_eq_getElem (by omega), Tryd.cellsE] at key
        obtain ⟨cs', h1, h2⟩ := Option.bind_eq_some_iff.1 key
        obtain ⟨_, hl3, hc⟩ := World.cells?_some h1
        obtain ⟨xs, m, rfl, _, _, hxl, hf⟩ := DataW.trod_struct Tryd.underlying26 h2
        match xs, hxl, cs', hl3 with
        | [y0, y1, y2], _, [v0, v1, v2], _ =>
          have g0 : DataW.trod enc Tryd.prog W 0 (fun _ => true) true m 2 [v0] = some y0 := hf 0 _ rfl
          have g1 : DataW.trod enc Tryd.prog W 0 (fun _ => true) true m 2 [v1] = some y1 := hf 1 _ rfl
          have g2 : DataW.trod enc Tryd.prog W 0 (fun _ => true) true m 24 [v2] = some y2 := hf 2 _ rfl
          obtain ⟨k, hk, _, _⟩ := DataW.trod_int Tryd.underlying2 g0
          obtain ⟨nn, hnn, _, _⟩ := DataW.trod_int Tryd.underlying2 g1
          obtain ⟨f, A, C, hf2, l1, l2, l3⟩ := ih m (by omega) _ _ g2
          simp at hk hnn hf2
          subst hk; subst hnn; subst hf2
          have c0 := hc 0 (by omega)
          have c1 := hc 1 (by omega)
          have c2 := hc 2 (by omega)
          rw [add_add] at c0 c1 c2
          exact ⟨(k, nn, f, A, C), c0, c1, c2, l1, l2, l3⟩
      obtain ⟨b, o, spot⟩ := a
      by_cases h0 : len = 0
      · subst h0
        exact ⟨.nil, _, _, rfl, fun h => absurd rfl h, Nat.zero_le _, trivial⟩
      have : Inhabited (Option Addr × Nat) := ⟨(none, 0)⟩
      have : Inhabited (Int × Int × Fo × Option Addr × Nat) := ⟨(0, 0, .nil, none, 0)⟩
      obtain ⟨Z, hZ⟩ := choose_lt one
      have hspot : spot = none := by
        have := (hZ 0 (by omega)).1
        simpa [Addr.add] using World.cell?_spot this
      subst hspot
      obtain ⟨f, e1, e2, e3⟩ := forest_of_rows (W := W) (b := b) (o := o) (len := len) (K := fun i => (Z i).1) (N := fun i => (Z i).2.1) (S := fun i => (Z i).2.2.1) (A := fun i => (Z i).2.2.2.1) (C := fun i => (Z i).2.2.2.2)
        (fun i hi => by
          obtain ⟨q0, q1, q2, q3, q4, q5⟩ := hZ i hi
          rw [add_plain] at q0 q1 q2
          exact ⟨q0, q1, q2, q3, q4, q5⟩) len (Nat.le_refl _)
      rw [Nat.sub_self, Nat.zero_mul] at e2
      subst e1
      exact ⟨f, some ⟨b, o, none⟩, cap, rfl, fun _ => ⟨b, o, rfl, e2⟩, by unfold maxLen at hm; omega, e3⟩

set_option maxRecDepth 100000 in
/-- An expression handed by value. -/
theorem lexpr_open {H : Type} {enc : TypeId × Value → H} {W : World} {base : Nat} {v : Value} {d : DataW H} {p : List MemPlace} (hok : Value.okWide Tryd.prog W .any base 26 v) (h : DataW.Trod enc Tryd.prog W 0 (fun _ => true) true 26 v d p) :
    ∃ (k n : Int) (f : Fo) (A : Option Addr) (C : Nat), v = .agg #[.int .i64 k, .int .i64 n, .slice A f.len C] ∧ f.Lies W A ∧ f.len ≤ 9223372036854775807 ∧ f.Fits ∧ (Lit.int .i64 k).wf = true ∧ (Lit.int .i64 n).wf = true := by
  obtain ⟨c0, c1, c2, y0, y1, y2, m, rfl, _, _, g0, g1, g2⟩ := Joins.open_agg3 Tryd.underlying26 (by kernel_rfl) Tryd.cellsE hok h
  obtain ⟨k, hk, _, wk⟩ := DataW.trod_int Tryd.underlying2 g0
  obtain ⟨n, hn, _, wn⟩ := DataW.trod_int Tryd.underlying2 g1
  obtain ⟨f, A, C, hf, l1, l2, l3⟩ := lforest_open _ _ _ g2
  simp at hk hn hf
  subst hk; subst hn; subst hf
  exact ⟨k, n, f, A, C, rfl, l1, l2, l3, wk, wn⟩

/-- A list of integers, read. -/
theorem ints_open {H : Type} {enc : TypeId × Value → H} {W : World} {fuel : Nat} {cs : List Value} {x : DataW H × List MemPlace} (h : DataW.trod enc Tryd.prog W 0 (fun _ => true) true fuel 88 cs = some x) :
    ∃ (xs : List Int) (A : Option Addr) (C : Nat), cs = [.slice A xs.length C] ∧ Ints W xs A ∧ xs.length ≤ 9223372036854775807 ∧ ∀ v ∈ xs, (Lit.int .i64 v).wf = true := by
  rcases open_slice1 Tryd.underlying88 (by kernel_rfl) h with ⟨rfl, _⟩ | ⟨a, len, cap, m, n, V, D, Pl, rfl, hb, hl, hm, hmm, rfl, hx⟩
  · exact ⟨[], none, 0, rfl, fun h => absurd rfl h, Nat.zero_le _, fun v hv => absurd hv (by simp)⟩
  · simp only [if_true] at hmm
    have one : ∀ i, i < len → ∃ z : Int, W.cell? (a.add i) = some (.int .i64 z) ∧ (Lit.int .i64 z).wf = true := fun i hi => by
      obtain ⟨h1, h2⟩ := hx i (by omega)
      obtain ⟨z, hz, _, wz⟩ := DataW.trod_int Tryd.underlying2 h2
      simp at hz
      exact ⟨z, by rw [h1, hz], wz⟩
    obtain ⟨Z, hZ⟩ := choose_lt one
    refine ⟨(List.range len).map Z, some a, cap, by simp, ?_, by simp; unfold maxLen at hm; omega, ?_⟩
    · intro hne
      have hpos : 0 < len := by
        rcases Nat.eq_zero_or_pos len with h0 | h0
        · subst h0; simp at hne
        · exact h0
      obtain ⟨b, o, spot⟩ := a
      have hspot : spot = none := by simpa [Addr.add] using World.cell?_spot (hZ 0 hpos).1
      subst hspot
      refine ⟨b, o, rfl, fun i hi => ?_⟩
      have hi' : i < len := by simpa using hi
      have := (hZ i hi').1
      rw [add_plain] at this
      rw [this]
      simp [nth, List.getD, hi']
    · intro v hv
      obtain ⟨i, hi, rfl⟩ := List.mem_map.1 hv
      exact (hZ i (by simpa using hi)).2

end Go.Proofs.YtcgbepmhfimbjaaDoor

namespace Go.Proofs.YtcgbepmhfimbjaaDoor
open Go.RowKit
set_option linter.unusedVariables false

/-- What the table of forms holds at a kind, its words aside. -/
def FormAt (w : World) (i : Nat) (hn hc : Bool) (kids : Int) : Prop :=
  ∃ (A : Option Addr) (l C : Nat), w.cell? ⟨0, 4 * i, none⟩ = some (.slice A l C) ∧ w.cell? ⟨0, 4 * i + 1, none⟩ = some (.bool hn) ∧ w.cell? ⟨0, 4 * i + 2, none⟩ = some (.bool hc) ∧ w.cell? ⟨0, 4 * i + 3, none⟩ = some (.int .i64 kids)
structure Forms (w : World) : Prop where
  f1 : FormAt w 1 false false 0
  f2 : FormAt w 2 false false 0
  f3 : FormAt w 3 true false 0
  f4 : FormAt w 4 false true 0
  f5 : FormAt w 5 false false 2
  f6 : FormAt w 6 false true 2
  f7 : FormAt w 7 false true 1
theorem FormAt.sees {w w' : World} {i : Nat} {hn hc : Bool} {kids : Int} (h : FormAt w i hn hc kids) (hs : Sees w w') : FormAt w' i hn hc kids := by
  obtain ⟨A, l, C, h1, h2, h3, h4⟩ := h
  exact ⟨A, l, C, kc hs h1, kc hs h2, kc hs h3, kc hs h4⟩
theorem Forms.sees {w w' : World} (h : Forms w) (hs : Sees w w') : Forms w' := ⟨h.f1.sees hs, h.f2.sees hs, h.f3.sees hs, h.f4.sees hs, h.f5.sees hs, h.f6.sees hs, h.f7.sees hs⟩

set_option maxHeartbeats 2000000 in
set_option maxRecDepth 100000 in
theorem phasForm_1 (t a n ck cn : Int) (cf : Fo) (f : Pg) (hm : cf.nodes ≤ 1048576) (hcf : cf.Fits) (hln : f.len ≤ 1048576) (A B : Option Addr) (C D : Nat) (w : World) (hA : cf.Lies w A) (hF : FormAt w 1 false false 0) :
    Calls Tryd.prog 53 #[.agg #[.int .i64 1, .int .i64 n, .int .i64 ck, .int .i64 cn, .slice A cf.len C, .slice B f.len D], .agg #[.int .i64 t, .int .i64 a]] w fun e w' => e = .returned (.bool (pform t a 1 n ck cn cf f.len)) ∧ Below w.heap.size w w' := by
  obtain ⟨Wd, lw, Cw, d0, d1, d2, d3⟩ := hF
  obtain ⟨w0, hw0⟩ : ∃ w0, w0 = (w.alloc (.cells #[.int .i64 1, .int .i64 n, .int .i64 ck, .int .i64 cn, .slice A cf.len C, .slice B f.len D] 40)).alloc (.cells #[.int .i64 t, .int .i64 a] 36) := ⟨_, rfl⟩
  have B0 : Sees w w0 := by rw [hw0]; exact ((Sees.refl w).alloc _).alloc _
  have hp0 : w0.heap[w.heap.size]? = some (.cells #[.int .i64 1, .int .i64 n, .int .i64 ck, .int .i64 cn, .slice A cf.len C, .slice B f.len D] 40 (0, 0)) := by rw [hw0]; exact (Below.heap_alloc _ _ _ (by simp)).trans (heap_new _ _ _ rfl)
  have hg0 : w0.heap[w.heap.size + 1]? = some (.cells #[.int .i64 t, .int .i64 a] 36 (0, 0)) := by rw [hw0]; exact heap_new _ _ _ (by simp)
  obtain ⟨q0, hq0⟩ : ∃ q : Bool, q = belowB n 1 := ⟨_, rfl⟩
  have K0 : Hid (∀ W : World, Calls Tryd.prog 74 #[.int .i64 n, .int .i64 1] W fun e w' => e = .returned (.bool q0) ∧ W = w') := fun W => by rw [hq0]; exact below_any n 1 W
  obtain ⟨q1, hq1⟩ : ∃ q : Bool, q = fieldV t a ck cn cf false := ⟨_, rfl⟩
  have K1 : Hid (∀ W : World, Sees w W → Calls Tryd.prog 77 #[.agg #[.int .i64 t, .int .i64 a], .agg #[.int .i64 ck, .int .i64 cn, .slice A cf.len C], .bool false] W fun e w' => e = .returned (.bool q1) ∧ Below W.heap.size W w') := fun W h => by rw [hq1]; exact isCondField_any t a ck cn cf hm hcf false A C W (hA.sees h)
  have HS : Hid (pform t a 1 n ck cn cf f.len = (decide ((f.len : Int) = 0) && (q0 && q1))) := by
    show _ = _
    unfold pform
    rw [hq0, hq1]
    rfl
  have FIN : Hid (∀ W : World, Below w0.heap.size w0 W → Below w.heap.size w W) := fun W h => B0.below h
  have e0 : w0.cell? ⟨0, 4, none⟩ = some (.slice Wd lw Cw) := kc B0 d0
  have e1 : w0.cell? ⟨0, 5, none⟩ = some (.bool false) := kc B0 d1
  have e2 : w0.cell? ⟨0, 6, none⟩ = some (.bool false) := kc B0 d2
  have e3 : w0.cell? ⟨0, 7, none⟩ = some (.int .i64 0) := kc B0 d3
  have a0 := Fo.cell_of_block hp0 0; have a1 := Fo.cell_of_block hp0 1; have a2 := Fo.cell_of_block hp0 2; have a3 := Fo.cell_of_block hp0 3; have a4 := Fo.cell_of_block hp0 4; have a5 := Fo.cell_of_block hp0 5
  have s0 := Fo.cell_of_block hg0 0; have s1 := Fo.cell_of_block hg0 1
  have l0 : w.heap.size + 1 < w0.heap.size := by rw [hw0]; simp
  have lg : 0 < w0.heap.size := World.block_lt_of_cell? _ _ e0
  obtain ⟨w1, hw1⟩ : ∃ w1, w1 = w0.alloc (.cells #[.slice Wd lw Cw, .bool false, .bool false, .int .i64 0] 116) := ⟨_, rfl⟩
  have B1 : Sees w0 w1 := by rw [hw1]; exact (Sees.refl _).alloc _
  have hf1 : w1.heap[w0.heap.size]? = some (.cells #[.slice Wd lw Cw, .bool false, .bool false, .int .i64 0] 116 (0, 0)) := by rw [hw1]; exact heap_new _ _ _ rfl
  have A0 := kc B1 a0; have A1 := kc B1 a1; have A2 := kc B1 a2; have A3 := kc B1 a3; have A4 := kc B1 a4; have A5 := kc B1 a5; have S0 := kc B1 s0; have S1 := kc B1 s1
  have F0 := Fo.cell_of_block hf1 0; have F1 := Fo.cell_of_block hf1 1; have F2 := Fo.cell_of_block hf1 2; have F3 := Fo.cell_of_block hf1 3
  have HB0 := Lib.hid B0; have HB1 := Lib.hid B1
  rw [hw1] at A0 A1 A2 A3 A4 A5 S0 S1 F0 F1 F2 F3
  rw [hw0] at A0 A1 A2 A3 A4 A5 S0 S1 F0 F1 F2 F3 e0 e1 e2 e3 a0 a1 a2 a3 a4 a5 s0 s1
  have HW0 := Lib.hid hw0; have HW1 := Lib.hid hw1
  clear hw0 hw1
  clear hq0 hq1 hm hcf hA B0 B1 d0 d1 d2 d3 hp0 hg0 hf1
  by_cases hl : (f.len : Int) = 0
  · have tl : ((f.len : Int) == 0) = true := by simp [hl]
    have HD : Hid (pform t a 1 n ck cn cf f.len = (q0 && q1)) := by show _ = _; rw [HS.out, decide_eq_true hl]; rfl
    clear hl HS
    cases q0
    · go_enter Tryd.func53, Tryd.ntmps53
      go_wp2_with fail
      refine (K0.out _).mono ?_
      rintro e w' ⟨rfl, rfl⟩
      go_wp2_with fail
      go_ret
      exact ⟨ret_bool HD.out.symm, by rw [← HW0.out, ← HW1.out]; exact FIN.out _ HB1.out⟩
    · go_enter Tryd.func53, Tryd.ntmps53
      go_wp2_with fail
      refine (K0.out _).mono ?_
      rintro e w' ⟨rfl, rfl⟩
      go_wp2_with fail
      rw [← HW0.out, ← HW1.out]
      refine (K1.out _ (HB0.out.below HB1.out)).mono ?_
      rintro e w2 ⟨rfl, hb⟩
      have B2 := Lib.hid (FIN.out _ (Below.trans HB1.out (hb.mono HB1.out.size)))
      clear hb
      go_wp2_with fail
      go_ret
      exact ⟨ret_bool HD.out.symm, B2.out⟩
  · have tl : ((f.len : Int) == 0) = false := by rw [beq_eq_false_iff_ne]; exact hl
    have HD : Hid (pform t a 1 n ck cn cf f.len = false) := by show _ = _; rw [HS.out, decide_eq_false hl]; rfl
    clear hl HS
    go_enter Tryd.func53, Tryd.ntmps53
    go_wp2_with fail
    go_ret
    exact ⟨ret_bool HD.out.symm, by rw [← HW0.out, ← HW1.out]; exact FIN.out _ HB1.out⟩
set_option maxHeartbeats 2000000 in
set_option maxRecDepth 100000 in
theorem phasForm_2 (t a n ck cn : Int) (cf : Fo) (f : Pg) (hm : cf.nodes ≤ 1048576) (hcf : cf.Fits) (hln : f.len ≤ 1048576) (A B : Option Addr) (C D : Nat) (w : World) (hA : cf.Lies w A) (hF : FormAt w 2 false false 0) :
    Calls Tryd.prog 53 #[.agg #[.int .i64 2, .int .i64 n, .int .i64 ck, .int .i64 cn, .slice A cf.len C, .slice B f.len D], .agg #[.int .i64 t, .int .i64 a]] w fun e w' => e = .returned (.bool (pform t a 2 n ck cn cf f.len)) ∧ Below w.heap.size w w' := by
  obtain ⟨Wd, lw, Cw, d0, d1, d2, d3⟩ := hF
  obtain ⟨w0, hw0⟩ : ∃ w0, w0 = (w.alloc (.cells #[.int .i64 2, .int .i64 n, .int .i64 ck, .int .i64 cn, .slice A cf.len C, .slice B f.len D] 40)).alloc (.cells #[.int .i64 t, .int .i64 a] 36) := ⟨_, rfl⟩
  have B0 : Sees w w0 := by rw [hw0]; exact ((Sees.refl w).alloc _).alloc _
  have hp0 : w0.heap[w.heap.size]? = some (.cells #[.int .i64 2, .int .i64 n, .int .i64 ck, .int .i64 cn, .slice A cf.len C, .slice B f.len D] 40 (0, 0)) := by rw [hw0]; exact (Below.heap_alloc _ _ _ (by simp)).trans (heap_new _ _ _ rfl)
  have hg0 : w0.heap[w.heap.size + 1]? = some (.cells #[.int .i64 t, .int .i64 a] 36 (0, 0)) := by rw [hw0]; exact heap_new _ _ _ (by simp)
  obtain ⟨q0, hq0⟩ : ∃ q : Bool, q = belowB n 1 := ⟨_, rfl⟩
  have K0 : Hid (∀ W : World, Calls Tryd.prog 74 #[.int .i64 n, .int .i64 1] W fun e w' => e = .returned (.bool q0) ∧ W = w') := fun W => by rw [hq0]; exact below_any n 1 W
  obtain ⟨q1, hq1⟩ : ∃ q : Bool, q = fieldV t a ck cn cf false := ⟨_, rfl⟩
  have K1 : Hid (∀ W : World, Sees w W → Calls Tryd.prog 77 #[.agg #[.int .i64 t, .int .i64 a], .agg #[.int .i64 ck, .int .i64 cn, .slice A cf.len C], .bool false] W fun e w' => e = .returned (.bool q1) ∧ Below W.heap.size W w') := fun W h => by rw [hq1]; exact isCondField_any t a ck cn cf hm hcf false A C W (hA.sees h)
  have HS : Hid (pform t a 2 n ck cn cf f.len = (decide ((f.len : Int) = 0) && (q0 && q1))) := by
    show _ = _
    unfold pform
    rw [hq0, hq1]
    rfl
  have FIN : Hid (∀ W : World, Below w0.heap.size w0 W → Below w.heap.size w W) := fun W h => B0.below h
  have e0 : w0.cell? ⟨0, 8, none⟩ = some (.slice Wd lw Cw) := kc B0 d0
  have e1 : w0.cell? ⟨0, 9, none⟩ = some (.bool false) := kc B0 d1
  have e2 : w0.cell? ⟨0, 10, none⟩ = some (.bool false) := kc B0 d2
  have e3 : w0.cell? ⟨0, 11, none⟩ = some (.int .i64 0) := kc B0 d3
  have a0 := Fo.cell_of_block hp0 0; have a1 := Fo.cell_of_block hp0 1; have a2 := Fo.cell_of_block hp0 2; have a3 := Fo.cell_of_block hp0 3; have a4 := Fo.cell_of_block hp0 4; have a5 := Fo.cell_of_block hp0 5
  have s0 := Fo.cell_of_block hg0 0; have s1 := Fo.cell_of_block hg0 1
  have l0 : w.heap.size + 1 < w0.heap.size := by rw [hw0]; simp
  have lg : 0 < w0.heap.size := World.block_lt_of_cell? _ _ e0
  obtain ⟨w1, hw1⟩ : ∃ w1, w1 = w0.alloc (.cells #[.slice Wd lw Cw, .bool false, .bool false, .int .i64 0] 116) := ⟨_, rfl⟩
  have B1 : Sees w0 w1 := by rw [hw1]; exact (Sees.refl _).alloc _
  have hf1 : w1.heap[w0.heap.size]? = some (.cells #[.slice Wd lw Cw, .bool false, .bool false, .int .i64 0] 116 (0, 0)) := by rw [hw1]; exact heap_new _ _ _ rfl
  have A0 := kc B1 a0; have A1 := kc B1 a1; have A2 := kc B1 a2; have A3 := kc B1 a3; have A4 := kc B1 a4; have A5 := kc B1 a5; have S0 := kc B1 s0; have S1 := kc B1 s1
  have F0 := Fo.cell_of_block hf1 0; have F1 := Fo.cell_of_block hf1 1; have F2 := Fo.cell_of_block hf1 2; have F3 := Fo.cell_of_block hf1 3
  have HB0 := Lib.hid B0; have HB1 := Lib.hid B1
  rw [hw1] at A0 A1 A2 A3 A4 A5 S0 S1 F0 F1 F2 F3
  rw [hw0] at A0 A1 A2 A3 A4 A5 S0 S1 F0 F1 F2 F3 e0 e1 e2 e3 a0 a1 a2 a3 a4 a5 s0 s1
  have HW0 := Lib.hid hw0; have HW1 := Lib.hid hw1
  clear hw0 hw1
  clear hq0 hq1 hm hcf hA B0 B1 d0 d1 d2 d3 hp0 hg0 hf1
  by_cases hl : (f.len : Int) = 0
  · have tl : ((f.len : Int) == 0) = true := by simp [hl]
    have HD : Hid (pform t a 2 n ck cn cf f.len = (q0 && q1)) := by show _ = _; rw [HS.out, decide_eq_true hl]; rfl
    clear hl HS
    cases q0
    · go_enter Tryd.func53, Tryd.ntmps53
      go_wp2_with fail
      refine (K0.out _).mono ?_
      rintro e w' ⟨rfl, rfl⟩
      go_wp2_with fail
      go_ret
      exact ⟨ret_bool HD.out.symm, by rw [← HW0.out, ← HW1.out]; exact FIN.out _ HB1.out⟩
    · go_enter Tryd.func53, Tryd.ntmps53
      go_wp2_with fail
      refine (K0.out _).mono ?_
      rintro e w' ⟨rfl, rfl⟩
      go_wp2_with fail
      rw [← HW0.out, ← HW1.out]
      refine (K1.out _ (HB0.out.below HB1.out)).mono ?_
      rintro e w2 ⟨rfl, hb⟩
      have B2 := Lib.hid (FIN.out _ (Below.trans HB1.out (hb.mono HB1.out.size)))
      clear hb
      go_wp2_with fail
      go_ret
      exact ⟨ret_bool HD.out.symm, B2.out⟩
  · have tl : ((f.len : Int) == 0) = false := by rw [beq_eq_false_iff_ne]; exact hl
    have HD : Hid (pform t a 2 n ck cn cf f.len = false) := by show _ = _; rw [HS.out, decide_eq_false hl]; rfl
    clear hl HS
    go_enter Tryd.func53, Tryd.ntmps53
    go_wp2_with fail
    go_ret
    exact ⟨ret_bool HD.out.symm, by rw [← HW0.out, ← HW1.out]; exact FIN.out _ HB1.out⟩
set_option maxHeartbeats 2000000 in
set_option maxRecDepth 100000 in
theorem phasForm_3 (t a n ck cn : Int) (cf : Fo) (f : Pg) (hm : cf.nodes ≤ 1048576) (hcf : cf.Fits) (hln : f.len ≤ 1048576) (A B : Option Addr) (C D : Nat) (w : World) (hA : cf.Lies w A) (hF : FormAt w 3 true false 0) :
    Calls Tryd.prog 53 #[.agg #[.int .i64 3, .int .i64 n, .int .i64 ck, .int .i64 cn, .slice A cf.len C, .slice B f.len D], .agg #[.int .i64 t, .int .i64 a]] w fun e w' => e = .returned (.bool (pform t a 3 n ck cn cf f.len)) ∧ Below w.heap.size w w' := by
  obtain ⟨Wd, lw, Cw, d0, d1, d2, d3⟩ := hF
  obtain ⟨w0, hw0⟩ : ∃ w0, w0 = (w.alloc (.cells #[.int .i64 3, .int .i64 n, .int .i64 ck, .int .i64 cn, .slice A cf.len C, .slice B f.len D] 40)).alloc (.cells #[.int .i64 t, .int .i64 a] 36) := ⟨_, rfl⟩
  have B0 : Sees w w0 := by rw [hw0]; exact ((Sees.refl w).alloc _).alloc _
  have hp0 : w0.heap[w.heap.size]? = some (.cells #[.int .i64 3, .int .i64 n, .int .i64 ck, .int .i64 cn, .slice A cf.len C, .slice B f.len D] 40 (0, 0)) := by rw [hw0]; exact (Below.heap_alloc _ _ _ (by simp)).trans (heap_new _ _ _ rfl)
  have hg0 : w0.heap[w.heap.size + 1]? = some (.cells #[.int .i64 t, .int .i64 a] 36 (0, 0)) := by rw [hw0]; exact heap_new _ _ _ (by simp)
  obtain ⟨q0, hq0⟩ : ∃ q : Bool, q = belowB n a := ⟨_, rfl⟩
  have K0 : Hid (∀ W : World, Calls Tryd.prog 74 #[.int .i64 n, .int .i64 a] W fun e w' => e = .returned (.bool q0) ∧ W = w') := fun W => by rw [hq0]; exact below_any n a W
  obtain ⟨q1, hq1⟩ : ∃ q : Bool, q = fieldV t a ck cn cf false := ⟨_, rfl⟩
  have K1 : Hid (∀ W : World, Sees w W → Calls Tryd.prog 77 #[.agg #[.int .i64 t, .int .i64 a], .agg #[.int .i64 ck, .int .i64 cn, .slice A cf.len C], .bool false] W fun e w' => e = .returned (.bool q1) ∧ Below W.heap.size W w') := fun W h => by rw [hq1]; exact isCondField_any t a ck cn cf hm hcf false A C W (hA.sees h)
  have HS : Hid (pform t a 3 n ck cn cf f.len = (decide ((f.len : Int) = 0) && (q0 && q1))) := by
    show _ = _
    unfold pform
    rw [hq0, hq1]
    rfl
  have FIN : Hid (∀ W : World, Below w0.heap.size w0 W → Below w.heap.size w W) := fun W h => B0.below h
  have e0 : w0.cell? ⟨0, 12, none⟩ = some (.slice Wd lw Cw) := kc B0 d0
  have e1 : w0.cell? ⟨0, 13, none⟩ = some (.bool true) := kc B0 d1
  have e2 : w0.cell? ⟨0, 14, none⟩ = some (.bool false) := kc B0 d2
  have e3 : w0.cell? ⟨0, 15, none⟩ = some (.int .i64 0) := kc B0 d3
  have a0 := Fo.cell_of_block hp0 0; have a1 := Fo.cell_of_block hp0 1; have a2 := Fo.cell_of_block hp0 2; have a3 := Fo.cell_of_block hp0 3; have a4 := Fo.cell_of_block hp0 4; have a5 := Fo.cell_of_block hp0 5
  have s0 := Fo.cell_of_block hg0 0; have s1 := Fo.cell_of_block hg0 1
  have l0 : w.heap.size + 1 < w0.heap.size := by rw [hw0]; simp
  have lg : 0 < w0.heap.size := World.block_lt_of_cell? _ _ e0
  obtain ⟨w1, hw1⟩ : ∃ w1, w1 = w0.alloc (.cells #[.slice Wd lw Cw, .bool true, .bool false, .int .i64 0] 116) := ⟨_, rfl⟩
  have B1 : Sees w0 w1 := by rw [hw1]; exact (Sees.refl _).alloc _
  have hf1 : w1.heap[w0.heap.size]? = some (.cells #[.slice Wd lw Cw, .bool true, .bool false, .int .i64 0] 116 (0, 0)) := by rw [hw1]; exact heap_new _ _ _ rfl
  have A0 := kc B1 a0; have A1 := kc B1 a1; have A2 := kc B1 a2; have A3 := kc B1 a3; have A4 := kc B1 a4; have A5 := kc B1 a5; have S0 := kc B1 s0; have S1 := kc B1 s1
  have F0 := Fo.cell_of_block hf1 0; have F1 := Fo.cell_of_block hf1 1; have F2 := Fo.cell_of_block hf1 2; have F3 := Fo.cell_of_block hf1 3
  have HB0 := Lib.hid B0; have HB1 := Lib.hid B1
  rw [hw1] at A0 A1 A2 A3 A4 A5 S0 S1 F0 F1 F2 F3
  rw [hw0] at A0 A1 A2 A3 A4 A5 S0 S1 F0 F1 F2 F3 e0 e1 e2 e3 a0 a1 a2 a3 a4 a5 s0 s1
  have HW0 := Lib.hid hw0; have HW1 := Lib.hid hw1
  clear hw0 hw1
  clear hq0 hq1 hm hcf hA B0 B1 d0 d1 d2 d3 hp0 hg0 hf1
  by_cases hl : (f.len : Int) = 0
  · have tl : ((f.len : Int) == 0) = true := by simp [hl]
    have HD : Hid (pform t a 3 n ck cn cf f.len = (q0 && q1)) := by show _ = _; rw [HS.out, decide_eq_true hl]; rfl
    clear hl HS
    cases q0
    · go_enter Tryd.func53, Tryd.ntmps53
      go_wp2_with fail
      refine (K0.out _).mono ?_
      rintro e w' ⟨rfl, rfl⟩
      go_wp2_with fail
      go_ret
      exact ⟨ret_bool HD.out.symm, by rw [← HW0.out, ← HW1.out]; exact FIN.out _ HB1.out⟩
    · go_enter Tryd.func53, Tryd.ntmps53
      go_wp2_with fail
      refine (K0.out _).mono ?_
      rintro e w' ⟨rfl, rfl⟩
      go_wp2_with fail
      rw [← HW0.out, ← HW1.out]
      refine (K1.out _ (HB0.out.below HB1.out)).mono ?_
      rintro e w2 ⟨rfl, hb⟩
      have B2 := Lib.hid (FIN.out _ (Below.trans HB1.out (hb.mono HB1.out.size)))
      clear hb
      go_wp2_with fail
      go_ret
      exact ⟨ret_bool HD.out.symm, B2.out⟩
  · have tl : ((f.len : Int) == 0) = false := by rw [beq_eq_false_iff_ne]; exact hl
    have HD : Hid (pform t a 3 n ck cn cf f.len = false) := by show _ = _; rw [HS.out, decide_eq_false hl]; rfl
    clear hl HS
    go_enter Tryd.func53, Tryd.ntmps53
    go_wp2_with fail
    go_ret
    exact ⟨ret_bool HD.out.symm, by rw [← HW0.out, ← HW1.out]; exact FIN.out _ HB1.out⟩
set_option maxHeartbeats 2000000 in
set_option maxRecDepth 100000 in
theorem phasForm_4 (t a n ck cn : Int) (cf : Fo) (f : Pg) (hm : cf.nodes ≤ 1048576) (hcf : cf.Fits) (hln : f.len ≤ 1048576) (A B : Option Addr) (C D : Nat) (w : World) (hA : cf.Lies w A) (hF : FormAt w 4 false true 0) :
    Calls Tryd.prog 53 #[.agg #[.int .i64 4, .int .i64 n, .int .i64 ck, .int .i64 cn, .slice A cf.len C, .slice B f.len D], .agg #[.int .i64 t, .int .i64 a]] w fun e w' => e = .returned (.bool (pform t a 4 n ck cn cf f.len)) ∧ Below w.heap.size w w' := by
  obtain ⟨Wd, lw, Cw, d0, d1, d2, d3⟩ := hF
  obtain ⟨w0, hw0⟩ : ∃ w0, w0 = (w.alloc (.cells #[.int .i64 4, .int .i64 n, .int .i64 ck, .int .i64 cn, .slice A cf.len C, .slice B f.len D] 40)).alloc (.cells #[.int .i64 t, .int .i64 a] 36) := ⟨_, rfl⟩
  have B0 : Sees w w0 := by rw [hw0]; exact ((Sees.refl w).alloc _).alloc _
  have hp0 : w0.heap[w.heap.size]? = some (.cells #[.int .i64 4, .int .i64 n, .int .i64 ck, .int .i64 cn, .slice A cf.len C, .slice B f.len D] 40 (0, 0)) := by rw [hw0]; exact (Below.heap_alloc _ _ _ (by simp)).trans (heap_new _ _ _ rfl)
  have hg0 : w0.heap[w.heap.size + 1]? = some (.cells #[.int .i64 t, .int .i64 a] 36 (0, 0)) := by rw [hw0]; exact heap_new _ _ _ (by simp)
  obtain ⟨q0, hq0⟩ : ∃ q : Bool, q = belowB n 1 := ⟨_, rfl⟩
  have K0 : Hid (∀ W : World, Calls Tryd.prog 74 #[.int .i64 n, .int .i64 1] W fun e w' => e = .returned (.bool q0) ∧ W = w') := fun W => by rw [hq0]; exact below_any n 1 W
  obtain ⟨q1, hq1⟩ : ∃ q : Bool, q = fieldV t a ck cn cf true := ⟨_, rfl⟩
  have K1 : Hid (∀ W : World, Sees w W → Calls Tryd.prog 77 #[.agg #[.int .i64 t, .int .i64 a], .agg #[.int .i64 ck, .int .i64 cn, .slice A cf.len C], .bool true] W fun e w' => e = .returned (.bool q1) ∧ Below W.heap.size W w') := fun W h => by rw [hq1]; exact isCondField_any t a ck cn cf hm hcf true A C W (hA.sees h)
  have HS : Hid (pform t a 4 n ck cn cf f.len = (decide ((f.len : Int) = 0) && (q0 && q1))) := by
    show _ = _
    unfold pform
    rw [hq0, hq1]
    rfl
  have FIN : Hid (∀ W : World, Below w0.heap.size w0 W → Below w.heap.size w W) := fun W h => B0.below h
  have e0 : w0.cell? ⟨0, 16, none⟩ = some (.slice Wd lw Cw) := kc B0 d0
  have e1 : w0.cell? ⟨0, 17, none⟩ = some (.bool false) := kc B0 d1
  have e2 : w0.cell? ⟨0, 18, none⟩ = some (.bool true) := kc B0 d2
  have e3 : w0.cell? ⟨0, 19, none⟩ = some (.int .i64 0) := kc B0 d3
  have a0 := Fo.cell_of_block hp0 0; have a1 := Fo.cell_of_block hp0 1; have a2 := Fo.cell_of_block hp0 2; have a3 := Fo.cell_of_block hp0 3; have a4 := Fo.cell_of_block hp0 4; have a5 := Fo.cell_of_block hp0 5
  have s0 := Fo.cell_of_block hg0 0; have s1 := Fo.cell_of_block hg0 1
  have l0 : w.heap.size + 1 < w0.heap.size := by rw [hw0]; simp
  have lg : 0 < w0.heap.size := World.block_lt_of_cell? _ _ e0
  obtain ⟨w1, hw1⟩ : ∃ w1, w1 = w0.alloc (.cells #[.slice Wd lw Cw, .bool false, .bool true, .int .i64 0] 116) := ⟨_, rfl⟩
  have B1 : Sees w0 w1 := by rw [hw1]; exact (Sees.refl _).alloc _
  have hf1 : w1.heap[w0.heap.size]? = some (.cells #[.slice Wd lw Cw, .bool false, .bool true, .int .i64 0] 116 (0, 0)) := by rw [hw1]; exact heap_new _ _ _ rfl
  have A0 := kc B1 a0; have A1 := kc B1 a1; have A2 := kc B1 a2; have A3 := kc B1 a3; have A4 := kc B1 a4; have A5 := kc B1 a5; have S0 := kc B1 s0; have S1 := kc B1 s1
  have F0 := Fo.cell_of_block hf1 0; have F1 := Fo.cell_of_block hf1 1; have F2 := Fo.cell_of_block hf1 2; have F3 := Fo.cell_of_block hf1 3
  have HB0 := Lib.hid B0; have HB1 := Lib.hid B1
  rw [hw1] at A0 A1 A2 A3 A4 A5 S0 S1 F0 F1 F2 F3
  rw [hw0] at A0 A1 A2 A3 A4 A5 S0 S1 F0 F1 F2 F3 e0 e1 e2 e3 a0 a1 a2 a3 a4 a5 s0 s1
  have HW0 := Lib.hid hw0; have HW1 := Lib.hid hw1
  clear hw0 hw1
  clear hq0 hq1 hm hcf hA B0 B1 d0 d1 d2 d3 hp0 hg0 hf1
  by_cases hl : (f.len : Int) = 0
  · have tl : ((f.len : Int) == 0) = true := by simp [hl]
    have HD : Hid (pform t a 4 n ck cn cf f.len = (q0 && q1)) := by show _ = _; rw [HS.out, decide_eq_true hl]; rfl
    clear hl HS
    cases q0
    · go_enter Tryd.func53, Tryd.ntmps53
      go_wp2_with fail
      refine (K0.out _).mono ?_
      rintro e w' ⟨rfl, rfl⟩
      go_wp2_with fail
      go_ret
      exact ⟨ret_bool HD.out.symm, by rw [← HW0.out, ← HW1.out]; exact FIN.out _ HB1.out⟩
    · go_enter Tryd.func53, Tryd.ntmps53
      go_wp2_with fail
      refine (K0.out _).mono ?_
      rintro e w' ⟨rfl, rfl⟩
      go_wp2_with fail
      rw [← HW0.out, ← HW1.out]
      refine (K1.out _ (HB0.out.below HB1.out)).mono ?_
      rintro e w2 ⟨rfl, hb⟩
      have B2 := Lib.hid (FIN.out _ (Below.trans HB1.out (hb.mono HB1.out.size)))
      clear hb
      go_wp2_with fail
      go_ret
      exact ⟨ret_bool HD.out.symm, B2.out⟩
  · have tl : ((f.len : Int) == 0) = false := by rw [beq_eq_false_iff_ne]; exact hl
    have HD : Hid (pform t a 4 n ck cn cf f.len = false) := by show _ = _; rw [HS.out, decide_eq_false hl]; rfl
    clear hl HS
    go_enter Tryd.func53, Tryd.ntmps53
    go_wp2_with fail
    go_ret
    exact ⟨ret_bool HD.out.symm, by rw [← HW0.out, ← HW1.out]; exact FIN.out _ HB1.out⟩
set_option maxHeartbeats 2000000 in
set_option maxRecDepth 100000 in
theorem phasForm_5 (t a n ck cn : Int) (cf : Fo) (f : Pg) (hm : cf.nodes ≤ 1048576) (hcf : cf.Fits) (hln : f.len ≤ 1048576) (A B : Option Addr) (C D : Nat) (w : World) (hA : cf.Lies w A) (hF : FormAt w 5 false false 2) :
    Calls Tryd.prog 53 #[.agg #[.int .i64 5, .int .i64 n, .int .i64 ck, .int .i64 cn, .slice A cf.len C, .slice B f.len D], .agg #[.int .i64 t, .int .i64 a]] w fun e w' => e = .returned (.bool (pform t a 5 n ck cn cf f.len)) ∧ Below w.heap.size w w' := by
  obtain ⟨Wd, lw, Cw, d0, d1, d2, d3⟩ := hF
  obtain ⟨w0, hw0⟩ : ∃ w0, w0 = (w.alloc (.cells #[.int .i64 5, .int .i64 n, .int .i64 ck, .int .i64 cn, .slice A cf.len C, .slice B f.len D] 40)).alloc (.cells #[.int .i64 t, .int .i64 a] 36) := ⟨_, rfl⟩
  have B0 : Sees w w0 := by rw [hw0]; exact ((Sees.refl w).alloc _).alloc _
  have hp0 : w0.heap[w.heap.size]? = some (.cells #[.int .i64 5, .int .i64 n, .int .i64 ck, .int .i64 cn, .slice A cf.len C, .slice B f.len D] 40 (0, 0)) := by rw [hw0]; exact (Below.heap_alloc _ _ _ (by simp)).trans (heap_new _ _ _ rfl)
  have hg0 : w0.heap[w.heap.size + 1]? = some (.cells #[.int .i64 t, .int .i64 a] 36 (0, 0)) := by rw [hw0]; exact heap_new _ _ _ (by simp)
  obtain ⟨q0, hq0⟩ : ∃ q : Bool, q = belowB n 1 := ⟨_, rfl⟩
  have K0 : Hid (∀ W : World, Calls Tryd.prog 74 #[.int .i64 n, .int .i64 1] W fun e w' => e = .returned (.bool q0) ∧ W = w') := fun W => by rw [hq0]; exact below_any n 1 W
  obtain ⟨q1, hq1⟩ : ∃ q : Bool, q = fieldV t a ck cn cf false := ⟨_, rfl⟩
  have K1 : Hid (∀ W : World, Sees w W → Calls Tryd.prog 77 #[.agg #[.int .i64 t, .int .i64 a], .agg #[.int .i64 ck, .int .i64 cn, .slice A cf.len C], .bool false] W fun e w' => e = .returned (.bool q1) ∧ Below W.heap.size W w') := fun W h => by rw [hq1]; exact isCondField_any t a ck cn cf hm hcf false A C W (hA.sees h)
  have HS : Hid (pform t a 5 n ck cn cf f.len = (decide ((f.len : Int) = 2) && (q0 && q1))) := by
    show _ = _
    unfold pform
    rw [hq0, hq1]
    rfl
  have FIN : Hid (∀ W : World, Below w0.heap.size w0 W → Below w.heap.size w W) := fun W h => B0.below h
  have e0 : w0.cell? ⟨0, 20, none⟩ = some (.slice Wd lw Cw) := kc B0 d0
  have e1 : w0.cell? ⟨0, 21, none⟩ = some (.bool false) := kc B0 d1
  have e2 : w0.cell? ⟨0, 22, none⟩ = some (.bool false) := kc B0 d2
  have e3 : w0.cell? ⟨0, 23, none⟩ = some (.int .i64 2) := kc B0 d3
  have a0 := Fo.cell_of_block hp0 0; have a1 := Fo.cell_of_block hp0 1; have a2 := Fo.cell_of_block hp0 2; have a3 := Fo.cell_of_block hp0 3; have a4 := Fo.cell_of_block hp0 4; have a5 := Fo.cell_of_block hp0 5
  have s0 := Fo.cell_of_block hg0 0; have s1 := Fo.cell_of_block hg0 1
  have l0 : w.heap.size + 1 < w0.heap.size := by rw [hw0]; simp
  have lg : 0 < w0.heap.size := World.block_lt_of_cell? _ _ e0
  obtain ⟨w1, hw1⟩ : ∃ w1, w1 = w0.alloc (.cells #[.slice Wd lw Cw, .bool false, .bool false, .int .i64 2] 116) := ⟨_, rfl⟩
  have B1 : Sees w0 w1 := by rw [hw1]; exact (Sees.refl _).alloc _
  have hf1 : w1.heap[w0.heap.size]? = some (.cells #[.slice Wd lw Cw, .bool false, .bool false, .int .i64 2] 116 (0, 0)) := by rw [hw1]; exact heap_new _ _ _ rfl
  have A0 := kc B1 a0; have A1 := kc B1 a1; have A2 := kc B1 a2; have A3 := kc B1 a3; have A4 := kc B1 a4; have A5 := kc B1 a5; have S0 := kc B1 s0; have S1 := kc B1 s1
  have F0 := Fo.cell_of_block hf1 0; have F1 := Fo.cell_of_block hf1 1; have F2 := Fo.cell_of_block hf1 2; have F3 := Fo.cell_of_block hf1 3
  have HB0 := Lib.hid B0; have HB1 := Lib.hid B1
  rw [hw1] at A0 A1 A2 A3 A4 A5 S0 S1 F0 F1 F2 F3
  rw [hw0] at A0 A1 A2 A3 A4 A5 S0 S1 F0 F1 F2 F3 e0 e1 e2 e3 a0 a1 a2 a3 a4 a5 s0 s1
  have HW0 := Lib.hid hw0; have HW1 := Lib.hid hw1
  clear hw0 hw1
  clear hq0 hq1 hm hcf hA B0 B1 d0 d1 d2 d3 hp0 hg0 hf1
  by_cases hl : (f.len : Int) = 2
  · have tl : ((f.len : Int) == 2) = true := by simp [hl]
    have HD : Hid (pform t a 5 n ck cn cf f.len = (q0 && q1)) := by show _ = _; rw [HS.out, decide_eq_true hl]; rfl
    clear hl HS
    cases q0
    · go_enter Tryd.func53, Tryd.ntmps53
      go_wp2_with fail
      refine (K0.out _).mono ?_
      rintro e w' ⟨rfl, rfl⟩
      go_wp2_with fail
      go_ret
      exact ⟨ret_bool HD.out.symm, by rw [← HW0.out, ← HW1.out]; exact FIN.out _ HB1.out⟩
    · go_enter Tryd.func53, Tryd.ntmps53
      go_wp2_with fail
      refine (K0.out _).mono ?_
      rintro e w' ⟨rfl, rfl⟩
      go_wp2_with fail
      rw [← HW0.out, ← HW1.out]
      refine (K1.out _ (HB0.out.below HB1.out)).mono ?_
      rintro e w2 ⟨rfl, hb⟩
      have B2 := Lib.hid (FIN.out _ (Below.trans HB1.out (hb.mono HB1.out.size)))
      clear hb
      go_wp2_with fail
      go_ret
      exact ⟨ret_bool HD.out.symm, B2.out⟩
  · have tl : ((f.len : Int) == 2) = false := by rw [beq_eq_false_iff_ne]; exact hl
    have HD : Hid (pform t a 5 n ck cn cf f.len = false) := by show _ = _; rw [HS.out, decide_eq_false hl]; rfl
    clear hl HS
    go_enter Tryd.func53, Tryd.ntmps53
    go_wp2_with fail
    go_ret
    exact ⟨ret_bool HD.out.symm, by rw [← HW0.out, ← HW1.out]; exact FIN.out _ HB1.out⟩
set_option maxHeartbeats 2000000 in
set_option maxRecDepth 100000 in
theorem phasForm_6 (t a n ck cn : Int) (cf : Fo) (f : Pg) (hm : cf.nodes ≤ 1048576) (hcf : cf.Fits) (hln : f.len ≤ 1048576) (A B : Option Addr) (C D : Nat) (w : World) (hA : cf.Lies w A) (hF : FormAt w 6 false true 2) :
    Calls Tryd.prog 53 #[.agg #[.int .i64 6, .int .i64 n, .int .i64 ck, .int .i64 cn, .slice A cf.len C, .slice B f.len D], .agg #[.int .i64 t, .int .i64 a]] w fun e w' => e = .returned (.bool (pform t a 6 n ck cn cf f.len)) ∧ Below w.heap.size w w' := by
  obtain ⟨Wd, lw, Cw, d0, d1, d2, d3⟩ := hF
  obtain ⟨w0, hw0⟩ : ∃ w0, w0 = (w.alloc (.cells #[.int .i64 6, .int .i64 n, .int .i64 ck, .int .i64 cn, .slice A cf.len C, .slice B f.len D] 40)).alloc (.cells #[.int .i64 t, .int .i64 a] 36) := ⟨_, rfl⟩
  have B0 : Sees w w0 := by rw [hw0]; exact ((Sees.refl w).alloc _).alloc _
  have hp0 : w0.heap[w.heap.size]? = some (.cells #[.int .i64 6, .int .i64 n, .int .i64 ck, .int .i64 cn, .slice A cf.len C, .slice B f.len D] 40 (0, 0)) := by rw [hw0]; exact (Below.heap_alloc _ _ _ (by simp)).trans (heap_new _ _ _ rfl)
  have hg0 : w0.heap[w.heap.size + 1]? = some (.cells #[.int .i64 t, .int .i64 a] 36 (0, 0)) := by rw [hw0]; exact heap_new _ _ _ (by simp)
  obtain ⟨q0, hq0⟩ : ∃ q : Bool, q = belowB n 1 := ⟨_, rfl⟩
  have K0 : Hid (∀ W : World, Calls Tryd.prog 74 #[.int .i64 n, .int .i64 1] W fun e w' => e = .returned (.bool q0) ∧ W = w') := fun W => by rw [hq0]; exact below_any n 1 W
  obtain ⟨q1, hq1⟩ : ∃ q : Bool, q = fieldV t a ck cn cf true := ⟨_, rfl⟩
  have K1 : Hid (∀ W : World, Sees w W → Calls Tryd.prog 77 #[.agg #[.int .i64 t, .int .i64 a], .agg #[.int .i64 ck, .int .i64 cn, .slice A cf.len C], .bool true] W fun e w' => e = .returned (.bool q1) ∧ Below W.heap.size W w') := fun W h => by rw [hq1]; exact isCondField_any t a ck cn cf hm hcf true A C W (hA.sees h)
  have HS : Hid (pform t a 6 n ck cn cf f.len = (decide ((f.len : Int) = 2) && (q0 && q1))) := by
    show _ = _
    unfold pform
    rw [hq0, hq1]
    rfl
  have FIN : Hid (∀ W : World, Below w0.heap.size w0 W → Below w.heap.size w W) := fun W h => B0.below h
  have e0 : w0.cell? ⟨0, 24, none⟩ = some (.slice Wd lw Cw) := kc B0 d0
  have e1 : w0.cell? ⟨0, 25, none⟩ = some (.bool false) := kc B0 d1
  have e2 : w0.cell? ⟨0, 26, none⟩ = some (.bool true) := kc B0 d2
  have e3 : w0.cell? ⟨0, 27, none⟩ = some (.int .i64 2) := kc B0 d3
  have a0 := Fo.cell_of_block hp0 0; have a1 := Fo.cell_of_block hp0 1; have a2 := Fo.cell_of_block hp0 2; have a3 := Fo.cell_of_block hp0 3; have a4 := Fo.cell_of_block hp0 4; have a5 := Fo.cell_of_block hp0 5
  have s0 := Fo.cell_of_block hg0 0; have s1 := Fo.cell_of_block hg0 1
  have l0 : w.heap.size + 1 < w0.heap.size := by rw [hw0]; simp
  have lg : 0 < w0.heap.size := World.block_lt_of_cell? _ _ e0
  obtain ⟨w1, hw1⟩ : ∃ w1, w1 = w0.alloc (.cells #[.slice Wd lw Cw, .bool false, .bool true, .int .i64 2] 116) := ⟨_, rfl⟩
  have B1 : Sees w0 w1 := by rw [hw1]; exact (Sees.refl _).alloc _
  have hf1 : w1.heap[w0.heap.size]? = some (.cells #[.slice Wd lw Cw, .bool false, .bool true, .int .i64 2] 116 (0, 0)) := by rw [hw1]; exact heap_new _ _ _ rfl
  have A0 := kc B1 a0; have A1 := kc B1 a1; have A2 := kc B1 a2; have A3 := kc B1 a3; have A4 := kc B1 a4; have A5 := kc B1 a5; have S0 := kc B1 s0; have S1 := kc B1 s1
  have F0 := Fo.cell_of_block hf1 0; have F1 := Fo.cell_of_block hf1 1; have F2 := Fo.cell_of_block hf1 2; have F3 := Fo.cell_of_block hf1 3
  have HB0 := Lib.hid B0; have HB1 := Lib.hid B1
  rw [hw1] at A0 A1 A2 A3 A4 A5 S0 S1 F0 F1 F2 F3
  rw [hw0] at A0 A1 A2 A3 A4 A5 S0 S1 F0 F1 F2 F3 e0 e1 e2 e3 a0 a1 a2 a3 a4 a5 s0 s1
  have HW0 := Lib.hid hw0; have HW1 := Lib.hid hw1
  clear hw0 hw1
  clear hq0 hq1 hm hcf hA B0 B1 d0 d1 d2 d3 hp0 hg0 hf1
  by_cases hl : (f.len : Int) = 2
  · have tl : ((f.len : Int) == 2) = true := by simp [hl]
    have HD : Hid (pform t a 6 n ck cn cf f.len = (q0 && q1)) := by show _ = _; rw [HS.out, decide_eq_true hl]; rfl
    clear hl HS
    cases q0
    · go_enter Tryd.func53, Tryd.ntmps53
      go_wp2_with fail
      refine (K0.out _).mono ?_
      rintro e w' ⟨rfl, rfl⟩
      go_wp2_with fail
      go_ret
      exact ⟨ret_bool HD.out.symm, by rw [← HW0.out, ← HW1.out]; exact FIN.out _ HB1.out⟩
    · go_enter Tryd.func53, Tryd.ntmps53
      go_wp2_with fail
      refine (K0.out _).mono ?_
      rintro e w' ⟨rfl, rfl⟩
      go_wp2_with fail
      rw [← HW0.out, ← HW1.out]
      refine (K1.out _ (HB0.out.below HB1.out)).mono ?_
      rintro e w2 ⟨rfl, hb⟩
      have B2 := Lib.hid (FIN.out _ (Below.trans HB1.out (hb.mono HB1.out.size)))
      clear hb
      go_wp2_with fail
      go_ret
      exact ⟨ret_bool HD.out.symm, B2.out⟩
  · have tl : ((f.len : Int) == 2) = false := by rw [beq_eq_false_iff_ne]; exact hl
    have HD : Hid (pform t a 6 n ck cn cf f.len = false) := by show _ = _; rw [HS.out, decide_eq_false hl]; rfl
    clear hl HS
    go_enter Tryd.func53, Tryd.ntmps53
    go_wp2_with fail
    go_ret
    exact ⟨ret_bool HD.out.symm, by rw [← HW0.out, ← HW1.out]; exact FIN.out _ HB1.out⟩
set_option maxHeartbeats 2000000 in
set_option maxRecDepth 100000 in
theorem phasForm_7 (t a n ck cn : Int) (cf : Fo) (f : Pg) (hm : cf.nodes ≤ 1048576) (hcf : cf.Fits) (hln : f.len ≤ 1048576) (A B : Option Addr) (C D : Nat) (w : World) (hA : cf.Lies w A) (hF : FormAt w 7 false true 1) :
    Calls Tryd.prog 53 #[.agg #[.int .i64 7, .int .i64 n, .int .i64 ck, .int .i64 cn, .slice A cf.len C, .slice B f.len D], .agg #[.int .i64 t, .int .i64 a]] w fun e w' => e = .returned (.bool (pform t a 7 n ck cn cf f.len)) ∧ Below w.heap.size w w' := by
  obtain ⟨Wd, lw, Cw, d0, d1, d2, d3⟩ := hF
  obtain ⟨w0, hw0⟩ : ∃ w0, w0 = (w.alloc (.cells #[.int .i64 7, .int .i64 n, .int .i64 ck, .int .i64 cn, .slice A cf.len C, .slice B f.len D] 40)).alloc (.cells #[.int .i64 t, .int .i64 a] 36) := ⟨_, rfl⟩
  have B0 : Sees w w0 := by rw [hw0]; exact ((Sees.refl w).alloc _).alloc _
  have hp0 : w0.heap[w.heap.size]? = some (.cells #[.int .i64 7, .int .i64 n, .int .i64 ck, .int .i64 cn, .slice A cf.len C, .slice B f.len D] 40 (0, 0)) := by rw [hw0]; exact (Below.heap_alloc _ _ _ (by simp)).trans (heap_new _ _ _ rfl)
  have hg0 : w0.heap[w.heap.size + 1]? = some (.cells #[.int .i64 t, .int .i64 a] 36 (0, 0)) := by rw [hw0]; exact heap_new _ _ _ (by simp)
  obtain ⟨q0, hq0⟩ : ∃ q : Bool, q = belowB n 1 := ⟨_, rfl⟩
  have K0 : Hid (∀ W : World, Calls Tryd.prog 74 #[.int .i64 n, .int .i64 1] W fun e w' => e = .returned (.bool q0) ∧ W = w') := fun W => by rw [hq0]; exact below_any n 1 W
  obtain ⟨q1, hq1⟩ : ∃ q : Bool, q = fieldV t a ck cn cf true := ⟨_, rfl⟩
  have K1 : Hid (∀ W : World, Sees w W → Calls Tryd.prog 77 #[.agg #[.int .i64 t, .int .i64 a], .agg #[.int .i64 ck, .int .i64 cn, .slice A cf.len C], .bool true] W fun e w' => e = .returned (.bool q1) ∧ Below W.heap.size W w') := fun W h => by rw [hq1]; exact isCondField_any t a ck cn cf hm hcf true A C W (hA.sees h)
  have HS : Hid (pform t a 7 n ck cn cf f.len = (decide ((f.len : Int) = 1) && (q0 && q1))) := by
    show _ = _
    unfold pform
    rw [hq0, hq1]
    rfl
  have FIN : Hid (∀ W : World, Below w0.heap.size w0 W → Below w.heap.size w W) := fun W h => B0.below h
  have e0 : w0.cell? ⟨0, 28, none⟩ = some (.slice Wd lw Cw) := kc B0 d0
  have e1 : w0.cell? ⟨0, 29, none⟩ = some (.bool false) := kc B0 d1
  have e2 : w0.cell? ⟨0, 30, none⟩ = some (.bool true) := kc B0 d2
  have e3 : w0.cell? ⟨0, 31, none⟩ = some (.int .i64 1) := kc B0 d3
  have a0 := Fo.cell_of_block hp0 0; have a1 := Fo.cell_of_block hp0 1; have a2 := Fo.cell_of_block hp0 2; have a3 := Fo.cell_of_block hp0 3; have a4 := Fo.cell_of_block hp0 4; have a5 := Fo.cell_of_block hp0 5
  have s0 := Fo.cell_of_block hg0 0; have s1 := Fo.cell_of_block hg0 1
  have l0 : w.heap.size + 1 < w0.heap.size := by rw [hw0]; simp
  have lg : 0 < w0.heap.size := World.block_lt_of_cell? _ _ e0
  obtain ⟨w1, hw1⟩ : ∃ w1, w1 = w0.alloc (.cells #[.slice Wd lw Cw, .bool false, .bool true, .int .i64 1] 116) := ⟨_, rfl⟩
  have B1 : Sees w0 w1 := by rw [hw1]; exact (Sees.refl _).alloc _
  have hf1 : w1.heap[w0.heap.size]? = some (.cells #[.slice Wd lw Cw, .bool false, .bool true, .int .i64 1] 116 (0, 0)) := by rw [hw1]; exact heap_new _ _ _ rfl
  have A0 := kc B1 a0; have A1 := kc B1 a1; have A2 := kc B1 a2; have A3 := kc B1 a3; have A4 := kc B1 a4; have A5 := kc B1 a5; have S0 := kc B1 s0; have S1 := kc B1 s1
  have F0 := Fo.cell_of_block hf1 0; have F1 := Fo.cell_of_block hf1 1; have F2 := Fo.cell_of_block hf1 2; have F3 := Fo.cell_of_block hf1 3
  have HB0 := Lib.hid B0; have HB1 := Lib.hid B1
  rw [hw1] at A0 A1 A2 A3 A4 A5 S0 S1 F0 F1 F2 F3
  rw [hw0] at A0 A1 A2 A3 A4 A5 S0 S1 F0 F1 F2 F3 e0 e1 e2 e3 a0 a1 a2 a3 a4 a5 s0 s1
  have HW0 := Lib.hid hw0; have HW1 := Lib.hid hw1
  clear hw0 hw1
  clear hq0 hq1 hm hcf hA B0 B1 d0 d1 d2 d3 hp0 hg0 hf1
  by_cases hl : (f.len : Int) = 1
  · have tl : ((f.len : Int) == 1) = true := by simp [hl]
    have HD : Hid (pform t a 7 n ck cn cf f.len = (q0 && q1)) := by show _ = _; rw [HS.out, decide_eq_true hl]; rfl
    clear hl HS
    cases q0
    · go_enter Tryd.func53, Tryd.ntmps53
      go_wp2_with fail
      refine (K0.out _).mono ?_
      rintro e w' ⟨rfl, rfl⟩
      go_wp2_with fail
      go_ret
      exact ⟨ret_bool HD.out.symm, by rw [← HW0.out, ← HW1.out]; exact FIN.out _ HB1.out⟩
    · go_enter Tryd.func53, Tryd.ntmps53
      go_wp2_with fail
      refine (K0.out _).mono ?_
      rintro e w' ⟨rfl, rfl⟩
      go_wp2_with fail
      rw [← HW0.out, ← HW1.out]
      refine (K1.out _ (HB0.out.below HB1.out)).mono ?_
      rintro e w2 ⟨rfl, hb⟩
      have B2 := Lib.hid (FIN.out _ (Below.trans HB1.out (hb.mono HB1.out.size)))
      clear hb
      go_wp2_with fail
      go_ret
      exact ⟨ret_bool HD.out.symm, B2.out⟩
  · have tl : ((f.len : Int) == 1) = false := by rw [beq_eq_false_iff_ne]; exact hl
    have HD : Hid (pform t a 7 n ck cn cf f.len = false) := by show _ = _; rw [HS.out, decide_eq_false hl]; rfl
    clear hl HS
    go_enter Tryd.func53, Tryd.ntmps53
    go_wp2_with fail
    go_ret
    exact ⟨ret_bool HD.out.symm, by rw [← HW0.out, ← HW1.out]; exact FIN.out _ HB1.out⟩
theorem phasForm_any (t a k n ck cn : Int) (cf : Fo) (f : Pg) (hm : cf.nodes ≤ 1048576) (hcf : cf.Fits) (hln : f.len ≤ 1048576) (A B : Option Addr) (C D : Nat) (w : World) (hA : cf.Lies w A) (hF : Forms w) :
    Calls Tryd.prog 53 #[.agg #[.int .i64 k, .int .i64 n, .int .i64 ck, .int .i64 cn, .slice A cf.len C, .slice B f.len D], .agg #[.int .i64 t, .int .i64 a]] w fun e w' => e = .returned (.bool (pform t a k n ck cn cf f.len)) ∧ Below w.heap.size w w' := by
  by_cases h1 : k = 1
  · subst h1; exact phasForm_1 t a n ck cn cf f hm hcf hln A B C D w hA hF.f1
  by_cases h2 : k = 2
  · subst h2; exact phasForm_2 t a n ck cn cf f hm hcf hln A B C D w hA hF.f2
  by_cases h3 : k = 3
  · subst h3; exact phasForm_3 t a n ck cn cf f hm hcf hln A B C D w hA hF.f3
  by_cases h4 : k = 4
  · subst h4; exact phasForm_4 t a n ck cn cf f hm hcf hln A B C D w hA hF.f4
  by_cases h5 : k = 5
  · subst h5; exact phasForm_5 t a n ck cn cf f hm hcf hln A B C D w hA hF.f5
  by_cases h6 : k = 6
  · subst h6; exact phasForm_6 t a n ck cn cf f hm hcf hln A B C D w hA hF.f6
  by_cases h7 : k = 7
  · subst h7; exact phasForm_7 t a n ck cn cf f hm hcf hln A B C D w hA hF.f7
  have HD : Hid (pform t a k n ck cn cf f.len = false) := by
    show _ = _
    unfold pform pkidC
    rw [if_neg (by omega), if_neg (by omega), if_neg (by omega), decide_eq_false (by omega)]
    rfl
  by_cases hk : k < 1
  · have hk2 := Lib.hid hk
    clear h1 h2 h3 h4 h5 h6 h7 hm hcf hA hF hln
    go_enter Tryd.func53, Tryd.ntmps53
    go_wp2_with fail
    go_ret
    exact ⟨ret_bool HD.out.symm, by go_grown⟩
  · have hk2 : 7 < k := by omega
    clear h1 h2 h3 h4 h5 h6 h7 hm hcf hA hF hln
    go_enter Tryd.func53, Tryd.ntmps53
    go_wp2_with fail
    go_ret
    exact ⟨ret_bool HD.out.symm, by go_grown⟩
end Go.Proofs.YtcgbepmhfimbjaaDoor

namespace Go.Proofs.YtcgbepmhfimbjaaDoor
open Go.RowKit Go.WideShapes Go.ChangeShapes Go.ChangeAt Go.WideElems
set_option linter.unusedVariables false

section
variable {H : Type} {enc : TypeId × Value → H} {P : Program}
theorem var_stays (hl : laidOutB P = true) {W W' : World} {sp : Nat → Bool} (hb : Below W.heap.size W W') {n : String} {gs : List (DataW H)} {ps : List MemPlace} {g : Nat} {t : TypeId} (hg : P.globalNamed n = some g) (ht : (P.globals[g]?).map (·.type) = some t)
    (hr : P.readableRec t = true) (hz : t < P.types.size) (h : DataW.TrodVars enc P W (fun _ => true) [n] gs ps) (hlt : ∀ x ∈ ps, x.block < W.heap.size) (hs : ∀ x ∈ ps, sp x.block = true) : DataW.TrodVars enc P W' sp [n] gs ps := by
  obtain ⟨g', t', cs, fuel, d, p, rfl, h1, h2, h3, h4, rfl⟩ := trodVars_one h
  obtain rfl := Option.some.inj (hg.symm.trans h1)
  obtain rfl := Option.some.inj (ht.symm.trans h2)
  have hbl : g < W.heap.size := by
    unfold World.var? at h3
    rw [h1] at h3
    simp only [Option.bind_some] at h3
    cases hh : W.heap[g]? with
    | none => rw [hh] at h3; cases h3
    | some o => exact (Array.getElem?_eq_some_iff.1 hh).1
  refine trodVars_mk1 h1 h2 ?_ (DataW.trod_stays (kids_book hl hr) (book_sized hr) (fun h => by cases h) ⟨hz, book_self t⟩ h4 (fun x hx => hb.same (hlt x (by simp [hx]))) (fun x hx => hs x (by simp [hx])))
  unfold World.var? at h3 ⊢
  rw [h1] at h3 ⊢
  simp only [Option.bind_some] at h3 ⊢
  rw [hb.block g hbl]
  exact h3
end

theorem gForms : Tryd.prog.globalNamed "loop.example/g01101/impl.progForms" = some 0 := by kernel_rfl
theorem tForms : (Tryd.prog.globals[0]?).map (·.type) = some 117 := by kernel_rfl
section
variable {H : Type} {enc : TypeId × Value → H}
theorem form_cells {W : World} {base : Nat} {sp : Nat → Bool} {held : Bool} {m : Nat} {cs : List Value} {x : DataW H × List MemPlace} {Ws : DataW H} {hn hc : Bool} {kids : Int} (h : DataW.trod enc Tryd.prog W base sp held m 116 cs = some x) (hx : x.1 = .agg [Ws, .lit (.bool hn), .lit (.bool hc), .lit (.int .i64 kids)]) :
    (∃ A l C, cs[0]? = some (.slice A l C)) ∧ cs[1]? = some (.bool hn) ∧ cs[2]? = some (.bool hc) ∧ cs[3]? = some (.int .i64 kids) := by
  obtain ⟨ys, n, _, rfl, hl, hlen, hf⟩ := DataW.trod_struct Tryd.underlying116 h
  have h0 : DataW.trod enc Tryd.prog W base sp held n 114 ((cs.drop 0).take (Tryd.prog.cellsOf 114)) = ys[0]? := hf 0 _ rfl
  have h1 : DataW.trod enc Tryd.prog W base sp held n 4 ((cs.drop 1).take (Tryd.prog.cellsOf 4)) = ys[1]? := hf 1 _ rfl
  have h2 : DataW.trod enc Tryd.prog W base sp held n 4 ((cs.drop 2).take (Tryd.prog.cellsOf 4)) = ys[2]? := hf 2 _ rfl
  have h3 : DataW.trod enc Tryd.prog W base sp held n 3 ((cs.drop 3).take (Tryd.prog.cellsOf 3)) = ys[3]? := hf 3 _ rfl
  have c0 : Tryd.prog.cellsOf 114 = 1 := by kernel_rfl
  have c1 : Tryd.prog.cellsOf 4 = 1 := by kernel_rfl
  have c3 : Tryd.prog.cellsOf 3 = 1 := by kernel_rfl
  have hy : ys.length = 4 := hlen
  match ys, hy with
  | [y0, y1, y2, y3], _ =>
  simp only [List.map_cons, List.map_nil, DataW.agg.injEq, List.cons.injEq, and_true] at hx
  obtain ⟨_, e1, e2, e3⟩ := hx
  rw [c0] at h0
  rw [c1] at h1 h2
  rw [c3] at h3
  have g1 : DataW.trod enc Tryd.prog W base sp held n 4 ((cs.drop 1).take 1) = some y1 := h1
  have g2 : DataW.trod enc Tryd.prog W base sp held n 4 ((cs.drop 2).take 1) = some y2 := h2
  have g3 : DataW.trod enc Tryd.prog W base sp held n 3 ((cs.drop 3).take 1) = some y3 := h3
  have g0 : DataW.trod enc Tryd.prog W base sp held n 114 ((cs.drop 0).take 1) = some y0 := h0
  have pick : ∀ (k : Nat) (v : Value), (cs.drop k).take 1 = [v] → cs[k]? = some v := fun k v h => by
    have h4 : ((cs.drop k).take 1)[0]? = some v := by rw [h]; rfl
    simpa using h4
  obtain ⟨b1, q1, r1⟩ := DataW.trod_bool Tryd.underlying4 g1
  obtain ⟨b2, q2, r2⟩ := DataW.trod_bool Tryd.underlying4 g2
  obtain ⟨b3, q3, r3, _⟩ := DataW.trod_int Tryd.underlying3 g3
  rw [r1] at e1
  rw [r2] at e2
  rw [r3] at e3
  simp only [DataW.lit.injEq, Lit.bool.injEq, Lit.int.injEq, true_and] at e1 e2 e3
  subst e1 e2 e3
  refine ⟨?_, pick 1 _ q1, pick 2 _ q2, pick 3 _ q3⟩
  rcases DataW.trod_slice Tryd.underlying114 g0 with ⟨h, _⟩ | ⟨a, len, cap, _, _, _, _, h, _⟩
  · exact ⟨_, _, _, pick 0 _ h⟩
  · exact ⟨_, _, _, pick 0 _ h⟩
end
/-- A listed variable holds what the list says. -/
theorem laid_mem {W : World} : ∀ {L : List (String × DataW Unit)} {ps : List MemPlace}, DataW.LaidVars Tryd.prog W L ps → ∀ {n : String} {d : DataW Unit}, (n, d) ∈ L → ∃ g t cs fuel p, Tryd.prog.globalNamed n = some g ∧ (Tryd.prog.globals[g]?).map (·.type) = some t ∧ W.var? Tryd.prog n = some cs ∧ DataW.trod (fun _ => ()) Tryd.prog W 0 (fun _ => true) false fuel t cs.toList = some (d, p)
  | [], _, _, _, _, hm => by cases hm
  | (n', d') :: L, ps, h, n, d, hm => by
    obtain ⟨g, t, cs, fuel, p, q, h1, h2, h3, h4, h5, _⟩ := h
    rcases List.mem_cons.1 hm with he | hm
    · cases he
      exact ⟨g, t, cs, fuel, p, h1, h2, h3, h4⟩
    · exact laid_mem h5 hm
theorem forms_of {W : World} {L : List (String × DataW Unit)} (h : laidMetH Tryd.prog L W) (hp : (L.all fun x => x.2.handleName?.isNone) = true) (hm : ("loop.example/g01101/impl.progForms", Rows.laid_loop_example_g01101_impl_progForms) ∈ L) : Forms W := by
  rw [MakeChecks.laidMetH_plain _ _ _ hp] at h
  obtain ⟨ps, hlv, _, _⟩ := h
  obtain ⟨g0, t0, cs0, f0, p0, hg0, ht0, hv0, hd0⟩ := laid_mem hlv hm
  obtain rfl := Option.some.inj (gForms.symm.trans hg0)
  obtain rfl := Option.some.inj (tForms.symm.trans ht0)
  obtain ⟨xs, m1, rfl, hx1, hlen, hn3, hel⟩ := DataW.trod_array Tryd.underlying117 hd0
  have cS : Tryd.prog.cellsOf 116 = 4 := by kernel_rfl
  simp only [Prod.mk.injEq] at hx1
  have hx2 := hx1.1
  unfold Rows.laid_loop_example_g01101_impl_progForms at hx2
  simp only [DataW.agg.injEq] at hx2
  have one : ∀ (i : Nat) (Ws : DataW Unit) (hn hc : Bool) (kids : Int), i < 8 → (xs.map (·.1))[i]? = some (.agg [Ws, .lit (.bool hn), .lit (.bool hc), .lit (.int .i64 kids)]) → FormAt W i hn hc kids := fun i Ws hn hc kids hi hxi => by
    have h := hel i hi
    rw [cS] at h
    rw [List.getElem?_map] at hxi
    obtain ⟨x, hx, hx3⟩ := Option.map_eq_some_iff.1 hxi
    rw [hx] at h
    obtain ⟨⟨A, l, C, c0⟩, c1, c2, c3⟩ := form_cells h hx3
    have cell : ∀ (j : Nat) (v : Value), j < 4 → ((cs0.toList.drop (i * 4)).take 4)[j]? = some v → W.cell? ⟨0, 4 * i + j, none⟩ = some v := fun j v hj hv => by
      rw [World.var?_cell hg0 hv0 (4 * i + j)]
      rw [List.getElem?_take, if_pos hj, List.getElem?_drop] at hv
      rw [← Array.getElem?_toList, show 4 * i + j = i * 4 + j by omega]
      exact hv
    exact ⟨A, l, C, cell 0 _ (by omega) c0, cell 1 _ (by omega) c1, cell 2 _ (by omega) c2, cell 3 _ (by omega) c3⟩
  exact ⟨one 1 _ _ _ _ (by decide) (by rw [← hx2]; rfl), one 2 _ _ _ _ (by decide) (by rw [← hx2]; rfl), one 3 _ _ _ _ (by decide) (by rw [← hx2]; rfl), one 4 _ _ _ _ (by decide) (by rw [← hx2]; rfl), one 5 _ _ _ _ (by decide) (by rw [← hx2]; rfl), one 6 _ _ _ _ (by decide) (by rw [← hx2]; rfl), one 7 _ _ _ _ (by decide) (by rw [← hx2]; rfl)⟩
end Go.Proofs.YtcgbepmhfimbjaaDoor

namespace Go.Proofs.YtcgbepmhfimbjaaDoor
open Go.RowKit Go.WideShapes Go.ChangeShapes Go.ChangeAt Go.WideElems
set_option linter.unusedVariables false

/-- The words that the table of forms holds at a kind. -/
def WordsAt (w : World) (i : Nat) (ws : List (List UInt8)) : Prop :=
  ∃ b o : Nat, w.cell? ⟨0, 4 * i, none⟩ = some (.slice (some ⟨b, o, none⟩) ws.length ws.length) ∧ ∀ (j : Nat) (s : List UInt8), ws[j]? = some s → w.cell? ⟨b, o + j, none⟩ = some (str s)
theorem WordsAt.sees {w w' : World} {i : Nat} {ws : List (List UInt8)} (h : WordsAt w i ws) (hs : Sees w w') : WordsAt w' i ws := by
  obtain ⟨b, o, h1, h2⟩ := h
  exact ⟨b, o, kc hs h1, fun j s hj => kc hs (h2 j s hj)⟩
structure FWords (w : World) : Prop where
  f1 : WordsAt w 1 [[115, 107, 105, 112]]
  f2 : WordsAt w 2 [[102, 97, 105, 108]]
  f3 : WordsAt w 3 [[97], []]
  f4 : WordsAt w 4 [[97, 115, 115, 101, 114, 116, 32], []]
  f5 : WordsAt w 5 [[123], [59, 32], [125]]
  f6 : WordsAt w 6 [[105, 102, 32], [32, 116, 104, 101, 110, 32], [32, 101, 108, 115, 101, 32], [32, 102, 105]]
  f7 : WordsAt w 7 [[119, 104, 105, 108, 101, 32], [32, 100, 111, 32], [32, 111, 100]]
theorem FWords.sees {w w' : World} (h : FWords w) (hs : Sees w w') : FWords w' := ⟨h.f1.sees hs, h.f2.sees hs, h.f3.sees hs, h.f4.sees hs, h.f5.sees hs, h.f6.sees hs, h.f7.sees hs⟩

def dlit {H : Type} (ws : List (List UInt8)) : DataW H := .slice (ws.map fun s => .lit (.string s)) []
section
variable {H : Type} {enc : TypeId × Value → H}
theorem word_cells {W : World} {held : Bool} {m : Nat} {cs : List Value} {x : DataW H × List MemPlace} {ws : List (List UInt8)} {d1 d2 d3 : DataW H} (h : DataW.trod enc Tryd.prog W 0 (fun _ => true) held m 116 cs = some x) (hne : 0 < ws.length) (hx : x.1 = .agg [dlit ws, d1, d2, d3]) :
    ∃ b o : Nat, cs[0]? = some (.slice (some ⟨b, o, none⟩) ws.length ws.length) ∧ ∀ (j : Nat) (s : List UInt8), ws[j]? = some s → W.cell? ⟨b, o + j, none⟩ = some (str s) := by
  obtain ⟨ys, n, _, rfl, hl, hlen, hf⟩ := DataW.trod_struct Tryd.underlying116 h
  have h0 : DataW.trod enc Tryd.prog W 0 (fun _ => true) held n 114 ((cs.drop 0).take (Tryd.prog.cellsOf 114)) = ys[0]? := hf 0 _ rfl
  have c0 : Tryd.prog.cellsOf 114 = 1 := by kernel_rfl
  have cS : Tryd.prog.cellsOf 9 = 1 := by kernel_rfl
  have hy : ys.length = 4 := hlen
  match ys, hy with
  | [y0, y1, y2, y3], _ =>
  simp only [List.map_cons, List.map_nil, DataW.agg.injEq, List.cons.injEq, and_true] at hx
  obtain ⟨e0, _⟩ := hx
  rw [c0] at h0
  have g0 : DataW.trod enc Tryd.prog W 0 (fun _ => true) held n 114 ((cs.drop 0).take 1) = some y0 := h0
  rcases DataW.trod_slice Tryd.underlying114 g0 with ⟨_, h1⟩ | ⟨a, len, cap, elems, rest, n1, _, h1, h2, _, hlc, _, hel, hcell, hsp, _⟩
  · rw [h1] at e0; cases e0
  · rw [h2] at e0
    unfold dlit at e0
    simp only [DataW.slice.injEq, List.map_eq_nil_iff] at e0
    obtain ⟨e1, e2⟩ := e0
    have hr := (hsp rfl).1
    rw [e2] at hr
    have hcap : cap = len := by simp at hr; omega
    have hlw : len = ws.length := by
      have h5 := congrArg List.length e1
      simp at h5
      omega
    subst hcap hlw
    have hcellj : ∀ (j : Nat) (s : List UInt8), ws[j]? = some s → W.cells? 0 (a.add j) 1 = some [str s] := fun j s hj => by
      obtain ⟨hjl, _⟩ := List.getElem?_eq_some_iff.1 hj
      have h6 := hcell j hjl
      rw [cS, Nat.mul_one] at h6
      have h7 : (elems.map (·.1))[j]? = some (.lit (.string s)) := by rw [e1]; simp [hj]
      rw [List.getElem?_map] at h7
      obtain ⟨y, hy1, hy2⟩ := Option.map_eq_some_iff.1 h7
      rw [hy1] at h6
      obtain ⟨cc, h8, h9⟩ := Option.bind_eq_some_iff.1 h6
      obtain ⟨s', h10, h11, _⟩ := DataW.trod_string Tryd.underlying9 h9
      rw [h11] at hy2
      simp only [DataW.lit.injEq, Lit.string.injEq] at hy2
      rw [h8, h10, ← hy2]
      rfl
    obtain ⟨b, o, spot⟩ := a
    have hspot : spot = none := by
      obtain ⟨_, _, hc2⟩ := World.cells?_some (hcellj 0 _ (List.getElem?_eq_getElem hne))
      have h12 := hc2 0 (by omega)
      simpa [Addr.add] using World.cell?_spot h12
    subst hspot
    refine ⟨b, o, ?_, fun j s hj => ?_⟩
    · have h4 : ((cs.drop 0).take 1)[0]? = some (.slice (some ⟨b, o, none⟩) ws.length ws.length) := by rw [h1]; rfl
      simpa using h4
    · obtain ⟨_, _, hc2⟩ := World.cells?_some (hcellj j s hj)
      have h12 := hc2 0 (by omega)
      have e : ((⟨b, o, none⟩ : Addr).add j).add 0 = ⟨b, o + j, none⟩ := by cases j <;> simp [Addr.add]
      rw [e] at h12
      exact h12
end
theorem fwords_of {W : World} {L : List (String × DataW Unit)} (h : laidMetH Tryd.prog L W) (hp : (L.all fun x => x.2.handleName?.isNone) = true) (hm : ("loop.example/g01101/impl.progForms", Rows.laid_loop_example_g01101_impl_progForms) ∈ L) : FWords W := by
  rw [MakeChecks.laidMetH_plain _ _ _ hp] at h
  obtain ⟨ps, hlv, _, _⟩ := h
  obtain ⟨g0, t0, cs0, f0, p0, hg0, ht0, hv0, hd0⟩ := laid_mem hlv hm
  obtain rfl := Option.some.inj (gForms.symm.trans hg0)
  obtain rfl := Option.some.inj (tForms.symm.trans ht0)
  obtain ⟨xs, m1, rfl, hx1, hlen, hn3, hel⟩ := DataW.trod_array Tryd.underlying117 hd0
  have cS : Tryd.prog.cellsOf 116 = 4 := by kernel_rfl
  simp only [Prod.mk.injEq] at hx1
  have hx2 := hx1.1
  unfold Rows.laid_loop_example_g01101_impl_progForms at hx2
  simp only [DataW.agg.injEq] at hx2
  have one : ∀ (i : Nat) (ws : List (List UInt8)) (d1 d2 d3 : DataW Unit), i < 8 → 0 < ws.length → (xs.map (·.1))[i]? = some (.agg [dlit ws, d1, d2, d3]) → WordsAt W i ws := fun i ws d1 d2 d3 hi hne hxi => by
    have h := hel i hi
    rw [cS] at h
    rw [List.getElem?_map] at hxi
    obtain ⟨x, hx, hx3⟩ := Option.map_eq_some_iff.1 hxi
    rw [hx] at h
    obtain ⟨b, o, c0, c1⟩ := word_cells h hne hx3
    refine ⟨b, o, ?_, c1⟩
    rw [show 4 * i = 4 * i + 0 from rfl, World.var?_cell hg0 hv0 (4 * i + 0)]
    rw [List.getElem?_take, if_pos (by decide), List.getElem?_drop] at c0
    rw [← Array.getElem?_toList, show 4 * i + 0 = i * 4 + 0 by omega]
    exact c0
  exact ⟨one 1 _ _ _ _ (by decide) (by decide) (by rw [← hx2]; rfl), one 2 _ _ _ _ (by decide) (by decide) (by rw [← hx2]; rfl), one 3 _ _ _ _ (by decide) (by decide) (by rw [← hx2]; rfl), one 4 _ _ _ _ (by decide) (by decide) (by rw [← hx2]; rfl), one 5 _ _ _ _ (by decide) (by decide) (by rw [← hx2]; rfl), one 6 _ _ _ _ (by decide) (by decide) (by rw [← hx2]; rfl), one 7 _ _ _ _ (by decide) (by decide) (by rw [← hx2]; rfl)⟩
end Go.Proofs.YtcgbepmhfimbjaaDoor

namespace Go.Proofs.YtcgbepmhfimbjaaDoor
open Go.RowKit

theorem zeroNode_size  (w : World) : Calls Tryd.prog 129 #[.agg #[]] w fun e w' => e = .returned (.int .i64 1) ∧ Below w.heap.size w w' := by
  go_enter Tryd.func129, Tryd.ntmps129
  go_wp2_with fail
  go_ret
  exact ⟨rfl, by go_grown⟩

theorem oneNode_size  (w : World) : Calls Tryd.prog 122 #[.agg #[]] w fun e w' => e = .returned (.int .i64 1) ∧ Below w.heap.size w w' := by
  go_enter Tryd.func122, Tryd.ntmps122
  go_wp2_with fail
  go_ret
  exact ⟨rfl, by go_grown⟩

theorem testNode_size (n : Int) (w : World) : Calls Tryd.prog 123 #[.agg #[.int .i64 n]] w fun e w' => e = .returned (.int .i64 1) ∧ Below w.heap.size w w' := by
  go_enter Tryd.func123, Tryd.ntmps123
  go_wp2_with fail
  go_ret
  exact ⟨rfl, by go_grown⟩

theorem actNode_size (n : Int) (w : World) : Calls Tryd.prog 124 #[.agg #[.int .i64 n]] w fun e w' => e = .returned (.int .i64 1) ∧ Below w.heap.size w w' := by
  go_enter Tryd.func124, Tryd.ntmps124
  go_wp2_with fail
  go_ret
  exact ⟨rfl, by go_grown⟩

theorem notNode_size (v : Value) (n : Int) (w : World) : Calls Tryd.prog 125 #[.agg #[v, .int .i64 n]] w fun e w' => e = .returned (.int .i64 n) ∧ Below w.heap.size w w' := by
  go_enter Tryd.func125, Tryd.ntmps125
  go_wp2_with fail
  go_ret
  exact ⟨rfl, by go_grown⟩

theorem starNode_size (v : Value) (n : Int) (w : World) : Calls Tryd.prog 128 #[.agg #[v, .int .i64 n]] w fun e w' => e = .returned (.int .i64 n) ∧ Below w.heap.size w w' := by
  go_enter Tryd.func128, Tryd.ntmps128
  go_wp2_with fail
  go_ret
  exact ⟨rfl, by go_grown⟩

theorem sumNode_size (v u : Value) (n : Int) (w : World) : Calls Tryd.prog 126 #[.agg #[v, u, .int .i64 n]] w fun e w' => e = .returned (.int .i64 n) ∧ Below w.heap.size w w' := by
  go_enter Tryd.func126, Tryd.ntmps126
  go_wp2_with fail
  go_ret
  exact ⟨rfl, by go_grown⟩

theorem dotNode_size (v u : Value) (n : Int) (w : World) : Calls Tryd.prog 127 #[.agg #[v, u, .int .i64 n]] w fun e w' => e = .returned (.int .i64 n) ∧ Below w.heap.size w w' := by
  go_enter Tryd.func127, Tryd.ntmps127
  go_wp2_with fail
  go_ret
  exact ⟨rfl, by go_grown⟩

/-- Each node answers its size. -/
theorem node_size (a : Nd) : ∃ (T : TypeId) (x : Value) (F : FuncId), a.val = .iface T x ∧ (∀ w, (method 282 T x "loop.example/g01101/impl.size").run Tryd.prog w = .ok (F, x) w) ∧ (∀ w, (callFunc F #[x]).run Tryd.prog w = .ok (.enter F #[x]) w) ∧
    ∀ w : World, Calls Tryd.prog F #[x] w fun e w' => e = .returned (.int .i64 (a.size : Int)) ∧ Below w.heap.size w w' := by
  cases a with
  | zero => exact ⟨108, _, 129, rfl, fun _ => by kernel_rfl, fun _ => by kernel_rfl, fun w => zeroNode_size w⟩
  | one => exact ⟨95, _, 122, rfl, fun _ => by kernel_rfl, fun _ => by kernel_rfl, fun w => oneNode_size w⟩
  | test n => exact ⟨97, _, 123, rfl, fun _ => by kernel_rfl, fun _ => by kernel_rfl, fun w => testNode_size n w⟩
  | act n => exact ⟨98, _, 124, rfl, fun _ => by kernel_rfl, fun _ => by kernel_rfl, fun w => actNode_size n w⟩
  | not a => exact ⟨100, _, 125, rfl, fun _ => by kernel_rfl, fun _ => by kernel_rfl, fun w => notNode_size _ _ w⟩
  | sum a b => exact ⟨102, _, 126, rfl, fun _ => by kernel_rfl, fun _ => by kernel_rfl, fun w => sumNode_size _ _ _ w⟩
  | dot a b => exact ⟨103, _, 127, rfl, fun _ => by kernel_rfl, fun _ => by kernel_rfl, fun w => dotNode_size _ _ _ w⟩
  | star a => exact ⟨104, _, 128, rfl, fun _ => by kernel_rfl, fun _ => by kernel_rfl, fun w => starNode_size _ _ w⟩

set_option maxRecDepth 100000 in
set_option maxHeartbeats 1000000 in
theorem newNot_any (a : Nd) (w : World) (h : 1 + a.size ≤ 4194304) : Calls Tryd.prog 57 #[a.val] w fun e w' => e = .returned ((Nd.not a).val) ∧ Below w.heap.size w w' := by
  obtain ⟨T1, x1, F1, hv1, hm1, he1, hc1⟩ := node_size a
  have HV : Hid ((Nd.not a).val = .iface 100 (.agg #[.iface T1 x1, .int .i64 (1 + (a.size : Int))])) := by
    have e0 : (Nd.not a).val = .iface 100 (.agg #[a.val, .int .i64 ((1 + a.size : Nat) : Int)]) := rfl
    show _ = _
    rw [e0, hv1, show ((1 + a.size : Nat) : Int) = 1 + (a.size : Int) from by omega]
  rw [hv1]
  have K1 := Lib.hid hc1
  clear hv1 hc1
  go_enter Tryd.func57, Tryd.ntmps57
  go_wp2_with fail
  refine (K1.out _).mono ?_
  rintro e w1 ⟨rfl, hb1⟩
  go_wp2_with fail
  go_ret
  refine ⟨by rw [HV.out]; rfl, hb1⟩

set_option maxRecDepth 100000 in
set_option maxHeartbeats 1000000 in
theorem newStar_any (a : Nd) (w : World) (h : 1 + a.size ≤ 4194304) : Calls Tryd.prog 58 #[a.val] w fun e w' => e = .returned ((Nd.star a).val) ∧ Below w.heap.size w w' := by
  obtain ⟨T1, x1, F1, hv1, hm1, he1, hc1⟩ := node_size a
  have HV : Hid ((Nd.star a).val = .iface 104 (.agg #[.iface T1 x1, .int .i64 (1 + (a.size : Int))])) := by
    have e0 : (Nd.star a).val = .iface 104 (.agg #[a.val, .int .i64 ((1 + a.size : Nat) : Int)]) := rfl
    show _ = _
    rw [e0, hv1, show ((1 + a.size : Nat) : Int) = 1 + (a.size : Int) from by omega]
  rw [hv1]
  have K1 := Lib.hid hc1
  clear hv1 hc1
  go_enter Tryd.func58, Tryd.ntmps58
  go_wp2_with fail
  refine (K1.out _).mono ?_
  rintro e w1 ⟨rfl, hb1⟩
  go_wp2_with fail
  go_ret
  refine ⟨by rw [HV.out]; rfl, hb1⟩

set_option maxRecDepth 100000 in
set_option maxHeartbeats 1000000 in
theorem newSum_any (a b : Nd) (w : World) (h : 1 + a.size + b.size ≤ 4194304) : Calls Tryd.prog 56 #[a.val, b.val] w fun e w' => e = .returned ((Nd.sum a b).val) ∧ Below w.heap.size w w' := by
  obtain ⟨T1, x1, F1, hv1, hm1, he1, hc1⟩ := node_size a
  obtain ⟨T2, x2, F2, hv2, hm2, he2, hc2⟩ := node_size b
  have HV : Hid ((Nd.sum a b).val = .iface 102 (.agg #[.iface T1 x1, .iface T2 x2, .int .i64 (1 + (a.size : Int) + b.size)])) := by
    have e0 : (Nd.sum a b).val = .iface 102 (.agg #[a.val, b.val, .int .i64 ((1 + a.size + b.size : Nat) : Int)]) := rfl
    show _ = _
    rw [e0, hv1, hv2, show ((1 + a.size + b.size : Nat) : Int) = 1 + (a.size : Int) + b.size from by omega]
  rw [hv1, hv2]
  have K1 := Lib.hid hc1
  have K2 := Lib.hid hc2
  clear hv1 hv2 hc1 hc2
  go_enter Tryd.func56, Tryd.ntmps56
  go_wp2_with fail
  refine (K1.out _).mono ?_
  rintro e w1 ⟨rfl, hb1⟩
  go_wp2_with fail
  refine (K2.out _).mono ?_
  rintro e w2 ⟨rfl, hb2⟩
  go_wp2_with fail
  go_ret
  refine ⟨by rw [HV.out]; rfl, hb1.trans (hb2.mono hb1.size)⟩

set_option maxRecDepth 100000 in
set_option maxHeartbeats 1000000 in
theorem newDot_any (a b : Nd) (w : World) (h : 1 + a.size + b.size ≤ 4194304) : Calls Tryd.prog 55 #[a.val, b.val] w fun e w' => e = .returned ((Nd.dot a b).val) ∧ Below w.heap.size w w' := by
  obtain ⟨T1, x1, F1, hv1, hm1, he1, hc1⟩ := node_size a
  obtain ⟨T2, x2, F2, hv2, hm2, he2, hc2⟩ := node_size b
  have HV : Hid ((Nd.dot a b).val = .iface 103 (.agg #[.iface T1 x1, .iface T2 x2, .int .i64 (1 + (a.size : Int) + b.size)])) := by
    have e0 : (Nd.dot a b).val = .iface 103 (.agg #[a.val, b.val, .int .i64 ((1 + a.size + b.size : Nat) : Int)]) := rfl
    show _ = _
    rw [e0, hv1, hv2, show ((1 + a.size + b.size : Nat) : Int) = 1 + (a.size : Int) + b.size from by omega]
  rw [hv1, hv2]
  have K1 := Lib.hid hc1
  have K2 := Lib.hid hc2
  clear hv1 hv2 hc1 hc2
  go_enter Tryd.func55, Tryd.ntmps55
  go_wp2_with fail
  refine (K1.out _).mono ?_
  rintro e w1 ⟨rfl, hb1⟩
  go_wp2_with fail
  refine (K2.out _).mono ?_
  rintro e w2 ⟨rfl, hb2⟩
  go_wp2_with fail
  go_ret
  refine ⟨by rw [HV.out]; rfl, hb1.trans (hb2.mono hb1.size)⟩

end Go.Proofs.YtcgbepmhfimbjaaDoor

namespace Go.Proofs.YtcgbepmhfimbjaaDoor
open Go.RowKit

set_option maxRecDepth 100000 in
set_option maxHeartbeats 2000000 in
theorem nodeOf_any : ∀ (N : Nat) (f : Fo), f.nodes < N → f.nodes ≤ 1048576 → ∀ (t a : Int) (b : Bool) (k n : Int) (A : Option Addr) (C : Nat) (w : World), f.Lies w A → treeE t a b k n f = true →
      Calls Tryd.prog 54 #[.agg #[.int .i64 k, .int .i64 n, .slice A f.len C]] w fun e w' => e = .returned ((ndE f k n).val) ∧ Below w.heap.size w w' := by
  intro N
  induction N with
  | zero => intro f hN; exact absurd hN (Nat.not_lt_zero _)
  | succ N ih =>
    intro f hN hm t a b k n A C w hl ht
    have IH := Lib.hid ih; clear ih
    rcases tree_forms ht with ⟨rfl, hk⟩ | ⟨k1, n1, f1, rfl, hk, ht1⟩ | ⟨k1, n1, f1, k2, n2, f2, rfl, hk, ht1, ht2⟩
    · clear ht IH
      rcases hk with rfl | rfl | ⟨rfl, _, _⟩ | ⟨rfl, _, _⟩
      all_goals
        go_enter Tryd.func54, Tryd.ntmps54
        go_wp2_with fail
        go_ret
        exact ⟨rfl, by go_grown⟩
    all_goals
      obtain ⟨b', o', rfl, hat⟩ := hl (by simp)
      clear hl
    · have hkn : f1.nodes < N ∧ f1.nodes ≤ 1048576 := by simp only [Fo.nodes] at hN hm; omega
      obtain ⟨c0, c1, ⟨A1, C1, c2, hl1'⟩, _⟩ := hat
      have hl1 : f1.Lies w A1 := hl1'
      have lb : b' < w.heap.size := World.block_lt_of_cell? _ _ c0
      have hln : (Fo.cons k1 n1 f1 .nil).len = 1 := rfl
      have HL := Lib.hid hln
      rw [hln]
      clear hln hl1' ht
      rcases hk with rfl | rfl
      · -- not
        have HE : Hid (ndE (.cons k1 n1 f1 .nil) 5 n = .not (ndE f1 k1 n1)) := rfl
        have hsz := ndE_size f1 k1 n1
        obtain ⟨v1, hv1⟩ : ∃ v1 : Value, v1 = (ndE f1 k1 n1).val := ⟨_, rfl⟩
        have KR : Hid (∀ W : World, Sees w W → Calls Tryd.prog 54 #[.agg #[.int .i64 k1, .int .i64 n1, .slice A1 f1.len C1]] W fun e w' => e = .returned v1 ∧ Below W.heap.size W w') := fun W h => by rw [hv1]; exact IH.out f1 hkn.1 hkn.2 t a _ k1 n1 A1 C1 W (hl1.sees h) ht1
        obtain ⟨v2, hv2⟩ : ∃ v2 : Value, v2 = (Nd.not (ndE f1 k1 n1)).val := ⟨_, rfl⟩
        have KN : Hid (∀ W : World, Calls Tryd.prog 57 #[v1] W fun e w' => e = .returned v2 ∧ Below W.heap.size W w') := fun W => by rw [hv1, hv2]; exact newNot_any _ W (by omega)
        have HV : Hid ((ndE (.cons k1 n1 f1 .nil) 5 n).val = v2) := by show _ = _; rw [HE.out, hv2]
        clear hv1 hv2 hsz HE IH
        go_enter Tryd.func54, Tryd.ntmps54
        go_wp2_with fail
        refine (KR.out _ (by unfold Sees; go_grown)).mono ?_
        rintro e w1 ⟨rfl, hb⟩
        have B1 : Sees w w1 := Sees.below (by unfold Sees; go_grown) hb
        clear hb
        go_wp2_with fail
        refine (KN.out _).mono ?_
        rintro e w2 ⟨rfl, hb⟩
        have B2 := B1.below hb
        clear hb
        go_wp2_with fail
        go_ret
        exact ⟨by rw [HV.out]; rfl, B2⟩
      · -- star
        have HE : Hid (ndE (.cons k1 n1 f1 .nil) 8 n = .star (ndE f1 k1 n1)) := rfl
        have hsz := ndE_size f1 k1 n1
        obtain ⟨v1, hv1⟩ : ∃ v1 : Value, v1 = (ndE f1 k1 n1).val := ⟨_, rfl⟩
        have KR : Hid (∀ W : World, Sees w W → Calls Tryd.prog 54 #[.agg #[.int .i64 k1, .int .i64 n1, .slice A1 f1.len C1]] W fun e w' => e = .returned v1 ∧ Below W.heap.size W w') := fun W h => by rw [hv1]; exact IH.out f1 hkn.1 hkn.2 t a _ k1 n1 A1 C1 W (hl1.sees h) ht1
        obtain ⟨v2, hv2⟩ : ∃ v2 : Value, v2 = (Nd.star (ndE f1 k1 n1)).val := ⟨_, rfl⟩
        have KN : Hid (∀ W : World, Calls Tryd.prog 58 #[v1] W fun e w' => e = .returned v2 ∧ Below W.heap.size W w') := fun W => by rw [hv1, hv2]; exact newStar_any _ W (by omega)
        have HV : Hid ((ndE (.cons k1 n1 f1 .nil) 8 n).val = v2) := by show _ = _; rw [HE.out, hv2]
        clear hv1 hv2 hsz HE IH
        go_enter Tryd.func54, Tryd.ntmps54
        go_wp2_with fail
        refine (KR.out _ (by unfold Sees; go_grown)).mono ?_
        rintro e w1 ⟨rfl, hb⟩
        have B1 : Sees w w1 := Sees.below (by unfold Sees; go_grown) hb
        clear hb
        go_wp2_with fail
        refine (KN.out _).mono ?_
        rintro e w2 ⟨rfl, hb⟩
        have B2 := B1.below hb
        clear hb
        go_wp2_with fail
        go_ret
        exact ⟨by rw [HV.out]; rfl, B2⟩
    · have hkn : f1.nodes < N ∧ f2.nodes < N ∧ f1.nodes + f2.nodes ≤ 1048576 := by simp only [Fo.nodes] at hN hm; omega
      obtain ⟨c0, c1, ⟨A1, C1, c2, hl1'⟩, d0, d1, ⟨A2, C2, d2, hl2'⟩, _⟩ := hat
      have hl1 : f1.Lies w A1 := hl1'
      have hl2 : f2.Lies w A2 := hl2'
      have lb : b' < w.heap.size := World.block_lt_of_cell? _ _ c0
      have hln : (Fo.cons k1 n1 f1 (.cons k2 n2 f2 .nil)).len = 2 := rfl
      rw [hln]
      clear hl1' hl2' ht hln
      rcases hk with rfl | rfl
      · -- sum
        have HE : Hid (ndE (.cons k1 n1 f1 (.cons k2 n2 f2 .nil)) 6 n = .sum (ndE f1 k1 n1) (ndE f2 k2 n2)) := rfl
        have hsz := ndE_size f1 k1 n1
        have hsz2 := ndE_size f2 k2 n2
        obtain ⟨v1, hv1⟩ : ∃ v1 : Value, v1 = (ndE f1 k1 n1).val := ⟨_, rfl⟩
        obtain ⟨u1, hu1⟩ : ∃ u1 : Value, u1 = (ndE f2 k2 n2).val := ⟨_, rfl⟩
        have KR : Hid (∀ W : World, Sees w W → Calls Tryd.prog 54 #[.agg #[.int .i64 k1, .int .i64 n1, .slice A1 f1.len C1]] W fun e w' => e = .returned v1 ∧ Below W.heap.size W w') := fun W h => by rw [hv1]; exact IH.out f1 hkn.1 (by omega) t a _ k1 n1 A1 C1 W (hl1.sees h) ht1
        have KR2 : Hid (∀ W : World, Sees w W → Calls Tryd.prog 54 #[.agg #[.int .i64 k2, .int .i64 n2, .slice A2 f2.len C2]] W fun e w' => e = .returned u1 ∧ Below W.heap.size W w') := fun W h => by rw [hu1]; exact IH.out f2 hkn.2.1 (by omega) t a _ k2 n2 A2 C2 W (hl2.sees h) ht2
        obtain ⟨v2, hv2⟩ : ∃ v2 : Value, v2 = (Nd.sum (ndE f1 k1 n1) (ndE f2 k2 n2)).val := ⟨_, rfl⟩
        have KN : Hid (∀ W : World, Calls Tryd.prog 56 #[v1, u1] W fun e w' => e = .returned v2 ∧ Below W.heap.size W w') := fun W => by rw [hv1, hu1, hv2]; exact newSum_any _ _ W (by omega)
        have HV : Hid ((ndE (.cons k1 n1 f1 (.cons k2 n2 f2 .nil)) 6 n).val = v2) := by show _ = _; rw [HE.out, hv2]
        have hX : Hid (St w [(w.heap.size, 2, .slice (some ⟨b', o', none⟩) 2 C), (b', o', .int .i64 k1), (b', o' + 1, .int .i64 n1), (b', o' + 2, .slice A1 f1.len C1), (b', o' + 3, .int .i64 k2), (b', o' + 4, .int .i64 n2), (b', o' + 5, .slice A2 f2.len C2)] (w.alloc (.cells #[.int .i64 6, .int .i64 n, .slice (some ⟨b', o', none⟩) 2 C] 33))) := ⟨(by unfold Sees; go_grown), (by simp [go_sem]), ka _ c0, ka _ c1, ka _ c2, ka _ d0, ka _ d1, ka _ d2, trivial⟩
        clear hv1 hu1 hv2 hsz hsz2 HE IH c0 c1 c2 d0 d1 d2
        go_enter Tryd.func54, Tryd.ntmps54
        go_wp2_with fail
        refine wp_region_quietC w [(w.heap.size, 2, .slice (some ⟨b', o', none⟩) 2 C), (b', o', .int .i64 k1), (b', o' + 1, .int .i64 n1), (b', o' + 2, .slice A1 f1.len C1), (b', o' + 3, .int .i64 k2), (b', o' + 4, .int .i64 n2), (b', o' + 5, .slice A2 f2.len C2)] (by kernel_rfl) (by kernel_rfl) hX.out ?_
        repeat (first | go_big_quiet_skip | (go_big_quiet_want; apply Exists.intro; refine ⟨fun W hW => ?_, ?_⟩; focus (have hK := Lib.hid hW; obtain ⟨hs, hc⟩ := hW; simp only [Has, and_true] at hc; go_simp; (first | (go_at_call_of 54 A1; exact quietC_call hK.out (KR.out _ hK.out.1)) | (go_at_call_of 54 A2; exact quietC_call hK.out (KR2.out _ hK.out.1)) | (go_at_call 56; exact quietC_call hK.out (KN.out _)) | rfl))) | (go_simp; go_big_quiet_on))
        refine wpQuiet_nil ?_
        intro w1 H1
        go_wp2_with fail
        go_ret
        exact ⟨by rw [HV.out]; rfl, H1.1⟩
      · -- dot
        have HE : Hid (ndE (.cons k1 n1 f1 (.cons k2 n2 f2 .nil)) 7 n = .dot (ndE f1 k1 n1) (ndE f2 k2 n2)) := rfl
        have hsz := ndE_size f1 k1 n1
        have hsz2 := ndE_size f2 k2 n2
        obtain ⟨v1, hv1⟩ : ∃ v1 : Value, v1 = (ndE f1 k1 n1).val := ⟨_, rfl⟩
        obtain ⟨u1, hu1⟩ : ∃ u1 : Value, u1 = (ndE f2 k2 n2).val := ⟨_, rfl⟩
        have KR : Hid (∀ W : World, Sees w W → Calls Tryd.prog 54 #[.agg #[.int .i64 k1, .int .i64 n1, .slice A1 f1.len C1]] W fun e w' => e = .returned v1 ∧ Below W.heap.size W w') := fun W h => by rw [hv1]; exact IH.out f1 hkn.1 (by omega) t a _ k1 n1 A1 C1 W (hl1.sees h) ht1
        have KR2 : Hid (∀ W : World, Sees w W → Calls Tryd.prog 54 #[.agg #[.int .i64 k2, .int .i64 n2, .slice A2 f2.len C2]] W fun e w' => e = .returned u1 ∧ Below W.heap.size W w') := fun W h => by rw [hu1]; exact IH.out f2 hkn.2.1 (by omega) t a _ k2 n2 A2 C2 W (hl2.sees h) ht2
        obtain ⟨v2, hv2⟩ : ∃ v2 : Value, v2 = (Nd.dot (ndE f1 k1 n1) (ndE f2 k2 n2)).val := ⟨_, rfl⟩
        have KN : Hid (∀ W : World, Calls Tryd.prog 55 #[v1, u1] W fun e w' => e = .returned v2 ∧ Below W.heap.size W w') := fun W => by rw [hv1, hu1, hv2]; exact newDot_any _ _ W (by omega)
        have HV : Hid ((ndE (.cons k1 n1 f1 (.cons k2 n2 f2 .nil)) 7 n).val = v2) := by show _ = _; rw [HE.out, hv2]
        have hX : Hid (St w [(w.heap.size, 2, .slice (some ⟨b', o', none⟩) 2 C), (b', o', .int .i64 k1), (b', o' + 1, .int .i64 n1), (b', o' + 2, .slice A1 f1.len C1), (b', o' + 3, .int .i64 k2), (b', o' + 4, .int .i64 n2), (b', o' + 5, .slice A2 f2.len C2)] (w.alloc (.cells #[.int .i64 7, .int .i64 n, .slice (some ⟨b', o', none⟩) 2 C] 33))) := ⟨(by unfold Sees; go_grown), (by simp [go_sem]), ka _ c0, ka _ c1, ka _ c2, ka _ d0, ka _ d1, ka _ d2, trivial⟩
        clear hv1 hu1 hv2 hsz hsz2 HE IH c0 c1 c2 d0 d1 d2
        go_enter Tryd.func54, Tryd.ntmps54
        go_wp2_with fail
        refine wp_region_quietC w [(w.heap.size, 2, .slice (some ⟨b', o', none⟩) 2 C), (b', o', .int .i64 k1), (b', o' + 1, .int .i64 n1), (b', o' + 2, .slice A1 f1.len C1), (b', o' + 3, .int .i64 k2), (b', o' + 4, .int .i64 n2), (b', o' + 5, .slice A2 f2.len C2)] (by kernel_rfl) (by kernel_rfl) hX.out ?_
        repeat (first | go_big_quiet_skip | (go_big_quiet_want; apply Exists.intro; refine ⟨fun W hW => ?_, ?_⟩; focus (have hK := Lib.hid hW; obtain ⟨hs, hc⟩ := hW; simp only [Has, and_true] at hc; go_simp; (first | (go_at_call_of 54 A1; exact quietC_call hK.out (KR.out _ hK.out.1)) | (go_at_call_of 54 A2; exact quietC_call hK.out (KR2.out _ hK.out.1)) | (go_at_call 55; exact quietC_call hK.out (KN.out _)) | rfl))) | (go_simp; go_big_quiet_on))
        refine wpQuiet_nil ?_
        intro w1 H1
        go_wp2_with fail
        go_ret
        exact ⟨by rw [HV.out]; rfl, H1.1⟩

end Go.Proofs.YtcgbepmhfimbjaaDoor
