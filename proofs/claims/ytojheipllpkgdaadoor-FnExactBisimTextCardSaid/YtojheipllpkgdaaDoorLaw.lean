/- How a law's row is closed: a law that answers true and changes nothing that was there. No walk. -/
import Derived.Test.YtojheipllpkgdaaDoorRows
import Derived.Test.YtojheipllpkgdaaDoorFo
import Derived.Test.YtojheipllpkgdaaDoorInts
import Derived.ProofKit
import Derived.OpenShut
import Derived.Below
import Derived.ChangeSame
import Derived.Lib.SmallJoins
import Derived.WideKeyArgs
import Derived.Deep.Slices
namespace Go.Proofs.YtojheipllpkgdaaDoor
open Go.RowKit Go.WideShapes Go.ChangeShapes Go.ChangeAt Go.Deep Go.WideElems

theorem Tryd.own : ownKnob Tryd.prog.godebug = none := by kernel_rfl
theorem Tryd.laidOut : laidOutB Tryd.prog = true := by kernel_rfl
theorem Tryd.kids : Go.Kids Tryd.prog (· < Tryd.prog.types.size) := kids_rows (by kernel_rfl) (by kernel_rfl)
theorem Tryd.full : ∀ t e, t < Tryd.prog.types.size → Tryd.prog.underlying t = some (.slice e) → 0 < Tryd.prog.cellsOf e := slices_full_of Tryd.prog (by kernel_rfl)

section
variable {H : Type} {enc : TypeId × Value → H} {P : Program}

theorem post_of_below {f : Func} {s : ChangeSpec} {apart fresh handsOn again : Bool} {W W' : World} {args : Array Value} {v : Value} {ds gs : List (DataW H)} {before pa pv : List MemPlace}
    (hW : DataW.Whole enc P f.params.toList s.vars apart W args.toList ds gs before)
    (hres : ∀ (b : Nat) (sp : Nat → Bool) (hd : Bool), DataW.TrodAll enc P W' b sp hd f.resultTypes.toList (v.resultList f.resultTypes.size) (s.fn H (ds ++ gs)).results [])
    (hargs : ∀ sp : Nat → Bool, (∀ p ∈ before, sp p.block = true) → DataW.TrodAll enc P W' 0 sp true f.params.toList args.toList (s.fn H (ds ++ gs)).args pa)
    (hvars : ∀ sp : Nat → Bool, (∀ p ∈ before, sp p.block = true) → DataW.TrodVars enc P W' sp s.vars (s.fn H (ds ++ gs)).vars pv)
    (hps : before = pa ++ pv) (hb : Below W.heap.size W W')
    (hok : ∀ (j : Nat) (t : TypeId) (r : Value), f.resultTypes[j]? = some t → (v.resultList f.resultTypes.size)[j]? = some r → Value.okWide P W' .any 0 t r) :
    s.post enc P f apart fresh handsOn again W args v W' := by
  have hlt : ∀ p ∈ before, p.block < W.heap.size := fun p hp => hW.lt p hp
  have hold : ∀ p ∈ before, (fun b => decide (b < W.heap.size)) p.block = true := fun p hp => by simpa using hlt p hp
  refine ⟨ds, gs, before, [], pa, pv, hW, hres _ _ _, hargs _ hold, hvars _ hold, World.keptBut_mono (fun p hp => ⟨hp, ?_⟩) (hb.frame (· ∈ before)), fun _ => ?_⟩
  · rw [hps, List.mem_append] at hp
    exact Or.inr hp
  · obtain ⟨_, _, _, _, _, hz, hn⟩ := hW
    refine ⟨hok, _, _, ([] ++ pa) ++ pv, ⟨[] ++ pa, pv, trodAll_append (hargs _ (fun _ _ => rfl)) (hres _ _ _), hvars _ (fun _ _ => rfl), rfl, ?_, ?_⟩, ?_⟩
    · intro b off hp
      have hin : MemPlace.cell b off ∈ before := by rw [hps]; simpa using hp
      rw [hb.frozen (hlt _ hin)]
      exact hz b off hin
    · intro ha
      have := hn ha
      rw [hps] at this
      simpa using this
    · intro p hp _
      rw [hps]
      simpa using hp

/-- Arguments read behind the call as they did, where nothing that was there has changed. -/
theorem trodAll_stays (hl : laidOutB P = true) {W W' : World} {sp : Nat → Bool} (hb : Below W.heap.size W W') :
    ∀ {ts : List TypeId} {vs : List Value} {ds : List (DataW H)} {ps : List MemPlace}, (∀ t ∈ ts, P.readableRec t = true ∧ t < P.types.size) →
      DataW.TrodAll enc P W 0 (fun _ => true) true ts vs ds ps → (∀ x ∈ ps, x.block < W.heap.size) → (∀ x ∈ ps, sp x.block = true) → DataW.TrodAll enc P W' 0 sp true ts vs ds ps
  | [], [], [], _, _, h, _, _ => h
  | _ :: _, _ :: _, _ :: _, _, hT, ⟨p, q, h1, h2, e⟩, hlt, hs => ⟨p, q,
      WideElems.Trod_stays hl (hT _ (List.mem_cons.2 (Or.inl rfl))).1 (hT _ (List.mem_cons.2 (Or.inl rfl))).2 h1 (fun x hx => hb.same (hlt x (by rw [e]; exact List.mem_append_left _ hx))) (fun x hx => hs x (by rw [e]; exact List.mem_append_left _ hx)),
      trodAll_stays hl hb (fun t ht => hT t (List.mem_cons.2 (Or.inr ht))) h2 (fun x hx => hlt x (by rw [e]; exact List.mem_append_right _ hx)) (fun x hx => hs x (by rw [e]; exact List.mem_append_right _ hx)), e⟩

/-- A LAW's END: it answers true, and nothing that was there has changed. -/
theorem law_end {f : Func} {s : ChangeSpec} {W W' : World} {args : Array Value} {ds gs : List (DataW H)} {before : List MemPlace} {tb : TypeId}
    (hl : laidOutB P = true) (ub : P.underlying tb = some .bool) (hv : s.vars = []) (hr : f.resultTypes = #[tb]) (hp : ∀ t ∈ f.params.toList, P.readableRec t = true ∧ t < P.types.size)
    (hfn : (s.fn H (ds ++ gs)).results = [.lit (.bool true)]) (hfa : (s.fn H (ds ++ gs)).args = ds) (hfv : (s.fn H (ds ++ gs)).vars = [])
    (hW : DataW.Whole enc P f.params.toList s.vars false W args.toList ds gs before) (hb : Below W.heap.size W W') : s.post enc P f false true false false W args (.bool true) W' := by
  have hW' := hW
  obtain ⟨p, q, hA, hV, hpq, _, _⟩ := hW
  rw [hv] at hV
  obtain ⟨rfl, rfl⟩ := trodVars_none hV
  refine post_of_below (pa := p) (pv := []) hW' ?_ ?_ ?_ hpq hb ?_
  · intro b sp hd
    rw [hr, hfn]
    exact trodAll_mk1 (shut_bool ub _)
  · intro sp hsp
    rw [hfa]
    exact trodAll_stays hl hb hp hA (fun x hx => hW'.lt x (by rw [hpq]; exact List.mem_append_left _ hx)) (fun x hx => hsp x (by rw [hpq]; exact List.mem_append_left _ hx))
  · intro sp _
    rw [hv, hfv]
    exact rfl
  · exact ok_one hr rfl (okWide_bool_mk ub _)

/-- A signature handed by value: two integers. -/
theorem open_sig {W : World} {base : Nat} {t : TypeId} {v : Value} {d : DataW H} {p : List MemPlace} {f0 f1 : Field} (hs : P.underlying t = some (.struct #[f0, f1])) (hone : oneCellFields P #[f0, f1] = true) (hC : P.cellsOf t = 2)
    (u0 : P.underlying f0.type = some (.int .i64)) (u1 : P.underlying f1.type = some (.int .i64)) (hok : Value.okWide P W .any base t v) (h : DataW.Trod enc P W 0 (fun _ => true) true t v d p) :
    ∃ x y : Int, v = .agg #[.int .i64 x, .int .i64 y] ∧ (Lit.int .i64 x).wf = true ∧ (Lit.int .i64 y).wf = true := by
  obtain ⟨c0, c1, y0, y1, m, rfl, rfl, rfl, hy0, hy1⟩ := Joins.open_agg2 hs hone hC hok h
  obtain ⟨x, hx, _, wx⟩ := DataW.trod_int u0 hy0
  obtain ⟨y, hy, _, wy⟩ := DataW.trod_int u1 hy1
  simp at hx hy
  subst hx; subst hy
  exact ⟨x, y, rfl, wx, wy⟩
end

set_option maxRecDepth 100000 in
theorem lsig_open {H : Type} {enc : TypeId × Value → H} {W : World} {base : Nat} {v : Value} {d : DataW H} {p : List MemPlace} (hok : Value.okWide Tryd.prog W .any base 23 v) (h : DataW.Trod enc Tryd.prog W 0 (fun _ => true) true 23 v d p) :
    ∃ x y : Int, v = .agg #[.int .i64 x, .int .i64 y] ∧ (Lit.int .i64 x).wf = true ∧ (Lit.int .i64 y).wf = true :=
  open_sig Tryd.underlying23 (by kernel_rfl) (by kernel_rfl) Tryd.underlying2 Tryd.underlying2 hok h

theorem Tryd.cellsE : Tryd.prog.cellsOf 26 = 3 := by kernel_rfl

/-- A list of rows out of its rows, from the last one on. -/
theorem forest_of_rows {W : World} {b o len : Nat} {K N : Nat → Int} {S : Nat → Fo} {A : Nat → Option Addr} {C : Nat → Nat}
    (h : ∀ i, i < len → W.cell? ⟨b, o + i * 3, none⟩ = some (.int .i64 (K i)) ∧ W.cell? ⟨b, o + i * 3 + 1, none⟩ = some (.int .i64 (N i)) ∧ W.cell? ⟨b, o + i * 3 + 2, none⟩ = some (.slice (A i) (S i).len (C i)) ∧ (S i).Lies W (A i) ∧ (S i).len ≤ 9223372036854775807 ∧ (S i).Fits) :
    ∀ j, j ≤ len → ∃ f : Fo, f.len = j ∧ f.At W b (o + (len - j) * 3) ∧ f.Fits := by
  intro j
  induction j with
  | zero => intro _; exact ⟨.nil, rfl, trivial, trivial⟩
  | succ j ih =>
    intro hj
    obtain ⟨f, h1, h2, h3⟩ := ih (by omega)
    obtain ⟨g0, g1, g2, g3, g4, g5⟩ := h (len - (j + 1)) (by omega)
    refine ⟨.cons (K (len - (j + 1))) (N (len - (j + 1))) (S (len - (j + 1))) f, by simp [Fo.len, h1], ⟨g0, g1, ⟨A _, C _, g2, g3⟩, ?_⟩, g4, g5, h3⟩
    rw [show o + (len - (j + 1)) * 3 + 3 = o + (len - j) * 3 from by omega]
    exact h2

set_option maxRecDepth 100000 in
theorem lforest_open {H : Type} {enc : TypeId × Value → H} {W : World} : ∀ (fuel : Nat) (cs : List Value) (x : DataW H × List MemPlace),
    DataW.trod enc Tryd.prog W 0 (fun _ => true) true fuel 24 cs = some x → ∃ (f : Fo) (A : Option Addr) (C : Nat), cs = [.slice A f.len C] ∧ f.Lies W A ∧ f.len ≤ 9223372036854775807 ∧ f.Fits := by
  intro fuel
  induction fuel using Nat.strongRecOn with
  | _ fuel ih =>
    intro cs x h
    rcases DataW.trod_slice Tryd.underlying24 h with ⟨rfl, _⟩ | ⟨a, len, cap, elems, rest, n, hn, rfl, rfl, hb, hl, hm, hlen, hel, hsp, hns⟩
    · exact ⟨.nil, none, 0, rfl, fun h => absurd rfl h, Nat.zero_le _, trivial⟩
    · have one : ∀ i, i < len → ∃ z : Int × Int × Fo × Option Addr × Nat, W.cell? (a.add (i * 3)) = some (.int .i64 z.1) ∧ W.cell? (a.add (i * 3 + 1)) = some (.int .i64 z.2.1) ∧
          W.cell? (a.add (i * 3 + 2)) = some (.slice z.2.2.2.1 z.2.2.1.len z.2.2.2.2) ∧ z.2.2.1.Lies W z.2.2.2.1 ∧ z.2.2.1.len ≤ 9223372036854775807 ∧ z.2.2.1.Fits := by
        intro i hi
        have key := hel i hi
        rw [List.getElem?_eq_getElem (by omega), Tryd.cellsE] at key
        obtain ⟨cs', h1, h2⟩ := Option.bind_eq_some_iff.1 key
        obtain ⟨_, hl3, hc⟩ := World.cells?_some h1
        obtain ⟨xs, m, rfl, _, _, hxl, hf⟩ := DataW.trod_struct Tryd.underlying26 h2
        match xs, hxl, cs', hl3 with
        | [y0, y1, y2], _, [v0, v1, v2], _ =>
          have g0 : DataW.trod enc Tryd.prog W 0 (fun _ => true) true m 2 [v0] = some y0 := hf 0 _ rfl
          have g1 : DataW.trod enc Tryd.prog W 0 (fun _ => true) true m 2 [v1] = some y1 := hf 1 _ rfl
          have g2 : DataW.trod enc Tryd.prog W 0 (fun _ => true) true m 24 [v2] = some y2 := hf 2 _ rfl
          obtain ⟨k, hk, _, _⟩ := DataW.trod_int Tryd.underlying2 g0
          obtain ⟨nn, hnn, _, _⟩ := DataW.trod_int Tryd.underlying2 g1
          obtain ⟨f, A, C, hf2, l1, l2, l3⟩ := ih m (by omega) _ _ g2
          simp at hk hnn hf2
          subst hk; subst hnn; subst hf2
          have c0 := hc 0 (by omega)
          have c1 := hc 1 (by omega)
          have c2 := hc 2 (by omega)
          rw [add_add] at c0 c1 c2
          exact ⟨(k, nn, f, A, C), c0, c1, c2, l1, l2, l3⟩
      obtain ⟨b, o, spot⟩ := a
      by_cases h0 : len = 0
      · subst h0
        exact ⟨.nil, _, _, rfl, fun h => absurd rfl h, Nat.zero_le _, trivial⟩
      have : Inhabited (Option Addr × Nat) := ⟨(none, 0)⟩
      have : Inhabited (Int × Int × Fo × Option Addr × Nat) := ⟨(0, 0, .nil, none, 0)⟩
      obtain ⟨Z, hZ⟩ := choose_lt one
      have hspot : spot = none := by
        have := (hZ 0 (by omega)).1
        simpa [Addr.add] using World.cell?_spot this
      subst hspot
      obtain ⟨f, e1, e2, e3⟩ := forest_of_rows (W := W) (b := b) (o := o) (len := len) (K := fun i => (Z i).1) (N := fun i => (Z i).2.1) (S := fun i => (Z i).2.2.1) (A := fun i => (Z i).2.2.2.1) (C := fun i => (Z i).2.2.2.2)
        (fun i hi => by
          obtain ⟨q0, q1, q2, q3, q4, q5⟩ := hZ i hi
          rw [add_plain] at q0 q1 q2
          exact ⟨q0, q1, q2, q3, q4, q5⟩) len (Nat.le_refl _)
      rw [Nat.sub_self, Nat.zero_mul] at e2
      subst e1
      exact ⟨f, some ⟨b, o, none⟩, cap, rfl, fun _ => ⟨b, o, rfl, e2⟩, by unfold maxLen at hm; omega, e3⟩

set_option maxRecDepth 100000 in
/-- An expression handed by value. -/
theorem lexpr_open {H : Type} {enc : TypeId × Value → H} {W : World} {base : Nat} {v : Value} {d : DataW H} {p : List MemPlace} (hok : Value.okWide Tryd.prog W .any base 26 v) (h : DataW.Trod enc Tryd.prog W 0 (fun _ => true) true 26 v d p) :
    ∃ (k n : Int) (f : Fo) (A : Option Addr) (C : Nat), v = .agg #[.int .i64 k, .int .i64 n, .slice A f.len C] ∧ f.Lies W A ∧ f.len ≤ 9223372036854775807 ∧ f.Fits ∧ (Lit.int .i64 k).wf = true ∧ (Lit.int .i64 n).wf = true := by
  obtain ⟨c0, c1, c2, y0, y1, y2, m, rfl, _, _, g0, g1, g2⟩ := Joins.open_agg3 Tryd.underlying26 (by kernel_rfl) Tryd.cellsE hok h
  obtain ⟨k, hk, _, wk⟩ := DataW.trod_int Tryd.underlying2 g0
  obtain ⟨n, hn, _, wn⟩ := DataW.trod_int Tryd.underlying2 g1
  obtain ⟨f, A, C, hf, l1, l2, l3⟩ := lforest_open _ _ _ g2
  simp at hk hn hf
  subst hk; subst hn; subst hf
  exact ⟨k, n, f, A, C, rfl, l1, l2, l3, wk, wn⟩

/-- A list of integers, read. -/
theorem ints_open {H : Type} {enc : TypeId × Value → H} {W : World} {fuel : Nat} {cs : List Value} {x : DataW H × List MemPlace} (h : DataW.trod enc Tryd.prog W 0 (fun _ => true) true fuel 75 cs = some x) :
    ∃ (xs : List Int) (A : Option Addr) (C : Nat), cs = [.slice A xs.length C] ∧ Ints W xs A ∧ xs.length ≤ 9223372036854775807 ∧ ∀ v ∈ xs, (Lit.int .i64 v).wf = true := by
  rcases open_slice1 Tryd.underlying75 (by kernel_rfl) h with ⟨rfl, _⟩ | ⟨a, len, cap, m, n, V, D, Pl, rfl, hb, hl, hm, hmm, rfl, hx⟩
  · exact ⟨[], none, 0, rfl, fun h => absurd rfl h, Nat.zero_le _, fun v hv => absurd hv (by simp)⟩
  · simp only [if_true] at hmm
    have one : ∀ i, i < len → ∃ z : Int, W.cell? (a.add i) = some (.int .i64 z) ∧ (Lit.int .i64 z).wf = true := fun i hi => by
      obtain ⟨h1, h2⟩ := hx i (by omega)
      obtain ⟨z, hz, _, wz⟩ := DataW.trod_int Tryd.underlying2 h2
      simp at hz
      exact ⟨z, by rw [h1, hz], wz⟩
    obtain ⟨Z, hZ⟩ := choose_lt one
    refine ⟨(List.range len).map Z, some a, cap, by simp, ?_, by simp; unfold maxLen at hm; omega, ?_⟩
    · intro hne
      have hpos : 0 < len := by
        rcases Nat.eq_zero_or_pos len with h0 | h0
        · subst h0; simp at hne
        · exact h0
      obtain ⟨b, o, spot⟩ := a
      have hspot : spot = none := by simpa [Addr.add] using World.cell?_spot (hZ 0 hpos).1
      subst hspot
      refine ⟨b, o, rfl, fun i hi => ?_⟩
      have hi' : i < len := by simpa using hi
      have := (hZ i hi').1
      rw [add_plain] at this
      rw [this]
      simp [nth, List.getD, hi']
    · intro v hv
      obtain ⟨i, hi, rfl⟩ := List.mem_map.1 hv
      exact (hZ i (by simpa using hi)).2

end Go.Proofs.YtojheipllpkgdaaDoor
