/- FnExactValidTriple: for all arguments impl.ValidTriple answers as the model does, and changes none of them. Condition: the table progForms holds what the program's text lays, which the card ties. -/
import Derived.Test.YtojheipllpkgdaaDoorVtS
import Derived.Test.YtojheipllpkgdaaDoorVpI
import Derived.Test.YtojheipllpkgdaaDoorSpC
import Derived.Test.YtojheipllpkgdaaDoorRows
import Derived.Test.YtojheipllpkgdaaDoorFo
import Derived.Test.YtojheipllpkgdaaDoorInts
import Derived.ProofKit
import Derived.OpenShut
import Derived.Below
import Derived.ChangeSame
import Derived.Lib.SmallJoins
import Derived.WideKeyArgs
import Derived.Deep.Slices
import Derived.Test.YtojheipllpkgdaaDoorPg
import Derived.Test.YtojheipllpkgdaaDoorVpH
import Derived.LaidMore
import Derived.Carry
import Derived.ChangeOld
import Derived.Stop.Joined
import Derived.SevenTiedAt
import Derived.MakeChecks
import Derived.Test.YtojheipllpkgdaaDoorCards
import Derived.Test.YtojheipllpkgdaaDoorTie
import Derived.Test.YtojheipllpkgdaaDoorLValidTriple
namespace Go.Proofs.YtojheipllpkgdaaDoor
open Go.RowKit
set_option linter.unusedVariables false

set_option maxHeartbeats 2000000 in
set_option maxRecDepth 100000 in
theorem implValidTriple_any (t a pk pn : Int) (pf : Fo) (gk gn gck gcn : Int) (gcf : Fo) (gks : Pg) (qk qn : Int) (qf : Fo) (hsz : pf.nodes + gcf.nodes + gks.nodes + qf.nodes ≤ 1048576) (hpf : pf.Fits) (hgcf : gcf.Fits) (hgks : gks.Fits) (hqf : qf.Fits) (Ap Ac Ag Aq : Option Addr) (Cp Cc Cg Cq : Nat) (w : World) (hA : pf.Lies w Ap) (hB : gcf.Lies w Ac) (hC : gks.Lies w Ag) (hD : qf.Lies w Aq) (hF : Forms w) :
    Calls Tryd.prog 17 #[.agg #[.int .i64 t, .int .i64 a], .agg #[.int .i64 pk, .int .i64 pn, .slice Ap pf.len Cp, .int .i64 gk, .int .i64 gn, .int .i64 gck, .int .i64 gcn, .slice Ac gcf.len Cc, .slice Ag gks.len Cg, .int .i64 qk, .int .i64 qn, .slice Aq qf.len Cq]] w fun e w' => e = .returned (.bool (tripV t a pk pn pf gk gn gck gcn gcf gks qk qn qf)) ∧ Below w.heap.size w w' := by
  obtain ⟨q1, hq1⟩ : ∃ q : Bool, q = condV t a pk pn pf := ⟨_, rfl⟩
  obtain ⟨q2, hq2⟩ : ∃ q : Bool, q = condV t a qk qn qf := ⟨_, rfl⟩
  obtain ⟨q3, hq3⟩ : ∃ q : Bool, q = validP t a gk gn gck gcn gcf gks := ⟨_, rfl⟩
  have K1 : Hid (∀ W : World, Sees w W → Calls Tryd.prog 43 #[.agg #[.int .i64 t, .int .i64 a], .agg #[.int .i64 pk, .int .i64 pn, .slice Ap pf.len Cp]] W fun e w' => e = .returned (.bool q1) ∧ Below W.heap.size W w') := fun W h => by
    rw [hq1]; exact validCondition_any t a pk pn pf (by omega) hpf Ap Cp W (hA.sees h)
  have K2 : Hid (∀ W : World, Sees w W → Calls Tryd.prog 43 #[.agg #[.int .i64 t, .int .i64 a], .agg #[.int .i64 qk, .int .i64 qn, .slice Aq qf.len Cq]] W fun e w' => e = .returned (.bool q2) ∧ Below W.heap.size W w') := fun W h => by
    rw [hq2]; exact validCondition_any t a qk qn qf (by omega) hqf Aq Cq W (hD.sees h)
  have K3 : Hid (∀ W : World, Sees w W → Calls Tryd.prog 12 #[.agg #[.int .i64 t, .int .i64 a], .agg #[.int .i64 gk, .int .i64 gn, .int .i64 gck, .int .i64 gcn, .slice Ac gcf.len Cc, .slice Ag gks.len Cg]] W fun e w' => e = .returned (.bool q3) ∧ Below W.heap.size W w') := fun W h => by
    rw [hq3]; exact implValidProg_any t a gk gn gck gcn gcf gks (by omega) hgcf hgks Ac Ag Cc Cg W (hB.sees h) (hC.sees h) (hF.sees h)
  have HD : Hid (tripV t a pk pn pf gk gn gck gcn gcf gks qk qn qf = (q1 && (q2 && q3))) := by show _ = _; unfold tripV; rw [hq1, hq2, hq3]
  clear hq1 hq2 hq3 hA hB hC hD hpf hgcf hgks hqf hsz hF
  cases q1
  · clear K2 K3
    go_enter Tryd.func17, Tryd.ntmps17
    go_wp2_with fail
    refine (K1.out _ (by unfold Sees; go_grown)).mono ?_
    rintro e w1 ⟨rfl, hb⟩
    have S1 : Hid (St w [(w.heap.size, 0, .int .i64 t), (w.heap.size, 1, .int .i64 a), (w.heap.size + 1, 0, .int .i64 pk), (w.heap.size + 1, 1, .int .i64 pn), (w.heap.size + 1, 2, .slice Ap pf.len Cp), (w.heap.size + 1, 3, .int .i64 gk), (w.heap.size + 1, 4, .int .i64 gn), (w.heap.size + 1, 5, .int .i64 gck), (w.heap.size + 1, 6, .int .i64 gcn), (w.heap.size + 1, 7, .slice Ac gcf.len Cc), (w.heap.size + 1, 8, .slice Ag gks.len Cg), (w.heap.size + 1, 9, .int .i64 qk), (w.heap.size + 1, 10, .int .i64 qn), (w.heap.size + 1, 11, .slice Aq qf.len Cq)] w1) := St.below (l := [(w.heap.size, 0, .int .i64 t), (w.heap.size, 1, .int .i64 a), (w.heap.size + 1, 0, .int .i64 pk), (w.heap.size + 1, 1, .int .i64 pn), (w.heap.size + 1, 2, .slice Ap pf.len Cp), (w.heap.size + 1, 3, .int .i64 gk), (w.heap.size + 1, 4, .int .i64 gn), (w.heap.size + 1, 5, .int .i64 gck), (w.heap.size + 1, 6, .int .i64 gcn), (w.heap.size + 1, 7, .slice Ac gcf.len Cc), (w.heap.size + 1, 8, .slice Ag gks.len Cg), (w.heap.size + 1, 9, .int .i64 qk), (w.heap.size + 1, 10, .int .i64 qn), (w.heap.size + 1, 11, .slice Aq qf.len Cq)]) ⟨(by unfold Sees; go_grown), (by simp [go_sem]), (by simp [go_sem]), (by simp [go_sem]), (by simp [go_sem]), (by simp [go_sem]), (by simp [go_sem]), (by simp [go_sem]), (by simp [go_sem]), (by simp [go_sem]), (by simp [go_sem]), (by simp [go_sem]), (by simp [go_sem]), (by simp [go_sem]), (by simp [go_sem]), trivial⟩ hb
    clear hb
    obtain ⟨B1, y0, y1, x0, x1, x2, x3, x4, x5, x6, x7, x8, x9, x10, x11, _⟩ := S1.out
    go_wp2_with fail
    go_ret
    exact ⟨ret_bool HD.out.symm, B1⟩
  cases q2
  · clear K3
    go_enter Tryd.func17, Tryd.ntmps17
    go_wp2_with fail
    refine (K1.out _ (by unfold Sees; go_grown)).mono ?_
    rintro e w1 ⟨rfl, hb⟩
    have S1 : Hid (St w [(w.heap.size, 0, .int .i64 t), (w.heap.size, 1, .int .i64 a), (w.heap.size + 1, 0, .int .i64 pk), (w.heap.size + 1, 1, .int .i64 pn), (w.heap.size + 1, 2, .slice Ap pf.len Cp), (w.heap.size + 1, 3, .int .i64 gk), (w.heap.size + 1, 4, .int .i64 gn), (w.heap.size + 1, 5, .int .i64 gck), (w.heap.size + 1, 6, .int .i64 gcn), (w.heap.size + 1, 7, .slice Ac gcf.len Cc), (w.heap.size + 1, 8, .slice Ag gks.len Cg), (w.heap.size + 1, 9, .int .i64 qk), (w.heap.size + 1, 10, .int .i64 qn), (w.heap.size + 1, 11, .slice Aq qf.len Cq)] w1) := St.below (l := [(w.heap.size, 0, .int .i64 t), (w.heap.size, 1, .int .i64 a), (w.heap.size + 1, 0, .int .i64 pk), (w.heap.size + 1, 1, .int .i64 pn), (w.heap.size + 1, 2, .slice Ap pf.len Cp), (w.heap.size + 1, 3, .int .i64 gk), (w.heap.size + 1, 4, .int .i64 gn), (w.heap.size + 1, 5, .int .i64 gck), (w.heap.size + 1, 6, .int .i64 gcn), (w.heap.size + 1, 7, .slice Ac gcf.len Cc), (w.heap.size + 1, 8, .slice Ag gks.len Cg), (w.heap.size + 1, 9, .int .i64 qk), (w.heap.size + 1, 10, .int .i64 qn), (w.heap.size + 1, 11, .slice Aq qf.len Cq)]) ⟨(by unfold Sees; go_grown), (by simp [go_sem]), (by simp [go_sem]), (by simp [go_sem]), (by simp [go_sem]), (by simp [go_sem]), (by simp [go_sem]), (by simp [go_sem]), (by simp [go_sem]), (by simp [go_sem]), (by simp [go_sem]), (by simp [go_sem]), (by simp [go_sem]), (by simp [go_sem]), (by simp [go_sem]), trivial⟩ hb
    clear hb
    obtain ⟨B1, y0, y1, x0, x1, x2, x3, x4, x5, x6, x7, x8, x9, x10, x11, _⟩ := S1.out
    go_wp2_with fail
    refine (K2.out _ B1).mono ?_
    rintro e w2 ⟨rfl, hb⟩
    have S2 := Lib.hid (St.below S1.out hb)
    clear hb y0 y1 x0 x1 x2 x3 x4 x5 x6 x7 x8 x9 x10 x11 S1 B1
    obtain ⟨B2, y0, y1, x0, x1, x2, x3, x4, x5, x6, x7, x8, x9, x10, x11, _⟩ := S2.out
    go_wp2_with fail
    go_ret
    exact ⟨ret_bool HD.out.symm, B2⟩
  · skip
    go_enter Tryd.func17, Tryd.ntmps17
    go_wp2_with fail
    refine (K1.out _ (by unfold Sees; go_grown)).mono ?_
    rintro e w1 ⟨rfl, hb⟩
    have S1 : Hid (St w [(w.heap.size, 0, .int .i64 t), (w.heap.size, 1, .int .i64 a), (w.heap.size + 1, 0, .int .i64 pk), (w.heap.size + 1, 1, .int .i64 pn), (w.heap.size + 1, 2, .slice Ap pf.len Cp), (w.heap.size + 1, 3, .int .i64 gk), (w.heap.size + 1, 4, .int .i64 gn), (w.heap.size + 1, 5, .int .i64 gck), (w.heap.size + 1, 6, .int .i64 gcn), (w.heap.size + 1, 7, .slice Ac gcf.len Cc), (w.heap.size + 1, 8, .slice Ag gks.len Cg), (w.heap.size + 1, 9, .int .i64 qk), (w.heap.size + 1, 10, .int .i64 qn), (w.heap.size + 1, 11, .slice Aq qf.len Cq)] w1) := St.below (l := [(w.heap.size, 0, .int .i64 t), (w.heap.size, 1, .int .i64 a), (w.heap.size + 1, 0, .int .i64 pk), (w.heap.size + 1, 1, .int .i64 pn), (w.heap.size + 1, 2, .slice Ap pf.len Cp), (w.heap.size + 1, 3, .int .i64 gk), (w.heap.size + 1, 4, .int .i64 gn), (w.heap.size + 1, 5, .int .i64 gck), (w.heap.size + 1, 6, .int .i64 gcn), (w.heap.size + 1, 7, .slice Ac gcf.len Cc), (w.heap.size + 1, 8, .slice Ag gks.len Cg), (w.heap.size + 1, 9, .int .i64 qk), (w.heap.size + 1, 10, .int .i64 qn), (w.heap.size + 1, 11, .slice Aq qf.len Cq)]) ⟨(by unfold Sees; go_grown), (by simp [go_sem]), (by simp [go_sem]), (by simp [go_sem]), (by simp [go_sem]), (by simp [go_sem]), (by simp [go_sem]), (by simp [go_sem]), (by simp [go_sem]), (by simp [go_sem]), (by simp [go_sem]), (by simp [go_sem]), (by simp [go_sem]), (by simp [go_sem]), (by simp [go_sem]), trivial⟩ hb
    clear hb
    obtain ⟨B1, y0, y1, x0, x1, x2, x3, x4, x5, x6, x7, x8, x9, x10, x11, _⟩ := S1.out
    go_wp2_with fail
    refine (K2.out _ B1).mono ?_
    rintro e w2 ⟨rfl, hb⟩
    have S2 := Lib.hid (St.below S1.out hb)
    clear hb y0 y1 x0 x1 x2 x3 x4 x5 x6 x7 x8 x9 x10 x11 S1 B1
    obtain ⟨B2, y0, y1, x0, x1, x2, x3, x4, x5, x6, x7, x8, x9, x10, x11, _⟩ := S2.out
    go_wp2_with fail
    refine (K3.out _ B2).mono ?_
    rintro e w3 ⟨rfl, hb⟩
    have S3 := Lib.hid (St.below S2.out hb)
    clear hb y0 y1 x0 x1 x2 x3 x4 x5 x6 x7 x8 x9 x10 x11 S2 B2
    obtain ⟨B3, y0, y1, x0, x1, x2, x3, x4, x5, x6, x7, x8, x9, x10, x11, _⟩ := S3.out
    go_wp2_with fail
    go_ret
    exact ⟨ret_bool HD.out.symm, B3⟩

end Go.Proofs.YtojheipllpkgdaaDoor

namespace Go.Proofs.YtojheipllpkgdaaDoor
open Go.RowKit Go.WideShapes Go.ChangeShapes Go.ChangeAt Go.Deep Go.WideElems

theorem Tryd.own : ownKnob Tryd.prog.godebug = none := by kernel_rfl
theorem Tryd.laidOut : laidOutB Tryd.prog = true := by kernel_rfl
theorem Tryd.kids : Go.Kids Tryd.prog (· < Tryd.prog.types.size) := kids_rows (by kernel_rfl) (by kernel_rfl)
theorem Tryd.full : ∀ t e, t < Tryd.prog.types.size → Tryd.prog.underlying t = some (.slice e) → 0 < Tryd.prog.cellsOf e := slices_full_of Tryd.prog (by kernel_rfl)

section
variable {H : Type} {enc : TypeId × Value → H} {P : Program}

theorem post_of_below {f : Func} {s : ChangeSpec} {apart fresh handsOn again : Bool} {W W' : World} {args : Array Value} {v : Value} {ds gs : List (DataW H)} {before pa pv : List MemPlace}
    (hW : DataW.Whole enc P f.params.toList s.vars apart W args.toList ds gs before)
    (hres : ∀ (b : Nat) (sp : Nat → Bool) (hd : Bool), DataW.TrodAll enc P W' b sp hd f.resultTypes.toList (v.resultList f.resultTypes.size) (s.fn H (ds ++ gs)).results [])
    (hargs : ∀ sp : Nat → Bool, (∀ p ∈ before, sp p.block = true) → DataW.TrodAll enc P W' 0 sp true f.params.toList args.toList (s.fn H (ds ++ gs)).args pa)
    (hvars : ∀ sp : Nat → Bool, (∀ p ∈ before, sp p.block = true) → DataW.TrodVars enc P W' sp s.vars (s.fn H (ds ++ gs)).vars pv)
    (hps : before = pa ++ pv) (hb : Below W.heap.size W W')
    (hok : ∀ (j : Nat) (t : TypeId) (r : Value), f.resultTypes[j]? = some t → (v.resultList f.resultTypes.size)[j]? = some r → Value.okWide P W' .any 0 t r) :
    s.post enc P f apart fresh handsOn again W args v W' := by
  have hlt : ∀ p ∈ before, p.block < W.heap.size := fun p hp => hW.lt p hp
  have hold : ∀ p ∈ before, (fun b => decide (b < W.heap.size)) p.block = true := fun p hp => by simpa using hlt p hp
  refine ⟨ds, gs, before, [], pa, pv, hW, hres _ _ _, hargs _ hold, hvars _ hold, World.keptBut_mono (fun p hp => ⟨hp, ?_⟩) (hb.frame (· ∈ before)), fun _ => ?_⟩
  · rw [hps, List.mem_append] at hp
    exact Or.inr hp
  · obtain ⟨_, _, _, _, _, hz, hn⟩ := hW
    refine ⟨hok, _, _, ([] ++ pa) ++ pv, ⟨[] ++ pa, pv, trodAll_append (hargs _ (fun _ _ => rfl)) (hres _ _ _), hvars _ (fun _ _ => rfl), rfl, ?_, ?_⟩, ?_⟩
    · intro b off hp
      have hin : MemPlace.cell b off ∈ before := by rw [hps]; simpa using hp
      rw [hb.frozen (hlt _ hin)]
      exact hz b off hin
    · intro ha
      have := hn ha
      rw [hps] at this
      simpa using this
    · intro p hp _
      rw [hps]
      simpa using hp

/-- Arguments read behind the call as they did, where nothing that was there has changed. -/
theorem trodAll_stays (hl : laidOutB P = true) {W W' : World} {sp : Nat → Bool} (hb : Below W.heap.size W W') :
    ∀ {ts : List TypeId} {vs : List Value} {ds : List (DataW H)} {ps : List MemPlace}, (∀ t ∈ ts, P.readableRec t = true ∧ t < P.types.size) →
      DataW.TrodAll enc P W 0 (fun _ => true) true ts vs ds ps → (∀ x ∈ ps, x.block < W.heap.size) → (∀ x ∈ ps, sp x.block = true) → DataW.TrodAll enc P W' 0 sp true ts vs ds ps
  | [], [], [], _, _, h, _, _ => h
  | _ :: _, _ :: _, _ :: _, _, hT, ⟨p, q, h1, h2, e⟩, hlt, hs => ⟨p, q,
      WideElems.Trod_stays hl (hT _ (List.mem_cons.2 (Or.inl rfl))).1 (hT _ (List.mem_cons.2 (Or.inl rfl))).2 h1 (fun x hx => hb.same (hlt x (by rw [e]; exact List.mem_append_left _ hx))) (fun x hx => hs x (by rw [e]; exact List.mem_append_left _ hx)),
      trodAll_stays hl hb (fun t ht => hT t (List.mem_cons.2 (Or.inr ht))) h2 (fun x hx => hlt x (by rw [e]; exact List.mem_append_right _ hx)) (fun x hx => hs x (by rw [e]; exact List.mem_append_right _ hx)), e⟩

/-- A LAW's END: it answers true, and nothing that was there has changed. -/
theorem law_end {f : Func} {s : ChangeSpec} {W W' : World} {args : Array Value} {ds gs : List (DataW H)} {before : List MemPlace} {tb : TypeId}
    (hl : laidOutB P = true) (ub : P.underlying tb = some .bool) (hv : s.vars = []) (hr : f.resultTypes = #[tb]) (hp : ∀ t ∈ f.params.toList, P.readableRec t = true ∧ t < P.types.size)
    (hfn : (s.fn H (ds ++ gs)).results = [.lit (.bool true)]) (hfa : (s.fn H (ds ++ gs)).args = ds) (hfv : (s.fn H (ds ++ gs)).vars = [])
    (hW : DataW.Whole enc P f.params.toList s.vars false W args.toList ds gs before) (hb : Below W.heap.size W W') : s.post enc P f false true false false W args (.bool true) W' := by
  have hW' := hW
  obtain ⟨p, q, hA, hV, hpq, _, _⟩ := hW
  rw [hv] at hV
  obtain ⟨rfl, rfl⟩ := trodVars_none hV
  refine post_of_below (pa := p) (pv := []) hW' ?_ ?_ ?_ hpq hb ?_
  · intro b sp hd
    rw [hr, hfn]
    exact trodAll_mk1 (shut_bool ub _)
  · intro sp hsp
    rw [hfa]
    exact trodAll_stays hl hb hp hA (fun x hx => hW'.lt x (by rw [hpq]; exact List.mem_append_left _ hx)) (fun x hx => hsp x (by rw [hpq]; exact List.mem_append_left _ hx))
  · intro sp _
    rw [hv, hfv]
    exact rfl
  · exact ok_one hr rfl (okWide_bool_mk ub _)

/-- A signature handed by value: two integers. -/
theorem open_sig {W : World} {base : Nat} {t : TypeId} {v : Value} {d : DataW H} {p : List MemPlace} {f0 f1 : Field} (hs : P.underlying t = some (.struct #[f0, f1])) (hone : oneCellFields P #[f0, f1] = true) (hC : P.cellsOf t = 2)
    (u0 : P.underlying f0.type = some (.int .i64)) (u1 : P.underlying f1.type = some (.int .i64)) (hok : Value.okWide P W .any base t v) (h : DataW.Trod enc P W 0 (fun _ => true) true t v d p) :
    ∃ x y : Int, v = .agg #[.int .i64 x, .int .i64 y] ∧ (Lit.int .i64 x).wf = true ∧ (Lit.int .i64 y).wf = true := by
  obtain ⟨c0, c1, y0, y1, m, rfl, rfl, rfl, hy0, hy1⟩ := Joins.open_agg2 hs hone hC hok h
  obtain ⟨x, hx, _, wx⟩ := DataW.trod_int u0 hy0
  obtain ⟨y, hy, _, wy⟩ := DataW.trod_int u1 hy1
  simp at hx hy
  subst hx; subst hy
  exact ⟨x, y, rfl, wx, wy⟩
end

set_option maxRecDepth 100000 in
theorem lsig_open {H : Type} {enc : TypeId × Value → H} {W : World} {base : Nat} {v : Value} {d : DataW H} {p : List MemPlace} (hok : Value.okWide Tryd.prog W .any base 23 v) (h : DataW.Trod enc Tryd.prog W 0 (fun _ => true) true 23 v d p) :
    ∃ x y : Int, v = .agg #[.int .i64 x, .int .i64 y] ∧ (Lit.int .i64 x).wf = true ∧ (Lit.int .i64 y).wf = true :=
  open_sig Tryd.underlying23 (by kernel_rfl) (by kernel_rfl) Tryd.underlying2 Tryd.underlying2 hok h

theorem Tryd.cellsE : Tryd.prog.cellsOf 26 = 3 := by kernel_rfl

/-- A list of rows out of its rows, from the last one on. -/
theorem forest_of_rows {W : World} {b o len : Nat} {K N : Nat → Int} {S : Nat → Fo} {A : Nat → Option Addr} {C : Nat → Nat}
    (h : ∀ i, i < len → W.cell? ⟨b, o + i * 3, none⟩ = some (.int .i64 (K i)) ∧ W.cell? ⟨b, o + i * 3 + 1, none⟩ = some (.int .i64 (N i)) ∧ W.cell? ⟨b, o + i * 3 + 2, none⟩ = some (.slice (A i) (S i).len (C i)) ∧ (S i).Lies W (A i) ∧ (S i).len ≤ 9223372036854775807 ∧ (S i).Fits) :
    ∀ j, j ≤ len → ∃ f : Fo, f.len = j ∧ f.At W b (o + (len - j) * 3) ∧ f.Fits := by
  intro j
  induction j with
  | zero => intro _; exact ⟨.nil, rfl, trivial, trivial⟩
  | succ j ih =>
    intro hj
    obtain ⟨f, h1, h2, h3⟩ := ih (by omega)
    obtain ⟨g0, g1, g2, g3, g4, g5⟩ := h (len - (j + 1)) (by omega)
    refine ⟨.cons (K (len - (j + 1))) (N (len - (j + 1))) (S (len - (j + 1))) f, by simp [Fo.len, h1], ⟨g0, g1, ⟨A _, C _, g2, g3⟩, ?_⟩, g4, g5, h3⟩
    rw [show o + (len - (j + 1)) * 3 + 3 = o + (len - j) * 3 from by omega]
    exact h2

set_option maxRecDepth 100000 in
theorem lforest_open {H : Type} {enc : TypeId × Value → H} {W : World} : ∀ (fuel : Nat) (cs : List Value) (x : DataW H × List MemPlace),
    DataW.trod enc Tryd.prog W 0 (fun _ => true) true fuel 24 cs = some x → ∃ (f : Fo) (A : Option Addr) (C : Nat), cs = [.slice A f.len C] ∧ f.Lies W A ∧ f.len ≤ 9223372036854775807 ∧ f.Fits := by
  intro fuel
  induction fuel using Nat.strongRecOn with
  | _ fuel ih =>
    intro cs x h
    rcases DataW.trod_slice Tryd.underlying24 h with ⟨rfl, _⟩ | ⟨a, len, cap, elems, rest, n, hn, rfl, rfl, hb, hl, hm, hlen, hel, hsp, hns⟩
    · exact ⟨.nil, none, 0, rfl, fun h => absurd rfl h, Nat.zero_le _, trivial⟩
    · have one : ∀ i, i < len → ∃ z : Int × Int × Fo × Option Addr × Nat, W.cell? (a.add (i * 3)) = some (.int .i64 z.1) ∧ W.cell? (a.add (i * 3 + 1)) = some (.int .i64 z.2.1) ∧
          W.cell? (a.add (i * 3 + 2)) = some (.slice z.2.2.2.1 z.2.2.1.len z.2.2.2.2) ∧ z.2.2.1.Lies W z.2.2.2.1 ∧ z.2.2.1.len ≤ 9223372036854775807 ∧ z.2.2.1.Fits := by
        intro i hi
        have key := hel i hi
        rw [List.getElem?_eq_getElem (by omega), Tryd.cellsE] at key
        obtain ⟨cs', h1, h2⟩ := Option.bind_eq_some_iff.1 key
        obtain ⟨_, hl3, hc⟩ := World.cells?_some h1
        obtain ⟨xs, m, rfl, _, _, hxl, hf⟩ := DataW.trod_struct Tryd.underlying26 h2
        match xs, hxl, cs', hl3 with
        | [y0, y1, y2], _, [v0, v1, v2], _ =>
          have g0 : DataW.trod enc Tryd.prog W 0 (fun _ => true) true m 2 [v0] = some y0 := hf 0 _ rfl
          have g1 : DataW.trod enc Tryd.prog W 0 (fun _ => true) true m 2 [v1] = some y1 := hf 1 _ rfl
          have g2 : DataW.trod enc Tryd.prog W 0 (fun _ => true) true m 24 [v2] = some y2 := hf 2 _ rfl
          obtain ⟨k, hk, _, _⟩ := DataW.trod_int Tryd.underlying2 g0
          obtain ⟨nn, hnn, _, _⟩ := DataW.trod_int Tryd.underlying2 g1
          obtain ⟨f, A, C, hf2, l1, l2, l3⟩ := ih m (by omega) _ _ g2
          simp at hk hnn hf2
          subst hk; subst hnn; subst hf2
          have c0 := hc 0 (by omega)
          have c1 := hc 1 (by omega)
          have c2 := hc 2 (by omega)
          rw [add_add] at c0 c1 c2
          exact ⟨(k, nn, f, A, C), c0, c1, c2, l1, l2, l3⟩
      obtain ⟨b, o, spot⟩ := a
      by_cases h0 : len = 0
      · subst h0
        exact ⟨.nil, _, _, rfl, fun h => absurd rfl h, Nat.zero_le _, trivial⟩
      have : Inhabited (Option Addr × Nat) := ⟨(none, 0)⟩
      have : Inhabited (Int × Int × Fo × Option Addr × Nat) := ⟨(0, 0, .nil, none, 0)⟩
      obtain ⟨Z, hZ⟩ := choose_lt one
      have hspot : spot = none := by
        have := (hZ 0 (by omega)).1
        simpa [Addr.add] using World.cell?_spot this
      subst hspot
      obtain ⟨f, e1, e2, e3⟩ := forest_of_rows (W := W) (b := b) (o := o) (len := len) (K := fun i => (Z i).1) (N := fun i => (Z i).2.1) (S := fun i => (Z i).2.2.1) (A := fun i => (Z i).2.2.2.1) (C := fun i => (Z i).2.2.2.2)
        (fun i hi => by
          obtain ⟨q0, q1, q2, q3, q4, q5⟩ := hZ i hi
          rw [add_plain] at q0 q1 q2
          exact ⟨q0, q1, q2, q3, q4, q5⟩) len (Nat.le_refl _)
      rw [Nat.sub_self, Nat.zero_mul] at e2
      subst e1
      exact ⟨f, some ⟨b, o, none⟩, cap, rfl, fun _ => ⟨b, o, rfl, e2⟩, by unfold maxLen at hm; omega, e3⟩

set_option maxRecDepth 100000 in
/-- An expression handed by value. -/
theorem lexpr_open {H : Type} {enc : TypeId × Value → H} {W : World} {base : Nat} {v : Value} {d : DataW H} {p : List MemPlace} (hok : Value.okWide Tryd.prog W .any base 26 v) (h : DataW.Trod enc Tryd.prog W 0 (fun _ => true) true 26 v d p) :
    ∃ (k n : Int) (f : Fo) (A : Option Addr) (C : Nat), v = .agg #[.int .i64 k, .int .i64 n, .slice A f.len C] ∧ f.Lies W A ∧ f.len ≤ 9223372036854775807 ∧ f.Fits ∧ (Lit.int .i64 k).wf = true ∧ (Lit.int .i64 n).wf = true := by
  obtain ⟨c0, c1, c2, y0, y1, y2, m, rfl, _, _, g0, g1, g2⟩ := Joins.open_agg3 Tryd.underlying26 (by kernel_rfl) Tryd.cellsE hok h
  obtain ⟨k, hk, _, wk⟩ := DataW.trod_int Tryd.underlying2 g0
  obtain ⟨n, hn, _, wn⟩ := DataW.trod_int Tryd.underlying2 g1
  obtain ⟨f, A, C, hf, l1, l2, l3⟩ := lforest_open _ _ _ g2
  simp at hk hn hf
  subst hk; subst hn; subst hf
  exact ⟨k, n, f, A, C, rfl, l1, l2, l3, wk, wn⟩

/-- A list of integers, read. -/
theorem ints_open {H : Type} {enc : TypeId × Value → H} {W : World} {fuel : Nat} {cs : List Value} {x : DataW H × List MemPlace} (h : DataW.trod enc Tryd.prog W 0 (fun _ => true) true fuel 75 cs = some x) :
    ∃ (xs : List Int) (A : Option Addr) (C : Nat), cs = [.slice A xs.length C] ∧ Ints W xs A ∧ xs.length ≤ 9223372036854775807 ∧ ∀ v ∈ xs, (Lit.int .i64 v).wf = true := by
  rcases open_slice1 Tryd.underlying75 (by kernel_rfl) h with ⟨rfl, _⟩ | ⟨a, len, cap, m, n, V, D, Pl, rfl, hb, hl, hm, hmm, rfl, hx⟩
  · exact ⟨[], none, 0, rfl, fun h => absurd rfl h, Nat.zero_le _, fun v hv => absurd hv (by simp)⟩
  · simp only [if_true] at hmm
    have one : ∀ i, i < len → ∃ z : Int, W.cell? (a.add i) = some (.int .i64 z) ∧ (Lit.int .i64 z).wf = true := fun i hi => by
      obtain ⟨h1, h2⟩ := hx i (by omega)
      obtain ⟨z, hz, _, wz⟩ := DataW.trod_int Tryd.underlying2 h2
      simp at hz
      exact ⟨z, by rw [h1, hz], wz⟩
    obtain ⟨Z, hZ⟩ := choose_lt one
    refine ⟨(List.range len).map Z, some a, cap, by simp, ?_, by simp; unfold maxLen at hm; omega, ?_⟩
    · intro hne
      have hpos : 0 < len := by
        rcases Nat.eq_zero_or_pos len with h0 | h0
        · subst h0; simp at hne
        · exact h0
      obtain ⟨b, o, spot⟩ := a
      have hspot : spot = none := by simpa [Addr.add] using World.cell?_spot (hZ 0 hpos).1
      subst hspot
      refine ⟨b, o, rfl, fun i hi => ?_⟩
      have hi' : i < len := by simpa using hi
      have := (hZ i hi').1
      rw [add_plain] at this
      rw [this]
      simp [nth, List.getD, hi']
    · intro v hv
      obtain ⟨i, hi, rfl⟩ := List.mem_map.1 hv
      exact (hZ i (by simpa using hi)).2

end Go.Proofs.YtojheipllpkgdaaDoor

namespace Go.Proofs.YtojheipllpkgdaaDoor
open Go.RowKit Go.WideShapes Go.ChangeShapes Go.ChangeAt Go.Deep Go.WideElems

theorem array_six {α : Type} {cs : Array α} (h : cs.size = 6) : ∃ a b c d e f, cs = #[a, b, c, d, e, f] := by
  obtain ⟨l⟩ := cs
  match l, h with
  | [a, b, c, d, e, f], _ => exact ⟨a, b, c, d, e, f, rfl⟩
theorem Tryd.cellsPg : Tryd.prog.cellsOf 29 = 6 := by kernel_rfl

/-- A list of rows out of its rows, from the last one on. -/
theorem progs_of_rows {W : World} {b o len : Nat} {Z : Nat → Int × Int × Int × Int × Fo × Option Addr × Nat × Pg × Option Addr × Nat}
    (h : ∀ i, i < len → W.cell? ⟨b, o + i * 6, none⟩ = some (.int .i64 (Z i).1) ∧ W.cell? ⟨b, o + i * 6 + 1, none⟩ = some (.int .i64 (Z i).2.1) ∧ W.cell? ⟨b, o + i * 6 + 2, none⟩ = some (.int .i64 (Z i).2.2.1) ∧ W.cell? ⟨b, o + i * 6 + 3, none⟩ = some (.int .i64 (Z i).2.2.2.1) ∧
      (W.cell? ⟨b, o + i * 6 + 4, none⟩ = some (.slice (Z i).2.2.2.2.2.1 (Z i).2.2.2.2.1.len (Z i).2.2.2.2.2.2.1) ∧ (Z i).2.2.2.2.1.Lies W (Z i).2.2.2.2.2.1) ∧
      (W.cell? ⟨b, o + i * 6 + 5, none⟩ = some (.slice (Z i).2.2.2.2.2.2.2.2.1 (Z i).2.2.2.2.2.2.2.1.len (Z i).2.2.2.2.2.2.2.2.2) ∧ (Z i).2.2.2.2.2.2.2.1.Lies W (Z i).2.2.2.2.2.2.2.2.1) ∧
      ((Z i).2.2.2.2.1.len ≤ 9223372036854775807 ∧ (Z i).2.2.2.2.1.Fits) ∧ (Z i).2.2.2.2.2.2.2.1.len ≤ 9223372036854775807 ∧ (Z i).2.2.2.2.2.2.2.1.Fits) :
    ∀ j, j ≤ len → ∃ f : Pg, f.len = j ∧ f.At W b (o + (len - j) * 6) ∧ f.Fits := by
  intro j
  induction j with
  | zero => intro _; exact ⟨.nil, rfl, trivial, trivial⟩
  | succ j ih =>
    intro hj
    obtain ⟨f, h1, h2, h3⟩ := ih (by omega)
    obtain ⟨g0, g1, g2, g3, g4, g5, g6, g7, g8⟩ := h (len - (j + 1)) (by omega)
    refine ⟨.cons _ _ _ _ _ _ f, by simp [Pg.len, h1], ⟨g0, g1, g2, g3, ⟨_, _, g4.1, g4.2⟩, ⟨_, _, g5.1, g5.2⟩, ?_⟩, g6, g7, g8, h3⟩
    rw [show o + (len - (j + 1)) * 6 + 6 = o + (len - j) * 6 from by omega]
    exact h2

set_option maxRecDepth 100000 in
theorem lprogs_open {H : Type} {enc : TypeId × Value → H} {W : World} : ∀ (fuel : Nat) (cs : List Value) (x : DataW H × List MemPlace),
    DataW.trod enc Tryd.prog W 0 (fun _ => true) true fuel 27 cs = some x → ∃ (f : Pg) (A : Option Addr) (C : Nat), cs = [.slice A f.len C] ∧ f.Lies W A ∧ f.len ≤ 9223372036854775807 ∧ f.Fits := by
  intro fuel
  induction fuel using Nat.strongRecOn with
  | _ fuel ih =>
    intro cs x h
    rcases DataW.trod_slice Tryd.underlying27 h with ⟨rfl, _⟩ | ⟨a, len, cap, elems, rest, n, hn, rfl, rfl, hb, hl, hm, hlen, hel, hsp, hns⟩
    · exact ⟨.nil, none, 0, rfl, fun h => absurd rfl h, Nat.zero_le _, trivial⟩
    · have one : ∀ i, i < len → ∃ z : Int × Int × Int × Int × Fo × Option Addr × Nat × Pg × Option Addr × Nat, W.cell? (a.add (i * 6)) = some (.int .i64 z.1) ∧ W.cell? (a.add (i * 6 + 1)) = some (.int .i64 z.2.1) ∧ W.cell? (a.add (i * 6 + 2)) = some (.int .i64 z.2.2.1) ∧ W.cell? (a.add (i * 6 + 3)) = some (.int .i64 z.2.2.2.1) ∧
          (W.cell? (a.add (i * 6 + 4)) = some (.slice z.2.2.2.2.2.1 z.2.2.2.2.1.len z.2.2.2.2.2.2.1) ∧ z.2.2.2.2.1.Lies W z.2.2.2.2.2.1) ∧
          (W.cell? (a.add (i * 6 + 5)) = some (.slice z.2.2.2.2.2.2.2.2.1 z.2.2.2.2.2.2.2.1.len z.2.2.2.2.2.2.2.2.2) ∧ z.2.2.2.2.2.2.2.1.Lies W z.2.2.2.2.2.2.2.2.1) ∧
          (z.2.2.2.2.1.len ≤ 9223372036854775807 ∧ z.2.2.2.2.1.Fits) ∧ z.2.2.2.2.2.2.2.1.len ≤ 9223372036854775807 ∧ z.2.2.2.2.2.2.2.1.Fits := by
        intro i hi
        have key := hel i hi
        rw [List.getElem?_eq_getElem (by omega), Tryd.cellsPg] at key
        obtain ⟨cs', h1, h2⟩ := Option.bind_eq_some_iff.1 key
        obtain ⟨_, hl3, hc⟩ := World.cells?_some h1
        obtain ⟨xs, m, rfl, _, _, hxl, hf⟩ := DataW.trod_struct Tryd.underlying29 h2
        match xs, hxl, cs', hl3 with
        | [y0, y1, y2, y3], _, [v0, v1, v2, v3, v4, v5], _ =>
          have g0 : DataW.trod enc Tryd.prog W 0 (fun _ => true) true m 2 [v0] = some y0 := hf 0 _ rfl
          have g1 : DataW.trod enc Tryd.prog W 0 (fun _ => true) true m 2 [v1] = some y1 := hf 1 _ rfl
          have g2 : DataW.trod enc Tryd.prog W 0 (fun _ => true) true m 26 [v2, v3, v4] = some y2 := hf 2 _ rfl
          have g3 : DataW.trod enc Tryd.prog W 0 (fun _ => true) true m 27 [v5] = some y3 := hf 3 _ rfl
          obtain ⟨zs, m2, _, _, _, hzl, hz⟩ := DataW.trod_struct Tryd.underlying26 g2
          match zs, hzl with
          | [z0, z1, z2], _ =>
            have e0 : DataW.trod enc Tryd.prog W 0 (fun _ => true) true m2 2 [v2] = some z0 := hz 0 _ rfl
            have e1 : DataW.trod enc Tryd.prog W 0 (fun _ => true) true m2 2 [v3] = some z1 := hz 1 _ rfl
            have e2 : DataW.trod enc Tryd.prog W 0 (fun _ => true) true m2 24 [v4] = some z2 := hz 2 _ rfl
            obtain ⟨k, hk, _, _⟩ := DataW.trod_int Tryd.underlying2 g0
            obtain ⟨nn, hnn, _, _⟩ := DataW.trod_int Tryd.underlying2 g1
            obtain ⟨ck, hck, _, _⟩ := DataW.trod_int Tryd.underlying2 e0
            obtain ⟨cn, hcn, _, _⟩ := DataW.trod_int Tryd.underlying2 e1
            obtain ⟨cf, A, C, hcf, l1, l2, l3⟩ := lforest_open _ _ _ e2
            obtain ⟨f, B, D, hf2, p1, p2, p3⟩ := ih m (by omega) _ _ g3
            simp at hk hnn hck hcn hcf hf2
            subst hk; subst hnn; subst hck; subst hcn; subst hcf; subst hf2
            have c0 := hc 0 (by omega)
            have c1 := hc 1 (by omega)
            have c2 := hc 2 (by omega)
            have c3 := hc 3 (by omega)
            have c4 := hc 4 (by omega)
            have c5 := hc 5 (by omega)
            rw [add_add] at c0 c1 c2 c3 c4 c5
            exact ⟨(k, nn, ck, cn, cf, A, C, f, B, D), c0, c1, c2, c3, ⟨c4, l1⟩, ⟨c5, p1⟩, ⟨l2, l3⟩, p2, p3⟩
      obtain ⟨b, o, spot⟩ := a
      by_cases h0 : len = 0
      · subst h0
        exact ⟨.nil, _, _, rfl, fun h => absurd rfl h, Nat.zero_le _, trivial⟩
      have : Inhabited (Int × Int × Int × Int × Fo × Option Addr × Nat × Pg × Option Addr × Nat) := ⟨(0, 0, 0, 0, .nil, none, 0, .nil, none, 0)⟩
      obtain ⟨Z, hZ⟩ := choose_lt one
      have hspot : spot = none := by
        have := (hZ 0 (by omega)).1
        simpa [Addr.add] using World.cell?_spot this
      subst hspot
      obtain ⟨f, e1, e2, e3⟩ := progs_of_rows (W := W) (b := b) (o := o) (len := len) (Z := Z)
        (fun i hi => by
          obtain ⟨q0, q1, q2, q3, q4, q5, q6⟩ := hZ i hi
          rw [add_plain] at q0 q1 q2 q3 q4 q5
          exact ⟨q0, q1, q2, q3, q4, q5, q6⟩) len (Nat.le_refl _)
      rw [Nat.sub_self, Nat.zero_mul] at e2
      subst e1
      exact ⟨f, some ⟨b, o, none⟩, cap, rfl, fun _ => ⟨b, o, rfl, e2⟩, by unfold maxLen at hm; omega, e3⟩

set_option maxRecDepth 100000 in
/-- A program handed by value. -/
theorem lprog_open {H : Type} {enc : TypeId × Value → H} {W : World} {base : Nat} {v : Value} {d : DataW H} {p : List MemPlace} (hok : Value.okWide Tryd.prog W .any base 29 v) (h : DataW.Trod enc Tryd.prog W 0 (fun _ => true) true 29 v d p) :
    ∃ (k n ck cn : Int) (cf : Fo) (A : Option Addr) (C : Nat) (f : Pg) (B : Option Addr) (D : Nat), v = .agg #[.int .i64 k, .int .i64 n, .int .i64 ck, .int .i64 cn, .slice A cf.len C, .slice B f.len D] ∧ (cf.Lies W A ∧ cf.len ≤ 9223372036854775807 ∧ cf.Fits) ∧ f.Lies W B ∧ f.len ≤ 9223372036854775807 ∧ f.Fits ∧
      ((Lit.int .i64 k).wf = true ∧ (Lit.int .i64 n).wf = true ∧ (Lit.int .i64 ck).wf = true ∧ (Lit.int .i64 cn).wf = true) := by
  obtain ⟨cs, rfl, hsz⟩ := okWide_struct Tryd.underlying29 hok
  obtain ⟨v0, v1, v2, v3, v4, v5, rfl⟩ := array_six (hsz.trans Tryd.cellsPg)
  obtain ⟨fuel, hf0⟩ := h
  obtain ⟨xs, m, rfl, _, _, hxl, hf⟩ := DataW.trod_struct Tryd.underlying29 hf0
  match xs, hxl with
  | [y0, y1, y2, y3], _ =>
    have g0 : DataW.trod enc Tryd.prog W 0 (fun _ => true) true m 2 [v0] = some y0 := hf 0 _ rfl
    have g1 : DataW.trod enc Tryd.prog W 0 (fun _ => true) true m 2 [v1] = some y1 := hf 1 _ rfl
    have g2 : DataW.trod enc Tryd.prog W 0 (fun _ => true) true m 26 [v2, v3, v4] = some y2 := hf 2 _ rfl
    have g3 : DataW.trod enc Tryd.prog W 0 (fun _ => true) true m 27 [v5] = some y3 := hf 3 _ rfl
    obtain ⟨zs, m2, _, _, _, hzl, hz⟩ := DataW.trod_struct Tryd.underlying26 g2
    match zs, hzl with
    | [z0, z1, z2], _ =>
      have e0 : DataW.trod enc Tryd.prog W 0 (fun _ => true) true m2 2 [v2] = some z0 := hz 0 _ rfl
      have e1 : DataW.trod enc Tryd.prog W 0 (fun _ => true) true m2 2 [v3] = some z1 := hz 1 _ rfl
      have e2 : DataW.trod enc Tryd.prog W 0 (fun _ => true) true m2 24 [v4] = some z2 := hz 2 _ rfl
      obtain ⟨k, hk, _, wk⟩ := DataW.trod_int Tryd.underlying2 g0
      obtain ⟨nn, hnn, _, wn⟩ := DataW.trod_int Tryd.underlying2 g1
      obtain ⟨ck, hck, _, wck⟩ := DataW.trod_int Tryd.underlying2 e0
      obtain ⟨cn, hcn, _, wcn⟩ := DataW.trod_int Tryd.underlying2 e1
      obtain ⟨cf, A, C, hcf, l1, l2, l3⟩ := lforest_open _ _ _ e2
      obtain ⟨f, B, D, hf2, p1, p2, p3⟩ := lprogs_open _ _ _ g3
      simp at hk hnn hck hcn hcf hf2
      subst hk; subst hnn; subst hck; subst hcn; subst hcf; subst hf2
      exact ⟨k, nn, ck, cn, cf, A, C, f, B, D, rfl, ⟨l1, l2, l3⟩, p1, p2, p3, wk, wn, wck, wcn⟩
end Go.Proofs.YtojheipllpkgdaaDoor

namespace Go.Proofs.YtojheipllpkgdaaDoor
open Go.RowKit Go.WideShapes Go.ChangeShapes Go.ChangeAt Go.Deep Go.WideElems
set_option linter.unusedVariables false

set_option maxRecDepth 100000 in
theorem lExpr_cells {H : Type} {enc : TypeId × Value → H} {W : World} {fuel : Nat} {v0 v1 v2 : Value} {x : DataW H × List MemPlace} (h : DataW.trod enc Tryd.prog W 0 (fun _ => true) true fuel 26 [v0, v1, v2] = some x) :
    ∃ (k n : Int) (f : Fo) (A : Option Addr) (C : Nat), v0 = .int .i64 k ∧ v1 = .int .i64 n ∧ v2 = .slice A f.len C ∧ (f.Lies W A ∧ f.len ≤ 9223372036854775807 ∧ f.Fits) := by
  obtain ⟨xs, m, _, _, _, hxl, hf⟩ := DataW.trod_struct Tryd.underlying26 h
  match xs, hxl with
  | [y0, y1, y2], _ =>
    have g0 : DataW.trod enc Tryd.prog W 0 (fun _ => true) true m 2 [v0] = some y0 := hf 0 _ rfl
    have g1 : DataW.trod enc Tryd.prog W 0 (fun _ => true) true m 2 [v1] = some y1 := hf 1 _ rfl
    have g2 : DataW.trod enc Tryd.prog W 0 (fun _ => true) true m 24 [v2] = some y2 := hf 2 _ rfl
    obtain ⟨k, hk, _, _⟩ := DataW.trod_int Tryd.underlying2 g0
    obtain ⟨n, hn, _, _⟩ := DataW.trod_int Tryd.underlying2 g1
    obtain ⟨f, A, C, hf2, l⟩ := lforest_open _ _ _ g2
    simp at hk hn hf2
    subst hk; subst hn; subst hf2
    exact ⟨k, n, f, A, C, rfl, rfl, rfl, l⟩
set_option maxRecDepth 100000 in
theorem lProg_cells {H : Type} {enc : TypeId × Value → H} {W : World} {fuel : Nat} {v0 v1 v2 v3 v4 v5 : Value} {x : DataW H × List MemPlace} (h : DataW.trod enc Tryd.prog W 0 (fun _ => true) true fuel 29 [v0, v1, v2, v3, v4, v5] = some x) :
    ∃ (k n ck cn : Int) (cf : Fo) (ks : Pg) (A B : Option Addr) (C D : Nat), v0 = .int .i64 k ∧ v1 = .int .i64 n ∧ v2 = .int .i64 ck ∧ v3 = .int .i64 cn ∧ v4 = .slice A cf.len C ∧ v5 = .slice B ks.len D ∧ (cf.Lies W A ∧ cf.len ≤ 9223372036854775807 ∧ cf.Fits) ∧ (ks.Lies W B ∧ ks.len ≤ 9223372036854775807 ∧ ks.Fits) := by
  obtain ⟨xs, m, _, _, _, hxl, hf⟩ := DataW.trod_struct Tryd.underlying29 h
  match xs, hxl with
  | [y0, y1, y2, y3], _ =>
    have g0 : DataW.trod enc Tryd.prog W 0 (fun _ => true) true m 2 [v0] = some y0 := hf 0 _ rfl
    have g1 : DataW.trod enc Tryd.prog W 0 (fun _ => true) true m 2 [v1] = some y1 := hf 1 _ rfl
    have g2 : DataW.trod enc Tryd.prog W 0 (fun _ => true) true m 26 [v2, v3, v4] = some y2 := hf 2 _ rfl
    have g3 : DataW.trod enc Tryd.prog W 0 (fun _ => true) true m 27 [v5] = some y3 := hf 3 _ rfl
    obtain ⟨k, hk, _, _⟩ := DataW.trod_int Tryd.underlying2 g0
    obtain ⟨n, hn, _, _⟩ := DataW.trod_int Tryd.underlying2 g1
    obtain ⟨ck, cn, cf, A, C, rfl, rfl, rfl, l1⟩ := lExpr_cells g2
    obtain ⟨ks, B, D, hf3, l2⟩ := lprogs_open _ _ _ g3
    simp at hk hn hf3
    subst hk; subst hn; subst hf3
    exact ⟨k, n, ck, cn, cf, ks, A, B, C, D, rfl, rfl, rfl, rfl, rfl, rfl, l1, l2⟩
set_option maxRecDepth 100000 in
theorem lTriple_cells {H : Type} {enc : TypeId × Value → H} {W : World} {fuel : Nat} {v_0 v_1 v_2 v_3 v_4 v_5 v_6 v_7 v_8 v_9 v_10 v_11 : Value} {x : DataW H × List MemPlace} (h : DataW.trod enc Tryd.prog W 0 (fun _ => true) true fuel 44 [v_0, v_1, v_2, v_3, v_4, v_5, v_6, v_7, v_8, v_9, v_10, v_11] = some x) :
    ∃ (pk : Int) (pn : Int) (pf : Fo) (gk : Int) (gn : Int) (gck : Int) (gcn : Int) (gcf : Fo) (gks : Pg) (qk : Int) (qn : Int) (qf : Fo) (Apf Agcf Agks Aqf : Option Addr) (Cpf Cgcf Cgks Cqf : Nat), v_0 = .int .i64 pk ∧ v_1 = .int .i64 pn ∧ v_2 = .slice Apf pf.len Cpf ∧ v_3 = .int .i64 gk ∧ v_4 = .int .i64 gn ∧ v_5 = .int .i64 gck ∧ v_6 = .int .i64 gcn ∧ v_7 = .slice Agcf gcf.len Cgcf ∧ v_8 = .slice Agks gks.len Cgks ∧ v_9 = .int .i64 qk ∧ v_10 = .int .i64 qn ∧ v_11 = .slice Aqf qf.len Cqf ∧ (pf.Lies W Apf ∧ pf.len ≤ 9223372036854775807 ∧ pf.Fits) ∧ (gcf.Lies W Agcf ∧ gcf.len ≤ 9223372036854775807 ∧ gcf.Fits) ∧ (gks.Lies W Agks ∧ gks.len ≤ 9223372036854775807 ∧ gks.Fits) ∧ (qf.Lies W Aqf ∧ qf.len ≤ 9223372036854775807 ∧ qf.Fits) := by
  obtain ⟨xs, m, _, _, _, hxl, hf⟩ := DataW.trod_struct Tryd.underlying44 h
  match xs, hxl with
  | [y0, y1, y2], _ =>
    have g0 : DataW.trod enc Tryd.prog W 0 (fun _ => true) true m 26 [v_0, v_1, v_2] = some y0 := hf 0 _ rfl
    have g1 : DataW.trod enc Tryd.prog W 0 (fun _ => true) true m 29 [v_3, v_4, v_5, v_6, v_7, v_8] = some y1 := hf 1 _ rfl
    have g2 : DataW.trod enc Tryd.prog W 0 (fun _ => true) true m 26 [v_9, v_10, v_11] = some y2 := hf 2 _ rfl
    obtain ⟨pk, pn, pf, Apf, Cpf, rfl, rfl, rfl, l_pf⟩ := lExpr_cells g0
    obtain ⟨gk, gn, gck, gcn, gcf, gks, Agcf, Agks, Cgcf, Cgks, rfl, rfl, rfl, rfl, rfl, rfl, l_gcf, l_gks⟩ := lProg_cells g1
    obtain ⟨qk, qn, qf, Aqf, Cqf, rfl, rfl, rfl, l_qf⟩ := lExpr_cells g2
    exact ⟨pk, pn, pf, gk, gn, gck, gcn, gcf, gks, qk, qn, qf, Apf, Agcf, Agks, Aqf, Cpf, Cgcf, Cgks, Cqf, rfl, rfl, rfl, rfl, rfl, rfl, rfl, rfl, rfl, rfl, rfl, rfl, l_pf, l_gcf, l_gks, l_qf⟩

theorem arrTriple {α : Type} {cs : Array α} (h : cs.size = 12) : ∃ v0 v1 v2 v3 v4 v5 v6 v7 v8 v9 v10 v11, cs = #[v0, v1, v2, v3, v4, v5, v6, v7, v8, v9, v10, v11] := by
  obtain ⟨l⟩ := cs
  match l, h with
  | [v0, v1, v2, v3, v4, v5, v6, v7, v8, v9, v10, v11], _ => exact ⟨v0, v1, v2, v3, v4, v5, v6, v7, v8, v9, v10, v11, rfl⟩
theorem Tryd.cellsVTriple : Tryd.prog.cellsOf 44 = 12 := by kernel_rfl
set_option maxRecDepth 100000 in
theorem lTriple_open {H : Type} {enc : TypeId × Value → H} {W : World} {base : Nat} {v : Value} {d : DataW H} {p : List MemPlace} (hok : Value.okWide Tryd.prog W .any base 44 v) (h : DataW.Trod enc Tryd.prog W 0 (fun _ => true) true 44 v d p) :
    ∃ (pk : Int) (pn : Int) (pf : Fo) (gk : Int) (gn : Int) (gck : Int) (gcn : Int) (gcf : Fo) (gks : Pg) (qk : Int) (qn : Int) (qf : Fo) (Apf Agcf Agks Aqf : Option Addr) (Cpf Cgcf Cgks Cqf : Nat), v = .agg #[.int .i64 pk, .int .i64 pn, .slice Apf pf.len Cpf, .int .i64 gk, .int .i64 gn, .int .i64 gck, .int .i64 gcn, .slice Agcf gcf.len Cgcf, .slice Agks gks.len Cgks, .int .i64 qk, .int .i64 qn, .slice Aqf qf.len Cqf] ∧ (pf.Lies W Apf ∧ pf.len ≤ 9223372036854775807 ∧ pf.Fits) ∧ (gcf.Lies W Agcf ∧ gcf.len ≤ 9223372036854775807 ∧ gcf.Fits) ∧ (gks.Lies W Agks ∧ gks.len ≤ 9223372036854775807 ∧ gks.Fits) ∧ (qf.Lies W Aqf ∧ qf.len ≤ 9223372036854775807 ∧ qf.Fits) := by
  obtain ⟨cs, rfl, hsz⟩ := okWide_struct Tryd.underlying44 hok
  obtain ⟨v0, v1, v2, v3, v4, v5, v6, v7, v8, v9, v10, v11, rfl⟩ := arrTriple (hsz.trans Tryd.cellsVTriple)
  obtain ⟨fuel, hf0⟩ := h
  have hf1 : DataW.trod enc Tryd.prog W 0 (fun _ => true) true fuel 44 [v0, v1, v2, v3, v4, v5, v6, v7, v8, v9, v10, v11] = some (d, p) := hf0
  obtain ⟨pk, pn, pf, gk, gn, gck, gcn, gcf, gks, qk, qn, qf, Apf, Agcf, Agks, Aqf, Cpf, Cgcf, Cgks, Cqf, rfl, rfl, rfl, rfl, rfl, rfl, rfl, rfl, rfl, rfl, rfl, rfl, l_pf, l_gcf, l_gks, l_qf⟩ := lTriple_cells hf1
  exact ⟨pk, pn, pf, gk, gn, gck, gcn, gcf, gks, qk, qn, qf, Apf, Agcf, Agks, Aqf, Cpf, Cgcf, Cgks, Cqf, rfl, l_pf, l_gcf, l_gks, l_qf⟩
end Go.Proofs.YtojheipllpkgdaaDoor

namespace Go.Proofs.YtojheipllpkgdaaDoor
open Go.RowKit Go.WideShapes Go.ChangeShapes Go.ChangeAt Go.WideElems
set_option linter.unusedVariables false

section
variable {H : Type} {enc : TypeId × Value → H} {P : Program}
theorem var_stays (hl : laidOutB P = true) {W W' : World} {sp : Nat → Bool} (hb : Below W.heap.size W W') {n : String} {gs : List (DataW H)} {ps : List MemPlace} {g : Nat} {t : TypeId} (hg : P.globalNamed n = some g) (ht : (P.globals[g]?).map (·.type) = some t)
    (hr : P.readableRec t = true) (hz : t < P.types.size) (h : DataW.TrodVars enc P W (fun _ => true) [n] gs ps) (hlt : ∀ x ∈ ps, x.block < W.heap.size) (hs : ∀ x ∈ ps, sp x.block = true) : DataW.TrodVars enc P W' sp [n] gs ps := by
  obtain ⟨g', t', cs, fuel, d, p, rfl, h1, h2, h3, h4, rfl⟩ := trodVars_one h
  obtain rfl := Option.some.inj (hg.symm.trans h1)
  obtain rfl := Option.some.inj (ht.symm.trans h2)
  have hbl : g < W.heap.size := by
    unfold World.var? at h3
    rw [h1] at h3
    simp only [Option.bind_some] at h3
    cases hh : W.heap[g]? with
    | none => rw [hh] at h3; cases h3
    | some o => exact (Array.getElem?_eq_some_iff.1 hh).1
  refine trodVars_mk1 h1 h2 ?_ (DataW.trod_stays (kids_book hl hr) (book_sized hr) (fun h => by cases h) ⟨hz, book_self t⟩ h4 (fun x hx => hb.same (hlt x (by simp [hx]))) (fun x hx => hs x (by simp [hx])))
  unfold World.var? at h3 ⊢
  rw [h1] at h3 ⊢
  simp only [Option.bind_some] at h3 ⊢
  rw [hb.block g hbl]
  exact h3
end

theorem gForms : Tryd.prog.globalNamed "loop.example/g01101/impl.progForms" = some 0 := by kernel_rfl
theorem tForms : (Tryd.prog.globals[0]?).map (·.type) = some 129 := by kernel_rfl
section
variable {H : Type} {enc : TypeId × Value → H}
theorem form_cells {W : World} {base : Nat} {sp : Nat → Bool} {held : Bool} {m : Nat} {cs : List Value} {x : DataW H × List MemPlace} {Ws : DataW H} {hn hc : Bool} {kids : Int} (h : DataW.trod enc Tryd.prog W base sp held m 128 cs = some x) (hx : x.1 = .agg [Ws, .lit (.bool hn), .lit (.bool hc), .lit (.int .i64 kids)]) :
    (∃ A l C, cs[0]? = some (.slice A l C)) ∧ cs[1]? = some (.bool hn) ∧ cs[2]? = some (.bool hc) ∧ cs[3]? = some (.int .i64 kids) := by
  obtain ⟨ys, n, _, rfl, hl, hlen, hf⟩ := DataW.trod_struct Tryd.underlying128 h
  have h0 : DataW.trod enc Tryd.prog W base sp held n 126 ((cs.drop 0).take (Tryd.prog.cellsOf 126)) = ys[0]? := hf 0 _ rfl
  have h1 : DataW.trod enc Tryd.prog W base sp held n 4 ((cs.drop 1).take (Tryd.prog.cellsOf 4)) = ys[1]? := hf 1 _ rfl
  have h2 : DataW.trod enc Tryd.prog W base sp held n 4 ((cs.drop 2).take (Tryd.prog.cellsOf 4)) = ys[2]? := hf 2 _ rfl
  have h3 : DataW.trod enc Tryd.prog W base sp held n 3 ((cs.drop 3).take (Tryd.prog.cellsOf 3)) = ys[3]? := hf 3 _ rfl
  have c0 : Tryd.prog.cellsOf 126 = 1 := by kernel_rfl
  have c1 : Tryd.prog.cellsOf 4 = 1 := by kernel_rfl
  have c3 : Tryd.prog.cellsOf 3 = 1 := by kernel_rfl
  have hy : ys.length = 4 := hlen
  match ys, hy with
  | [y0, y1, y2, y3], _ =>
  simp only [List.map_cons, List.map_nil, DataW.agg.injEq, List.cons.injEq, and_true] at hx
  obtain ⟨_, e1, e2, e3⟩ := hx
  rw [c0] at h0
  rw [c1] at h1 h2
  rw [c3] at h3
  have g1 : DataW.trod enc Tryd.prog W base sp held n 4 ((cs.drop 1).take 1) = some y1 := h1
  have g2 : DataW.trod enc Tryd.prog W base sp held n 4 ((cs.drop 2).take 1) = some y2 := h2
  have g3 : DataW.trod enc Tryd.prog W base sp held n 3 ((cs.drop 3).take 1) = some y3 := h3
  have g0 : DataW.trod enc Tryd.prog W base sp held n 126 ((cs.drop 0).take 1) = some y0 := h0
  have pick : ∀ (k : Nat) (v : Value), (cs.drop k).take 1 = [v] → cs[k]? = some v := fun k v h => by
    have h4 : ((cs.drop k).take 1)[0]? = some v := by rw [h]; rfl
    simpa using h4
  obtain ⟨b1, q1, r1⟩ := DataW.trod_bool Tryd.underlying4 g1
  obtain ⟨b2, q2, r2⟩ := DataW.trod_bool Tryd.underlying4 g2
  obtain ⟨b3, q3, r3, _⟩ := DataW.trod_int Tryd.underlying3 g3
  rw [r1] at e1
  rw [r2] at e2
  rw [r3] at e3
  simp only [DataW.lit.injEq, Lit.bool.injEq, Lit.int.injEq, true_and] at e1 e2 e3
  subst e1 e2 e3
  refine ⟨?_, pick 1 _ q1, pick 2 _ q2, pick 3 _ q3⟩
  rcases DataW.trod_slice Tryd.underlying126 g0 with ⟨h, _⟩ | ⟨a, len, cap, _, _, _, _, h, _⟩
  · exact ⟨_, _, _, pick 0 _ h⟩
  · exact ⟨_, _, _, pick 0 _ h⟩
end
theorem forms_of {W : World} (h : laidMetH Tryd.prog Rows.fnExactValidProgRow.laid W) : Forms W := by
  rw [MakeChecks.laidMetH_plain _ _ _ (by kernel_rfl)] at h
  obtain ⟨ps, ⟨g0, t0, cs0, f0, p0, q0, hg0, ht0, hv0, hd0, _, _⟩, _, _⟩ := h
  obtain rfl := Option.some.inj (gForms.symm.trans hg0)
  obtain rfl := Option.some.inj (tForms.symm.trans ht0)
  obtain ⟨xs, m1, rfl, hx1, hlen, hn3, hel⟩ := DataW.trod_array Tryd.underlying129 hd0
  have cS : Tryd.prog.cellsOf 128 = 4 := by kernel_rfl
  simp only [Prod.mk.injEq] at hx1
  have hx2 := hx1.1
  unfold Rows.laid_loop_example_g01101_impl_progForms at hx2
  simp only [DataW.agg.injEq] at hx2
  have one : ∀ (i : Nat) (Ws : DataW Unit) (hn hc : Bool) (kids : Int), i < 8 → (xs.map (·.1))[i]? = some (.agg [Ws, .lit (.bool hn), .lit (.bool hc), .lit (.int .i64 kids)]) → FormAt W i hn hc kids := fun i Ws hn hc kids hi hxi => by
    have h := hel i hi
    rw [cS] at h
    rw [List.getElem?_map] at hxi
    obtain ⟨x, hx, hx3⟩ := Option.map_eq_some_iff.1 hxi
    rw [hx] at h
    obtain ⟨⟨A, l, C, c0⟩, c1, c2, c3⟩ := form_cells h hx3
    have cell : ∀ (j : Nat) (v : Value), j < 4 → ((cs0.toList.drop (i * 4)).take 4)[j]? = some v → W.cell? ⟨0, 4 * i + j, none⟩ = some v := fun j v hj hv => by
      rw [World.var?_cell hg0 hv0 (4 * i + j)]
      rw [List.getElem?_take, if_pos hj, List.getElem?_drop] at hv
      rw [← Array.getElem?_toList, show 4 * i + j = i * 4 + j by omega]
      exact hv
    exact ⟨A, l, C, cell 0 _ (by omega) c0, cell 1 _ (by omega) c1, cell 2 _ (by omega) c2, cell 3 _ (by omega) c3⟩
  exact ⟨one 1 _ _ _ _ (by decide) (by rw [← hx2]; rfl), one 2 _ _ _ _ (by decide) (by rw [← hx2]; rfl), one 3 _ _ _ _ (by decide) (by rw [← hx2]; rfl), one 4 _ _ _ _ (by decide) (by rw [← hx2]; rfl), one 5 _ _ _ _ (by decide) (by rw [← hx2]; rfl), one 6 _ _ _ _ (by decide) (by rw [← hx2]; rfl), one 7 _ _ _ _ (by decide) (by rw [← hx2]; rfl)⟩
end Go.Proofs.YtojheipllpkgdaaDoor

namespace Go.Proofs.YtojheipllpkgdaaDoor
open Go.RowKit Go.WideShapes Go.ChangeShapes Go.ChangeAt Go.Deep Go.WideElems
set_option linter.unusedVariables false

theorem door_met (os : Os) (args : Array Value) : laidMetH Tryd.prog Rows.fnExactValidTripleRow.laid ((World.doorLaid Tryd.prog 400 os).forCall (fun _ _ => 0) ⟨#[], args, []⟩).memory :=
  laidMetH_of_parts3 (fuel := 8) (laidMet_of_run' 8 (by kernel_rfl) (by kernel_rfl)) (by kernel_rfl) (by kernel_rfl)

set_option maxRecDepth 100000 in
theorem validTriple_lifted (os : Os) (started : os.Started) (H : Type) (enc : TypeId × Value → H) :
    ReturnsInHanded {} Tryd.checked os 4 .any (fun w args => (Rows.fnExactValidTripleSpec.pre enc Tryd.prog Tryd.f4 [] false w args ∧ laidMetH Tryd.prog Rows.fnExactValidTripleRow.laid w) ∧ sizedMet enc Tryd.prog Tryd.f4 (OpenSpec.ofChange Rows.fnExactValidTripleSpec) false w args)
      (Rows.fnExactValidTripleSpec.post enc Tryd.prog Tryd.f4 false true false false) := by
  refine returnsInHanded_of_change_and (C := Tryd.checked) (X := fun w _ => laidMetH Tryd.prog Rows.fnExactValidTripleRow.laid w) (fun _ _ _ hh h => h.of_heap hh) Tryd.own started (by kernel_rfl) Tryd.func4
    (ChangeSpec.witness_shaped (enc := enc) (C := Tryd.checked) (os := os) (X := fun w _ => laidMetH Tryd.prog Rows.fnExactValidTripleRow.laid w) false (World.doorLaid Tryd.prog 400 os) #[.agg #[.int .i64 0, .int .i64 0], .agg #[.int .i64 0, .int .i64 0, .slice none 0 0, .int .i64 0, .int .i64 0, .int .i64 0, .int .i64 0, .slice none 0 0, .slice none 0 0, .int .i64 0, .int .i64 0, .slice none 0 0]] 8 rfl (World.shaped_of_RefB (by kernel_rfl) (by kernel_rfl)) (by kernel_rfl) (by kernel_rfl) (by kernel_rfl) (door_met os _)) ?_
  intro W base args ds gs before hval0 hW _ _ hL _
  have hval : ∀ (j : Nat) t v, Tryd.f4.params[j]? = some t → args[j]? = some v → Value.okWide Tryd.prog W .any base t v := hval0
  have hW' := hW
  obtain ⟨p, q, hA0, hV, rfl, _, _⟩ := hW
  have hA : DataW.TrodAll enc Tryd.prog W 0 (fun _ => true) true Tryd.f4.params.toList args.toList ds p := hA0
  rw [Tryd.params4] at hA hval
  obtain ⟨v0, v1, d0, d1, z0, z1, rfl, rfl, rfl, h0, h1⟩ := trodAll_two hA
  obtain ⟨t0, a0, rfl, wt0, wa0⟩ := lsig_open (hval 0 23 v0 rfl rfl) h0
  obtain ⟨pk1, pn1, pf1, gk1, gn1, gck1, gcn1, gcf1, gks1, qk1, qn1, qf1, Apf1, Agcf1, Agks1, Aqf1, Cpf1, Cgcf1, Cgks1, Cqf1, rfl, l_pf1, l_gcf1, l_gks1, l_qf1⟩ := lTriple_open (hval 1 44 v1 rfl rfl) h1
  have hV1 : DataW.TrodVars enc Tryd.prog W (fun _ => true) ["loop.example/g01101/impl.progForms"] gs q := hV
  have hgs : ∃ d1, gs = [d1] := by obtain ⟨_, _, _, _, d1, _, h, _⟩ := trodVars_one hV1; exact ⟨d1, h⟩
  obtain ⟨d1, rfl⟩ := hgs
  have hF := forms_of hL
  have hA0' := hA0
  clear hA0 hval0
  refine (lawValidTriple t0 a0 pk1 pn1 pf1 gk1 gn1 gck1 gcn1 gcf1 gks1 qk1 qn1 qf1 Apf1 Agcf1 Agks1 Aqf1 Cpf1 Cgcf1 Cgks1 Cqf1 W (fun h0 W' Z1 Z2 Z3 Z4 m1 m2 m3 m4 => specValidTriple_any t0 a0 pk1 pn1 pf1 gk1 gn1 gck1 gcn1 gcf1 gks1 qk1 qn1 qf1 h0 l_pf1.2.2 l_gcf1.2.2 l_gks1.2.2 l_qf1.2.2 Z1 Z2 Z3 Z4 _ _ _ _ W' m1 m2 m3 m4) (fun h0 W' Z1 Z2 Z3 Z4 hs m1 m2 m3 m4 => implValidTriple_any t0 a0 pk1 pn1 pf1 gk1 gn1 gck1 gcn1 gcf1 gks1 qk1 qn1 qf1 h0 l_pf1.2.2 l_gcf1.2.2 l_gks1.2.2 l_qf1.2.2 Z1 Z2 Z3 Z4 _ _ _ _ W' m1 m2 m3 m4 (hF.sees hs)) l_pf1.2 l_gcf1.2 l_gks1.2 l_qf1.2 l_pf1.1 l_gcf1.1 l_gks1.1 l_qf1.1).mono fun e W' ⟨he, hb⟩ => ?_
  subst he
  refine ⟨_, rfl, post_of_below (pa := _) (pv := q) hW' ?_ ?_ ?_ rfl hb ?_⟩
  · intro b sp hd
    exact trodAll_mk1 (shut_bool Tryd.underlying4 _)
  · intro sp hsp
    exact trodAll_stays Tryd.laidOut hb (by rw [Tryd.params4]; intro t ht; simp at ht; rcases ht with rfl | rfl <;> exact ⟨by kernel_rfl, of_decide_eq_true (by kernel_rfl)⟩) hA0' (fun x hx => hW'.lt x (List.mem_append_left _ hx)) (fun x hx => hsp x (List.mem_append_left _ hx))
  · intro sp hsp
    exact var_stays Tryd.laidOut hb gForms tForms (by kernel_rfl) (of_decide_eq_true (by kernel_rfl)) hV1 (fun x hx => hW'.lt x (List.mem_append_right _ hx)) (fun x hx => hsp x (List.mem_append_right _ hx))
  · exact ok_one (by kernel_rfl) rfl (okWide_bool_mk Tryd.underlying4 _)

theorem validTriple_holds : Rows.FnExactValidTripleSaid :=
  OpenClaim.holds_of_wide 4 Tryd.f4 rfl rfl rfl rfl rfl rfl rfl ⟨rfl, rfl, rfl, rfl, rfl⟩ rfl rfl rfl rfl rfl (by kernel_rfl) Tryd.func4 (by kernel_rfl)
    (of_decide_eq_true (by kernel_rfl)) (by unfold Func.isWrapper; first | (rw [if_pos (by decide +kernel)]; kernel_rfl) | (rw [if_neg (by decide +kernel)]; exact ⟨rfl, rfl⟩))
    (fun os started H enc _ => validTriple_lifted os started H enc)

set_option maxRecDepth 100000 in
theorem validTriple_plain (f : FuncId) (fn : Func) (hf : Tryd.pinned.checked.prog.funcNamed "loop.example/g01101/laws.FnExactValidTriple" = some f) (hfn : Tryd.pinned.checked.prog.funcs[f]? = some fn) :
    true = Tryd.pinned.checked.prog.looks [] ∧ ∀ (j : Nat) t, fn.params[j]? = some t → Tryd.pinned.checked.prog.wantsStandIn t = false := by
  obtain rfl : f = 4 := Option.some.inj ((show Tryd.prog.funcNamed "loop.example/g01101/laws.FnExactValidTriple" = some 4 by kernel_rfl).symm.trans hf) |>.symm
  obtain rfl : fn = Tryd.f4 := (Option.some.inj (Tryd.func4.symm.trans hfn)).symm
  refine ⟨by kernel_rfl, fun j t ht => ?_⟩
  rw [Tryd.params4] at ht
  have h := Array.mem_of_getElem? ht
  simp at h
  rcases h with rfl | rfl
  · exact (show Tryd.prog.wantsStandIn 23 = false by kernel_rfl)
  · exact (show Tryd.prog.wantsStandIn 44 = false by kernel_rfl)

/-- The card. -/
theorem validTriple_card : Rows.FnExactValidTripleCardSaid :=
  Claim7.holds_tied_plain_at .later [] _ _ _ _ validTriple_holds (fun _ h => by cases h) (by kernel_rfl) (fun _ h => by cases h) fnExactValidTriple_row_tie rfl ⟨rfl, rfl⟩ (by kernel_rfl) rfl validTriple_plain (by kernel_rfl)
#print axioms validTriple_card
end Go.Proofs.YtojheipllpkgdaaDoor
