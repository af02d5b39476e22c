/- A variable that holds an error, at the beginning of a call and behind it. No walk. -/
import Derived.Test.YtlfafcbieeambaaDoorLaw
import Derived.LaidMore
import Derived.Carry
import Derived.ChangeOld
import Derived.Stop.Joined
import Derived.SevenTiedAt
import Derived.MakeChecks
namespace Go.Proofs.YtlfafcbieeambaaDoor
open Go.RowKit Go.WideShapes Go.ChangeShapes Go.ChangeAt Go.WideElems

section
variable {H : Type} {enc : TypeId × Value → H} {P : Program}
theorem trod_error {W : World} {base : Nat} {sp : Nat → Bool} {held : Bool} {fuel : Nat} {t : TypeId} {m} {cs : List Value} {n : String} {d : DataW H} {ps : List MemPlace} (ht : P.underlying t = some (.interface m)) (h : DataW.trod enc P W base sp held fuel t cs = some (.iface n d, ps)) : ∃ u v, cs = [.iface u v] := by
  cases fuel with
  | zero => simp [DataW.trod] at h
  | succ k =>
    unfold DataW.trod at h
    rw [ht] at h
    split at h <;> simp_all
theorem trod_error_stays {W W' : World} {base : Nat} {sp sp' : Nat → Bool} {fuel : Nat} {t : TypeId} {m} {cs : List Value} {x : DataW H × List MemPlace} (ht : P.underlying t = some (.interface m)) (h : DataW.trod enc P W base sp true fuel t cs = some x) : DataW.trod enc P W' base sp' true fuel t cs = some x := by
  cases fuel with
  | zero => simp [DataW.trod] at h
  | succ k =>
    unfold DataW.trod at h ⊢
    rw [ht] at h ⊢
    split at h <;> simp_all
theorem error_stays {W W' : World} {sp : Nat → Bool} (hb : Below W.heap.size W W') {n : String} {gs : List (DataW H)} {ps : List MemPlace} {g : Nat} {t : TypeId} {m} (hg : P.globalNamed n = some g) (ht : (P.globals[g]?).map (·.type) = some t) (hu : P.underlying t = some (.interface m))
    (h : DataW.TrodVars enc P W (fun _ => true) [n] gs ps) : DataW.TrodVars enc P W' sp [n] gs ps := by
  obtain ⟨g', t', cs, fuel, d, p, rfl, h1, h2, h3, h4, rfl⟩ := trodVars_one h
  obtain rfl := Option.some.inj (hg.symm.trans h1)
  obtain rfl := Option.some.inj (ht.symm.trans h2)
  have hbl : g < W.heap.size := by
    unfold World.var? at h3
    rw [h1] at h3
    simp only [Option.bind_some] at h3
    cases hh : W.heap[g]? with
    | none => rw [hh] at h3; cases h3
    | some o => exact (Array.getElem?_eq_some_iff.1 hh).1
  refine trodVars_mk1 h1 h2 ?_ (trod_error_stays hu h4)
  unfold World.var? at h3 ⊢
  rw [h1] at h3 ⊢
  simp only [Option.bind_some] at h3 ⊢
  rw [hb.block g hbl]
  exact h3
end

theorem gErr : Tryd.prog.globalNamed "loop.example/g01101/impl.errFailed" = some 1 := by kernel_rfl
theorem tErr : (Tryd.prog.globals[1]?).map (·.type) = some 96 := by kernel_rfl
theorem error_of {W : World} (h : laidMetH Tryd.prog Rows.fnExactFollowWordRow.laid W) : ∃ T v, W.cell? ⟨1, 0, none⟩ = some (.iface T v) := by
  rw [MakeChecks.laidMetH_plain _ _ _ (by kernel_rfl)] at h
  obtain ⟨ps, ⟨g0, t0, cs0, f0, p0, q0, hg0, ht0, hv0, hd0, _, _⟩, _, _⟩ := h
  obtain rfl := Option.some.inj (gErr.symm.trans hg0)
  obtain rfl := Option.some.inj (tErr.symm.trans ht0)
  obtain ⟨u, v, hcs⟩ := trod_error Tryd.underlying96 hd0
  refine ⟨u, v, ?_⟩
  rw [World.var?_cell hg0 hv0 0, ← Array.getElem?_toList, hcs]
  rfl
end Go.Proofs.YtlfafcbieeambaaDoor
