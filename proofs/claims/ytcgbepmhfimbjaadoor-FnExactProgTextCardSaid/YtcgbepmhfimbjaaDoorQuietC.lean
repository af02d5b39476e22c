/- A region that draws its order, whose operations read and whose calls make memory alone: one walk of the text's order serves every order. -/
import Derived.Test.YtcgbepmhfimbjaaDoorSep
import Derived.Deep.QuietTactic
import Derived.BigQuiet
namespace Go.Proofs.YtcgbepmhfimbjaaDoor
open Go.RowKit

theorem wp_region_quietC (w0 : World) (L : List (Nat × Nat × Value)) {P : Program} {id : Nat} {Q : Exit → Act → World → Prop} {a : Act} {w : World} {l : List Oper} (hm : P.follows .mixedOrders = true) (hB : Region.lexB .any l.toArray = true) (hC : St w0 L w)
    (h : wpQuiet P l.toArray (St w0 L) (fun a' => ∀ w', St w0 L w' → Q .normal a' w') l a) : (Code.region id l.toArray true).wp P Q a w :=
  wp_region_quiet (C := St w0 L) hm hB hC.drew (by simpa using h)

/-- One operation: what it yields in every world of the class. -/
theorem quietC_op {P : Program} {o : Oper} {a : Act} {C : World → Prop} {K : Act → Prop} (v : Value) (h : ∀ W, C W → o.quietAt P a C W v) (hk : K (a.put o.dst v)) : o.quiet P a C K := ⟨v, h, hk⟩

/-- A call: what it answers, wherever it is made in the class. -/
theorem quietC_call {P : Program} {w0 : World} {L : List (Nat × Nat × Value)} {f : FuncId} {args : Array Value} {W : World} {v : Value} (hW : St w0 L W) (h : Calls P f args W fun e w' => e = .returned v ∧ Below W.heap.size W w') :
    Calls P f args W fun e w' => e = .returned v ∧ St w0 L w' := h.mono fun _ _ ⟨he, hb⟩ => ⟨he, hW.below hb⟩

end Go.Proofs.YtcgbepmhfimbjaaDoor
