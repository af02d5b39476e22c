/- Equations in the laws: their sizes, copies and comparisons. -/
import Derived.Test.YtlpgkhdecccmlaaRSz
import Derived.Test.YtlpgkhdecccmlaaRTo
import Derived.Test.YtlpgkhdecccmlaaREq
import Derived.Test.YtlpgkhdecccmlaaRSep
import Derived.Deep.RegionHeld3
namespace Go.Proofs.YtlpgkhdecccmlaaR
open Go.RowKit

/-- An equation's two sides, in blocks of their own. -/
def EqIn (w : World) (f g : Fo) (lo hi : Nat) (A B : Option Addr) : Prop := ∃ m, f.SepIn w lo m A ∧ g.SepIn w m hi B
theorem EqIn.lies1 {w : World} {f g : Fo} {lo hi : Nat} {A B : Option Addr} (h : EqIn w f g lo hi A B) : f.Lies w A := let ⟨_, h1, _⟩ := h; h1.lies
theorem EqIn.lies2 {w : World} {f g : Fo} {lo hi : Nat} {A B : Option Addr} (h : EqIn w f g lo hi A B) : g.Lies w B := let ⟨_, _, h2⟩ := h; h2.lies

section
variable {W : World} {s : Nat} {x0 x1 x2 x3 x4 x5 : Value} {T : TypeId}
theorem cells6 (h : W.heap[s]? = some (.cells #[x0, x1, x2, x3, x4, x5] T (0, 0))) : (W.cell? ⟨s, 0, none⟩ = some x0 ∧ W.cell? ⟨s, 1, none⟩ = some x1 ∧ W.cell? ⟨s, 2, none⟩ = some x2 ∧ W.cell? ⟨s, 3, none⟩ = some x3 ∧ W.cell? ⟨s, 4, none⟩ = some x4 ∧ W.cell? ⟨s, 5, none⟩ = some x5) ∧
    W.frozen? ⟨s, 0, none⟩ = false ∧ W.frozen? ⟨s, 1, none⟩ = false ∧ W.frozen? ⟨s, 2, none⟩ = false ∧ W.frozen? ⟨s, 3, none⟩ = false ∧ W.frozen? ⟨s, 4, none⟩ = false ∧ W.frozen? ⟨s, 5, none⟩ = false :=
  ⟨⟨Fo.cell_of_block h 0, Fo.cell_of_block h 1, Fo.cell_of_block h 2, Fo.cell_of_block h 3, Fo.cell_of_block h 4, Fo.cell_of_block h 5⟩, Fo.unfrozen_of_block h 0, Fo.unfrozen_of_block h 1, Fo.unfrozen_of_block h 2, Fo.unfrozen_of_block h 3, Fo.unfrozen_of_block h 4, Fo.unfrozen_of_block h 5⟩
end

end Go.Proofs.YtlpgkhdecccmlaaR
