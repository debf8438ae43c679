/- An empty answer of the program. Conditions: each theorem's own premises. -/
import Derived.Test.YtlkomipjamelkabIntsOne
namespace Go.Proofs.Ytlkomipjamelkab.S2
open Go.RowKit P2
theorem gives_none {w w0 : World} (h : Below w0.heap.size w0 w) : GivesI w0 [] false (.returned (.tuple #[.slice (some ⟨w.heap.size, 0, none⟩) 0 0, .bool false])) (w.alloc (.cells #[] 3)) :=
  ⟨_, _, rfl, h.size, own_empty w w0.heap.size h.size, h.alloc h.size _⟩
end Go.Proofs.Ytlkomipjamelkab.S2
