/- The law FnExactFlatProfile on its two sides: contracts. Conditions: each theorem's own premises. -/
import Derived.Test.YtkgkeohnnpkahaaWalkFlatProfile
import Derived.Test.YtkgkeohnnpkahaaPfFlat
namespace Go.Proofs.Ytkgkeohnnpkahaa.S6
open Go.RowKit P6
theorem law_flat (w : World) : Calls Try.prog 6 #[] w fun e w' => e = .returned (.bool true) ∧ Below w.heap.size w w' :=
  walkFlatProfile w flatL (by simp [flatL]) sflat_any flat_any
end Go.Proofs.Ytkgkeohnnpkahaa.S6
