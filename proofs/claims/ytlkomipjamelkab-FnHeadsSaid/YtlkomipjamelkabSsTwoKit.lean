/- Marks in a slice of numbers, with all that stays: contracts. Conditions: each theorem's own premises. -/
import Derived.Test.YtlkomipjamelkabMarkNet
namespace Go.Proofs.Ytlkomipjamelkab.S2
open Go.RowKit P2


end Go.Proofs.Ytlkomipjamelkab.S2
