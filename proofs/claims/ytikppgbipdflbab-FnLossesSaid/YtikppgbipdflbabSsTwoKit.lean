/- Marks in a slice of numbers, with all that stays: contracts. Conditions: each theorem's own premises. -/
import Derived.Test.YtikppgbipdflbabMarkNet
namespace Go.Proofs.Ytikppgbipdflbab.S2
open Go.RowKit P2


end Go.Proofs.Ytikppgbipdflbab.S2
