/- Marks in a slice of numbers, with all that stays: contracts. Conditions: each theorem's own premises. -/
import Derived.Test.YtjfpimldiokpbabMarkNet
namespace Go.Proofs.Ytjfpimldiokpbab.S2
open Go.RowKit P2


end Go.Proofs.Ytjfpimldiokpbab.S2
