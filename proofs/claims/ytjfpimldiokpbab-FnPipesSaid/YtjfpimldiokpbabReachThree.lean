/- ReachedFrom of the model, and the law's two sides: contracts. Conditions: each theorem's own premises. -/
import Derived.Test.YtjfpimldiokpbabReachTwo
import Derived.Test.YtjfpimldiokpbabNodeOne
namespace Go.Proofs.Ytjfpimldiokpbab.S2
open Go.RowKit P2



theorem conL_len (n : Nat) (ps : List Pp) (t : Int) : (conL n ps t).length ≤ n + 1 := conTo_len _ _
end Go.Proofs.Ytjfpimldiokpbab.S2
