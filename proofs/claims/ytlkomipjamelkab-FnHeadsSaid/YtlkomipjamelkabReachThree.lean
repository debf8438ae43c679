/- ReachedFrom of the model, and the law's two sides: contracts. Conditions: each theorem's own premises. -/
import Derived.Test.YtlkomipjamelkabReachTwo
import Derived.Test.YtlkomipjamelkabNodeOne
namespace Go.Proofs.Ytlkomipjamelkab.S2
open Go.RowKit P2



theorem conL_len (n : Nat) (ps : List Pp) (t : Int) : (conL n ps t).length ≤ n + 1 := conTo_len _ _
end Go.Proofs.Ytlkomipjamelkab.S2
