/- The laws' comparisons of pipes and networks that are the same: contracts. Conditions: each theorem's own premises. -/
import Derived.Test.YtlkomipjamelkabToOne
namespace Go.Proofs.Ytlkomipjamelkab.S2
open Go.RowKit P2



end Go.Proofs.Ytlkomipjamelkab.S2
