/- A plan's volume read off a value. Conditions: its own premises. -/
import Derived.Test.YtlkomipjamelkaaPuMem
namespace Go.Proofs.Ytlkomipjamelkaa.S13
open Go.RowKit P11 S11 P13
theorem plv_vol (kn : Bool) (q : Pl) (w : World) : (Instr.field 60 (plv kn q) 3).run Try.prog w = .ok (.int .i64 q.vol) w := by
  unfold Instr.field
  simp [run_underlying Try.underlying60, go_sem, asAgg]
end Go.Proofs.Ytlkomipjamelkaa.S13
