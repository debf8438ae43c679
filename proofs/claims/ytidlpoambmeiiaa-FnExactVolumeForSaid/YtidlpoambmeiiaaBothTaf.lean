/- VolumeFor: both sides. Conditions: each theorem's own premises. -/
import Derived.Test.YtidlpoambmeiiaaWalkTaf
import Derived.Test.YtidlpoambmeiiaaTaNxS
import Derived.Test.YtidlpoambmeiiaaTaNx
namespace Go.Proofs.Ytidlpoambmeiiaa.S14
open Go.RowKit P14

theorem law_taf (t0 : Ta) (A0 : Option Addr) (c0 : Nat) (x1 : Int) (w : World) (hx0 : CAt w A0 t0.bs) (hm0 : t0.bs.length ≤ maxLen) :
    Calls Try.prog 6 #[tv t0 A0 c0, .int .i64 x1] w fun e w' => e = .returned (.bool true) ∧ Below w.heap.size w w' :=
  walkVolumeFor t0 A0 c0 x1 w hx0 hm0 (vfR t0 x1) (vfV t0 x1) (fun A0 c0 w h0 => svolume_any t0 A0 c0 x1 w h0) (fun A0 c0 w h0 => volume_any t0 A0 c0 x1 w h0)
end Go.Proofs.Ytidlpoambmeiiaa.S14
