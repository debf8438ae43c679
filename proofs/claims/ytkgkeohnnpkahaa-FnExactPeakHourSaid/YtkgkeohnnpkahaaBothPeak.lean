/- The law FnExactPeakHour on its two sides: contracts. Conditions: each theorem's own premises. -/
import Derived.Test.YtkgkeohnnpkahaaWalkPeakHour
import Derived.Test.YtkgkeohnnpkahaaPfPeak
namespace Go.Proofs.Ytkgkeohnnpkahaa.S6
open Go.RowKit P6
theorem law_peak (A : Option Addr) (c : Nat) (l : List Int) (w : World) (h : IAt w A l) (hm : l.length ≤ maxLen) :
    Calls Try.prog 8 #[dv A l.length c] w fun e w' => e = .returned (.bool true) ∧ Below w.heap.size w w' := by
  cases hn : gdB l with
  | false => exact walkPeakHour A c l w h hm 0 0 false (fun A c w h hm => speak_no A c l w h hm hn) (fun A c w h hm => peak_no A c l w h hm hn)
  | true => exact walkPeakHour A c l w h hm _ _ true (fun A c w h _ => speak_yes A c l w h (gd_of hn)) (fun A c w h _ => peak_yes A c l w h (gd_of hn))
end Go.Proofs.Ytkgkeohnnpkahaa.S6
