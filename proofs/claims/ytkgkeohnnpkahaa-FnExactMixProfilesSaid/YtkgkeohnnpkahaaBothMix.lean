/- The law FnExactMixProfiles on its two sides: contracts. Conditions: each theorem's own premises. -/
import Derived.Test.YtkgkeohnnpkahaaWalkMixProfiles
import Derived.Test.YtkgkeohnnpkahaaPfMix
namespace Go.Proofs.Ytkgkeohnnpkahaa.S6
open Go.RowKit P6
theorem law_mix (A : Option Addr) (c : Nat) (l : List Int) (A2 : Option Addr) (c2 : Nat) (l2 : List Int) (s : Int) (w : World) (h : IAt w A l) (hm : l.length ≤ maxLen) (h2 : IAt w A2 l2) (hm2 : l2.length ≤ maxLen) :
    Calls Try.prog 11 #[dv A l.length c, dv A2 l2.length c2, .int .i64 s] w fun e w' => e = .returned (.bool true) ∧ Below w.heap.size w w' := by
  cases hn : gdB l && gdB l2 && scB s with
  | false => exact walkMixProfiles A c l A2 c2 l2 s w h hm h2 hm2 [] false (by simp) (fun A c A2 c2 w h hm h2 hm2 => smix_no A c l A2 c2 l2 s w h hm h2 hm2 hn) (fun A c A2 c2 w h hm h2 hm2 => mix_no A c l A2 c2 l2 s w h hm h2 hm2 hn)
  | true =>
    simp only [Bool.and_eq_true] at hn
    obtain ⟨⟨hg, hg2⟩, hs⟩ := hn
    have hs' : 0 ≤ s ∧ s ≤ 100 := by simpa [scB] using hs
    exact walkMixProfiles A c l A2 c2 l2 s w h hm h2 hm2 (mxL l l2 s 24) true (by rw [mxL_len]; omega) (fun A c A2 c2 w h _ h2 _ => smix_yes A c l A2 c2 l2 s w h (gd_of hg) h2 (gd_of hg2) hs'.1 hs'.2) (fun A c A2 c2 w h _ h2 _ => mix_yes A c l A2 c2 l2 s w h (gd_of hg) h2 (gd_of hg2) hs'.1 hs'.2)
end Go.Proofs.Ytkgkeohnnpkahaa.S6
