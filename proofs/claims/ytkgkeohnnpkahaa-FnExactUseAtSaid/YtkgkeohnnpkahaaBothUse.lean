/- The laws FnExactUseAt and FnExactVolumeBetween on their two sides: contracts. Conditions: each theorem's own premises. -/
import Derived.Test.YtkgkeohnnpkahaaWalkUseAt
import Derived.Test.YtkgkeohnnpkahaaPfUse
namespace Go.Proofs.Ytkgkeohnnpkahaa.S6
open Go.RowKit P6
theorem law_use (A : Option Addr) (c : Nat) (l : List Int) (b x : Int) (w : World) (h : IAt w A l) (hm : l.length ≤ maxLen) :
    Calls Try.prog 7 #[dv A l.length c, .int .i64 b, .int .i64 x] w fun e w' => e = .returned (.bool true) ∧ Below w.heap.size w w' := by
  cases hn : gdB l && baB b && hoB x with
  | false =>
    exact walkUseAt A c l b x w h hm 0 0 false (fun A c w h hm => suse_no A c l b x w h hm hn) (fun A c w h hm => use_no A c l b x w h hm hn)
  | true =>
    simp only [Bool.and_eq_true] at hn
    obtain ⟨⟨hg, hb⟩, hx⟩ := hn
    have hb' : 0 ≤ b ∧ b ≤ 100000 := by simpa [baB] using hb
    have hx' : 0 ≤ x ∧ x ≤ 23 := by simpa [hoB] using hx
    obtain ⟨B, rfl⟩ := nat_of hb'.1
    obtain ⟨X, rfl⟩ := nat_of hx'.1
    exact walkUseAt A c l B X w h hm _ _ true (fun A c w h _ => suse_yes A c l B X w h (gd_of hg) (by omega) (by omega)) (fun A c w h _ => use_yes A c l B X w h (gd_of hg) (by omega) (by omega))
end Go.Proofs.Ytkgkeohnnpkahaa.S6
