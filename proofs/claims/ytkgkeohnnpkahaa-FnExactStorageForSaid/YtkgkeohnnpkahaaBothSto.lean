/- The law FnExactStorageFor on its two sides: contracts. Conditions: each theorem's own premises. -/
import Derived.Test.YtkgkeohnnpkahaaWalkStorageFor
import Derived.Test.YtkgkeohnnpkahaaPfSto
namespace Go.Proofs.Ytkgkeohnnpkahaa.S6
open Go.RowKit P6
theorem law_sto (A : Option Addr) (c : Nat) (l : List Int) (b : Int) (w : World) (h : IAt w A l) (hm : l.length ≤ maxLen) :
    Calls Try.prog 14 #[dv A l.length c, .int .i64 b] w fun e w' => e = .returned (.bool true) ∧ Below w.heap.size w w' := by
  cases hn : gdB l && baB b with
  | false => exact walkStorageFor A c l b w h hm 0 0 false (fun A c w h hm => ssto_no A c l b w h hm hn) (fun A c w h hm => sto_no A c l b w h hm hn)
  | true =>
    simp only [Bool.and_eq_true] at hn
    obtain ⟨hg, hb⟩ := hn
    have hb' : 0 ≤ b ∧ b ≤ 100000 := by simpa [baB] using hb
    obtain ⟨B, rfl⟩ := nat_of hb'.1
    exact walkStorageFor A c l B w h hm _ _ true (fun A c w h _ => ssto_yes A c l B w h (gd_of hg) (by omega)) (fun A c w h _ => sto_yes A c l B w h (gd_of hg) (by omega))
end Go.Proofs.Ytkgkeohnnpkahaa.S6
