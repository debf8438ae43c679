/- The law FnExactVolumeBetween on its two sides: contracts. Conditions: each theorem's own premises. -/
import Derived.Test.YtkgkeohnnpkahaaWalkVolumeBetween
import Derived.Test.YtkgkeohnnpkahaaPfVol
namespace Go.Proofs.Ytkgkeohnnpkahaa.S6
open Go.RowKit P6
theorem law_vol (A : Option Addr) (c : Nat) (l : List Int) (b x y : Int) (w : World) (h : IAt w A l) (hm : l.length ≤ maxLen) :
    Calls Try.prog 13 #[dv A l.length c, .int .i64 b, .int .i64 x, .int .i64 y] w fun e w' => e = .returned (.bool true) ∧ Below w.heap.size w w' := by
  cases hn : gdB l && baB b && hoB x && hsB y with
  | false =>
    exact walkVolumeBetween A c l b x y w h hm 0 0 false (fun A c w h hm => svol_no A c l b x y w h hm hn) (fun A c w h hm => vol_no A c l b x y w h hm hn)
  | true =>
    simp only [Bool.and_eq_true] at hn
    obtain ⟨⟨⟨hg, hb⟩, hx⟩, hy⟩ := hn
    have hb' : 0 ≤ b ∧ b ≤ 100000 := by simpa [baB] using hb
    have hx' : 0 ≤ x ∧ x ≤ 23 := by simpa [hoB] using hx
    have hy' : 0 ≤ y ∧ y ≤ 24 := by simpa [hsB] using hy
    obtain ⟨B, rfl⟩ := nat_of hb'.1
    obtain ⟨X, rfl⟩ := nat_of hx'.1
    obtain ⟨Y, rfl⟩ := nat_of hy'.1
    exact walkVolumeBetween A c l B X Y w h hm _ _ true (fun A c w h _ => svol_yes A c l B X Y w h (gd_of hg) (by omega) (by omega) (by omega)) (fun A c w h _ => vol_yes A c l B X Y w h (gd_of hg) (by omega) (by omega) (by omega))
end Go.Proofs.Ytkgkeohnnpkahaa.S6
