/- The law FnExactQuietestHours on its two sides: contracts. Conditions: each theorem's own premises. -/
import Derived.Test.YtkgkeohnnpkahaaWalkQuietestHours
import Derived.Test.YtkgkeohnnpkahaaPfQui
namespace Go.Proofs.Ytkgkeohnnpkahaa.S6
open Go.RowKit P6
theorem law_qui (A : Option Addr) (c : Nat) (l : List Int) (y : Int) (w : World) (h : IAt w A l) (hm : l.length ≤ maxLen) :
    Calls Try.prog 9 #[dv A l.length c, .int .i64 y] w fun e w' => e = .returned (.bool true) ∧ Below w.heap.size w w' := by
  cases hn : gdB l && h1B y with
  | false => exact walkQuietestHours A c l y w h hm 0 0 false (fun A c w h hm => squi_no A c l y w h hm hn) (fun A c w h hm => qui_no A c l y w h hm hn)
  | true =>
    simp only [Bool.and_eq_true] at hn
    obtain ⟨hg, hy⟩ := hn
    have hy' : 1 ≤ y ∧ y ≤ 24 := by simpa [h1B] using hy
    obtain ⟨Y, rfl⟩ := nat_of (show 0 ≤ y by omega)
    exact walkQuietestHours A c l Y w h hm _ _ true (fun A c w h _ => squi_yes A c l Y w h (gd_of hg) (by omega) (by omega)) (fun A c w h _ => qui_yes A c l Y w h (gd_of hg) (by omega) (by omega))
end Go.Proofs.Ytkgkeohnnpkahaa.S6
