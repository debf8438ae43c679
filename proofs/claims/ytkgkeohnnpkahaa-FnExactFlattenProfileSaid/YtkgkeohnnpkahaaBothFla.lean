/- The law FnExactFlattenProfile on its two sides: contracts. Conditions: each theorem's own premises. -/
import Derived.Test.YtkgkeohnnpkahaaWalkFlattenProfile
import Derived.Test.YtkgkeohnnpkahaaWalkFlattenProfileN
import Derived.Test.YtkgkeohnnpkahaaPfSfl
namespace Go.Proofs.Ytkgkeohnnpkahaa.S6
open Go.RowKit P6
theorem law_fla (A : Option Addr) (c : Nat) (l : List Int) (x : Int) (w : World) (h : IAt w A l) (hm : l.length ≤ maxLen) :
    Calls Try.prog 12 #[dv A l.length c, .int .i64 x] w fun e w' => e = .returned (.bool true) ∧ Below w.heap.size w w' := by
  cases hn : gdB l && moB x with
  | false => exact walkFlattenProfilen A c l x w h hm (fun A c w h hm => sfla_no A c l x w h hm hn) (fun A c w h hm => fla_no A c l x w h hm hn)
  | true =>
    simp only [Bool.and_eq_true] at hn
    obtain ⟨hg, hx⟩ := hn
    have hx' : 100 ≤ x ∧ x ≤ 1000 := by simpa [moB] using hx
    exact walkFlattenProfile A c l x w h hm (flL l x) true (by rw [flL_len, (gd_of hg).1]; omega) (fun A c w h _ => sfla_yes A c l x w h (gd_of hg) hx'.1 hx'.2) (fun A c w h _ => fla_yes A c l x w h (gd_of hg) hx'.1 hx'.2)
end Go.Proofs.Ytkgkeohnnpkahaa.S6
