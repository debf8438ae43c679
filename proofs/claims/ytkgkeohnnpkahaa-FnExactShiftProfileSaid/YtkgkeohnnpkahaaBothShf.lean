/- The law FnExactShiftProfile on its two sides: contracts. Conditions: each theorem's own premises. -/
import Derived.Test.YtkgkeohnnpkahaaWalkShiftProfile
import Derived.Test.YtkgkeohnnpkahaaWalkShiftProfileN
import Derived.Test.YtkgkeohnnpkahaaPfShf
namespace Go.Proofs.Ytkgkeohnnpkahaa.S6
open Go.RowKit P6
theorem law_shf (A : Option Addr) (c : Nat) (l : List Int) (x : Int) (w : World) (h : IAt w A l) (hm : l.length ≤ maxLen) :
    Calls Try.prog 10 #[dv A l.length c, .int .i64 x] w fun e w' => e = .returned (.bool true) ∧ Below w.heap.size w w' := by
  cases hn : gdB l && hoB x with
  | false => exact walkShiftProfilen A c l x w h hm (fun A c w h hm => sshf_no A c l x w h hm hn) (fun A c w h hm => shf_no A c l x w h hm hn)
  | true =>
    simp only [Bool.and_eq_true] at hn
    obtain ⟨hg, hx⟩ := hn
    have hx' : 0 ≤ x ∧ x ≤ 23 := by simpa [hoB] using hx
    obtain ⟨X, rfl⟩ := nat_of hx'.1
    exact walkShiftProfile A c l X w h hm (shL l X) true (by rw [shL_len]; omega) (fun A c w h _ => sshf_yes A c l X w h (gd_of hg) (by omega)) (fun A c w h _ => shf_yes A c l X w h (gd_of hg) (by omega))
end Go.Proofs.Ytkgkeohnnpkahaa.S6
