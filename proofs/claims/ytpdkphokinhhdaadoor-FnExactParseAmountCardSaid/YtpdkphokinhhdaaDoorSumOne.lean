/- The checksum of every string: what the model's l1Sum and the program's own Checksum return: contracts. Conditions: each theorem's own premises. -/
import Derived.Test.YtpdkphokinhhdaaDoorChecked
import Derived.Test.YtpdkphokinhhdaaDoorPlainOne
import Derived.WalkKit
import Derived.ProofKit
import Derived.LoopTactic
import Derived.IntWalk
import Derived.Lib.Hide
namespace Go.Proofs.YtpdkphokinhhdaaDoor.S1
open Go.RowKit Go.Lib P1

theorem ret_int {k : IntKind} {a b : Int} (h : a = b) : Ending.returned (.int k a) = .returned (.int k b) := by rw [h]
theorem take_snoc (s : ByteArray) (k : Nat) (h : k < s.size) : s.data.toList.take (k + 1) = s.data.toList.take k ++ [s[k]] := by
  rw [List.take_succ_eq_append_getElem (by simpa using h)]; rfl
theorem sum_snoc (s : ByteArray) (k : Nat) (h : k < s.size) : ((sumL (s.data.toList.take (k + 1)) : Nat) : Int) = ((41 * (sumL (s.data.toList.take k) : Int) + (s[k].toNat : Int)) + 1) % 999979 := by
  rw [take_snoc s k h, sumL_snoc]; unfold P1.step; omega



end Go.Proofs.YtpdkphokinhhdaaDoor.S1
