/- The checksum of every string: what the model's l1Sum and the program's own Checksum return: contracts. Conditions: each theorem's own premises. -/
import Derived.Test.YtcheogmnhooffaaChecked
import Derived.Test.YtcheogmnhooffaaPlainOne
import Derived.WalkKit
import Derived.ProofKit
import Derived.LoopTactic
import Derived.IntWalk
import Derived.Lib.Hide
namespace Go.Proofs.Ytcheogmnhooffaa.S1
open Go.RowKit Go.Lib P1

theorem ret_int {k : IntKind} {a b : Int} (h : a = b) : Ending.returned (.int k a) = .returned (.int k b) := by rw [h]
theorem take_snoc (s : ByteArray) (k : Nat) (h : k < s.size) : s.data.toList.take (k + 1) = s.data.toList.take k ++ [s[k]] := by
  rw [List.take_succ_eq_append_getElem (by simpa using h)]; rfl
theorem sum_snoc (s : ByteArray) (k : Nat) (h : k < s.size) : ((sumL (s.data.toList.take (k + 1)) : Nat) : Int) = ((41 * (sumL (s.data.toList.take k) : Int) + (s[k].toNat : Int)) + 1) % 999979 := by
  rw [take_snoc s k h, sumL_snoc]; unfold P1.step; omega

/-- l1Sum: the checksum of every string. -/
theorem sum_any (s : ByteArray) (w : World) (hs : s.size ≤ maxLen) :
    Calls Try.prog 38 #[.string s] w fun e w' => e = .returned (.int .i64 (sumL s.data.toList : Int)) ∧ w' = w := by
  unfold maxLen at hs
  go_enter Try.func38, Try.ntmps38
  go_wp2
  go_loop [3, 4] (fun n i => ∃ k : Nat, k ≤ s.size ∧ i = .int .i64 k ∧ n = .int .i64 (sumL (s.data.toList.take k) : Int)) (fun _ i => s.size - (intOf i).toNat)
  case atStart => exact ⟨0, Nat.zero_le _, rfl, rfl⟩
  case round =>
    obtain ⟨k, hk, rfl, rfl⟩ := hrel
    have hl := sumL_lt (s.data.toList.take k)
    by_cases hlt : k < s.size
    · have hb := (s[k]).toNat_lt
      have HS := Lib.hid (sum_snoc s k hlt)
      go_wp2
      go_round
      case rel => exact ⟨k + 1, by omega, by go_num, by rw [HS.out]⟩
      case measure => simp [intOf]; omega
    · go_wp2
      go_ret
      exact ⟨ret_int (by rw [List.take_of_length_le (by simp; omega)]), rfl⟩


/-- Checksum of the program: a string that is not too long. -/
theorem csum_yes (s : ByteArray) (w : World) (hs : s.size ≤ 4000) :
    Calls Try.prog 24 #[.string s] w fun e w' => e = .returned (.tuple #[.int .i64 (sumL s.data.toList : Int), .bool true]) ∧ w' = w := by
  go_enter Try.func24, Try.ntmps24
  go_wp2
  go_loop [4, 11] (fun n i => ∃ k : Nat, k ≤ s.size ∧ i = .int .i64 k ∧ n = .int .i64 (sumL (s.data.toList.take k) : Int)) (fun _ i => s.size - (intOf i).toNat)
  case atStart => exact ⟨0, Nat.zero_le _, rfl, rfl⟩
  case round =>
    obtain ⟨k, hk, rfl, rfl⟩ := hrel
    have hl := sumL_lt (s.data.toList.take k)
    by_cases hlt : k < s.size
    · have hb := (s[k]).toNat_lt
      have HS := Lib.hid (sum_snoc s k hlt)
      go_wp2
      go_round
      case rel => exact ⟨k + 1, by omega, by go_num, by rw [HS.out]⟩
      case measure => simp [intOf]; omega
    · have hfin := Lib.hid (show ((sumL (s.data.toList.take k) : Nat) : Int) = (sumL s.data.toList : Int) by rw [List.take_of_length_le (by simp; omega)])
      go_wp2
      go_ret2
      exact ⟨congrArg (fun z : Int => Ending.returned (.tuple #[.int .i64 z, .bool true])) hfin.out, rfl⟩
theorem csum_no (s : ByteArray) (w : World) (hs : 4000 < s.size) :
    Calls Try.prog 24 #[.string s] w fun e w' => e = .returned (.tuple #[.int .i64 0, .bool false]) ∧ w' = w := by
  go_enter Try.func24, Try.ntmps24
  go_wp2
  go_ret2
  exact ⟨rfl, rfl⟩
end Go.Proofs.Ytcheogmnhooffaa.S1
