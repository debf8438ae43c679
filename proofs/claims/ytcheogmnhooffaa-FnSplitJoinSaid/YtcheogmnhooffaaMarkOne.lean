/- The laws' marks: the text of a mark, marks written into a slice of strings, and marks found there: contracts. Conditions: each theorem's own premises. -/
import Derived.Test.YtcheogmnhooffaaStrsOne
import Derived.Test.YtcheogmnhooffaaPlainOne
import Derived.Laws.IdiomStrings
import Derived.WalkSpells
import Derived.WalkLawsBesides
namespace Go.Proofs.Ytcheogmnhooffaa.S1
open Go.RowKit Go.Lib P1

/-- The text of mark k. -/
def markB (k : Nat) : ByteArray := ⟨(109 :: decDigits k).toArray⟩
def digs (k : Nat) : List UInt8 := if k = 0 then [] else decDigits k
theorem digs_step (k : Nat) (h : 0 < k) : digs k = digs (k / 10) ++ [UInt8.ofNat (48 + k % 10)] := by
  unfold digs
  rw [if_neg (by omega)]
  by_cases h10 : k < 10
  · rw [if_pos (by omega), dec_small h10, Nat.mod_eq_of_lt h10]; rfl
  · rw [if_neg (by omega), dec_big h10]

theorem back_one (r : Nat) (h : r < 10) (wx : World) : (convert 22 9 (.slice (some ⟨wx.heap.size, 0, none⟩) 1 1)).run Try.prog (wx.alloc (.cells #[.int .u8 (48 + (r : Int))] 5)) = .ok (.string ⟨#[UInt8.ofNat (48 + r)]⟩) (wx.alloc (.cells #[.int .u8 (48 + (r : Int))] 5)) := by
  refine run_convert_bytes_back (P := Try.prog) _ 22 9 5 ⟨wx.heap.size, 0, none⟩ 1 [UInt8.ofNat (48 + r)] Try.underlying22 Try.underlying5 Try.underlying9 fun j hj => ?_
  have hj0 : j = 0 := by simp at hj; omega
  subst hj0
  show World.cell? _ ⟨wx.heap.size, 0 + 0, none⟩ = _
  rw [World.cell?_alloc_at _ _ _ _ rfl]
  simp
  omega
theorem add_run (d : UInt8) (out : List UInt8) (h : out.length ≤ 1000) (wx : World) : (Op.stringOp .add ⟨#[d]⟩ ⟨out.toArray⟩).run Try.prog wx = .ok (.string ⟨(d :: out).toArray⟩) wx :=
  run_string_add_lists wx [d] out (by simp) (by omega)

set_option maxHeartbeats 1000000 in
theorem mark_any (m : Nat) (w : World) (h1 : 1 ≤ m) (hm : m ≤ 999999) :
    Calls Try.prog 37 #[.int .i64 (m : Int)] w fun e w' => e = .returned (.string (markB m)) ∧ Below w.heap.size w w' := by
  have hl6 := dec_len_six m hm
  have HD := Lib.hid (show digs m = decDigits m by unfold digs; rw [if_neg (by omega)])
  go_enter Try.func37, Try.ntmps37
  go_wp2
  go_loopw [0, 3] (fun n o wr => ∃ (k : Nat) (out : List UInt8), k ≤ m ∧ n = .int .i64 k ∧ o = .string ⟨out.toArray⟩ ∧ Hid (digs k ++ out = decDigits m) ∧ Below w.heap.size w wr) (fun n _ _ => (intOf n).toNat)
  case atStart => exact ⟨m, [], Nat.le_refl _, rfl, rfl, Lib.hid (by rw [HD.out]; simp), Below.refl _ _⟩
  case round =>
    obtain ⟨k, out, hk, rfl, rfl, hd, hB⟩ := hrel
    by_cases hlt : 0 < k
    · obtain ⟨q, hqn⟩ : ∃ q, q = k / 10 := ⟨_, rfl⟩
      obtain ⟨r, hrn⟩ : ∃ r, r = k % 10 := ⟨_, rfl⟩
      have hr10 : r < 10 := by omega
      have hqk : q < k := by omega
      have hq : (k : Int).tdiv 10 = (q : Int) := by rw [Int.tdiv_eq_ediv_of_nonneg (by omega)]; omega
      have hr : (k : Int).tmod 10 = (r : Int) := by rw [Int.tmod_eq_emod_of_nonneg (by omega)]; omega
      have hstep := Lib.hid (show digs q ++ ([UInt8.ofNat (48 + r)] ++ out) = decDigits m by rw [← List.append_assoc, hqn, hrn, ← digs_step k hlt]; exact hd.out)
      have hol : out.length ≤ 6 := by have := congrArg List.length hd.out; simp at this; omega
      clear hqn hrn hd
      have hcv := back_one r hr10
      generalize UInt8.ofNat (48 + r) = d at hcv hstep
      have hadd := add_run d out (by omega)
      go_wp2
      go_roundw
      case rel => exact ⟨q, _, by omega, rfl, rfl, hstep, hB.alloc hB.size _⟩
      case measure => simp [intOf]; omega
    · have hk0 : k = 0 := by omega
      subst hk0
      have hfin := Lib.hid (show out = decDigits m by rw [← hd.out]; rfl)
      have hol : out.length ≤ 6 := by rw [hfin.out]; exact hl6
      have hadd := add_run 109 out (by omega)
      clear hd
      go_wp2
      go_ret
      refine ⟨?_, hB⟩
      show Ending.returned (Value.string ⟨(109 :: out).toArray⟩) = _
      unfold markB
      rw [← hfin.out]
end Go.Proofs.Ytcheogmnhooffaa.S1
