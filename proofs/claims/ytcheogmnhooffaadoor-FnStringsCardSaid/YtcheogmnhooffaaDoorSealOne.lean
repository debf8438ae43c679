/- What the model and the program return for a text with its checksum: contracts. Conditions: each theorem's own premises. -/
import Derived.Test.YtcheogmnhooffaaDoorImplOne
namespace Go.Proofs.YtcheogmnhooffaaDoor.S1
open Go.RowKit P1
open Go.Lib hiding intOf

/-- Does a byte stand in the text? -/
def stB (l : List UInt8) (b : UInt8) : Bool := decide (b ∈ l)
theorem not_mem_snoc (s : ByteArray) (k : Nat) (h : k < s.size) (b : UInt8) (hn : b ∉ s.data.toList.take k) (hb : s[k] ≠ b) : b ∉ s.data.toList.take (k + 1) := by
  rw [take_snoc s k h]
  intro e
  rcases List.mem_append.1 e with e | e
  · exact hn e
  · exact hb (List.mem_singleton.1 e).symm

/-- l1Stands. -/
theorem stands_any (s : ByteArray) (b : UInt8) (c : Int) (hc : c = (b.toNat : Int)) (w : World) (hs : s.size ≤ maxLen) :
    Calls Tryd.prog 33 #[.string s, .int .u8 c] w fun e w' => e = .returned (.bool (stB s.data.toList b)) ∧ w' = w := by
  unfold maxLen at hs
  have HC := Lib.hid hc
  clear hc
  go_enter Tryd.func33, Tryd.ntmps33
  go_wp2
  go_loop [5] (fun i => ∃ k : Nat, k ≤ s.size ∧ i = .int .i64 k ∧ Hid (b ∉ s.data.toList.take k)) (fun i => s.size - (intOf i).toNat)
  case atStart => exact ⟨0, Nat.zero_le _, rfl, Lib.hid (by simp)⟩
  case round =>
    obtain ⟨k, hk, rfl, hn⟩ := hrel
    by_cases hlt : k < s.size
    · by_cases hb : s[k] = b
      · have hE : ((s[k].toNat : Int) == c) = true := by rw [HC.out, hb]; exact beq_self_eq_true _
        have hfin := Lib.hid (show stB s.data.toList b = true from decide_eq_true (by rw [← hb]; exact mem_at s k hlt))
        clear hb
        go_wp2
        go_ret
        exact ⟨by rw [hfin.out]; rfl, rfl⟩
      · have hE : ((s[k].toNat : Int) == c) = false := by
          rw [HC.out, beq_eq_false_iff_ne]
          intro e
          exact hb (UInt8.toNat_inj.1 (by omega))
        have hstep := Lib.hid (not_mem_snoc s k hlt b hn.out hb)
        clear hb
        go_wp2
        go_round
        case rel => exact ⟨k + 1, by omega, by go_num, hstep⟩
        case measure => simp [intOf]; omega
    · have hfin := Lib.hid (show stB s.data.toList b = false from decide_eq_false (by
        have := hn.out; rwa [List.take_of_length_le (by simp; omega)] at this))
      go_wp2
      go_ret
      exact ⟨by rw [hfin.out]; rfl, rfl⟩

def sealB (s : ByteArray) : ByteArray := ⟨(sealL s.data.toList).toArray⟩
theorem seal_eq (s : ByteArray) (t : List UInt8) (h : t = itoa (sumL s.data.toList : Int)) : s ++ ⟨#[35]⟩ ++ ⟨t.toArray⟩ = sealB s := by
  subst h
  apply ByteArray.ext
  simp [sealB, sealL, ByteArray.data_append]
theorem sealB_size (s : ByteArray) : (sealB s).size = (sealL s.data.toList).length := by simp [sealB, ByteArray.size]
theorem sum_bd (l : List UInt8) : -999999 ≤ (sumL l : Int) ∧ (sumL l : Int) ≤ 999999 := by have := sumL_lt l; omega

/-- l1Seal. -/
theorem seal_any (s : ByteArray) (w : World) (hs : s.size ≤ 4000) :
    Calls Tryd.prog 34 #[.string s] w fun e w' => e = .returned (.string (sealB s)) ∧ ∃ d, w' = w.drewN d := by
  have hb := sum_bd s.data.toList
  obtain ⟨n, hn⟩ : ∃ n : Int, n = (sumL s.data.toList : Int) := ⟨_, rfl⟩
  rw [← hn] at hb
  have hl := itoa_len_seven n hb.1 hb.2
  have hfin := Lib.hid (seal_eq s (itoa n) (by rw [hn]))
  have H1 := Lib.hid (fun w => sum_any s w (by unfold maxLen; omega))
  rw [← hn] at H1
  have H2 := Lib.hid (fun w => num_any n w hb.1 hb.2)
  clear hn hb
  generalize itoa n = t at *
  go_enter Tryd.func34, Tryd.ntmps34
  go_wp2_with (first | (go_at_call 43; refine (H1.out _).mono ?_; rintro e w' ⟨rfl, rfl⟩) | (go_at_call 25; refine (H2.out _).mono ?_; rintro e w' ⟨rfl, d, rfl⟩))
  go_ret
  exact ⟨congrArg (fun b => Ending.returned (.string b)) hfin.out, d, rfl⟩
end Go.Proofs.YtcheogmnhooffaaDoor.S1
