/- Whether a byte stands in a text: what the model's l1Stands and the library's Contains return: contracts. Conditions: each theorem's own premises. -/
import Derived.Test.YtcheogmnhooffaaSumOne
import Derived.Test.YtcheogmnhooffaaShelf
import Derived.Lib.IndexLaws
namespace Go.Proofs.Ytcheogmnhooffaa.S1
open Go.RowKit P1

theorem mem_at (T : ByteArray) (k : Nat) (h : k < T.size) : T[k] ∈ T.data.toList := by
  have : T[k] = T.data.toList[k]'(by simpa using h) := rfl
  rw [this]; exact List.getElem_mem _

/-- Does a byte stand in the text? -/
def stB (l : List UInt8) (b : UInt8) : Bool := decide (b ∈ l)
theorem not_mem_snoc (s : ByteArray) (k : Nat) (h : k < s.size) (b : UInt8) (hn : b ∉ s.data.toList.take k) (hb : s[k] ≠ b) : b ∉ s.data.toList.take (k + 1) := by
  rw [take_snoc s k h]
  intro e
  rcases List.mem_append.1 e with e | e
  · exact hn e
  · exact hb (List.mem_singleton.1 e).symm

/-- l1Stands. -/
theorem stands_any (s : ByteArray) (b : UInt8) (c : Int) (hc : c = (b.toNat : Int)) (w : World) (hs : s.size ≤ maxLen) :
    Calls Try.prog 35 #[.string s, .int .u8 c] w fun e w' => e = .returned (.bool (stB s.data.toList b)) ∧ w' = w := by
  unfold maxLen at hs
  have HC := Lib.hid hc
  clear hc
  go_enter Try.func35, Try.ntmps35
  go_wp2
  go_loop [5] (fun i => ∃ k : Nat, k ≤ s.size ∧ i = .int .i64 k ∧ Hid (b ∉ s.data.toList.take k)) (fun i => s.size - (intOf i).toNat)
  case atStart => exact ⟨0, Nat.zero_le _, rfl, Lib.hid (by simp)⟩
  case round =>
    obtain ⟨k, hk, rfl, hn⟩ := hrel
    by_cases hlt : k < s.size
    · by_cases hb : s[k] = b
      · have hE : ((s[k].toNat : Int) == c) = true := by rw [HC.out, hb]; exact beq_self_eq_true _
        have hfin := Lib.hid (show stB s.data.toList b = true from decide_eq_true (by rw [← hb]; exact mem_at s k hlt))
        clear hb
        go_wp2
        go_ret
        exact ⟨by rw [hfin.out]; rfl, rfl⟩
      · have hE : ((s[k].toNat : Int) == c) = false := by
          rw [HC.out, beq_eq_false_iff_ne]
          intro e
          exact hb (UInt8.toNat_inj.1 (by omega))
        have hstep := Lib.hid (not_mem_snoc s k hlt b hn.out hb)
        clear hb
        go_wp2
        go_round
        case rel => exact ⟨k + 1, by omega, by go_num, hstep⟩
        case measure => simp [intOf]; omega
    · have hfin := Lib.hid (show stB s.data.toList b = false from decide_eq_false (by
        have := hn.out; rwa [List.take_of_length_le (by simp; omega)] at this))
      go_wp2
      go_ret
      exact ⟨by rw [hfin.out]; rfl, rfl⟩

theorem index_mem (l : List UInt8) (c : UInt8) : decide (0 ≤ Lib.indexByte l c) = stB l c := by
  unfold stB
  rw [decide_eq_decide]
  have hge := Lib.indexByte_ge l c
  by_cases h : Lib.indexByte l c = -1
  · constructor
    · intro h0; omega
    · intro hm
      obtain ⟨k, hk⟩ := List.getElem?_of_mem hm
      exact absurd hk (Lib.indexByte_none h k)
  · constructor
    · intro h0
      obtain ⟨o, ho⟩ : ∃ o : Nat, Lib.indexByte l c = o := ⟨(Lib.indexByte l c).toNat, by omega⟩
      exact List.mem_of_getElem? (Lib.indexByte_some ho).1
    · intro _; omega

theorem contains_byte (s : ByteArray) (b : UInt8) (w : World) :
    Calls Try.prog 33 #[.string s, .string ⟨#[b]⟩] w fun e w' => e = .returned (.bool (stB s.data.toList b)) ∧ w' = w := by
  rw [← index_mem]; exact Try.strings_Contains_one s b w
end Go.Proofs.Ytcheogmnhooffaa.S1
