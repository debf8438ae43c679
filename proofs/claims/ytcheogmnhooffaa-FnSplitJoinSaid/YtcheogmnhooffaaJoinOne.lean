/- What the model's and the program's JoinStrings return: contracts. Conditions: each theorem's own premises. -/
import Derived.Test.YtcheogmnhooffaaPlainThree
import Derived.Test.YtcheogmnhooffaaStandsOne
import Derived.Test.YtcheogmnhooffaaStrsOne
import Derived.Test.YtcheogmnhooffaaBuildOne
namespace Go.Proofs.Ytcheogmnhooffaa.S1
open Go.RowKit P1

def lists (ss : List ByteArray) : List (List UInt8) := ss.map (·.data.toList)
def joinB (b : UInt8) (ss : List ByteArray) (k : Nat) : ByteArray := ⟨(joinL b ((lists ss).take k)).toArray⟩
theorem lists_len (ss : List ByteArray) : (lists ss).length = ss.length := by simp [lists]
theorem lists_get (ss : List ByteArray) (k : Nat) (h : k < ss.length) : (lists ss)[k]'(by rw [lists_len]; exact h) = (ss.getD k ByteArray.empty).data.toList := by
  simp [lists, List.getD, h]
theorem joinB_zero (b : UInt8) (ss : List ByteArray) : joinB b ss 0 = ⟨#[]⟩ := by simp [joinB, joinL]
theorem joinB_first (b : UInt8) (ss : List ByteArray) (h : 0 < ss.length) : joinB b ss (0 + 1) = ss.getD 0 ByteArray.empty := by
  unfold joinB
  rw [join_first b _ (by rw [lists_len]; exact h), lists_get ss 0 h]
theorem joinB_next (b : UInt8) (ss : List ByteArray) (k : Nat) (h : k < ss.length) (h0 : 0 < k) : joinB b ss (k + 1) = joinB b ss k ++ ⟨#[b]⟩ ++ ss.getD k ByteArray.empty := by
  unfold joinB
  rw [join_next b _ k (by rw [lists_len]; exact h) h0, lists_get ss k h]
  apply ByteArray.ext
  simp [ByteArray.data_append]
theorem joinB_size (b : UInt8) (ss : List ByteArray) (k : Nat) : (joinB b ss k).size = (joinL b ((lists ss).take k)).length := by simp [joinB, ByteArray.size]
theorem joinB_next_size (b : UInt8) (ss : List ByteArray) (k : Nat) (h : k < ss.length) (h0 : 0 < k) : (joinB b ss (k + 1)).size = (joinB b ss k).size + 1 + (ss.getD k ByteArray.empty).size := by
  have e : (joinB b ss (k + 1)).data.toList.length = ((joinB b ss k ++ ⟨#[b]⟩ ++ ss.getD k ByteArray.empty) : ByteArray).data.toList.length := by rw [joinB_next b ss k h h0]
  have e2 : (joinB b ss (k + 1)).size = (joinB b ss k).size + ((ss.getD k ByteArray.empty).size + 1) := by simpa [ByteArray.data_append] using e
  omega

/-- What the joiners hand back. -/
def jnV (b : UInt8) (ss : List ByteArray) : Value := .tuple #[.string ⟨((jn b (lists ss)).getD []).toArray⟩, .bool (jn b (lists ss)).isSome]
theorem jnV_none {b : UInt8} {ss : List ByteArray} (h : jn b (lists ss) = none) : jnV b ss = .tuple #[.string ⟨#[]⟩, .bool false] := by unfold jnV; rw [h]; rfl
theorem jnV_done {b : UInt8} {ss : List ByteArray} {k : Nat} (h : Jn b (lists ss) k) (hk : ss.length ≤ k) : jnV b ss = .tuple #[.string (joinB b ss k), .bool true] := by
  unfold jnV
  rw [h.done (by rw [lists_len]; exact hk)]
  unfold joinB
  rw [List.take_of_length_le (by rw [lists_len]; exact hk)]; rfl
theorem jnV_bad {b : UInt8} {ss : List ByteArray} {k : Nat} (hk : k < ss.length) (hb : stB (ss.getD k ByteArray.empty).data.toList b = true) : jnV b ss = .tuple #[.string ⟨#[]⟩, .bool false] :=
  jnV_none (jn_bad (k := k) (by rw [lists_len]; exact hk) (by rw [lists_get ss k hk]; exact of_decide_eq_true hb))
theorem jnV_long {b : UInt8} {ss : List ByteArray} {k : Nat} (hl : 4000 < (joinB b ss k).size) : jnV b ss = .tuple #[.string ⟨#[]⟩, .bool false] :=
  jnV_none (jn_long (k := k) (by rw [← joinB_size]; exact hl))
theorem jn_step {b : UInt8} {ss : List ByteArray} {k : Nat} (h : Jn b (lists ss) k) (hk : k < ss.length) (hb : stB (ss.getD k ByteArray.empty).data.toList b = false) (hl : (joinB b ss (k + 1)).size ≤ 4000) : Jn b (lists ss) (k + 1) :=
  h.next (by rw [lists_len]; exact hk) (by rw [lists_get ss k hk]; exact of_decide_eq_false hb) (by rw [← joinB_size]; exact hl)
theorem jn_le {b : UInt8} {ss : List ByteArray} {k : Nat} (h : Jn b (lists ss) k) : (joinB b ss k).size ≤ 4000 := by rw [joinB_size]; exact h.fits

theorem joinB_zero_next (b : UInt8) (ss : List ByteArray) (k : Nat) (h : 0 < ss.length) (h0 : k = 0) : joinB b ss (k + 1) = joinB b ss k ++ ss.getD k ByteArray.empty := by
  subst h0
  rw [joinB_first b ss h, joinB_zero]
  apply ByteArray.ext
  simp [ByteArray.data_append]
theorem joinB_zero_size (b : UInt8) (ss : List ByteArray) (k : Nat) (h : 0 < ss.length) (h0 : k = 0) : (joinB b ss (k + 1)).size = (joinB b ss k).size + (ss.getD k ByteArray.empty).size := by
  rw [joinB_zero_next b ss k h h0, ByteArray.size_append]
theorem drew_more {w wr : World} (h : ∃ d, wr = w.drewN d) (n : Nat) : ∃ d, wr.drewN n = w.drewN d := by
  obtain ⟨d, rfl⟩ := h
  exact ⟨d + n, by rw [World.drewN_drewN]⟩

set_option maxHeartbeats 2000000 in
set_option maxRecDepth 100000 in
/-- JoinStrings of the model, at some parts and a separator of one byte. -/
theorem sjoin_some (b0 off cap : Nat) (ss : List ByteArray) (b : UInt8) (w : World) (h : At w b0 off ss) (hn : ss.length ≤ 1048576) (h1 : 1 ≤ ss.length) (hz : ∀ j, j < ss.length → (ss.getD j ByteArray.empty).size ≤ 1048576) :
    Calls Try.prog 13 #[.slice (some ⟨b0, off, none⟩) ss.length cap, .string ⟨#[b]⟩] w fun e w' => e = .returned (jnV b ss) ∧ ∃ d, w' = w.drewN d := by
  have HC := Lib.hid h.2
  have HZ := Lib.hid hz
  clear h hz
  have hb256 : (b.toNat : Int) < 256 := by have := b.toNat_lt; omega
  have hn0 : ((ss.length : Int) == 0) = false := by rw [beq_eq_false_iff_ne]; omega
  go_enter Try.func13, Try.ntmps13
  go_wp2
  go_loopw [6, 7] (fun o i wr => ∃ (k : Nat), k ≤ ss.length ∧ i = .int .i64 k ∧ o = .string (joinB b ss k) ∧ Hid (Jn b (lists ss) k) ∧ Hid (∃ d, wr = w.drewN d)) (fun _ i _ => ss.length - (intOf i).toNat)
  case atStart => exact ⟨0, Nat.zero_le _, rfl, by rw [joinB_zero], Lib.hid (Jn.start _ _), Lib.hid ⟨0, rfl⟩⟩
  case round =>
    obtain ⟨k, hk, rfl, rfl, hj, hw⟩ := hrel
    by_cases hlt : k < ss.length
    · have hc : wr.cell? ⟨b0, off + k, none⟩ = some (.string (ss.getD k ByteArray.empty)) := by obtain ⟨d, hd⟩ := hw.out; rw [hd]; exact HC.out k hlt
      have hs := HZ.out k hlt
      have hlt' : (k : Int) < (ss.length : Int) := by omega
      have hk0 : (0 : Int) ≤ (k : Int) := by omega
      have H1 := Lib.hid (fun w => stands_any (ss.getD k ByteArray.empty) b (((ByteArray.mk #[b])[0]'(Nat.zero_lt_succ 0)).toNat : Int) rfl w (by unfold maxLen; omega))
      by_cases hst : stB (ss.getD k ByteArray.empty).data.toList b = true
      · have hfin := Lib.hid (jnV_bad hlt hst)
        rw [hst] at H1
        clear hst
        generalize ss.getD k ByteArray.empty = s at *
        go_wp2_with fail
        go_quiet ((go_at_call 35; exact Calls.quiet_of_same (H1.out _)))
        go_wp2
        go_ret2
        exact ⟨congrArg Ending.returned hfin.out.symm, drew_more hw.out nq⟩
      · rw [Bool.not_eq_true] at hst
        have hstep := Lib.hid (jn_step hj.out hlt hst)
        rw [hst] at H1
        clear hst
        have ho := jn_le hj.out
        have hlong := Lib.hid (jnV_long (b := b) (ss := ss) (k := k + 1))
        by_cases hz0 : k = 0
        · have hz' : ¬ (0 : Int) < (k : Int) := by omega
          have HN := Lib.hid (joinB_zero_next b ss k (by omega) hz0)
          have HS := Lib.hid (joinB_zero_size b ss k (by omega) hz0)
          clear hz0
          generalize ss.getD k ByteArray.empty = s at *
          generalize joinB b ss k = o at *
          generalize hJ : joinB b ss (k + 1) = n at HN HS hstep hlong
          have HJ := Lib.hid hJ
          clear hJ
          by_cases hle : o.size + s.size ≤ 4000
          · go_wp2_with fail
            go_quiet ((go_at_call 35; exact Calls.quiet_of_same (H1.out _)))
            go_wp2
            go_roundw
            case rel => exact ⟨k + 1, by omega, by go_num, by rw [HJ.out, HN.out], Lib.hid (hstep.out (by rw [HS.out]; exact hle)), Lib.hid (drew_more hw.out nq)⟩
            case measure => simp [intOf]; omega
          · have hfin := Lib.hid (hlong.out (by rw [HS.out]; omega))
            go_wp2_with fail
            go_quiet ((go_at_call 35; exact Calls.quiet_of_same (H1.out _)))
            go_wp2
            go_ret2
            exact ⟨congrArg Ending.returned hfin.out.symm, drew_more hw.out nq⟩
        · have hz' : (0 : Int) < (k : Int) := by omega
          have HN := Lib.hid (joinB_next b ss k hlt (by omega))
          have HS := Lib.hid (joinB_next_size b ss k hlt (by omega))
          clear hz0
          generalize ss.getD k ByteArray.empty = s at *
          generalize joinB b ss k = o at *
          generalize hJ : joinB b ss (k + 1) = n at HN HS hstep hlong
          have HJ := Lib.hid hJ
          clear hJ
          by_cases hle : o.size + 1 + s.size ≤ 4000
          · go_wp2_with fail
            go_quiet ((go_at_call 35; exact Calls.quiet_of_same (H1.out _)))
            go_wp2
            go_roundw
            case rel => exact ⟨k + 1, by omega, by go_num, by rw [HJ.out, HN.out], Lib.hid (hstep.out (by rw [HS.out]; exact hle)), Lib.hid (drew_more hw.out nq)⟩
            case measure => simp [intOf]; omega
          · have hfin := Lib.hid (hlong.out (by rw [HS.out]; omega))
            go_wp2_with fail
            go_quiet ((go_at_call 35; exact Calls.quiet_of_same (H1.out _)))
            go_wp2
            go_ret2
            exact ⟨congrArg Ending.returned hfin.out.symm, drew_more hw.out nq⟩
    · have hfin := Lib.hid (jnV_done hj.out (by omega))
      go_wp2
      go_ret2
      exact ⟨congrArg Ending.returned hfin.out.symm, hw.out⟩

/-- JoinStrings of the model, where there are no parts or the separator is not one byte. -/
theorem sjoin_sep (v : Option Addr) (n cap : Nat) (sep : ByteArray) (w : World) (h : sep.size ≠ 1) :
    Calls Try.prog 13 #[.slice v n cap, .string sep] w fun e w' => e = .returned (.tuple #[.string ⟨#[]⟩, .bool false]) ∧ w' = w := by
  have h' : (((sep.size : Nat) : Int) != 1) = true := by rw [bne_iff_ne]; omega
  clear h
  go_enter Try.func13, Try.ntmps13
  go_wp2
  go_ret2
  exact ⟨rfl, rfl⟩
theorem sjoin_none (v : Option Addr) (cap : Nat) (sep : ByteArray) (w : World) (h : sep.size = 1) :
    Calls Try.prog 13 #[.slice v 0 cap, .string sep] w fun e w' => e = .returned (.tuple #[.string ⟨#[]⟩, .bool false]) ∧ w' = w := by
  have h' : (((sep.size : Nat) : Int) != 1) = false := by rw [bne_eq_false_iff_eq]; omega
  clear h
  go_enter Try.func13, Try.ntmps13
  go_wp2
  go_ret2
  exact ⟨rfl, rfl⟩
end Go.Proofs.Ytcheogmnhooffaa.S1
