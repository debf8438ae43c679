/- What the model's and the program's AppendChecksum return: contracts. Conditions: each theorem's own premises. -/
import Derived.Test.YtcheogmnhooffaaDoorSealOne
import Derived.Lib.IndexLaws
namespace Go.Proofs.YtcheogmnhooffaaDoor.S1
open Go.RowKit P1
open Go.Lib hiding intOf

/-- There is a text with its checksum. -/
structure AppOk (s : ByteArray) : Prop where
  len : s.size ≤ 4000
  no : stB s.data.toList 35 = false
  fits : (sealB s).size ≤ 4000

theorem seal_size (s : ByteArray) : (sealB s).size = s.size + 1 + (itoa (sumL s.data.toList : Int)).length := by
  have e : s.data.toList.length = s.size := by simp
  rw [sealB_size]; unfold sealL
  rw [List.length_append, List.length_cons, e]; omega
theorem c35 : (35 : Int) = ((35 : UInt8).toNat : Int) := rfl
theorem maxLen_big : (4000 : Nat) ≤ maxLen := by unfold maxLen; omega

theorem sapp_yes (s : ByteArray) (w : World) (h : AppOk s) :
    Calls Tryd.prog 17 #[.string s] w fun e w' => e = .returned (.tuple #[.string (sealB s), .bool true]) ∧ ∃ d, w' = w.drewN d := by
  obtain ⟨hlen, hno, hfit⟩ := h
  have H1 := Lib.hid (fun w => stands_any s 35 35 c35 w (Nat.le_trans hlen maxLen_big))
  rw [hno] at H1
  have H2 := Lib.hid (fun w => seal_any s w hlen)
  clear hno
  generalize sealB s = t at *
  go_enter Tryd.func17, Tryd.ntmps17
  go_wp2_with (first | (go_at_call 33; refine (H1.out _).mono ?_; rintro e w' ⟨rfl, rfl⟩) | (go_at_call 34; refine (H2.out _).mono ?_; rintro e w' ⟨rfl, d, rfl⟩))
  go_ret2
  exact ⟨rfl, _, rfl⟩
theorem sapp_no (s : ByteArray) (w : World) (h : ¬ AppOk s) :
    Calls Tryd.prog 17 #[.string s] w fun e w' => e = .returned (.tuple #[.string ⟨#[]⟩, .bool false]) ∧ ∃ d, w' = w.drewN d := by
  by_cases hlen : s.size ≤ 4000
  · have H1 := Lib.hid (fun w => stands_any s 35 35 c35 w (Nat.le_trans hlen maxLen_big))
    by_cases hno : stB s.data.toList 35 = false
    · have hfit : 4000 < (sealB s).size := Nat.lt_of_not_le fun hf => h ⟨hlen, hno, hf⟩
      rw [hno] at H1
      have H2 := Lib.hid (fun w => seal_any s w hlen)
      clear hno h
      generalize sealB s = t at *
      go_enter Tryd.func17, Tryd.ntmps17
      go_wp2_with (first | (go_at_call 33; refine (H1.out _).mono ?_; rintro e w' ⟨rfl, rfl⟩) | (go_at_call 34; refine (H2.out _).mono ?_; rintro e w' ⟨rfl, d, rfl⟩))
      go_ret2
      exact ⟨rfl, d, rfl⟩
    · rw [Bool.not_eq_false] at hno
      rw [hno] at H1
      clear hno h
      go_enter Tryd.func17, Tryd.ntmps17
      go_wp2_with (go_at_call 33; refine (H1.out _).mono ?_; rintro e w' ⟨rfl, rfl⟩)
      go_ret2
      exact ⟨rfl, 0, rfl⟩
  · clear h
    go_enter Tryd.func17, Tryd.ntmps17
    go_wp2_with fail
    go_ret2
    exact ⟨rfl, 0, rfl⟩

theorem index_mem (l : List UInt8) (c : UInt8) : decide (0 ≤ Lib.indexByte l c) = stB l c := by
  unfold stB
  rw [decide_eq_decide]
  have hge := Lib.indexByte_ge l c
  by_cases h : Lib.indexByte l c = -1
  · constructor
    · intro h0; omega
    · intro hm
      obtain ⟨k, hk⟩ := List.getElem?_of_mem hm
      exact absurd hk (Lib.indexByte_none h k)
  · constructor
    · intro h0
      obtain ⟨o, ho⟩ : ∃ o : Nat, Lib.indexByte l c = o := ⟨(Lib.indexByte l c).toNat, by omega⟩
      exact List.mem_of_getElem? (Lib.indexByte_some ho).1
    · intro _; omega

theorem contains_any (s : ByteArray) (w : World) :
    Calls Tryd.prog 32 #[.string s, .string ⟨#[35]⟩] w fun e w' => e = .returned (.bool (stB s.data.toList 35)) ∧ w' = w := by
  rw [← index_mem]; exact Tryd.strings_Contains_one s 35 w

theorem app_yes (s : ByteArray) (w : World) (ht : Tab w) (h : AppOk s) :
    Calls Tryd.prog 16 #[.string s] w fun e w' => e = .returned (.tuple #[.string (sealB s), .bool true]) ∧ Below w.heap.size w w' := by
  obtain ⟨hlen, hno, hfit⟩ := h
  have hb := sum_bd s.data.toList
  obtain ⟨n, hn⟩ : ∃ n : Int, n = (sumL s.data.toList : Int) := ⟨_, rfl⟩
  rw [← hn] at hb
  have hl := itoa_len_seven n hb.1 hb.2
  have hseal := seal_eq s (itoa n) (by rw [hn])
  have hsz : s.size + 1 + (itoa n).length ≤ 4000 := by
    rw [seal_size, ← hn] at hfit
    exact hfit
  have hfin := Lib.hid hseal
  have H0 := Lib.hid (fun w => csum_yes s w hlen)
  rw [← hn] at H0
  have H1 := Lib.hid (fun w => contains_any s w)
  rw [hno] at H1
  have H2 := Lib.hid (fun w => fmt_yes n w hb.1 hb.2)
  have HT := Lib.hid ht
  clear hn hb hno ht hseal hfit
  generalize itoa n = t at *
  go_enter Tryd.func16, Tryd.ntmps16
  go_wp2_with (first | (go_at_call 31; refine (H0.out _).mono ?_; rintro e w' ⟨rfl, rfl⟩) | (go_at_call 32; refine (H1.out _).mono ?_; rintro e w' ⟨rfl, rfl⟩) | (go_at_call 10; refine (H2.out _ HT.out).mono ?_; rintro e w' ⟨rfl, hb⟩))
  go_ret2
  exact ⟨congrArg (fun b => Ending.returned (.tuple #[.string b, .bool true])) hfin.out, hb⟩
theorem app_no (s : ByteArray) (w : World) (ht : Tab w) (h : ¬ AppOk s) :
    Calls Tryd.prog 16 #[.string s] w fun e w' => e = .returned (.tuple #[.string ⟨#[]⟩, .bool false]) ∧ Below w.heap.size w w' := by
  by_cases hlen : s.size ≤ 4000
  · have hb := sum_bd s.data.toList
    have H1 := Lib.hid (fun w => contains_any s w)
    obtain ⟨n, hn⟩ : ∃ n : Int, n = (sumL s.data.toList : Int) := ⟨_, rfl⟩
    have H0 := Lib.hid (fun w => csum_yes s w hlen)
    rw [← hn] at hb H0
    by_cases hno : stB s.data.toList 35 = false
    · have hfit : 4000 < (sealB s).size := Nat.lt_of_not_le fun hf => h ⟨hlen, hno, hf⟩
      have hl := itoa_len_seven n hb.1 hb.2
      have hseal := seal_eq s (itoa n) (by rw [hn])
      have hsz : 4000 < s.size + 1 + (itoa n).length := by
        rw [seal_size, ← hn] at hfit
        exact hfit
      rw [hno] at H1
      have H2 := Lib.hid (fun w => fmt_yes n w hb.1 hb.2)
      have HT := Lib.hid ht
      clear hn hb hno ht hseal hfit h
      generalize itoa n = t at *
      go_enter Tryd.func16, Tryd.ntmps16
      go_wp2_with (first | (go_at_call 31; refine (H0.out _).mono ?_; rintro e w' ⟨rfl, rfl⟩) | (go_at_call 32; refine (H1.out _).mono ?_; rintro e w' ⟨rfl, rfl⟩) | (go_at_call 10; refine (H2.out _ HT.out).mono ?_; rintro e w' ⟨rfl, hb⟩))
      go_ret2
      exact ⟨rfl, hb⟩
    · rw [Bool.not_eq_false] at hno
      rw [hno] at H1
      clear hno h hn hb ht
      go_enter Tryd.func16, Tryd.ntmps16
      go_wp2_with (first | (go_at_call 31; refine (H0.out _).mono ?_; rintro e w' ⟨rfl, rfl⟩) | (go_at_call 32; refine (H1.out _).mono ?_; rintro e w' ⟨rfl, rfl⟩))
      go_ret2
      exact ⟨rfl, Below.refl _ _⟩
  · have H0 := Lib.hid (fun w => csum_no s w (by omega))
    clear h ht
    go_enter Tryd.func16, Tryd.ntmps16
    go_wp2_with (go_at_call 31; refine (H0.out _).mono ?_; rintro e w' ⟨rfl, rfl⟩)
    go_ret2
    exact ⟨rfl, Below.refl _ _⟩
end Go.Proofs.YtcheogmnhooffaaDoor.S1
