/- The laws' helpers on slices of strings: size, copy, comparison: contracts. Conditions: each theorem's own premises. -/
import Derived.Test.YtcheogmnhooffaaChecked
import Derived.WalkKit
import Derived.ProofKit
import Derived.LoopTactic
import Derived.IntWalk
import Derived.Lib.Hide
import Derived.Lib.SplitLaws
import Derived.Deep.OwnRows
import Derived.Deep.QuietTactic
import Derived.BigQuiet
import Derived.WalkSpells
import Derived.WalkSmall
import Derived.Outline
namespace Go.Proofs.Ytcheogmnhooffaa.S1
open Go.RowKit

/-- The strings ss lie at this place. -/
def At (w : World) (b off : Nat) (ss : List ByteArray) : Prop := b < w.heap.size ∧ ∀ j, j < ss.length → w.cell? ⟨b, off + j, none⟩ = some (.string (ss.getD j ByteArray.empty))
theorem At.later {w w' : World} {b off : Nat} {ss : List ByteArray} (h : At w b off ss) (hb : Below w.heap.size w w') : At w' b off ss :=
  ⟨Nat.lt_of_lt_of_le h.1 hb.size, fun j hj => (hb.cell (p := ⟨b, off + j, none⟩) h.1).trans (h.2 j hj)⟩

def tot (ss : List ByteArray) : Nat := (ss.map ByteArray.size).sum
theorem tot_snoc (ss : List ByteArray) (k : Nat) (h : k < ss.length) : tot (ss.take (k + 1)) = tot (ss.take k) + (ss.getD k ByteArray.empty).size := by
  unfold tot
  rw [List.take_succ_eq_append_getElem h, List.map_append, List.sum_append]
  simp [List.getD, h]

/-- szStringS. -/
theorem sz_any (b off cap : Nat) (ss : List ByteArray) (w : World) (h : At w b off ss) (hn : ss.length ≤ maxLen) (hz : ∀ j, j < ss.length → (ss.getD j ByteArray.empty).size ≤ maxLen) :
    Calls Try.prog 21 #[.slice (some ⟨b, off, none⟩) ss.length cap, .int .i64 1048576] w fun e w' => ∃ r : Int, e = .returned (.int .i64 r) ∧ (r < 0 ∨ (0 ≤ r ∧ ss.length + tot ss ≤ 1048576)) ∧ w' = w := by
  unfold maxLen at hn hz
  have hn' : (ss.length : Int) ≤ 9223372036854775807 := by omega
  have HC := Lib.hid h.2
  have HZ := Lib.hid hz
  clear h hz
  by_cases h0 : ss.length ≤ 1048576
  · go_enter Try.func21, Try.ntmps21
    go_wp2
    go_loop [1, 5] (fun l i => ∃ (k : Nat) (t : Int), k ≤ ss.length ∧ i = .int .i64 k ∧ l = .int .i64 t ∧ 0 ≤ t ∧ t ≤ 1048576 ∧ Hid (t = 1048576 - (ss.length : Int) - (tot (ss.take k) : Int))) (fun _ i => ss.length - (intOf i).toNat)
    case atStart => exact ⟨0, _, Nat.zero_le _, rfl, rfl, by omega, by omega, Lib.hid (by simp [tot])⟩
    case round =>
      obtain ⟨k, t, hk, rfl, rfl, ht0, ht1, ht⟩ := hrel
      by_cases hlt : k < ss.length
      · have hc := HC.out k hlt
        have hs := HZ.out k hlt
        have hsn := Lib.hid (tot_snoc ss k hlt)
        generalize ss.getD k ByteArray.empty = s at *
        have hs' : (s.size : Int) ≤ 9223372036854775807 := by omega
        by_cases hneg : t - (s.size : Int) < 0
        · go_wp2
          go_ret
          exact ⟨-1, rfl, .inl (by omega), rfl⟩
        · go_wp2
          go_round
          case rel => exact ⟨k + 1, t - s.size, by omega, by go_num, rfl, by omega, by omega, Lib.hid (by rw [ht.out, hsn.out]; push_cast; omega)⟩
          case measure => simp [intOf]; omega
      · have hfin := Lib.hid (show ss.length + tot ss ≤ 1048576 by
          have := ht.out
          rw [List.take_of_length_le (by omega)] at this
          omega)
        go_wp2
        go_ret
        exact ⟨t, rfl, .inr ⟨ht0, hfin.out⟩, rfl⟩
  · go_enter Try.func21, Try.ntmps21
    go_wp2
    go_ret
    exact ⟨-1, rfl, .inl (by omega), rfl⟩

theorem take_getD (ss : List ByteArray) (k : Nat) (h : k < ss.length) : ss.take (k + 1) = ss.take k ++ [ss.getD k ByteArray.empty] := by
  rw [List.take_succ_eq_append_getElem h]
  simp [List.getD, h]
theorem infoStr : (Try.prog.info? 9).map (fun i => (i.zero, i.size, i.bytes)) = some (some (.string ByteArray.empty), 1, 16) := by kernel_rfl

set_option maxHeartbeats 1000000 in
/-- toStringS: a copy in new memory. -/
theorem to_any (b off cap : Nat) (ss : List ByteArray) (w : World) (h : At w b off ss) (hn : ss.length ≤ 1048576) :
    Calls Try.prog 22 #[.slice (some ⟨b, off, none⟩) ss.length cap] w fun e w' => e = .returned (.slice (some ⟨w.heap.size, 0, none⟩) ss.length ss.length) ∧ w' = w.alloc (.cells (ss.map Value.string).toArray 9) := by
  have hb := h.1
  have HC := Lib.hid h.2
  have hfull := Lib.hid (Lib.cellsOf_full ss)
  clear h
  obtain ⟨N, hN⟩ : ∃ N, N = ss.length := ⟨_, rfl⟩
  rw [← hN] at hfull ⊢
  have hmk := run_make_row' (P := Try.prog) 26 9 (.string ByteArray.empty) 16 Try.underlying26 infoStr rfl .i64 .i64 N (by omega) (by omega)
  have HN := Lib.hid hN
  have hn' : N ≤ 1048576 := by omega
  clear hN
  go_enter Try.func22, Try.ntmps22
  go_wp2
  clear hmk
  rw [← Lib.cellsOf_nil]
  go_loopw [4] (fun i wr => ∃ k : Nat, k ≤ N ∧ i = .int .i64 k ∧ wr = w.alloc (.cells (Lib.cellsOf (ss.take k) N) 9)) (fun i _ => N - (intOf i).toNat)
  case atStart => exact ⟨0, Nat.zero_le _, rfl, rfl⟩
  case round =>
    obtain ⟨k, hk, rfl, rfl⟩ := hrel
    by_cases hlt : k < N
    · have hks : k < ss.length := by rw [← HN.out]; exact hlt
      have hlen : (ss.take k).length = k := by rw [List.length_take]; omega
      have hc : w.cell? ⟨b, off + k, none⟩ = some (.string (ss.getD k ByteArray.empty)) := HC.out k hks
      have hsz := Lib.hid (Lib.cellsOf_size (done := ss.take k) (N := N) (by omega))
      have hset := Lib.hid (Lib.cellsOf_set (done := ss.take k) (N := N) (by omega) (ss.getD k ByteArray.empty))
      have hold := Lib.hid (Lib.cellsOf_next (done := ss.take k) (N := N) (by omega))
      rw [hlen, ← take_getD ss k hks] at hset
      rw [hlen] at hold
      have hbn : b ≠ w.heap.size := by omega
      clear hlen hks
      generalize ss.getD k ByteArray.empty = s at *
      generalize Lib.cellsOf (ss.take k) N = C at *
      have hold' := hold.out
      have hszC := hsz.out
      go_wp2
      go_roundw
      case rel => exact ⟨k + 1, by omega, by go_num, by rw [hset.out]⟩
      case measure => simp [intOf]; omega
    · have hkN : k = N := by omega
      have hfin := Lib.hid (show Lib.cellsOf (ss.take k) N = (ss.map Value.string).toArray by rw [List.take_of_length_le (by rw [← HN.out]; omega)]; exact hfull.out)
      clear hkN
      go_wp2
      go_ret
      exact ⟨rfl, by rw [hfin.out]⟩

/-- What a copy holds. -/
theorem at_new (w : World) (ss : List ByteArray) : At (w.alloc (.cells (ss.map Value.string).toArray 9)) w.heap.size 0 ss := by
  refine ⟨by simp, fun j hj => ?_⟩
  rw [World.cell?_alloc_at _ _ _ _ rfl]
  simp [List.getD, hj]

set_option maxHeartbeats 1000000 in
/-- eqStringS at two slices of the same strings. -/
theorem eq_same (b off cap b2 off2 cap2 : Nat) (ss : List ByteArray) (w : World) (h : At w b off ss) (h2 : At w b2 off2 ss) (hn : ss.length ≤ 1048576) :
    Calls Try.prog 18 #[.slice (some ⟨b, off, none⟩) ss.length cap, .slice (some ⟨b2, off2, none⟩) ss.length cap2] w fun e w' => e = .returned (.bool true) ∧ ∃ d, w' = w.drewN d := by
  have HC := Lib.hid h.2
  have HC2 := Lib.hid h2.2
  clear h h2
  go_enter Try.func18, Try.ntmps18
  go_wp2
  go_loopw [5] (fun i wr => ∃ (k d : Nat), k ≤ ss.length ∧ i = .int .i64 k ∧ wr = w.drewN d) (fun i _ => ss.length - (intOf i).toNat)
  case atStart => exact ⟨0, 0, Nat.zero_le _, rfl, rfl⟩
  case round =>
    obtain ⟨k, d, hk, rfl, rfl⟩ := hrel
    by_cases hlt : k < ss.length
    · have hc : w.cell? ⟨b, off + k, none⟩ = some (.string (ss.getD k ByteArray.empty)) := HC.out k hlt
      have hc2 : w.cell? ⟨b2, off2 + k, none⟩ = some (.string (ss.getD k ByteArray.empty)) := HC2.out k hlt
      generalize ss.getD k ByteArray.empty = s at *
      have hlt' : (k : Int) < (ss.length : Int) := by omega
      have hk0 : (0 : Int) ≤ (k : Int) := by omega
      go_wp2
      go_quiet (fail)
      go_wp2
      go_roundw
      case rel => exact ⟨k + 1, _, by omega, by go_num, rfl⟩
      case measure => simp [intOf]; omega
    · go_wp2
      go_ret
      exact ⟨rfl, d, rfl⟩

/-! ### No strings at all: nil, or a slice of length 0 -/
theorem sz_none (a : Option Addr) (cap : Nat) (w : World) :
    Calls Try.prog 21 #[.slice a 0 cap, .int .i64 1048576] w fun e w' => e = .returned (.int .i64 1048576) ∧ w' = w := by
  go_enter Try.func21, Try.ntmps21
  go_wp2
  refine wp_loop_rounds 1 ?_
  rw [rounds_succ]
  go_wp2
  go_ret
  exact ⟨rfl, rfl⟩
theorem to_none (a : Option Addr) (cap : Nat) (w : World) :
    Calls Try.prog 22 #[.slice a 0 cap] w fun e w' => e = .returned (.slice (some ⟨w.heap.size, 0, none⟩) 0 0) ∧ w' = w.alloc (.cells #[] 9) := by
  have hmk : ∀ wx : World, (Instr.makeSlice 26 (.int .i64 0) (.int .i64 0)).run Try.prog wx = .ok (.slice (some ⟨wx.heap.size, 0, none⟩) 0 0) (wx.alloc (.cells #[] 9)) := fun wx => by
    have h := run_make_row' (P := Try.prog) 26 9 (.string ByteArray.empty) 16 Try.underlying26 infoStr rfl .i64 .i64 0 (by omega) (by omega) wx
    rw [← Lib.cellsOf_nil] at h
    exact h
  go_enter Try.func22, Try.ntmps22
  go_wp2
  clear hmk
  refine wp_loop_rounds 1 ?_
  rw [rounds_succ]
  go_wp2
  go_ret
  exact ⟨rfl, rfl⟩
theorem eq_none (a a2 : Option Addr) (cap cap2 : Nat) (w : World) :
    Calls Try.prog 18 #[.slice a 0 cap, .slice a2 0 cap2] w fun e w' => e = .returned (.bool true) ∧ w' = w := by
  go_enter Try.func18, Try.ntmps18
  go_wp2
  refine wp_loop_rounds 1 ?_
  rw [rounds_succ]
  go_wp2
  go_ret
  exact ⟨rfl, rfl⟩
end Go.Proofs.Ytcheogmnhooffaa.S1
