/- The laws' own helpers: whether the bytes are too many, comparison and sums of lists: contracts. Conditions: each theorem's own premises. -/
import Derived.Test.YtikppgbipdflbaaDoorTkMoreS
namespace Go.Proofs.YtikppgbipdflbaaDoor.S11
open Go.RowKit P11

theorem vbig_no (a : Option Addr) (n cap : Nat) (w : World) (hn : n ≤ 65536) : Calls Tryd.prog 14 #[.slice a n cap] w fun e w' => e = .returned (.bool false) ∧ w' = w := by
  have h : ¬ ((65536 : Int) < (n : Int)) := by omega
  go_enter Tryd.func14, Tryd.ntmps14
  go_wp2
  go_ret
  exact ⟨rfl, rfl⟩
theorem vbig_yes (a : Option Addr) (n cap : Nat) (w : World) (hn : 65536 < n) : Calls Tryd.prog 14 #[.slice a n cap] w fun e w' => e = .returned (.bool true) ∧ w' = w := by
  have h : ((65536 : Int) < (n : Int)) := by omega
  go_enter Tryd.func14, Tryd.ntmps14
  go_wp2
  go_ret
  exact ⟨rfl, rfl⟩
set_option maxHeartbeats 1000000 in
theorem vints_same (A A2 : Option Addr) (cap cap2 : Nat) (l : List Int) (w : World) (h : IAt w A l) (h2 : IAt w A2 l) (hn : l.length ≤ 1048576) :
    Calls Tryd.prog 18 #[.slice A l.length cap, .slice A2 l.length cap2] w fun e w' => e = .returned (.bool true) ∧ Below w.heap.size w w' := by
  have HA := Lib.hid h
  have HA2 := Lib.hid h2
  clear h h2
  go_enter Tryd.func18, Tryd.ntmps18
  go_wp2
  go_loopw [5] (fun i wr => ∃ (k d : Nat), k ≤ l.length ∧ i = .int .i64 k ∧ wr = w.drewN d) (fun i _ => l.length - (intOf i).toNat)
  case atStart => exact ⟨0, 0, Nat.zero_le _, rfl, rfl⟩
  case round =>
    obtain ⟨k, d, hk, rfl, rfl⟩ := hrel
    by_cases hlt : k < l.length
    · obtain ⟨b, off, hA, hbl, h0⟩ := HA.out.at_ hlt
      obtain ⟨b2, off2, hA2, hbl2, g0⟩ := HA2.out.at_ hlt
      subst hA hA2
      have hk0i : (0 : Int) ≤ (k : Int) := by omega
      have hk1i : (k : Int) < (l.length : Int) := by omega
      generalize l.getD k 0 = x at *
      go_wp2
      go_quiet (fail)
      go_wp2
      go_roundw
      case rel => exact ⟨k + 1, _, by omega, by go_num, rfl⟩
      case measure => simp [intOf]; omega
    · go_wp2
      go_ret
      exact ⟨rfl, below_drewN (Below.refl _ _) d⟩

set_option maxHeartbeats 1000000 in
theorem vsum_all (AU : Option Addr) (cc : Nat) (l : List Int) (w : World) (h : IAt w AU l) (hB : ∀ k, k ≤ l.length → 0 ≤ sumF (vl l) k ∧ sumF (vl l) k ≤ 100000) (hl : l.length ≤ 1048576) (hv : ∀ i, i < l.length → 0 ≤ l.getD i 0 ∧ l.getD i 0 ≤ 1000) :
    Calls Tryd.prog 24 #[.slice AU l.length cc] w fun e w' => e = .returned (.int .i64 (sumF (vl l) l.length)) ∧ w' = w := by
  have HA := Lib.hid h
  have HB := Lib.hid hB
  have HE := Lib.hid hv
  clear h hB hv
  go_enter Tryd.func24, Tryd.ntmps24
  go_wp2
  go_loop [3, 4] (fun s i => ∃ k : Nat, k ≤ l.length ∧ i = .int .i64 (k : Int) ∧ s = .int .i64 (sumF (vl l) k)) (fun _ i => l.length - (intOf i).toNat)
  case atStart => exact ⟨0, Nat.zero_le _, rfl, rfl⟩
  case round =>
    obtain ⟨k, hk, rfl, rfl⟩ := hrel
    obtain ⟨hs0, hs1⟩ := HB.out k hk
    by_cases hlt : k < l.length
    · obtain ⟨bb, off, hA, hbl, h0⟩ := HA.out.at_ hlt
      subst hA
      have hk0 : (0 : Int) ≤ (k : Int) := by omega
      have hkn : (k : Int) < (l.length : Int) := by omega
      obtain ⟨hy0, hy1⟩ := HE.out k hlt
      have hsn := Lib.hid (show sumF (vl l) (k + 1) = sumF (vl l) k + l.getD k 0 from rfl)
      generalize l.getD k 0 = y at *
      generalize sumF (vl l) k = s at *
      go_wp2
      go_round
      case rel => exact ⟨k + 1, by omega, by go_num, by rw [hsn.out]⟩
      case measure => simp [intOf]; omega
    · have hkk : k = l.length := by omega
      have hf := Lib.hid (show sumF (vl l) k = sumF (vl l) l.length by rw [hkk])
      clear hkk
      go_wp2
      go_ret
      exact ⟨by rw [← hf.out]; rfl, rfl⟩
theorem vsum_any (AU : Option Addr) (cc : Nat) (l : List Int) (w : World) (h : IAt w AU l) (hv0 : volsB l = true) (hl : l.length ≤ 13) :
    Calls Tryd.prog 24 #[.slice AU l.length cc] w fun e w' => e = .returned (.int .i64 (outS l)) ∧ w' = w :=
  vsum_all AU cc l w h (fun k hk => by have := vol_sum hv0 hl hk; have e : sumF (vl l) k = sumF (fun i => l.getD i 0) k := rfl; rw [e]; omega) (by omega) (fun i hi => by have := vols_at hv0 hi; omega)
end Go.Proofs.YtikppgbipdflbaaDoor.S11
