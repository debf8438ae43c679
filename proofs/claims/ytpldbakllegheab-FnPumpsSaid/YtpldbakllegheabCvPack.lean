/- What the laws FnCurves and FnPumps call besides: the code's length, curves compared: contracts. Conditions: each theorem's own premises. -/
import Derived.Test.YtpldbakllegheabCvDr
import Derived.Test.YtpldbakllegheabCvFacts
import Derived.Test.YtpldbakllegheabCvAbvI
import Derived.Test.YtpldbakllegheabCvAbvS
namespace Go.Proofs.Ytpldbakllegheab.S7
open Go.RowKit P7

theorem rbig_no (a : Option Addr) (n cap : Nat) (w : World) (hn : n ≤ 65536) : Calls Try.prog 8 #[.slice a n cap] w fun e w' => e = .returned (.bool false) ∧ w' = w := by
  have h : ¬ (65536 : Int) < (n : Int) := by omega
  go_enter Try.func8, Try.ntmps8
  go_wp2
  go_ret
  exact ⟨by simp, rfl⟩
theorem rbig_below (a : Option Addr) (n cap : Nat) (w : World) (hn : n ≤ 65536) : Calls Try.prog 8 #[.slice a n cap] w fun e w' => e = .returned (.bool false) ∧ Below w.heap.size w w' :=
  (rbig_no a n cap w hn).mono fun _ _ ⟨he, hw⟩ => ⟨he, hw ▸ Below.refl _ _⟩
theorem rbig_yes (a : Option Addr) (n cap : Nat) (w : World) (hn : 65536 < n) : Calls Try.prog 8 #[.slice a n cap] w fun e w' => e = .returned (.bool true) ∧ w' = w := by
  have h : (65536 : Int) < (n : Int) := by omega
  go_enter Try.func8, Try.ntmps8
  go_wp2
  go_ret
  exact ⟨by simp, rfl⟩
set_option maxHeartbeats 2000000 in
theorem rcurves_same (A A2 : Option Addr) (cap cap2 : Nat) (cs : List Cp) (w : World) (h : CAt w A cs) (h2 : CAt w A2 cs) (hn : cs.length ≤ 1048576) :
    Calls Try.prog 31 #[.slice A cs.length cap, .slice A2 cs.length cap2] w fun e w' => e = .returned (.bool true) ∧ Below w.heap.size w w' := by
  have HA := Lib.hid h
  have HA2 := Lib.hid h2
  clear h h2
  go_enter Try.func31, Try.ntmps31
  go_wp2
  go_loopw [5] (fun i wr => ∃ (k d : Nat), k ≤ cs.length ∧ i = .int .i64 k ∧ wr = w.drewN d) (fun i _ => cs.length - (intOf i).toNat)
  case atStart => exact ⟨0, 0, Nat.zero_le _, rfl, rfl⟩
  case round =>
    obtain ⟨k, d, hk, rfl, rfl⟩ := hrel
    by_cases hlt : k < cs.length
    · obtain ⟨b, off, hA, hbl, h0, h1⟩ := HA.out.at_ hlt
      obtain ⟨b2, off2, hA2, hbl2, g0, g1⟩ := HA2.out.at_ hlt
      subst hA hA2
      have hk0i : (0 : Int) ≤ (k : Int) := by omega
      have hk1i : (k : Int) < (cs.length : Int) := by omega
      generalize (cAt cs k).fl = x at *
      generalize (cAt cs k).hd = y at *
      go_wp2
      go_quiet (fail)
      go_wp2
      go_roundw
      case rel => exact ⟨k + 1, _, by omega, by go_num, rfl⟩
      case measure => simp [intOf]; omega
    · go_wp2
      go_ret
      exact ⟨rfl, below_drewN (Below.refl _ _) d⟩
theorem tri_parts (t : Tri) : ∃ x y v, t = (x, y, v) := ⟨t.1, t.2.1, t.2.2, rfl⟩
end Go.Proofs.Ytpldbakllegheab.S7
