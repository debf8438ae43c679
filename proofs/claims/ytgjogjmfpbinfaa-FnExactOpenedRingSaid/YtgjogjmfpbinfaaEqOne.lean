/- The laws' comparisons of pipes and networks that are the same: contracts. Conditions: each theorem's own premises. -/
import Derived.Test.YtgjogjmfpbinfaaToOne
namespace Go.Proofs.Ytgjogjmfpbinfaa.S2
open Go.RowKit P2

theorem eqpipe_same (p : Pp) (w : World) :
    Calls Try.prog 203 #[pv p, pv p] w fun e w' => e = .returned (.bool true) ∧ Below w.heap.size w w' := by
  obtain ⟨id, fr, to, sz⟩ := p
  go_enter Try.func203, Try.ntmps203
  go_wp2
  go_ret
  exact ⟨rfl, ((Below.refl _ _).alloc (Nat.le_refl _) _).alloc (by simp) _⟩

set_option maxHeartbeats 1000000 in
theorem eqpipes_same (A A2 : Option Addr) (cap cap2 : Nat) (ps : List Pp) (w : World) (h : PAt w A ps) (h2 : PAt w A2 ps) (hn : ps.length ≤ 1048576) :
    Calls Try.prog 117 #[.slice A ps.length cap, .slice A2 ps.length cap2] w fun e w' => e = .returned (.bool true) ∧ Below w.heap.size w w' := by
  have HA := Lib.hid h
  have HA2 := Lib.hid h2
  clear h h2
  go_enter Try.func117, Try.ntmps117
  go_wp2
  go_loopw [5] (fun i wr => ∃ k : Nat, k ≤ ps.length ∧ i = .int .i64 k ∧ Below w.heap.size w wr) (fun i _ => ps.length - (intOf i).toNat)
  case atStart => exact ⟨0, Nat.zero_le _, rfl, Below.refl _ _⟩
  case round =>
    obtain ⟨k, hk, rfl, hb⟩ := hrel
    by_cases hlt : k < ps.length
    · obtain ⟨b, off, hA, hbl, h0, h1, h2, h3⟩ := HA.out.at_ hlt
      obtain ⟨b2, off2, hA2, hbl2, g0, g1, g2, g3⟩ := HA2.out.at_ hlt
      subst hA hA2
      obtain ⟨hc, hf⟩ := bcell hb
      have hz := hb.size
      have hbw : b < wr.heap.size := by omega
      have hbw2 : b2 < wr.heap.size := by omega
      have hk0i : (0 : Int) ≤ (k : Int) := by omega
      have hk1i : (k : Int) < (ps.length : Int) := by omega
      have H1 := Lib.hid (fun w => eqpipe_same (pAt ps k) w)
      have hG := @cell_g
      generalize pAt ps k = p at *
      go_wp2
      refine region_below (by kernel_rfl) (by kernel_rfl) ?_
      repeat (first | go_big_quiet_step ((go_at_call 203; exact met H1.out)))
      refine wpQuiet_nil ?_
      intro w1 hb1
      go_wp2
      go_roundw
      case rel => exact ⟨k + 1, by omega, by go_num, hb.trans (hb1.mono hz)⟩
      case measure => simp [intOf]; omega
    · go_wp2
      go_ret
      exact ⟨rfl, hb⟩

theorem eqnet_same (n : Int) (A A2 : Option Addr) (cap cap2 : Nat) (ps : List Pp) (w : World) (h : PAt w A ps) (h2 : PAt w A2 ps) (hn : ps.length ≤ 1048576) :
    Calls Try.prog 23 #[nv n A ps.length cap, nv n A2 ps.length cap2] w fun e w' => e = .returned (.bool true) ∧ Below w.heap.size w w' := by
  have H := Lib.hid (fun w' (hb : Below w.heap.size w w') => eqpipes_same A A2 cap cap2 ps w' (h.kept hb (Nat.le_refl _)) (h2.kept hb (Nat.le_refl _)) hn)
  clear h h2
  go_enter Try.func23, Try.ntmps23
  go_wp2_with (go_at_call 117; refine (H.out _ ?_).mono ?_; (exact ((Below.refl _ _).alloc (Nat.le_refl _) _).alloc (by simp) _); rintro e w1 ⟨rfl, hb1⟩)
  go_ret
  exact ⟨rfl, (((Below.refl _ _).alloc (Nat.le_refl _) _).alloc (by simp) _).trans (hb1.mono (by simp; omega))⟩
end Go.Proofs.Ytgjogjmfpbinfaa.S2
