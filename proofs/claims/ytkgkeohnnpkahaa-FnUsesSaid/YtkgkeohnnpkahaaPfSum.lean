/- Sums of successive hours, liters of an hour: contracts. Conditions: each theorem's own premises. -/
import Derived.Test.YtkgkeohnnpkahaaPfLaw
import Derived.Test.YtkgkeohnnpkahaaPfLow
namespace Go.Proofs.Ytkgkeohnnpkahaa.S6
open Go.RowKit P6

set_option maxHeartbeats 1000000 in
theorem pf_any (A : Option Addr) (cap : Nat) (l : List Int) (w : World) (h : IAt w A l) (g : Gd l) (f hh : Nat) (hf : f < 24) (hhh : hh ≤ 24) :
    Calls Try.prog 68 #[dv A 24 cap, .int .i64 (f : Int), .int .i64 (hh : Int)] w fun e w' => e = .returned (.int .i64 (pf l f hh)) ∧ Below w.heap.size w w' := by
  have HA := Lib.hid h
  have HG := Lib.hid g
  clear h g
  go_enter Try.func68, Try.ntmps68
  go_wp2
  go_loopw [7, 10] (fun s i wr => ∃ k : Nat, k ≤ hh ∧ s = .int .i64 (pf l f k) ∧ i = .int .i64 k ∧ Below (w.heap.size + 1) (w.alloc (.cells #[.slice A 24 cap] 26)) wr) (fun _ i _ => hh - (intOf i).toNat)
  case atStart => exact ⟨0, Nat.zero_le _, rfl, rfl, Below.refl _ _⟩
  case round =>
    obtain ⟨k, hk, rfl, rfl, hb⟩ := hrel
    have hbx := box1 hb
    by_cases hlt : k < hh
    · obtain ⟨b, off, hA, hbl, h0⟩ := HA.out.at_ (i := (f + k) % 24) (by rw [HG.out.1]; omega)
      subst hA
      obtain ⟨hc, hfz⟩ := bcell (W := w.alloc (.cells #[.slice (some ⟨b, off, none⟩) 24 cap] 26)) (by simpa using hb)
      have hs := pf_bound HG.out f k
      have hx := HG.out.2.1 ((f + k) % 24) (by omega)
      have hadd := Lib.hid (show pf l f k + at0 l ((f + k) % 24) = pf l f (k + 1) from rfl)
      have hm := tmod_nat (f + k) 24
      have hM : (f + k) % 24 < 24 := Nat.mod_lt _ (by omega)
      rw [Int.natCast_add, show ((24 : Nat) : Int) = 24 from rfl] at hm
      have hat : l.getD ((f + k) % 24) 0 = at0 l ((f + k) % 24) := rfl
      rw [hat] at h0
      generalize at0 l ((f + k) % 24) = x at *
      generalize (f + k) % 24 = M at *
      generalize hS : pf l f k = S at *
      clear hS
      go_wp2
      go_roundw
      case rel => exact ⟨k + 1, by omega, by rw [← hadd.out], by go_num, hb⟩
      case measure => simp [intOf]; omega
    · have e : k = hh := by omega
      subst e
      go_wp2
      go_ret
      exact ⟨rfl, below_box hb⟩

set_option maxHeartbeats 1000000 in
theorem spf_any (A : Option Addr) (cap : Nat) (l : List Int) (w : World) (h : IAt w A l) (g : Gd l) (f hh : Nat) (hf : f < 24) (hhh : hh ≤ 24) :
    Calls Try.prog 69 #[dv A 24 cap, .int .i64 (f : Int), .int .i64 (hh : Int)] w fun e w' => e = .returned (.int .i64 (pf l f hh)) ∧ Below w.heap.size w w' := by
  have HA := Lib.hid h
  have HG := Lib.hid g
  clear h g
  go_enter Try.func69, Try.ntmps69
  go_wp2
  go_loopw [7, 8] (fun s i wr => ∃ k : Nat, k ≤ hh ∧ s = .int .i64 (pf l f k) ∧ i = .int .i64 k ∧ Below (w.heap.size + 1) (w.alloc (.cells #[.slice A 24 cap] 26)) wr) (fun _ i _ => hh - (intOf i).toNat)
  case atStart => exact ⟨0, Nat.zero_le _, rfl, rfl, Below.refl _ _⟩
  case round =>
    obtain ⟨k, hk, rfl, rfl, hb⟩ := hrel
    have hbx := box1 hb
    by_cases hlt : k < hh
    · obtain ⟨b, off, hA, hbl, h0⟩ := HA.out.at_ (i := (f + k) % 24) (by rw [HG.out.1]; omega)
      subst hA
      obtain ⟨hc, hfz⟩ := bcell (W := w.alloc (.cells #[.slice (some ⟨b, off, none⟩) 24 cap] 26)) (by simpa using hb)
      have hs := pf_bound HG.out f k
      have hx := HG.out.2.1 ((f + k) % 24) (by omega)
      have hadd := Lib.hid (show pf l f k + at0 l ((f + k) % 24) = pf l f (k + 1) from rfl)
      have hm := tmod_nat (f + k) 24
      have hM : (f + k) % 24 < 24 := Nat.mod_lt _ (by omega)
      rw [Int.natCast_add, show ((24 : Nat) : Int) = 24 from rfl] at hm
      have hat : l.getD ((f + k) % 24) 0 = at0 l ((f + k) % 24) := rfl
      rw [hat] at h0
      generalize at0 l ((f + k) % 24) = x at *
      generalize (f + k) % 24 = M at *
      generalize hS : pf l f k = S at *
      clear hS
      go_wp2
      go_roundw
      case rel => exact ⟨k + 1, by omega, by rw [← hadd.out], by go_num, hb⟩
      case measure => simp [intOf]; omega
    · have e : k = hh := by omega
      subst e
      go_wp2
      go_ret
      exact ⟨rfl, below_box hb⟩

theorem liters_any (b p : Nat) (w : World) (hb : b ≤ 100000) (hp : p ≤ 100000) :
    Calls Try.prog 74 #[.int .i64 (b : Int), .int .i64 (p : Int)] w fun e w' => e = .returned (lowV (b * 60 * p) 100) ∧ Below w.heap.size w w' := by
  have hm : b * 60 * p ≤ 100000 * 60 * 100000 := Nat.mul_le_mul (by omega) hp
  have H := Lib.hid (fun w => low_any (b * 60 * p) 100 w (by omega) (by omega) (by omega))
  have e1 : (b : Int) * 60 * (p : Int) = ((b * 60 * p : Nat) : Int) := by simp
  have hw : IntKind.i64.wrap ((b : Int) * 60 * (p : Int)) = ((b * 60 * p : Nat) : Int) := by rw [e1]; exact IntWalk.i64_in _ (by omega)
  clear e1
  unfold lowV at *
  generalize lowN (b * 60 * p) 100 = u at *
  generalize lowD (b * 60 * p) 100 = v at *
  generalize b * 60 * p = z at *
  go_enter Try.func74, Try.ntmps74
  go_wp2_with (go_at_call 79; refine (H.out _).mono ?_; rintro e w1 ⟨rfl, hb1⟩)
  go_ret2
  exact ⟨rfl, hb1⟩
end Go.Proofs.Ytkgkeohnnpkahaa.S6
