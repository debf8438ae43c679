/- What the program's and the model's functions of chapter 6 give, valid or not, in one word each; the laws' comparison of numbers. Conditions: each theorem's own premises. -/
import Derived.Test.YtkgkeohnnpkahaaPfMath
import Derived.Test.YtkgkeohnnpkahaaPfDr
import Derived.Test.YtkgkeohnnpkahaaPfSfl
import Derived.Test.YtkgkeohnnpkahaaPfQui
import Derived.Test.YtkgkeohnnpkahaaPfPeak
namespace Go.Proofs.Ytkgkeohnnpkahaa.S6
open Go.RowKit P6

def GivesQ (w : World) (l : List Int) (ok : Bool) (e : Ending) (w' : World) : Prop :=
  ∃ A cap, e = .returned (.tuple #[dv A l.length cap, .bool ok]) ∧ IAt w' A l ∧ Below w.heap.size w w'
theorem q_of_no {w w' : World} {e : Ending} (h : GivesPN w e w') : GivesQ w [] false e w' := ⟨none, 0, h.1, .inl rfl, h.2⟩
theorem q_of_yes {w w' : World} {l : List Int} {e : Ending} (h : GivesPA w l true e w') : GivesQ w l true e w' := by
  obtain ⟨g, o, cap, he, _, ha, hb, _⟩ := h
  exact ⟨some ⟨g, o, none⟩, cap, he, ha, hb⟩
theorem shift_pack (l : List Int) (z : Int) (hm : l.length ≤ 1048576) : ∃ (L : List Int) (ok : Bool),
    Hid (∀ A c w, IAt w A l → Calls Try.prog 17 #[dv A l.length c, .int .i64 z] w (GivesQ w L ok)) ∧
    Hid (∀ A c w, IAt w A l → Calls Try.prog 18 #[dv A l.length c, .int .i64 z] w (GivesQ w L ok)) ∧ L.length ≤ 24 ∧ Hid (ok = true → ∃ Z : Nat, z = (Z : Int) ∧ Z < 24 ∧ Gd l ∧ L = shL l Z) := by
  cases hn : gdB l && hoB z with
  | false =>
    exact ⟨[], false, Lib.hid fun A c w h => (shf_no A c l z w h hm hn).mono fun _ _ h => q_of_no h, Lib.hid fun A c w h => (sshf_no A c l z w h hm hn).mono fun _ _ h => q_of_no h, by simp, Lib.hid fun h => by cases h⟩
  | true =>
    simp only [Bool.and_eq_true] at hn
    obtain ⟨hg, hx⟩ := hn
    have hx' : 0 ≤ z ∧ z ≤ 23 := by simpa [hoB] using hx
    obtain ⟨Z, rfl⟩ := nat_of hx'.1
    exact ⟨shL l Z, true, Lib.hid fun A c w h => (shf_yes A c l Z w h (gd_of hg) (by omega)).mono fun _ _ h => q_of_yes h.any, Lib.hid fun A c w h => (sshf_yes A c l Z w h (gd_of hg) (by omega)).mono fun _ _ h => q_of_yes h, by rw [shL_len]; omega, Lib.hid fun _ => ⟨Z, rfl, by omega, gd_of hg, rfl⟩⟩
theorem flat_pack (l : List Int) (z : Int) (hm : l.length ≤ 1048576) : ∃ (L : List Int) (ok : Bool),
    Hid (∀ A c w, IAt w A l → Calls Try.prog 23 #[dv A l.length c, .int .i64 z] w (GivesQ w L ok)) ∧
    Hid (∀ A c w, IAt w A l → Calls Try.prog 24 #[dv A l.length c, .int .i64 z] w (GivesQ w L ok)) ∧ L.length ≤ 1048576 ∧ Hid (ok = true → Gd L ∧ ¬ z < at0 L (pk L 24)) := by
  cases hn : gdB l && moB z with
  | false =>
    exact ⟨[], false, Lib.hid fun A c w h => (fla_no A c l z w h hm hn).mono fun _ _ h => q_of_no h, Lib.hid fun A c w h => (sfla_no A c l z w h hm hn).mono fun _ _ h => q_of_no h, by simp, Lib.hid fun h => by cases h⟩
  | true =>
    simp only [Bool.and_eq_true] at hn
    obtain ⟨hg, hx⟩ := hn
    have hx' : 100 ≤ z ∧ z ≤ 1000 := by simpa [moB] using hx
    have hf := flL_gd (gd_of hg) hx'.1
    exact ⟨flL l z, true, Lib.hid fun A c w h => (fla_yes A c l z w h (gd_of hg) hx'.1 hx'.2).mono fun _ _ h => q_of_yes h.any, Lib.hid fun A c w h => (sfla_yes A c l z w h (gd_of hg) hx'.1 hx'.2).mono fun _ _ h => q_of_yes h, by rw [hf.1.1]; omega, Lib.hid fun _ => hf⟩
theorem qui_pack (l : List Int) (z : Int) (hm : l.length ≤ 1048576) : ∃ (f s : Int) (ok : Bool),
    Hid (∀ A c w, IAt w A l → Calls Try.prog 26 #[dv A l.length c, .int .i64 z] w (Gives3 f s ok w)) ∧
    Hid (∀ A c w, IAt w A l → Calls Try.prog 27 #[dv A l.length c, .int .i64 z] w (Gives3 f s ok w)) ∧ Hid (ok = true → s ≤ 100 * z ∧ 1 ≤ z ∧ z ≤ 24) := by
  cases hn : gdB l && h1B z with
  | false => exact ⟨0, 0, false, Lib.hid fun A c w h => qui_no A c l z w h hm hn, Lib.hid fun A c w h => squi_no A c l z w h hm hn, Lib.hid fun h => by cases h⟩
  | true =>
    simp only [Bool.and_eq_true] at hn
    obtain ⟨hg, hx⟩ := hn
    have hx' : 1 ≤ z ∧ z ≤ 24 := by simpa [h1B] using hx
    obtain ⟨Z, rfl⟩ := nat_of (show 0 ≤ z by omega)
    exact ⟨_, _, true, Lib.hid fun A c w h => qui_yes A c l Z w h (gd_of hg) (by omega) (by omega), Lib.hid fun A c w h => squi_yes A c l Z w h (gd_of hg) (by omega) (by omega), Lib.hid fun _ => ⟨qh_mean (gd_of hg) Z (by omega), hx'⟩⟩
theorem peak_pack (l : List Int) (hm : l.length ≤ 1048576) : ∃ (f s : Int) (ok : Bool),
    Hid (∀ A c w, IAt w A l → Calls Try.prog 20 #[dv A l.length c] w (Gives3 f s ok w)) ∧
    Hid (∀ A c w, IAt w A l → Calls Try.prog 29 #[dv A l.length c] w (Gives3 f s ok w)) ∧ Hid (ok = true → 100 ≤ s) := by
  cases hn : gdB l with
  | false => exact ⟨0, 0, false, Lib.hid fun A c w h => peak_no A c l w h hm hn, Lib.hid fun A c w h => speak_no A c l w h hm hn, Lib.hid fun h => by cases h⟩
  | true => exact ⟨_, _, true, Lib.hid fun A c w h => peak_yes A c l w h (gd_of hn), Lib.hid fun A c w h => speak_yes A c l w h (gd_of hn), Lib.hid fun _ => pk_hundred (gd_of hn)⟩

theorem rbig_no (a : Option Addr) (n cap : Nat) (w : World) (hn : n ≤ 65536) : Calls Try.prog 15 #[.slice a n cap] w fun e w' => e = .returned (.bool false) ∧ w' = w := by
  have h : ¬ (65536 : Int) < (n : Int) := by omega
  go_enter Try.func15, Try.ntmps15
  go_wp2
  go_ret
  exact ⟨by simp, rfl⟩
theorem rbig_below (a : Option Addr) (n cap : Nat) (w : World) (hn : n ≤ 65536) : Calls Try.prog 15 #[.slice a n cap] w fun e w' => e = .returned (.bool false) ∧ Below w.heap.size w w' :=
  (rbig_no a n cap w hn).mono fun _ _ ⟨he, hw⟩ => ⟨he, hw ▸ Below.refl _ _⟩
theorem rbig_yes (a : Option Addr) (n cap : Nat) (w : World) (hn : 65536 < n) : Calls Try.prog 15 #[.slice a n cap] w fun e w' => e = .returned (.bool true) ∧ w' = w := by
  have h : (65536 : Int) < (n : Int) := by omega
  go_enter Try.func15, Try.ntmps15
  go_wp2
  go_ret
  exact ⟨by simp, rfl⟩
set_option maxHeartbeats 1000000 in
theorem rints_same (A A2 : Option Addr) (cap cap2 : Nat) (l : List Int) (w : World) (h : IAt w A l) (h2 : IAt w A2 l) (hn : l.length ≤ 1048576) :
    Calls Try.prog 19 #[.slice A l.length cap, .slice A2 l.length cap2] w fun e w' => e = .returned (.bool true) ∧ Below w.heap.size w w' := by
  have HA := Lib.hid h
  have HA2 := Lib.hid h2
  clear h h2
  go_enter Try.func19, Try.ntmps19
  go_wp2
  go_loopw [5] (fun i wr => ∃ (k d : Nat), k ≤ l.length ∧ i = .int .i64 k ∧ wr = w.drewN d) (fun i _ => l.length - (intOf i).toNat)
  case atStart => exact ⟨0, 0, Nat.zero_le _, rfl, rfl⟩
  case round =>
    obtain ⟨k, d, hk, rfl, rfl⟩ := hrel
    by_cases hlt : k < l.length
    · obtain ⟨b, off, hA, hbl, h0⟩ := HA.out.at_ hlt
      obtain ⟨b2, off2, hA2, hbl2, g0⟩ := HA2.out.at_ hlt
      subst hA hA2
      have hk0i : (0 : Int) ≤ (k : Int) := by omega
      have hk1i : (k : Int) < (l.length : Int) := by omega
      generalize l.getD k 0 = x at *
      go_wp2
      go_quiet (fail)
      go_wp2
      go_roundw
      case rel => exact ⟨k + 1, _, by omega, by go_num, rfl⟩
      case measure => simp [intOf]; omega
    · go_wp2
      go_ret
      exact ⟨rfl, below_drewN (Below.refl _ _) d⟩
end Go.Proofs.Ytkgkeohnnpkahaa.S6
