/- The greatest and the smallest number of a list and where it stands: contracts of the program's generic functions. Conditions: each theorem's own premises. -/
import Derived.Test.YtgjogjmfpbinfaaLosP
namespace Go.Proofs.Ytgjogjmfpbinfaa.S2
open Go.RowKit P2

/-- The first of the first k that is greatest. -/
def fstG (f : Nat → Int) : Nat → Nat
  | 0 => 0
  | k + 1 => if f (fstG f k) < f k then k else fstG f k
theorem fstG_lt (f : Nat → Int) : ∀ k, 0 < k → fstG f k < k
  | 0, h => absurd h (by omega)
  | 1, _ => by unfold fstG; split <;> simp [fstG]
  | k + 2, _ => by
    have := fstG_lt f (k + 1) (by omega)
    rw [fstG]
    split <;> omega
theorem fstG_one (f : Nat → Int) : fstG f 1 = 0 := by have := fstG_lt f 1 (by omega); omega
theorem fstG_val (f : Nat → Int) (k : Nat) : f (fstG f (k + 1)) = max (f (fstG f k)) (f k) := by
  rw [fstG]
  split <;> omega
theorem fstG_top (f : Nat → Int) : ∀ k j, j < k → f j ≤ f (fstG f k)
  | 0, j, h => absurd h (by omega)
  | k + 1, j, h => by
    rw [fstG_val f k]
    by_cases e : j = k
    · subst e; omega
    · have := fstG_top f k j (by omega); omega
theorem fstG_first (f : Nat → Int) : ∀ k j, j < fstG f k → f j < f (fstG f k)
  | 0, j, h => absurd h (by simp [fstG])
  | k + 1, j, h => by
    by_cases e : f (fstG f k) < f k
    · rw [fstG, if_pos e] at h ⊢
      have := fstG_top f k j h
      omega
    · rw [fstG, if_neg e] at h ⊢
      exact fstG_first f k j h
/-- The smallest of the first k. -/
def loK (l : List Int) : Nat → Int
  | 0 => lA l 0
  | k + 1 => min (loK l k) (lA l k)
theorem loK_le (l : List Int) : ∀ k j, j < k → loK l k ≤ lA l j
  | 0, j, h => absurd h (by omega)
  | k + 1, j, h => by
    rw [loK]
    by_cases e : j = k
    · subst e; omega
    · have := loK_le l k j (by omega); omega
theorem loK_one (l : List Int) : loK l 1 = lA l 0 := by simp [loK]

set_option maxHeartbeats 1000000 in
theorem max_any (A : Option Addr) (cap : Nat) (l : List Int) (w : World) (h : IAt w A l) (hl : 0 < l.length) (hl2 : l.length ≤ 1048576) :
    Calls Try.prog 180 #[.slice A l.length cap] w fun e w' => e = .returned (.int .i64 (lA l (fstG (lA l) l.length))) ∧ w' = w := by
  have HA := Lib.hid h
  obtain ⟨b, off, hA, hbl, h0⟩ := h.at_ (i := 0) hl
  subst hA
  rw [Nat.add_zero] at h0
  have hat : l.getD 0 0 = lA l 0 := rfl
  rw [hat] at h0
  have HX := Lib.hid (show lA l (fstG (lA l) 1) = lA l 0 by rw [fstG_one])
  have g0 : decide ((l.length : Int) < 1) = false := decide_eq_false (by omega)
  generalize lA l 0 = x0 at *
  clear h hat
  go_enter Try.func180, Try.ntmps180
  go_wp2
  go_loopw [3, 4] (fun m i wr => ∃ k : Nat, 1 ≤ k ∧ k ≤ l.length ∧ m = .int .i64 (lA l (fstG (lA l) k)) ∧ i = .int .i64 k ∧ wr = w) (fun _ i _ => l.length - (intOf i).toNat)
  case atStart => exact ⟨1, Nat.le_refl _, by omega, by rw [HX.out], rfl, rfl⟩
  case round =>
    obtain ⟨k, hk1, hk, rfl, rfl, hw⟩ := hrel
    replace hw := hw.symm
    subst hw
    by_cases hlt : k < l.length
    · obtain ⟨b', off', hA', hbl', h1⟩ := HA.out.at_ (i := k) hlt
      simp only [Option.some.injEq, Addr.mk.injEq, and_true] at hA'
      obtain ⟨rfl, rfl⟩ := hA'
      have hk0 : (0 : Int) ≤ (k : Int) := by omega
      have hkn : (k : Int) < (l.length : Int) := by omega
      have hat : l.getD k 0 = lA l k := rfl
      rw [hat] at h1
      have HN := Lib.hid (fstG_val (lA l) k)
      generalize lA l k = x at *
      generalize hM : lA l (fstG (lA l) k) = M at *
      clear hM h0 hat
      go_wp2
      go_roundw
      case rel => exact ⟨k + 1, by omega, by omega, by rw [HN.out], by go_num, trivial⟩
      case measure => simp [intOf]; omega
    · have HF := Lib.hid (show lA l (fstG (lA l) k) = lA l (fstG (lA l) l.length) by rw [show k = l.length by omega])
      clear h0
      go_wp2
      go_ret
      exact ⟨by rw [← HF.out]; rfl, rfl⟩
set_option maxHeartbeats 1000000 in
theorem min_any (A : Option Addr) (cap : Nat) (l : List Int) (w : World) (h : IAt w A l) (hl : 0 < l.length) (hl2 : l.length ≤ 1048576) :
    Calls Try.prog 144 #[.slice A l.length cap] w fun e w' => e = .returned (.int .i64 (loK l l.length)) ∧ w' = w := by
  have HA := Lib.hid h
  obtain ⟨b, off, hA, hbl, h0⟩ := h.at_ (i := 0) hl
  subst hA
  rw [Nat.add_zero] at h0
  have hat : l.getD 0 0 = lA l 0 := rfl
  rw [hat] at h0
  have HX := Lib.hid (loK_one l)
  have g0 : decide ((l.length : Int) < 1) = false := decide_eq_false (by omega)
  generalize lA l 0 = x0 at *
  clear h hat
  go_enter Try.func144, Try.ntmps144
  go_wp2
  go_loopw [3, 4] (fun m i wr => ∃ k : Nat, 1 ≤ k ∧ k ≤ l.length ∧ m = .int .i64 (loK l k) ∧ i = .int .i64 k ∧ wr = w) (fun _ i _ => l.length - (intOf i).toNat)
  case atStart => exact ⟨1, Nat.le_refl _, by omega, by rw [HX.out], rfl, rfl⟩
  case round =>
    obtain ⟨k, hk1, hk, rfl, rfl, hw⟩ := hrel
    replace hw := hw.symm
    subst hw
    by_cases hlt : k < l.length
    · obtain ⟨b', off', hA', hbl', h1⟩ := HA.out.at_ (i := k) hlt
      simp only [Option.some.injEq, Addr.mk.injEq, and_true] at hA'
      obtain ⟨rfl, rfl⟩ := hA'
      have hk0 : (0 : Int) ≤ (k : Int) := by omega
      have hkn : (k : Int) < (l.length : Int) := by omega
      have hat : l.getD k 0 = lA l k := rfl
      rw [hat] at h1
      have HN := Lib.hid (show loK l (k + 1) = min (loK l k) (lA l k) from rfl)
      generalize lA l k = x at *
      generalize hM : loK l k = M at *
      clear hM h0 hat
      go_wp2
      go_roundw
      case rel => exact ⟨k + 1, by omega, by omega, by rw [HN.out], by go_num, trivial⟩
      case measure => simp [intOf]; omega
    · have HF := Lib.hid (show loK l k = loK l l.length by rw [show k = l.length by omega])
      clear h0
      go_wp2
      go_ret
      exact ⟨by rw [← HF.out]; rfl, rfl⟩
set_option maxHeartbeats 1000000 in
theorem index_any (A : Option Addr) (cap : Nat) (l : List Int) (v : Int) (i0 : Nat) (w : World) (h : IAt w A l) (hl : l.length ≤ 1048576) (hi : i0 < l.length) (hv : lA l i0 = v) (hn : ∀ j, j < i0 → lA l j ≠ v) :
    Calls Try.prog 132 #[.slice A l.length cap, .int .i64 v] w fun e w' => e = .returned (.int .i64 (i0 : Int)) ∧ w' = w := by
  have HA := Lib.hid h
  have HN := Lib.hid hn
  have HV := Lib.hid hv
  clear h hn hv
  go_enter Try.func132, Try.ntmps132
  go_wp2
  go_loopw [8] (fun i wr => ∃ k : Nat, k ≤ i0 ∧ i = .int .i64 k ∧ wr = w) (fun i _ => l.length - (intOf i).toNat)
  case atStart => exact ⟨0, by omega, rfl, rfl⟩
  case round =>
    obtain ⟨k, hk, rfl, hw⟩ := hrel
    replace hw := hw.symm
    subst hw
    have hlt : k < l.length := by omega
    obtain ⟨b, off, hA, hbl, h1⟩ := HA.out.at_ (i := k) hlt
    subst hA
    have hk0 : (0 : Int) ≤ (k : Int) := by omega
    have hkn : (k : Int) < (l.length : Int) := by omega
    have hat : l.getD k 0 = lA l k := rfl
    rw [hat] at h1
    by_cases he : k = i0
    · subst he
      rw [HV.out] at h1
      clear hat
      go_wp2
      go_ret
      exact ⟨rfl, rfl⟩
    · have hne : ¬ v = lA l k := fun e => HN.out k (by omega) e.symm
      generalize lA l k = x at *
      clear hat
      go_wp2
      go_roundw
      case rel => exact ⟨k + 1, by omega, by go_num, trivial⟩
      case measure => simp [intOf]; omega
end Go.Proofs.Ytgjogjmfpbinfaa.S2
