/- Fractions in lowest terms: what the program's lowestTerms and the model's l3Reduce return: contracts. Conditions: each theorem's own premises. -/
import Derived.Test.YtidlpoambmeiiaaTaLaw
namespace Go.Proofs.Ytidlpoambmeiiaa.S14
open Go.RowKit P14

def lowN (a b : Nat) : Int := ((a / Nat.gcd a b : Nat) : Int)
def lowD (a b : Nat) : Int := ((b / Nat.gcd a b : Nat) : Int)
/-- A round of Euclid's algorithm. -/
theorem gcd_round (d r : Nat) : Nat.gcd r (d % r) = Nat.gcd d r := by
  rw [Nat.gcd_comm d r, Nat.gcd_rec r d, Nat.gcd_comm]
theorem tmod_nat (d r : Nat) : (d : Int).tmod (r : Int) = ((d % r : Nat) : Int) := by
  rw [Int.tmod_eq_emod_of_nonneg (by omega)]; rfl
/-- The two numbers of a fraction in lowest terms. -/
abbrev lowV (a b : Nat) : Value := .tuple #[.int .i64 (lowN a b), .int .i64 (lowD a b)]
theorem low_end {a b D : Nat} (h : Nat.gcd D 0 = Nat.gcd a b) : ∃ q r : Nat, (a : Int) / (D : Int) = (q : Int) ∧ (b : Int) / (D : Int) = (r : Int) ∧ q ≤ a ∧ r ≤ b ∧ lowV a b = .tuple #[.int .i64 (q : Int), .int .i64 (r : Int)] := by
  rw [Nat.gcd_zero_right] at h
  refine ⟨a / D, b / D, rfl, rfl, Nat.div_le_self _ _, Nat.div_le_self _ _, ?_⟩
  unfold lowV lowN lowD
  rw [← h]
set_option maxHeartbeats 1000000 in
theorem low_any (a b : Nat) (w : World) (hb : 0 < b) (ha : a ≤ 4000000000000000000) (hb2 : b ≤ 4000000000000000000) :
    Calls Try.prog 63 #[.int .i64 (a : Int), .int .i64 (b : Int)] w fun e w' => e = .returned (lowV a b) ∧ Below w.heap.size w w' := by
  have hm := tmod_nat a b
  have hmw : IntKind.i64.wrap ((a % b : Nat) : Int) = ((a % b : Nat) : Int) := IntWalk.i64_in _ (by have := Nat.mod_lt a hb; omega)
  have hab := Lib.hid (Nat.mod_lt a hb)
  have hg := Lib.hid (gcd_round a b)
  have hb0 : ¬ ((b : Int) = 0) := by omega
  generalize hM : a % b = M at *
  go_enter Try.func63, Try.ntmps63
  go_wp2
  go_quiet (fail)
  go_wp2
  go_loopw [6, 7] (fun d r wr => ∃ D R : Nat, 0 < D ∧ D ≤ b ∧ R ≤ b ∧ d = .int .i64 D ∧ r = .int .i64 R ∧ Hid (Nat.gcd D R = Nat.gcd a b) ∧ Below w.heap.size w wr) (fun _ r _ => (intOf r).toNat)
  case atStart => exact ⟨b, M, hb, Nat.le_refl _, by have := hab.out; omega, rfl, rfl, Lib.hid hg.out, below_drewN (Below.refl _ _) _⟩
  case round =>
    clear hm hmw hM
    obtain ⟨D, R, hD, hDb, hRb, rfl, rfl, hG, hbw⟩ := hrel
    by_cases hR : R = 0
    · subst hR
      obtain ⟨q, r, hq, hr, hqa, hrb, hfin0⟩ := low_end hG.out
      have hfin := Lib.hid hfin0
      have hD0 : ¬ ((D : Int) = 0) := by omega
      clear hfin0
      go_wp2
      go_quiet (fail)
      go_wp2
      go_ret2
      exact ⟨congrArg Ending.returned hfin.out.symm, below_drewN hbw _⟩
    · have hRn : ¬ ((R : Int) = 0) := by omega
      have hm2 := tmod_nat D R
      have hlt := Nat.mod_lt D (Nat.pos_of_ne_zero hR)
      have hmw2 : IntKind.i64.wrap ((D % R : Nat) : Int) = ((D % R : Nat) : Int) := IntWalk.i64_in _ (by omega)
      have hG2 := Lib.hid ((gcd_round D R).trans hG.out)
      generalize D % R = M2 at *
      go_wp2
      go_quiet (fail)
      go_wp2
      go_roundw
      case rel => exact ⟨R, M2, by omega, by omega, by omega, rfl, by first | rfl | rw [hm2] | rw [hm2, hmw2], hG2, below_drewN hbw _⟩
      case measure => simp [intOf]; omega
theorem most_own (a : Nat) (w : World) (ha : a ≤ 4000000000000000000) :
    Calls Try.prog 84 #[.int .i64 (a : Int), .int .i64 (-(a : Int))] w fun e w' => e = .returned (.int .i64 (a : Int)) ∧ w' = w := by
  by_cases h0 : a = 0
  · subst h0
    go_enter Try.func84, Try.ntmps84
    go_wp2
    go_ret
    exact ⟨rfl, rfl⟩
  · have h1 : -(a : Int) < (a : Int) := by omega
    go_enter Try.func84, Try.ntmps84
    go_wp2
    go_ret
    exact ⟨rfl, rfl⟩
set_option maxHeartbeats 1000000 in
theorem common_any (a b : Nat) (w : World) (hb : 0 < b) (ha : a ≤ 4000000000000000000) (hb2 : b ≤ 4000000000000000000) :
    Calls Try.prog 81 #[.int .i64 (a : Int), .int .i64 (b : Int)] w fun e w' => e = .returned (.int .i64 ((Nat.gcd a b : Nat) : Int)) ∧ w' = w := by
  have HMa := Lib.hid (fun w => most_own a w ha)
  have HMb := Lib.hid (fun w => most_own b w hb2)
  have hna : IntKind.i64.wrap (-(a : Int)) = -(a : Int) := IntWalk.i64_in _ (by omega)
  have hnb : IntKind.i64.wrap (-(b : Int)) = -(b : Int) := IntWalk.i64_in _ (by omega)
  go_enter Try.func81, Try.ntmps81
  go_wp2_with (first
    | (go_at_call_of 84 (Value.int IntKind.i64 (a : Int)); refine (HMa.out _).mono ?_; rintro e w' ⟨rfl, rfl⟩)
    | (go_at_call_of 84 (Value.int IntKind.i64 (b : Int)); refine (HMb.out _).mono ?_; rintro e w' ⟨rfl, rfl⟩))
  go_loop [0, 1, 5] (fun d r _ => ∃ D R : Nat, D ≤ 4000000000000000000 ∧ R ≤ 4000000000000000000 ∧ d = .int .i64 D ∧ r = .int .i64 R ∧ Hid (Nat.gcd D R = Nat.gcd a b)) (fun _ r _ => (intOf r).toNat)
  case atStart => exact ⟨a, b, ha, hb2, rfl, rfl, Lib.hid rfl⟩
  case round =>
    clear hna hnb HMa HMb
    obtain ⟨D, R, hDb, hRb, rfl, rfl, hG⟩ := hrel
    by_cases hR : R = 0
    · have hfin := Lib.hid (show Nat.gcd a b = D by rw [← hG.out, hR, Nat.gcd_zero_right])
      have hR0 : (R : Int) = 0 := by omega
      clear hR hG
      go_wp2
      go_ret
      exact ⟨congrArg (fun z : Nat => Ending.returned (.int .i64 (z : Int))) hfin.out.symm, rfl⟩
    · have hRn : ¬ ((R : Int) = 0) := by omega
      have hm2 := tmod_nat D R
      have hlt := Nat.mod_lt D (Nat.pos_of_ne_zero hR)
      have hmw2 : IntKind.i64.wrap ((D % R : Nat) : Int) = ((D % R : Nat) : Int) := IntWalk.i64_in _ (by omega)
      have hG2 := Lib.hid ((gcd_round D R).trans hG.out)
      generalize D % R = M2 at *
      go_wp2
      go_round
      case rel => exact ⟨R, M2, by omega, by omega, rfl, by first | rfl | rw [hm2] | rw [hm2, hmw2], hG2⟩
      case measure => simp [intOf]; omega
set_option maxHeartbeats 1000000 in
theorem reduce_any (a b : Nat) (w : World) (hb : 0 < b) (ha : a ≤ 4000000000000000000) (hb2 : b ≤ 4000000000000000000) :
    Calls Try.prog 62 #[.int .i64 (a : Int), .int .i64 (b : Int)] w fun e w' => e = .returned (lowV a b) ∧ Below w.heap.size w w' := by
  have HC := Lib.hid (fun w => common_any a b w hb ha hb2)
  obtain ⟨D, hD⟩ : ∃ D, D = Nat.gcd a b := ⟨_, rfl⟩
  have hDp : 0 < D := by rw [hD]; exact Nat.gcd_pos_of_pos_right _ hb
  obtain ⟨q, r, hq, hr, hqa, hrb, hfin0⟩ := low_end (a := a) (b := b) (D := D) (by rw [Nat.gcd_zero_right]; exact hD)
  have hfin := Lib.hid hfin0
  have hD0 : ¬ ((D : Int) = 0) := by omega
  rw [← hD] at HC
  clear hfin0 hD
  go_enter Try.func62, Try.ntmps62
  go_wp2_with (go_at_call 81; refine (HC.out _).mono ?_; rintro e w' ⟨rfl, rfl⟩)
  go_quiet (fail)
  go_wp2
  go_ret2
  exact ⟨congrArg Ending.returned hfin.out.symm, below_drewN (Below.refl _ _) _⟩
theorem nat_of {x : Int} (h : 0 ≤ x) : ∃ n : Nat, x = (n : Int) := ⟨x.toNat, by omega⟩
/-- Two numbers and a bool. -/
abbrev ret3 (n d : Int) (ok : Bool) : Value := .tuple #[.int .i64 n, .int .i64 d, .bool ok]
abbrev Gives3 (n d : Int) (ok : Bool) (w : World) (e : Ending) (w' : World) : Prop := e = .returned (ret3 n d ok) ∧ Below w.heap.size w w'
end Go.Proofs.Ytidlpoambmeiiaa.S14
