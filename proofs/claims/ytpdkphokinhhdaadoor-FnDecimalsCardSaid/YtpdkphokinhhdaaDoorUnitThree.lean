/- Fractions in lowest terms: what the program's lowestTerms and the model's l3Reduce return; bars: contracts. Conditions: each theorem's own premises. -/
import Derived.Test.YtpdkphokinhhdaaDoorUnitTwo
namespace Go.Proofs.YtpdkphokinhhdaaDoor.S3
open Go.RowKit P3

/-- The two numbers of a fraction in lowest terms. -/
abbrev lowV (a b : Nat) : Value := .tuple #[.int .i64 (lowN a b), .int .i64 (lowD a b)]
theorem low_end {a b D : Nat} (h : Nat.gcd D 0 = Nat.gcd a b) : ∃ q r : Nat, (a : Int) / (D : Int) = (q : Int) ∧ (b : Int) / (D : Int) = (r : Int) ∧ q ≤ a ∧ r ≤ b ∧ lowV a b = .tuple #[.int .i64 (q : Int), .int .i64 (r : Int)] := by
  rw [Nat.gcd_zero_right] at h
  refine ⟨a / D, b / D, rfl, rfl, Nat.div_le_self _ _, Nat.div_le_self _ _, ?_⟩
  unfold lowV lowN lowD
  rw [← h]

set_option maxHeartbeats 1000000 in
theorem low_any (a b : Nat) (w : World) (hb : 0 < b) (ha : a ≤ 4000000000000000000) (hb2 : b ≤ 4000000000000000000) :
    Calls Tryd.prog 40 #[.int .i64 (a : Int), .int .i64 (b : Int)] w fun e w' => e = .returned (lowV a b) ∧ Below w.heap.size w w' := by
  have hm := tmod_nat a b
  have hmw : IntKind.i64.wrap ((a % b : Nat) : Int) = ((a % b : Nat) : Int) := IntWalk.i64_in _ (by have := Nat.mod_lt a hb; omega)
  have hab := Lib.hid (Nat.mod_lt a hb)
  have hg := Lib.hid (gcd_round a b)
  have hb0 : ¬ ((b : Int) = 0) := by omega
  generalize hM : a % b = M at *
  go_enter Tryd.func40, Tryd.ntmps40
  go_wp2
  go_quiet (fail)
  go_wp2
  go_loopw [6, 7] (fun d r wr => ∃ D R : Nat, 0 < D ∧ D ≤ b ∧ R ≤ b ∧ d = .int .i64 D ∧ r = .int .i64 R ∧ Hid (Nat.gcd D R = Nat.gcd a b) ∧ Below w.heap.size w wr) (fun _ r _ => (intOf r).toNat)
  case atStart => exact ⟨b, M, hb, Nat.le_refl _, by have := hab.out; omega, rfl, rfl, Lib.hid hg.out, below_drewN (Below.refl _ _) _⟩
  case round =>
    clear hm hmw hM
    obtain ⟨D, R, hD, hDb, hRb, rfl, rfl, hG, hbw⟩ := hrel
    by_cases hR : R = 0
    · subst hR
      obtain ⟨q, r, hq, hr, hqa, hrb, hfin0⟩ := low_end hG.out
      have hfin := Lib.hid hfin0
      have hD0 : ¬ ((D : Int) = 0) := by omega
      clear hfin0
      go_wp2
      go_quiet (fail)
      go_wp2
      go_ret2
      exact ⟨congrArg Ending.returned hfin.out.symm, below_drewN hbw _⟩
    · have hRn : ¬ ((R : Int) = 0) := by omega
      have hm2 := tmod_nat D R
      have hlt := Nat.mod_lt D (Nat.pos_of_ne_zero hR)
      have hmw2 : IntKind.i64.wrap ((D % R : Nat) : Int) = ((D % R : Nat) : Int) := IntWalk.i64_in _ (by omega)
      have hG2 := Lib.hid ((gcd_round D R).trans hG.out)
      generalize D % R = M2 at *
      go_wp2
      go_quiet (fail)
      go_wp2
      go_roundw
      case rel => exact ⟨R, M2, by omega, by omega, by omega, rfl, by first | rfl | rw [hm2] | rw [hm2, hmw2], hG2, below_drewN hbw _⟩
      case measure => simp [intOf]; omega
end Go.Proofs.YtpdkphokinhhdaaDoor.S3
