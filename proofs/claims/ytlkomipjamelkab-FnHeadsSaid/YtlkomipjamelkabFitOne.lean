/- Whether a pipe fits: what the program's pipeFits and the model's l2Pipe return: contracts. Conditions: each theorem's own premises. -/
import Derived.Test.YtlkomipjamelkabChecked
import Derived.Test.YtlkomipjamelkabNetOne
import Derived.WalkKit
import Derived.ProofKit
import Derived.LoopTactic
import Derived.IntWalk
import Derived.Lib.Hide
import Derived.WalkSpells
import Derived.WalkSmall
import Derived.Outline
import Derived.Below
import Derived.Deep.RegionWith
namespace Go.Proofs.Ytlkomipjamelkab.S2
open Go.RowKit P2

/-- A pipe as a value. -/
abbrev pv (p : Pp) : Value := .agg #[.int .i64 p.id, .int .i64 p.fr, .int .i64 p.to, .int .i64 p.sz]
def fitB (n : Int) (p : Pp) : Bool := decide (PpOk n p)
theorem bcell {W w1 : World} (hb : Below W.heap.size W w1) : (∀ b o, b < W.heap.size → w1.cell? ⟨b, o, none⟩ = W.cell? ⟨b, o, none⟩) ∧ (∀ b o, b < W.heap.size → w1.frozen? ⟨b, o, none⟩ = W.frozen? ⟨b, o, none⟩) :=
  ⟨fun b o h => hb.cell (p := ⟨b, o, none⟩) h, fun b o h => hb.frozen (p := ⟨b, o, none⟩) h⟩

theorem in_any (x a b : Int) (w : World) :
    Calls Try.prog 116 #[.int .i64 x, .int .i64 a, .int .i64 b] w fun e w' => e = .returned (.bool (decide (a ≤ x ∧ x ≤ b))) ∧ w' = w := by
  by_cases h1 : a ≤ x
  · have e : decide (a ≤ x ∧ x ≤ b) = decide (x ≤ b) := by simp [h1]
    rw [e]
    go_enter Try.func116, Try.ntmps116
    go_wp2
    go_ret
    exact ⟨rfl, rfl⟩
  · have e : decide (a ≤ x ∧ x ≤ b) = false := by simp [h1]
    rw [e]
    go_enter Try.func116, Try.ntmps116
    go_wp2
    go_ret
    exact ⟨rfl, rfl⟩

/-- It returns whether the pipe fits; what lay there stands. -/
def FitPost (n : Int) (p : Pp) (w : World) (e : Ending) (w' : World) : Prop := e = .returned (.bool (fitB n p)) ∧ Below w.heap.size w w'
theorem fit_post {n id fr to sz : Int} {w w' : World} {b : Bool} (h : b = true ↔ (1 ≤ id ∧ id ≤ 99 ∧ 1 ≤ fr ∧ fr ≤ n ∧ 1 ≤ to ∧ to ≤ n ∧ fr ≠ to ∧ 1 ≤ sz ∧ sz ≤ 9)) (hb : Below w.heap.size w w') : FitPost n ⟨id, fr, to, sz⟩ w (.returned (.bool b)) w' := by
  refine ⟨?_, hb⟩
  have e : fitB n ⟨id, fr, to, sz⟩ = b := by
    rw [Bool.eq_iff_iff, h]
    exact decide_eq_true_iff
  rw [e]

set_option maxHeartbeats 1000000 in
theorem fits_any (p : Pp) (n : Int) (w : World) :
    Calls Try.prog 129 #[pv p, .int .i64 n] w (FitPost n p w) := by
  obtain ⟨id, fr, to, sz⟩ := p
  go_enter Try.func129, Try.ntmps129
  go_wp2
  all_goals
    go_ret
    exact fit_post (by simp; omega) ((Below.refl _ _).alloc (Nat.le_refl _) _)

set_option maxHeartbeats 1000000 in
theorem sfits_any (p : Pp) (n : Int) (w : World) :
    Calls Try.prog 151 #[.int .i64 n, pv p] w (FitPost n p w) := by
  obtain ⟨id, fr, to, sz⟩ := p
  by_cases h1 : 1 ≤ id ∧ id ≤ 99
  · by_cases h2 : 1 ≤ fr ∧ fr ≤ n
    · by_cases h3 : 1 ≤ to ∧ to ≤ n
      · go_enter Try.func151, Try.ntmps151
        go_wp2_with (go_at_call 116; refine (in_any _ _ _ _).mono ?_; rintro e w' ⟨rfl, rfl⟩)
        all_goals
          go_ret
          exact fit_post (by simp; omega) ((Below.refl _ _).alloc (Nat.le_refl _) _)
      · go_enter Try.func151, Try.ntmps151
        go_wp2_with (go_at_call 116; refine (in_any _ _ _ _).mono ?_; rintro e w' ⟨rfl, rfl⟩)
        all_goals
          go_ret
          exact fit_post (by simp; omega) ((Below.refl _ _).alloc (Nat.le_refl _) _)
    · go_enter Try.func151, Try.ntmps151
      go_wp2_with (go_at_call 116; refine (in_any _ _ _ _).mono ?_; rintro e w' ⟨rfl, rfl⟩)
      all_goals
        go_ret
        exact fit_post (by simp; omega) ((Below.refl _ _).alloc (Nat.le_refl _) _)
  · go_enter Try.func151, Try.ntmps151
    go_wp2_with (go_at_call 116; refine (in_any _ _ _ _).mono ?_; rintro e w' ⟨rfl, rfl⟩)
    all_goals
      go_ret
      exact fit_post (by simp; omega) ((Below.refl _ _).alloc (Nat.le_refl _) _)
end Go.Proofs.Ytlkomipjamelkab.S2
