/- Valid amounts and lowest terms: what the program's and the model's helpers of chapter 3 return: contracts. Conditions: each theorem's own premises. -/
import Derived.Test.YtpdkphokinhhdaaDoorChecked
import Derived.Test.YtpdkphokinhhdaaDoorUnitOne
import Derived.WalkKit
import Derived.ProofKit
import Derived.LoopTactic
import Derived.IntWalk
import Derived.Lib.Hide
import Derived.WalkSpells
import Derived.WalkSmall
import Derived.WalkLawsBesides
import Derived.Outline
import Derived.Below
import Derived.Deep.RegionWith
import Derived.Deep.QuietTactic
import Derived.BigQuiet
namespace Go.Proofs.YtpdkphokinhhdaaDoor.S3
open Go.RowKit P3

/-- An amount as a value. -/
abbrev av (v u : Int) : Value := .agg #[.int .i64 v, .int .i64 u]

theorem in_any (x a b : Int) (w : World) :
    Calls Tryd.prog 36 #[.int .i64 x, .int .i64 a, .int .i64 b] w fun e w' => e = .returned (.bool (decide (a ≤ x ∧ x ≤ b))) ∧ w' = w := by
  by_cases h1 : a ≤ x
  · have e : decide (a ≤ x ∧ x ≤ b) = decide (x ≤ b) := by simp [h1]
    rw [e]
    go_enter Tryd.func36, Tryd.ntmps36
    go_wp2
    go_ret
    exact ⟨rfl, rfl⟩
  · have e : decide (a ≤ x ∧ x ≤ b) = false := by simp [h1]
    rw [e]
    go_enter Tryd.func36, Tryd.ntmps36
    go_wp2
    go_ret
    exact ⟨rfl, rfl⟩

def unB (u : Int) : Bool := decide (1 ≤ u ∧ u ≤ 4)
theorem unB_iff {u : Int} : unB u = true ↔ 1 ≤ u ∧ u ≤ 4 := by simp [unB]
theorem sunit_any (u : Int) (w : World) :
    Calls Tryd.prog 50 #[.int .i64 u] w fun e w' => e = .returned (.bool (unB u)) ∧ w' = w := by
  have H := Lib.hid (fun w => in_any u 1 4 w)
  unfold unB
  generalize decide (1 ≤ u ∧ u ≤ 4) = b at *
  go_enter Tryd.func50, Tryd.ntmps50
  go_wp2_with (go_at_call 36; refine (H.out _).mono ?_; rintro e w' ⟨rfl, rfl⟩)
  go_ret
  exact ⟨rfl, rfl⟩
/-- It returns whether the amount is valid; what lay there stands. -/
def OkPost (v u : Int) (w : World) (e : Ending) (w' : World) : Prop := e = .returned (.bool (okA v u)) ∧ Below w.heap.size w w'
theorem ok_post {v u : Int} {w w' : World} {b : Bool} (h : b = true ↔ (0 ≤ v ∧ v ≤ 1000000) ∧ 1 ≤ u ∧ u ≤ 4) (hb : Below w.heap.size w w') : OkPost v u w (.returned (.bool b)) w' := by
  refine ⟨?_, hb⟩
  have e : okA v u = b := by rw [Bool.eq_iff_iff, h]; exact okA_iff
  rw [e]

set_option maxHeartbeats 1000000 in
theorem sgood_any (v u : Int) (w : World) :
    Calls Tryd.prog 42 #[av v u] w (OkPost v u w) := by
  have H := Lib.hid (fun w => in_any v 0 1000000 w)
  have HU := Lib.hid (fun w => sunit_any u w)
  have h1 := Lib.hid (unB_iff (u := u))
  generalize unB u = b at *
  by_cases hv : 0 ≤ v ∧ v ≤ 1000000
  · rw [show decide (0 ≤ v ∧ v ≤ 1000000) = true by simpa using hv] at H
    go_enter Tryd.func42, Tryd.ntmps42
    go_wp2_with (first | (go_at_call 36; refine (H.out _).mono ?_; rintro e w' ⟨rfl, rfl⟩) | (go_at_call 50; refine (HU.out _).mono ?_; rintro e w' ⟨rfl, rfl⟩))
    all_goals
      go_ret
      exact ok_post (by have := h1.out; simp [hv, this]) ((Below.refl _ _).alloc (Nat.le_refl _) _)
  · rw [show decide (0 ≤ v ∧ v ≤ 1000000) = false by simpa using hv] at H
    go_enter Tryd.func42, Tryd.ntmps42
    go_wp2_with (first | (go_at_call 36; refine (H.out _).mono ?_; rintro e w' ⟨rfl, rfl⟩) | (go_at_call 50; refine (HU.out _).mono ?_; rintro e w' ⟨rfl, rfl⟩))
    all_goals
      go_ret
      exact ok_post (by simp; omega) ((Below.refl _ _).alloc (Nat.le_refl _) _)

theorem unit_any (u : Int) (w : World) :
    Calls Tryd.prog 52 #[.int .i64 u] w fun e w' => e = .returned (.bool (unB u)) ∧ w' = w := by
  by_cases h1 : 1 ≤ u
  · have e : unB u = decide (u ≤ 4) := by simp [unB, h1]
    rw [e]
    go_enter Tryd.func52, Tryd.ntmps52
    go_wp2
    go_ret
    exact ⟨rfl, rfl⟩
  · have e : unB u = false := by simp [unB, h1]
    rw [e]
    go_enter Tryd.func52, Tryd.ntmps52
    go_wp2
    go_ret
    exact ⟨rfl, rfl⟩
set_option maxHeartbeats 1000000 in
theorem valid_any (v u : Int) (w : World) :
    Calls Tryd.prog 39 #[av v u] w (OkPost v u w) := by
  have HU := Lib.hid (fun w => unit_any u w)
  have h1 := Lib.hid (unB_iff (u := u))
  generalize unB u = b at *
  go_enter Tryd.func39, Tryd.ntmps39
  go_wp2_with (go_at_call 52; refine (HU.out _).mono ?_; rintro e w' ⟨rfl, rfl⟩)
  all_goals
    go_ret
    exact ok_post (by have := h1.out; simp_all; try omega) ((Below.refl _ _).alloc (Nat.le_refl _) _)
theorem valid_v {v u : Int} {b : Bool} (hv : okA v u = b) (w : World) :
    Calls Tryd.prog 39 #[av v u] w fun e w' => e = .returned (.bool b) ∧ Below w.heap.size w w' := by
  rw [← hv]; exact valid_any v u w
theorem sgood_v {v u : Int} {b : Bool} (hv : okA v u = b) (w : World) :
    Calls Tryd.prog 42 #[av v u] w fun e w' => e = .returned (.bool b) ∧ Below w.heap.size w w' := by
  rw [← hv]; exact sgood_any v u w
end Go.Proofs.YtpdkphokinhhdaaDoor.S3
