/- Bars of a water column: what the program and the model return: contracts. Conditions: each theorem's own premises. -/
import Derived.Test.YtpdkphokinhhdaaDoorUnitFour
import Derived.OwnWalk
namespace Go.Proofs.YtpdkphokinhhdaaDoor.S3
open Go.RowKit P3

set_option maxHeartbeats 1000000 in
theorem bars_yes (m : Nat) (w : World) (h : m ≤ 1000) :
    Calls Tryd.prog 19 #[.int .i64 (m : Int)] w (Gives3 (lowN (5 * m) 51) (lowD (5 * m) 51) true w) := by
  have H := Lib.hid (fun w => low_any (5 * m) 51 w (by omega) (by omega) (by omega))
  have e5 : (m : Int) * 5 = ((5 * m : Nat) : Int) := by omega
  generalize hM : 5 * m = M at *
  go_enter Tryd.func19, Tryd.ntmps19
  go_wp2_with (go_at_call 40; refine (H.out _).mono ?_; rintro e w' ⟨rfl, hb⟩)
  go_ret3
  exact ⟨rfl, hb⟩
theorem bars_no (m : Int) (w : World) (h : m < 0 ∨ 1000 < m) :
    Calls Tryd.prog 19 #[.int .i64 m] w (Gives3 0 0 false w) := by
  rcases h with h | h
  · go_enter Tryd.func19, Tryd.ntmps19
    go_wp2_with fail
    go_ret3
    exact ⟨rfl, Below.refl _ _⟩
  · have h' : ¬ m < 0 := by omega
    go_enter Tryd.func19, Tryd.ntmps19
    go_wp2_with fail
    go_ret3
    exact ⟨rfl, Below.refl _ _⟩
set_option maxHeartbeats 1000000 in
theorem sbars_yes (m : Nat) (w : World) (h : m ≤ 1000) :
    Calls Tryd.prog 20 #[.int .i64 (m : Int)] w (Gives3 (lowN (5 * m) 51) (lowD (5 * m) 51) true w) := by
  have H := Lib.hid (fun w => reduce_any (5 * m) 51 w (by omega) (by omega) (by omega))
  have HI := Lib.hid (fun w => in_any (m : Int) 0 1000 w)
  rw [show decide ((0 : Int) ≤ (m : Int) ∧ (m : Int) ≤ 1000) = true by simp; omega] at HI
  have e5 : 5 * (m : Int) = ((5 * m : Nat) : Int) := by omega
  generalize hM : 5 * m = M at *
  go_enter Tryd.func20, Tryd.ntmps20
  go_wp2_with (first
    | (go_at_call 36; refine (HI.out _).mono ?_; rintro e w' ⟨rfl, rfl⟩)
    | (go_at_call 43; refine (H.out _).mono ?_; rintro e w' ⟨rfl, hb⟩))
  go_ret3
  exact ⟨rfl, hb⟩
theorem sbars_no (m : Int) (w : World) (h : m < 0 ∨ 1000 < m) :
    Calls Tryd.prog 20 #[.int .i64 m] w (Gives3 0 0 false w) := by
  have HI := Lib.hid (fun w => in_any m 0 1000 w)
  rw [show decide ((0 : Int) ≤ m ∧ m ≤ 1000) = false by simp; omega] at HI
  go_enter Tryd.func20, Tryd.ntmps20
  go_wp2_with (go_at_call 36; refine (HI.out _).mono ?_; rintro e w' ⟨rfl, rfl⟩)
  go_ret3
  exact ⟨rfl, Below.refl _ _⟩
/-- Both answers are one. -/
theorem bars_both (m : Int) : ∃ n d ok, (∀ w, Calls Tryd.prog 19 #[.int .i64 m] w (Gives3 n d ok w)) ∧ (∀ w, Calls Tryd.prog 20 #[.int .i64 m] w (Gives3 n d ok w)) ∧
    (ok = true → 0 ≤ m ∧ m ≤ 1000 ∧ n = lowN (5 * m.toNat) 51 ∧ d = lowD (5 * m.toNat) 51) := by
  by_cases h : 0 ≤ m ∧ m ≤ 1000
  · obtain ⟨k, rfl⟩ : ∃ k : Nat, m = (k : Int) := ⟨m.toNat, by omega⟩
    exact ⟨_, _, _, fun w => bars_yes k w (by omega), fun w => sbars_yes k w (by omega), fun _ => ⟨by omega, by omega, rfl, rfl⟩⟩
  · exact ⟨_, _, _, fun w => bars_no m w (by omega), fun w => sbars_no m w (by omega), fun h => by cases h⟩
end Go.Proofs.YtpdkphokinhhdaaDoor.S3
