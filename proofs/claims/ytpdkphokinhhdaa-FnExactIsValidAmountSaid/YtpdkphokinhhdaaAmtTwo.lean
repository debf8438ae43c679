/- The law FnExactIsValidAmount walked: contracts. Conditions: each theorem's own premises. -/
import Derived.Test.YtpdkphokinhhdaaAmtOne
namespace Go.Proofs.Ytpdkphokinhhdaa.S3
open Go.RowKit P3
theorem svalid_v {x u : Int} {b : Bool} (hv : okA x u = b) (w : World) :
    Calls Try.prog 5 #[av x u] w fun e w' => e = .returned (.bool b) ∧ Below w.heap.size w w' := by
  have H := Lib.hid (fun w => sgood_v hv w)
  clear hv
  go_enter Try.func5, Try.ntmps5
  go_wp2_with (go_at_call 10; refine (H.out _).mono ?_; rintro e w1 ⟨rfl, hb1⟩)
  go_ret
  exact ⟨rfl, ((Below.refl _ _).alloc (Nat.le_refl _) _).trans (hb1.mono (by simp))⟩
theorem walkExactIsValidAmount (x u : Int) (w : World) :
    Calls Try.prog 3 #[av x u] w fun e w' => e = .returned (.bool true) ∧ Below w.heap.size w w' := by
  obtain ⟨b, hb⟩ : ∃ b, okA x u = b := ⟨_, rfl⟩
  have HT := Lib.hid (fun w => toamt_any x u w)
  have HS := Lib.hid (fun w => svalid_v hb w)
  have HI := Lib.hid (fun w => valid_v hb w)
  obtain ⟨S, hS⟩ : ∃ S, S = w.heap.size + 1 := ⟨_, rfl⟩
  have hB : Below S (w.alloc (.cells #[.int .i64 x, .int .i64 u] 23)) (w.alloc (.cells #[.int .i64 x, .int .i64 u] 23)) := Below.refl _ _
  have HSS := Lib.hid hS
  have HSZ := Lib.hid (show S = (w.alloc (.cells #[.int .i64 x, .int .i64 u] 23)).heap.size by simp [hS])
  clear hb hS
  go_enter Try.func3, Try.ntmps3
  go_wp2_with (first
    | (go_at_call 6; refine (HT.out _).mono ?_; rintro e w1 ⟨rfl, hb1⟩; have hB := on_base hB HSZ.out hb1; obtain ⟨c0, c1⟩ := box_one hB HSS.out)
    | (go_at_call 5; refine (HS.out _).mono ?_; rintro e w1 ⟨rfl, hb1⟩; have hB := on_base hB HSZ.out hb1; obtain ⟨c0, c1⟩ := box_one hB HSS.out)
    | (go_at_call 7; refine (HI.out _).mono ?_; rintro e w1 ⟨rfl, hb1⟩; have hB := on_base hB HSZ.out hb1; obtain ⟨c0, c1⟩ := box_one hB HSS.out))
  go_ret
  exact ⟨rfl, under_one hB HSS.out⟩
end Go.Proofs.Ytpdkphokinhhdaa.S3
