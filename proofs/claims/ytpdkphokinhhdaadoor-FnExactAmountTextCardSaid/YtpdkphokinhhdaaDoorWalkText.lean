/- The law FnExactAmountText walked: contracts. Conditions: each theorem's own premises. -/
import Derived.Test.YtpdkphokinhhdaaDoorTextOne
namespace Go.Proofs.YtpdkphokinhhdaaDoor.S3
open Go.RowKit Go.Sort P3 S1 S2

set_option maxHeartbeats 4000000 in
set_option maxRecDepth 100000 in
theorem walkExactAmountText (v1 u1 : Int) (w : World) (hTab : Tab w) (hFu : Fu w) :
    Calls Tryd.prog 4 #[av v1 u1] w fun e w' => e = .returned (.bool true) ∧ Below w.heap.size w w' := by
  obtain ⟨l, ok, hi0, hs0⟩ := text_both v1 u1
  obtain ⟨S, hS⟩ : ∃ S, S = w.heap.size + 1 := ⟨_, rfl⟩
  have hB : Below S (w.alloc (.cells #[.int .i64 v1, .int .i64 u1] 36)) (w.alloc (.cells #[.int .i64 v1, .int .i64 u1] 36)) := Below.refl _ _
  have HSS := Lib.hid hS
  have HSZ := Lib.hid (show S = (w.alloc (.cells #[.int .i64 v1, .int .i64 u1] 36)).heap.size by simp [hS])
  have T1 := Lib.hid (fun w => toamt_any v1 u1 w)
  have HS := Lib.hid hs0
  have HI := Lib.hid (fun w' (hb : Below S (w.alloc (.cells #[.int .i64 v1, .int .i64 u1] 36)) w') => hi0 w' (hTab.later (under_one hb hS)) (hFu.later (under_one hb hS)))
  clear hs0 hi0 hS hTab hFu
  go_enter Tryd.func4, Tryd.ntmps4
  go_wp2_with (first
    | (go_at_call 22; refine (T1.out _).mono ?_; rintro e w1 ⟨rfl, hb1⟩; have hB := on_base hB HSZ.out hb1; obtain ⟨c0, c1⟩ := box_one hB HSS.out)
    | (go_at_call 21; refine (HS.out _).mono ?_; rintro e w1 ⟨rfl, hb1⟩; have hB := on_base hB HSZ.out hb1; obtain ⟨c0, c1⟩ := box_one hB HSS.out)
    | (go_at_call 23; refine (HI.out _ hB).mono ?_; rintro e w1 ⟨rfl, hb1⟩; have hB := on_base hB HSZ.out hb1; obtain ⟨c0, c1⟩ := box_one hB HSS.out))
  go_ret
  exact ⟨rfl, under_one hB HSS.out⟩
end Go.Proofs.YtpdkphokinhhdaaDoor.S3
