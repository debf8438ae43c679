/- The law FnExactCompareAmounts walked: contracts. Conditions: each theorem's own premises. -/
import Derived.Test.YtpdkphokinhhdaaDoorAddThree
namespace Go.Proofs.YtpdkphokinhhdaaDoor.S3
open Go.RowKit Go.Sort P3 S1 S2

set_option maxHeartbeats 4000000 in
set_option maxRecDepth 100000 in
theorem walkExactCompareAmounts (v1 u1 v2 u2 : Int) (w : World) (hFu : Fu w) :
    Calls Tryd.prog 7 #[av v1 u1, av v2 u2] w fun e w' => e = .returned (.bool true) ∧ Below w.heap.size w w' := by
  obtain ⟨n, ok, hi0, hs0⟩ := cmp_both v1 u1 v2 u2
  obtain ⟨S, hS⟩ : ∃ S, S = w.heap.size + 2 := ⟨_, rfl⟩
  have hB : Below S ((w.alloc (.cells #[.int .i64 v1, .int .i64 u1] 36)).alloc (.cells #[.int .i64 v2, .int .i64 u2] 36)) ((w.alloc (.cells #[.int .i64 v1, .int .i64 u1] 36)).alloc (.cells #[.int .i64 v2, .int .i64 u2] 36)) := Below.refl _ _
  have HSS := Lib.hid hS
  have HSZ := Lib.hid (show S = ((w.alloc (.cells #[.int .i64 v1, .int .i64 u1] 36)).alloc (.cells #[.int .i64 v2, .int .i64 u2] 36)).heap.size by simp [hS])
  have T1 := Lib.hid (fun w => toamt_any v1 u1 w)
  have T2 := Lib.hid (fun w => toamt_any v2 u2 w)
  have HS := Lib.hid hs0
  have HI := Lib.hid (fun w' (hb : Below S ((w.alloc (.cells #[.int .i64 v1, .int .i64 u1] 36)).alloc (.cells #[.int .i64 v2, .int .i64 u2] 36)) w') => hi0 w' (hFu.later (under_two hb hS)))
  clear hs0 hi0 hS hFu
  obtain ⟨W0, hW0⟩ : ∃ W0, W0 = ((w.alloc (.cells #[.int .i64 v1, .int .i64 u1] 36)).alloc (.cells #[.int .i64 v2, .int .i64 u2] 36)) := ⟨_, rfl⟩
  have hB : Below S ((w.alloc (.cells #[.int .i64 v1, .int .i64 u1] 36)).alloc (.cells #[.int .i64 v2, .int .i64 u2] 36)) W0 := by rw [hW0]; exact Below.refl _ _
  obtain ⟨c0, c1, c2, c3⟩ := box_two hB HSS.out
  have HW0 := Lib.hid hW0
  clear hW0
  go_enter Tryd.func7, Tryd.ntmps7
  go_wp2
  rw [← HW0.out]
  obtain ⟨hlb0, hlb1⟩ := box_lts hB HSS.out
  have hG := @cell_g
  refine region_below (by kernel_rfl) (by kernel_rfl) ?_
  repeat (first | go_big_quiet_step ((first
    | (go_at_call_of 22 (Value.agg #[Value.int IntKind.i64 v1, Value.int IntKind.i64 u1]); exact met T1.out)
    | (go_at_call_of 22 (Value.agg #[Value.int IntKind.i64 v2, Value.int IntKind.i64 u2]); exact met T2.out)
    | (go_at_call 29; exact met HS.out)
    | (go_at_call 30; exact met_at (fun w' hb => HI.out w' (on_base hB HSZ.out hb))))))
  refine wpQuiet_nil ?_
  intro wz hbz
  have hB := on_base hB HSZ.out hbz
  obtain ⟨c0, c1, c2, c3⟩ := box_two hB HSS.out
  go_wp2
  obtain ⟨hlb0, hlb1⟩ := box_lts hB HSS.out
  have hG := @cell_g
  refine region_below (by kernel_rfl) (by kernel_rfl) ?_
  repeat (first | go_big_quiet_step ((first
    | (go_at_call_of 22 (Value.agg #[Value.int IntKind.i64 v1, Value.int IntKind.i64 u1]); exact met T1.out)
    | (go_at_call_of 22 (Value.agg #[Value.int IntKind.i64 v2, Value.int IntKind.i64 u2]); exact met T2.out)
    | (go_at_call 29; exact met HS.out)
    | (go_at_call 30; exact met_at (fun w' hb => HI.out w' (on_base hB HSZ.out hb))))))
  refine wpQuiet_nil ?_
  intro wz hbz
  have hB := on_base hB HSZ.out hbz
  go_wp2
  go_ret
  exact ⟨rfl, under_two hB HSS.out⟩
end Go.Proofs.YtpdkphokinhhdaaDoor.S3
