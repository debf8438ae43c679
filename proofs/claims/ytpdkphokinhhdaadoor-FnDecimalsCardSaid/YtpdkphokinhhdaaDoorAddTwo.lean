/- Sums of amounts: what the program and the model return: contracts. Conditions: each theorem's own premises. -/
import Derived.Test.YtpdkphokinhhdaaDoorAddOne
namespace Go.Proofs.YtpdkphokinhhdaaDoor.S3
open Go.RowKit Go.Sort P3 S2

set_option maxHeartbeats 4000000 in
set_option maxRecDepth 100000 in
theorem sadd_no (v1 u1 v2 u2 t : Int) (w : World) (h : okA v1 u1 = false ∨ okA v2 u2 = false ∨ unB t = false) :
    Calls Tryd.prog 31 #[av v1 u1, av v2 u2, .int .i64 t] w (Gives3 0 0 false w) := by
  obtain ⟨S, hS⟩ : ∃ S, S = w.heap.size + 2 := ⟨_, rfl⟩
  have hB : Below S ((w.alloc (.cells #[.int .i64 v1, .int .i64 u1] 29)).alloc (.cells #[.int .i64 v2, .int .i64 u2] 29)) ((w.alloc (.cells #[.int .i64 v1, .int .i64 u1] 29)).alloc (.cells #[.int .i64 v2, .int .i64 u2] 29)) := Below.refl _ _
  have HSS := Lib.hid hS
  have HSZ := Lib.hid (show S = ((w.alloc (.cells #[.int .i64 v1, .int .i64 u1] 29)).alloc (.cells #[.int .i64 v2, .int .i64 u2] 29)).heap.size by simp [hS])
  clear hS
  have GU := Lib.hid (fun w => sunit_any t w)
  cases h1 : okA v1 u1
  · have G1 := Lib.hid (fun w => sgood_v h1 w)
    clear h h1 GU
    go_enter Tryd.func31, Tryd.ntmps31
    go_wp2_with (first
        | (go_at_call 42; refine (G1.out _).mono ?_; rintro e w1 ⟨rfl, hb1⟩; have hB := on_base hB HSZ.out hb1; obtain ⟨c0, c1, c2, c3⟩ := box_two hB HSS.out))
    go_ret3
    exact ⟨rfl, under_two hB HSS.out⟩
  · cases h2 : okA v2 u2
    · have G1 := Lib.hid (fun w => sgood_v h1 w)
      have G2 := Lib.hid (fun w => sgood_v h2 w)
      clear h h1 h2 GU
      go_enter Tryd.func31, Tryd.ntmps31
      go_wp2_with (first
          | (go_at_call_of 42 (Value.agg #[Value.int IntKind.i64 v1, Value.int IntKind.i64 u1]); refine (G1.out _).mono ?_; rintro e w1 ⟨rfl, hb1⟩; have hB := on_base hB HSZ.out hb1; obtain ⟨c0, c1, c2, c3⟩ := box_two hB HSS.out)
          | (go_at_call_of 42 (Value.agg #[Value.int IntKind.i64 v2, Value.int IntKind.i64 u2]); refine (G2.out _).mono ?_; rintro e w1 ⟨rfl, hb1⟩; have hB := on_base hB HSZ.out hb1; obtain ⟨c0, c1, c2, c3⟩ := box_two hB HSS.out))
      go_ret3
      exact ⟨rfl, under_two hB HSS.out⟩
    · have h3 : unB t = false := by rcases h with h | h | h; rw [h1] at h; cases h; rw [h2] at h; cases h; exact h
      have G1 := Lib.hid (fun w => sgood_v h1 w)
      have G2 := Lib.hid (fun w => sgood_v h2 w)
      rw [h3] at GU
      clear h h1 h2 h3
      go_enter Tryd.func31, Tryd.ntmps31
      go_wp2_with (first
          | (go_at_call_of 42 (Value.agg #[Value.int IntKind.i64 v1, Value.int IntKind.i64 u1]); refine (G1.out _).mono ?_; rintro e w1 ⟨rfl, hb1⟩; have hB := on_base hB HSZ.out hb1; obtain ⟨c0, c1, c2, c3⟩ := box_two hB HSS.out)
          | (go_at_call_of 42 (Value.agg #[Value.int IntKind.i64 v2, Value.int IntKind.i64 u2]); refine (G2.out _).mono ?_; rintro e w1 ⟨rfl, hb1⟩; have hB := on_base hB HSZ.out hb1; obtain ⟨c0, c1, c2, c3⟩ := box_two hB HSS.out)
          | (go_at_call 50; refine (GU.out _).mono ?_; rintro e w1 ⟨rfl, rfl⟩))
      go_ret3
      exact ⟨rfl, under_two hB HSS.out⟩

set_option maxHeartbeats 4000000 in
set_option maxRecDepth 100000 in
theorem add_no (v1 u1 v2 u2 t : Int) (w : World) (h : okA v1 u1 = false ∨ okA v2 u2 = false ∨ unB t = false) :
    Calls Tryd.prog 32 #[av v1 u1, av v2 u2, .int .i64 t] w (Gives3 0 0 false w) := by
  obtain ⟨S, hS⟩ : ∃ S, S = w.heap.size + 2 := ⟨_, rfl⟩
  have hB : Below S ((w.alloc (.cells #[.int .i64 v1, .int .i64 u1] 29)).alloc (.cells #[.int .i64 v2, .int .i64 u2] 29)) ((w.alloc (.cells #[.int .i64 v1, .int .i64 u1] 29)).alloc (.cells #[.int .i64 v2, .int .i64 u2] 29)) := Below.refl _ _
  have HSS := Lib.hid hS
  have HSZ := Lib.hid (show S = ((w.alloc (.cells #[.int .i64 v1, .int .i64 u1] 29)).alloc (.cells #[.int .i64 v2, .int .i64 u2] 29)).heap.size by simp [hS])
  clear hS
  have GU := Lib.hid (fun w => unit_any t w)
  cases h1 : okA v1 u1
  · have G1 := Lib.hid (fun w => valid_v h1 w)
    clear h h1 GU
    go_enter Tryd.func32, Tryd.ntmps32
    go_wp2_with (first
        | (go_at_call 39; refine (G1.out _).mono ?_; rintro e w1 ⟨rfl, hb1⟩; have hB := on_base hB HSZ.out hb1; obtain ⟨c0, c1, c2, c3⟩ := box_two hB HSS.out))
    go_ret3
    exact ⟨rfl, under_two hB HSS.out⟩
  · cases h2 : okA v2 u2
    · have G1 := Lib.hid (fun w => valid_v h1 w)
      have G2 := Lib.hid (fun w => valid_v h2 w)
      clear h h1 h2 GU
      go_enter Tryd.func32, Tryd.ntmps32
      go_wp2_with (first
          | (go_at_call_of 39 (Value.agg #[Value.int IntKind.i64 v1, Value.int IntKind.i64 u1]); refine (G1.out _).mono ?_; rintro e w1 ⟨rfl, hb1⟩; have hB := on_base hB HSZ.out hb1; obtain ⟨c0, c1, c2, c3⟩ := box_two hB HSS.out)
          | (go_at_call_of 39 (Value.agg #[Value.int IntKind.i64 v2, Value.int IntKind.i64 u2]); refine (G2.out _).mono ?_; rintro e w1 ⟨rfl, hb1⟩; have hB := on_base hB HSZ.out hb1; obtain ⟨c0, c1, c2, c3⟩ := box_two hB HSS.out))
      go_ret3
      exact ⟨rfl, under_two hB HSS.out⟩
    · have h3 : unB t = false := by rcases h with h | h | h; rw [h1] at h; cases h; rw [h2] at h; cases h; exact h
      have G1 := Lib.hid (fun w => valid_v h1 w)
      have G2 := Lib.hid (fun w => valid_v h2 w)
      rw [h3] at GU
      clear h h1 h2 h3
      go_enter Tryd.func32, Tryd.ntmps32
      go_wp2_with (first
          | (go_at_call_of 39 (Value.agg #[Value.int IntKind.i64 v1, Value.int IntKind.i64 u1]); refine (G1.out _).mono ?_; rintro e w1 ⟨rfl, hb1⟩; have hB := on_base hB HSZ.out hb1; obtain ⟨c0, c1, c2, c3⟩ := box_two hB HSS.out)
          | (go_at_call_of 39 (Value.agg #[Value.int IntKind.i64 v2, Value.int IntKind.i64 u2]); refine (G2.out _).mono ?_; rintro e w1 ⟨rfl, hb1⟩; have hB := on_base hB HSZ.out hb1; obtain ⟨c0, c1, c2, c3⟩ := box_two hB HSS.out)
          | (go_at_call 52; refine (GU.out _).mono ?_; rintro e w1 ⟨rfl, rfl⟩))
      go_ret3
      exact ⟨rfl, under_two hB HSS.out⟩

theorem day_facts {v1 u1 v2 u2 : Int} (h1 : okA v1 u1 = true) (h2 : okA v2 u2 = true) : v1 * dayOf u1 + v2 * dayOf u2 = ((40 * sumN v1 u1 v2 u2 : Nat) : Int) ∧ (0 ≤ v1 * dayOf u1 ∧ v1 * dayOf u1 ≤ 3600000000000) ∧ (0 ≤ v2 * dayOf u2 ∧ v2 * dayOf u2 ≤ 3600000000000) := by
  have := sum_facts h1 h2
  have a := day_mul v1 u1
  have b := day_mul v2 u2
  omega
theorem lowV_mul (a b : Nat) : lowV (40 * a) (40 * b) = lowV a b := by unfold lowV; rw [lowN_mul 40 a b (by omega), lowD_mul 40 a b (by omega)]
set_option maxHeartbeats 4000000 in
set_option maxRecDepth 100000 in
theorem add_yes (v1 u1 v2 u2 t : Int) (w : World) (hFu : Fu w) (h1 : okA v1 u1 = true) (h2 : okA v2 u2 = true) (h3 : unB t = true) :
    Calls Tryd.prog 32 #[av v1 u1, av v2 u2, .int .i64 t] w (Gives3 (lowN (sumN v1 u1 v2 u2) (facN t)) (lowD (sumN v1 u1 v2 u2) (facN t)) true w) := by
  obtain ⟨S, hS⟩ : ∃ S, S = w.heap.size + 2 := ⟨_, rfl⟩
  have hB : Below S ((w.alloc (.cells #[.int .i64 v1, .int .i64 u1] 29)).alloc (.cells #[.int .i64 v2, .int .i64 u2] 29)) ((w.alloc (.cells #[.int .i64 v1, .int .i64 u1] 29)).alloc (.cells #[.int .i64 v2, .int .i64 u2] 29)) := Below.refl _ _
  have HSS := Lib.hid hS
  have HSZ := Lib.hid (show S = ((w.alloc (.cells #[.int .i64 v1, .int .i64 u1] 29)).alloc (.cells #[.int .i64 v2, .int .i64 u2] 29)).heap.size by simp [hS])
  have G1 := Lib.hid (fun w => valid_v h1 w)
  have G2 := Lib.hid (fun w => valid_v h2 w)
  have GU := Lib.hid (fun w => unit_any t w)
  rw [h3] at GU
  obtain ⟨t0, t4⟩ := unB_iff.1 h3
  have L1 := Lib.hid (fun w' (hb : Below S ((w.alloc (.cells #[.int .i64 v1, .int .i64 u1] 29)).alloc (.cells #[.int .i64 v2, .int .i64 u2] 29)) w') => liters_any v1 u1 w' (hFu.later (under_two hb hS)) h1)
  have L2 := Lib.hid (fun w' (hb : Below S ((w.alloc (.cells #[.int .i64 v1, .int .i64 u1] 29)).alloc (.cells #[.int .i64 v2, .int .i64 u2] 29)) w') => liters_any v2 u2 w' (hFu.later (under_two hb hS)) h2)
  obtain ⟨hX, hp1, hp2⟩ := day_facts h1 h2
  have hXl := sum_le h1 h2
  have HFu := Lib.hid hFu
  have ht : t = 1 ∨ t = 2 ∨ t = 3 ∨ t = 4 := by omega
  clear h1 h2 h3 t0 t4 hS hFu
  generalize v1 * dayOf u1 = s1 at *
  generalize v2 * dayOf u2 = s2 at *
  generalize sumN v1 u1 v2 u2 = X at *
  rcases ht with rfl | rfl | rfl | rfl
  · have LR := Lib.hid (fun w => low_any (40 * X) (40 * 36) w (by omega) (by omega) (by omega))
    rw [lowV_mul X 36] at LR
    have LR2 := Lib.hid (show ∀ w, Calls Tryd.prog 40 #[.int .i64 ((40 * X : Nat) : Int), .int .i64 1440] w fun e w' => e = .returned (lowV X 36) ∧ Below w.heap.size w w' from LR.out)
    rw [show facN 1 = 36 from rfl]
    clear LR
    generalize hY : 40 * X = Y at *
    clear hY
    go_enter Tryd.func32, Tryd.ntmps32
    go_wp2_with (first
      | (go_at_call_of 39 (Value.agg #[Value.int IntKind.i64 v1, Value.int IntKind.i64 u1]); refine (G1.out _).mono ?_; rintro e w1 ⟨rfl, hb1⟩; have hB := on_base hB HSZ.out hb1; obtain ⟨c0, c1, c2, c3⟩ := box_two hB HSS.out)
      | (go_at_call_of 39 (Value.agg #[Value.int IntKind.i64 v2, Value.int IntKind.i64 u2]); refine (G2.out _).mono ?_; rintro e w1 ⟨rfl, hb1⟩; have hB := on_base hB HSZ.out hb1; obtain ⟨c0, c1, c2, c3⟩ := box_two hB HSS.out)
      | (go_at_call 52; refine (GU.out _).mono ?_; rintro e w1 ⟨rfl, rfl⟩))
    have hFw := HFu.out.later (under_two hB HSS.out)
    have hc := hFw.cell 3 (v := .int .i64 1440) rfl
    have hcl := hFw.lt
    clear hFw
    obtain ⟨hlb0, hlb1⟩ := box_lts hB HSS.out
    have hG := @cell_g
    refine region_below (by kernel_rfl) (by kernel_rfl) ?_
    repeat (first | go_big_quiet_step ((first
      | (go_at_call_of 41 (Value.agg #[Value.int IntKind.i64 v1, Value.int IntKind.i64 u1]); exact met_at (fun w' hb => L1.out w' (on_base hB HSZ.out hb)))
      | (go_at_call_of 41 (Value.agg #[Value.int IntKind.i64 v2, Value.int IntKind.i64 u2]); exact met_at (fun w' hb => L2.out w' (on_base hB HSZ.out hb)))
      | (go_at_call 40; exact met LR2.out))))
    refine wpQuiet_nil ?_
    intro wz hbz
    have hB := on_base hB HSZ.out hbz
    go_wp2
    go_ret3
    exact ⟨rfl, under_two hB HSS.out⟩
  · have LR := Lib.hid (fun w => low_any (40 * X) (40 * 2160) w (by omega) (by omega) (by omega))
    rw [lowV_mul X 2160] at LR
    have LR2 := Lib.hid (show ∀ w, Calls Tryd.prog 40 #[.int .i64 ((40 * X : Nat) : Int), .int .i64 86400] w fun e w' => e = .returned (lowV X 2160) ∧ Below w.heap.size w w' from LR.out)
    rw [show facN 2 = 2160 from rfl]
    clear LR
    generalize hY : 40 * X = Y at *
    clear hY
    go_enter Tryd.func32, Tryd.ntmps32
    go_wp2_with (first
      | (go_at_call_of 39 (Value.agg #[Value.int IntKind.i64 v1, Value.int IntKind.i64 u1]); refine (G1.out _).mono ?_; rintro e w1 ⟨rfl, hb1⟩; have hB := on_base hB HSZ.out hb1; obtain ⟨c0, c1, c2, c3⟩ := box_two hB HSS.out)
      | (go_at_call_of 39 (Value.agg #[Value.int IntKind.i64 v2, Value.int IntKind.i64 u2]); refine (G2.out _).mono ?_; rintro e w1 ⟨rfl, hb1⟩; have hB := on_base hB HSZ.out hb1; obtain ⟨c0, c1, c2, c3⟩ := box_two hB HSS.out)
      | (go_at_call 52; refine (GU.out _).mono ?_; rintro e w1 ⟨rfl, rfl⟩))
    have hFw := HFu.out.later (under_two hB HSS.out)
    have hc := hFw.cell 5 (v := .int .i64 86400) rfl
    have hcl := hFw.lt
    clear hFw
    obtain ⟨hlb0, hlb1⟩ := box_lts hB HSS.out
    have hG := @cell_g
    refine region_below (by kernel_rfl) (by kernel_rfl) ?_
    repeat (first | go_big_quiet_step ((first
      | (go_at_call_of 41 (Value.agg #[Value.int IntKind.i64 v1, Value.int IntKind.i64 u1]); exact met_at (fun w' hb => L1.out w' (on_base hB HSZ.out hb)))
      | (go_at_call_of 41 (Value.agg #[Value.int IntKind.i64 v2, Value.int IntKind.i64 u2]); exact met_at (fun w' hb => L2.out w' (on_base hB HSZ.out hb)))
      | (go_at_call 40; exact met LR2.out))))
    refine wpQuiet_nil ?_
    intro wz hbz
    have hB := on_base hB HSZ.out hbz
    go_wp2
    go_ret3
    exact ⟨rfl, under_two hB HSS.out⟩
  · have LR := Lib.hid (fun w => low_any (40 * X) (40 * 600) w (by omega) (by omega) (by omega))
    rw [lowV_mul X 600] at LR
    have LR2 := Lib.hid (show ∀ w, Calls Tryd.prog 40 #[.int .i64 ((40 * X : Nat) : Int), .int .i64 24000] w fun e w' => e = .returned (lowV X 600) ∧ Below w.heap.size w w' from LR.out)
    rw [show facN 3 = 600 from rfl]
    clear LR
    generalize hY : 40 * X = Y at *
    clear hY
    go_enter Tryd.func32, Tryd.ntmps32
    go_wp2_with (first
      | (go_at_call_of 39 (Value.agg #[Value.int IntKind.i64 v1, Value.int IntKind.i64 u1]); refine (G1.out _).mono ?_; rintro e w1 ⟨rfl, hb1⟩; have hB := on_base hB HSZ.out hb1; obtain ⟨c0, c1, c2, c3⟩ := box_two hB HSS.out)
      | (go_at_call_of 39 (Value.agg #[Value.int IntKind.i64 v2, Value.int IntKind.i64 u2]); refine (G2.out _).mono ?_; rintro e w1 ⟨rfl, hb1⟩; have hB := on_base hB HSZ.out hb1; obtain ⟨c0, c1, c2, c3⟩ := box_two hB HSS.out)
      | (go_at_call 52; refine (GU.out _).mono ?_; rintro e w1 ⟨rfl, rfl⟩))
    have hFw := HFu.out.later (under_two hB HSS.out)
    have hc := hFw.cell 7 (v := .int .i64 24000) rfl
    have hcl := hFw.lt
    clear hFw
    obtain ⟨hlb0, hlb1⟩ := box_lts hB HSS.out
    have hG := @cell_g
    refine region_below (by kernel_rfl) (by kernel_rfl) ?_
    repeat (first | go_big_quiet_step ((first
      | (go_at_call_of 41 (Value.agg #[Value.int IntKind.i64 v1, Value.int IntKind.i64 u1]); exact met_at (fun w' hb => L1.out w' (on_base hB HSZ.out hb)))
      | (go_at_call_of 41 (Value.agg #[Value.int IntKind.i64 v2, Value.int IntKind.i64 u2]); exact met_at (fun w' hb => L2.out w' (on_base hB HSZ.out hb)))
      | (go_at_call 40; exact met LR2.out))))
    refine wpQuiet_nil ?_
    intro wz hbz
    have hB := on_base hB HSZ.out hbz
    go_wp2
    go_ret3
    exact ⟨rfl, under_two hB HSS.out⟩
  · have LR := Lib.hid (fun w => low_any (40 * X) (40 * 25) w (by omega) (by omega) (by omega))
    rw [lowV_mul X 25] at LR
    have LR2 := Lib.hid (show ∀ w, Calls Tryd.prog 40 #[.int .i64 ((40 * X : Nat) : Int), .int .i64 1000] w fun e w' => e = .returned (lowV X 25) ∧ Below w.heap.size w w' from LR.out)
    rw [show facN 4 = 25 from rfl]
    clear LR
    generalize hY : 40 * X = Y at *
    clear hY
    go_enter Tryd.func32, Tryd.ntmps32
    go_wp2_with (first
      | (go_at_call_of 39 (Value.agg #[Value.int IntKind.i64 v1, Value.int IntKind.i64 u1]); refine (G1.out _).mono ?_; rintro e w1 ⟨rfl, hb1⟩; have hB := on_base hB HSZ.out hb1; obtain ⟨c0, c1, c2, c3⟩ := box_two hB HSS.out)
      | (go_at_call_of 39 (Value.agg #[Value.int IntKind.i64 v2, Value.int IntKind.i64 u2]); refine (G2.out _).mono ?_; rintro e w1 ⟨rfl, hb1⟩; have hB := on_base hB HSZ.out hb1; obtain ⟨c0, c1, c2, c3⟩ := box_two hB HSS.out)
      | (go_at_call 52; refine (GU.out _).mono ?_; rintro e w1 ⟨rfl, rfl⟩))
    have hFw := HFu.out.later (under_two hB HSS.out)
    have hc := hFw.cell 9 (v := .int .i64 1000) rfl
    have hcl := hFw.lt
    clear hFw
    obtain ⟨hlb0, hlb1⟩ := box_lts hB HSS.out
    have hG := @cell_g
    refine region_below (by kernel_rfl) (by kernel_rfl) ?_
    repeat (first | go_big_quiet_step ((first
      | (go_at_call_of 41 (Value.agg #[Value.int IntKind.i64 v1, Value.int IntKind.i64 u1]); exact met_at (fun w' hb => L1.out w' (on_base hB HSZ.out hb)))
      | (go_at_call_of 41 (Value.agg #[Value.int IntKind.i64 v2, Value.int IntKind.i64 u2]); exact met_at (fun w' hb => L2.out w' (on_base hB HSZ.out hb)))
      | (go_at_call 40; exact met LR2.out))))
    refine wpQuiet_nil ?_
    intro wz hbz
    have hB := on_base hB HSZ.out hbz
    go_wp2
    go_ret3
    exact ⟨rfl, under_two hB HSS.out⟩

/-- Both sums are one. -/
theorem add_both (v1 u1 v2 u2 t : Int) : ∃ n d ok, (∀ w, Fu w → Calls Tryd.prog 32 #[av v1 u1, av v2 u2, .int .i64 t] w (Gives3 n d ok w)) ∧ (∀ w, Calls Tryd.prog 31 #[av v1 u1, av v2 u2, .int .i64 t] w (Gives3 n d ok w)) := by
  by_cases h : okA v1 u1 = false ∨ okA v2 u2 = false ∨ unB t = false
  · exact ⟨_, _, _, fun w _ => add_no v1 u1 v2 u2 t w h, fun w => sadd_no v1 u1 v2 u2 t w h⟩
  · have h1 : okA v1 u1 = true := by cases e : okA v1 u1; exact absurd (.inl e) h; rfl
    have h2 : okA v2 u2 = true := by cases e : okA v2 u2; exact absurd (.inr (.inl e)) h; rfl
    have h3 : unB t = true := by cases e : unB t; exact absurd (.inr (.inr e)) h; rfl
    exact ⟨_, _, _, fun w hF => add_yes v1 u1 v2 u2 t w hF h1 h2 h3, fun w => sadd_yes v1 u1 v2 u2 t w h1 h2 h3⟩
end Go.Proofs.YtpdkphokinhhdaaDoor.S3
