/- Conversions and comparisons of amounts, and volumes: what the program and the model return: contracts. Conditions: each theorem's own premises. -/
import Derived.Test.YtpdkphokinhhdaaDoorAddTwo
namespace Go.Proofs.YtpdkphokinhhdaaDoor.S3
open Go.RowKit Go.Sort P3 S2

theorem ok_zero (t : Int) : okA 0 t = unB t := by
  rw [Bool.eq_iff_iff, okA_iff, unB_iff]
  exact ⟨fun h => h.2, fun h => ⟨by omega, h⟩⟩
theorem sum_zero (v u t : Int) : v * facOf u + 0 * facOf t = v * facOf u := by rw [Int.zero_mul, Int.add_zero]
set_option maxHeartbeats 4000000 in
set_option maxRecDepth 100000 in
theorem conv_of (v1 u1 t n d : Int) (ok : Bool) (w : World) (hFu : Fu w) (h : ∀ w, Fu w → Calls Tryd.prog 32 #[av v1 u1, av 0 t, .int .i64 t] w (Gives3 n d ok w)) :
    Calls Tryd.prog 28 #[av v1 u1, .int .i64 t] w (Gives3 n d ok w) := by
  obtain ⟨S, hS⟩ : ∃ S, S = w.heap.size + 1 := ⟨_, rfl⟩
  have hB : Below S (w.alloc (.cells #[.int .i64 v1, .int .i64 u1] 29)) (w.alloc (.cells #[.int .i64 v1, .int .i64 u1] 29)) := Below.refl _ _
  have HSS := Lib.hid hS
  have HSZ := Lib.hid (show S = (w.alloc (.cells #[.int .i64 v1, .int .i64 u1] 29)).heap.size by simp [hS])
  have H := Lib.hid (fun w' (hb : Below S (w.alloc (.cells #[.int .i64 v1, .int .i64 u1] 29)) w') => h w' (hFu.later (under_one hb hS)))
  clear h hFu hS
  go_enter Tryd.func28, Tryd.ntmps28
  go_wp2_with (first
    | (go_at_call 32; refine (H.out _ hB).mono ?_; rintro e w1 ⟨rfl, hb1⟩; have hB := on_base hB HSZ.out hb1; obtain ⟨c0, c1⟩ := box_one hB HSS.out))
  go_ret3
  exact ⟨rfl, under_one hB HSS.out⟩
set_option maxHeartbeats 4000000 in
set_option maxRecDepth 100000 in
theorem sconv_yes (v1 u1 t : Int) (w : World) (h1 : okA v1 u1 = true) (h3 : unB t = true) :
    Calls Tryd.prog 27 #[av v1 u1, .int .i64 t] w (Gives3 (lowN (sumN v1 u1 0 t) (facN t)) (lowD (sumN v1 u1 0 t) (facN t)) true w) := by
  obtain ⟨S, hS⟩ : ∃ S, S = w.heap.size + 1 := ⟨_, rfl⟩
  have hB : Below S (w.alloc (.cells #[.int .i64 v1, .int .i64 u1] 29)) (w.alloc (.cells #[.int .i64 v1, .int .i64 u1] 29)) := Below.refl _ _
  have HSS := Lib.hid hS
  have HSZ := Lib.hid (show S = (w.alloc (.cells #[.int .i64 v1, .int .i64 u1] 29)).heap.size by simp [hS])
  have G1 := Lib.hid (fun w => sgood_v h1 w)
  have GU := Lib.hid (fun w => sunit_any t w)
  rw [h3] at GU
  obtain ⟨_, a0, a1⟩ := okA_iff.1 h1
  obtain ⟨b0, b1⟩ := unB_iff.1 h3
  have F1 := Lib.hid (fun w => fac_any u1 w a0 a1)
  have F2 := Lib.hid (fun w => fac_any t w b0 b1)
  have hsum := sum_facts h1 (show okA 0 t = true by rw [ok_zero]; exact h3)
  rw [sum_zero] at hsum
  obtain ⟨hX, hp1, _⟩ := hsum
  have hXl := sum_le h1 (show okA 0 t = true by rw [ok_zero]; exact h3)
  obtain ⟨hK, hK1, hK2⟩ := facN_facts h3
  rw [hK] at F2
  have SR := Lib.hid (fun w => reduce_any (sumN v1 u1 0 t) (facN t) w (by omega) (by omega) (by omega))
  generalize sumN v1 u1 0 t = X at *
  generalize facN t = K at *
  generalize facOf u1 = f1 at *
  clear h1 h3 hS hK a0 a1 b0 b1
  go_enter Tryd.func27, Tryd.ntmps27
  go_wp2_with (first
    | (go_at_call 42; refine (G1.out _).mono ?_; rintro e w1 ⟨rfl, hb1⟩; have hB := on_base hB HSZ.out hb1; obtain ⟨c0, c1⟩ := box_one hB HSS.out)
    | (go_at_call 50; refine (GU.out _).mono ?_; rintro e w1 ⟨rfl, rfl⟩))
  have hlb0 := box_lt1 hB HSS.out
  have hG := @cell_g
  refine region_below (by kernel_rfl) (by kernel_rfl) ?_
  repeat (first | go_big_quiet_step ((first
    | (go_at_call_of 51 (Value.int IntKind.i64 u1); exact met F1.out)
    | (go_at_call_of 51 (Value.int IntKind.i64 t); exact met F2.out)
    | (go_at_call 43; exact met SR.out))))
  refine wpQuiet_nil ?_
  intro wz hbz
  have hB := on_base hB HSZ.out hbz
  go_wp2
  go_ret3
  exact ⟨rfl, under_one hB HSS.out⟩
set_option maxHeartbeats 4000000 in
set_option maxRecDepth 100000 in
theorem sconv_no (v1 u1 t : Int) (w : World) (h : okA v1 u1 = false ∨ unB t = false) :
    Calls Tryd.prog 27 #[av v1 u1, .int .i64 t] w (Gives3 0 0 false w) := by
  obtain ⟨S, hS⟩ : ∃ S, S = w.heap.size + 1 := ⟨_, rfl⟩
  have hB : Below S (w.alloc (.cells #[.int .i64 v1, .int .i64 u1] 29)) (w.alloc (.cells #[.int .i64 v1, .int .i64 u1] 29)) := Below.refl _ _
  have HSS := Lib.hid hS
  have HSZ := Lib.hid (show S = (w.alloc (.cells #[.int .i64 v1, .int .i64 u1] 29)).heap.size by simp [hS])
  clear hS
  have GU := Lib.hid (fun w => sunit_any t w)
  cases h1 : okA v1 u1
  · have G1 := Lib.hid (fun w => sgood_v h1 w)
    clear h h1 GU
    go_enter Tryd.func27, Tryd.ntmps27
    go_wp2_with (first
        | (go_at_call 42; refine (G1.out _).mono ?_; rintro e w1 ⟨rfl, hb1⟩; have hB := on_base hB HSZ.out hb1; obtain ⟨c0, c1⟩ := box_one hB HSS.out))
    go_ret3
    exact ⟨rfl, under_one hB HSS.out⟩
  · have h3 : unB t = false := by rcases h with h | h; rw [h1] at h; cases h; exact h
    have G1 := Lib.hid (fun w => sgood_v h1 w)
    rw [h3] at GU
    clear h h1 h3
    go_enter Tryd.func27, Tryd.ntmps27
    go_wp2_with (first
        | (go_at_call 42; refine (G1.out _).mono ?_; rintro e w1 ⟨rfl, hb1⟩; have hB := on_base hB HSZ.out hb1; obtain ⟨c0, c1⟩ := box_one hB HSS.out)
        | (go_at_call 50; refine (GU.out _).mono ?_; rintro e w1 ⟨rfl, rfl⟩))
    go_ret3
    exact ⟨rfl, under_one hB HSS.out⟩
/-- Both conversions are one. -/
theorem conv_both (v1 u1 t : Int) : ∃ n d ok, (∀ w, Fu w → Calls Tryd.prog 28 #[av v1 u1, .int .i64 t] w (Gives3 n d ok w)) ∧ (∀ w, Calls Tryd.prog 27 #[av v1 u1, .int .i64 t] w (Gives3 n d ok w)) := by
  by_cases h : okA v1 u1 = false ∨ unB t = false
  · exact ⟨_, _, _, fun w hF => conv_of v1 u1 t 0 0 false w hF (fun w _ => add_no v1 u1 0 t t w (by rw [ok_zero]; rcases h with h | h; exact .inl h; exact .inr (.inl h))), fun w => sconv_no v1 u1 t w h⟩
  · have h1 : okA v1 u1 = true := by cases e : okA v1 u1; exact absurd (.inl e) h; rfl
    have h3 : unB t = true := by cases e : unB t; exact absurd (.inr e) h; rfl
    exact ⟨_, _, _, fun w hF => conv_of v1 u1 t _ _ true w hF (fun w hF => add_yes v1 u1 0 t t w hF h1 (by rw [ok_zero]; exact h3) h3), fun w => sconv_yes v1 u1 t w h1 h3⟩

/-! ### Comparisons -/
def Gives2 (n : Int) (ok : Bool) (w : World) (e : Ending) (w' : World) : Prop := e = .returned (.tuple #[.int .i64 n, .bool ok]) ∧ Below w.heap.size w w'
set_option maxHeartbeats 4000000 in
set_option maxRecDepth 100000 in
theorem scmp_no (v1 u1 v2 u2 : Int) (w : World) (h : okA v1 u1 = false ∨ okA v2 u2 = false) :
    Calls Tryd.prog 29 #[av v1 u1, av v2 u2] w (Gives2 0 false w) := by
  obtain ⟨S, hS⟩ : ∃ S, S = w.heap.size + 2 := ⟨_, rfl⟩
  have hB : Below S ((w.alloc (.cells #[.int .i64 v1, .int .i64 u1] 29)).alloc (.cells #[.int .i64 v2, .int .i64 u2] 29)) ((w.alloc (.cells #[.int .i64 v1, .int .i64 u1] 29)).alloc (.cells #[.int .i64 v2, .int .i64 u2] 29)) := Below.refl _ _
  have HSS := Lib.hid hS
  have HSZ := Lib.hid (show S = ((w.alloc (.cells #[.int .i64 v1, .int .i64 u1] 29)).alloc (.cells #[.int .i64 v2, .int .i64 u2] 29)).heap.size by simp [hS])
  clear hS
  cases h1 : okA v1 u1
  · have G1 := Lib.hid (fun w => sgood_v h1 w)
    clear h h1
    go_enter Tryd.func29, Tryd.ntmps29
    go_wp2_with (first
        | (go_at_call 42; refine (G1.out _).mono ?_; rintro e w1 ⟨rfl, hb1⟩; have hB := on_base hB HSZ.out hb1; obtain ⟨c0, c1, c2, c3⟩ := box_two hB HSS.out))
    go_ret2
    exact ⟨rfl, under_two hB HSS.out⟩
  · have h2 : okA v2 u2 = false := by rcases h with h | h; rw [h1] at h; cases h; exact h
    have G1 := Lib.hid (fun w => sgood_v h1 w)
    have G2 := Lib.hid (fun w => sgood_v h2 w)
    clear h h1 h2
    go_enter Tryd.func29, Tryd.ntmps29
    go_wp2_with (first
        | (go_at_call_of 42 (Value.agg #[Value.int IntKind.i64 v1, Value.int IntKind.i64 u1]); refine (G1.out _).mono ?_; rintro e w1 ⟨rfl, hb1⟩; have hB := on_base hB HSZ.out hb1; obtain ⟨c0, c1, c2, c3⟩ := box_two hB HSS.out)
        | (go_at_call_of 42 (Value.agg #[Value.int IntKind.i64 v2, Value.int IntKind.i64 u2]); refine (G2.out _).mono ?_; rintro e w1 ⟨rfl, hb1⟩; have hB := on_base hB HSZ.out hb1; obtain ⟨c0, c1, c2, c3⟩ := box_two hB HSS.out))
    go_ret2
    exact ⟨rfl, under_two hB HSS.out⟩
set_option maxHeartbeats 4000000 in
set_option maxRecDepth 100000 in
theorem cmp_no (v1 u1 v2 u2 : Int) (w : World) (h : okA v1 u1 = false ∨ okA v2 u2 = false) :
    Calls Tryd.prog 30 #[av v1 u1, av v2 u2] w (Gives2 0 false w) := by
  obtain ⟨S, hS⟩ : ∃ S, S = w.heap.size + 2 := ⟨_, rfl⟩
  have hB : Below S ((w.alloc (.cells #[.int .i64 v1, .int .i64 u1] 29)).alloc (.cells #[.int .i64 v2, .int .i64 u2] 29)) ((w.alloc (.cells #[.int .i64 v1, .int .i64 u1] 29)).alloc (.cells #[.int .i64 v2, .int .i64 u2] 29)) := Below.refl _ _
  have HSS := Lib.hid hS
  have HSZ := Lib.hid (show S = ((w.alloc (.cells #[.int .i64 v1, .int .i64 u1] 29)).alloc (.cells #[.int .i64 v2, .int .i64 u2] 29)).heap.size by simp [hS])
  clear hS
  cases h1 : okA v1 u1
  · have G1 := Lib.hid (fun w => valid_v h1 w)
    clear h h1
    go_enter Tryd.func30, Tryd.ntmps30
    go_wp2_with (first
        | (go_at_call 39; refine (G1.out _).mono ?_; rintro e w1 ⟨rfl, hb1⟩; have hB := on_base hB HSZ.out hb1; obtain ⟨c0, c1, c2, c3⟩ := box_two hB HSS.out))
    go_ret2
    exact ⟨rfl, under_two hB HSS.out⟩
  · have h2 : okA v2 u2 = false := by rcases h with h | h; rw [h1] at h; cases h; exact h
    have G1 := Lib.hid (fun w => valid_v h1 w)
    have G2 := Lib.hid (fun w => valid_v h2 w)
    clear h h1 h2
    go_enter Tryd.func30, Tryd.ntmps30
    go_wp2_with (first
        | (go_at_call_of 39 (Value.agg #[Value.int IntKind.i64 v1, Value.int IntKind.i64 u1]); refine (G1.out _).mono ?_; rintro e w1 ⟨rfl, hb1⟩; have hB := on_base hB HSZ.out hb1; obtain ⟨c0, c1, c2, c3⟩ := box_two hB HSS.out)
        | (go_at_call_of 39 (Value.agg #[Value.int IntKind.i64 v2, Value.int IntKind.i64 u2]); refine (G2.out _).mono ?_; rintro e w1 ⟨rfl, hb1⟩; have hB := on_base hB HSZ.out hb1; obtain ⟨c0, c1, c2, c3⟩ := box_two hB HSS.out))
    go_ret2
    exact ⟨rfl, under_two hB HSS.out⟩
set_option maxHeartbeats 4000000 in
set_option maxRecDepth 100000 in
theorem scmp_lt (v1 u1 v2 u2 : Int) (w : World) (h1 : okA v1 u1 = true) (h2 : okA v2 u2 = true) (h : v1 * facOf u1 < v2 * facOf u2) :
    Calls Tryd.prog 29 #[av v1 u1, av v2 u2] w (Gives2 1 true w) := by
  obtain ⟨S, hS⟩ : ∃ S, S = w.heap.size + 2 := ⟨_, rfl⟩
  have hB : Below S ((w.alloc (.cells #[.int .i64 v1, .int .i64 u1] 29)).alloc (.cells #[.int .i64 v2, .int .i64 u2] 29)) ((w.alloc (.cells #[.int .i64 v1, .int .i64 u1] 29)).alloc (.cells #[.int .i64 v2, .int .i64 u2] 29)) := Below.refl _ _
  have HSS := Lib.hid hS
  have HSZ := Lib.hid (show S = ((w.alloc (.cells #[.int .i64 v1, .int .i64 u1] 29)).alloc (.cells #[.int .i64 v2, .int .i64 u2] 29)).heap.size by simp [hS])
  have G1 := Lib.hid (fun w => sgood_v h1 w)
  have G2 := Lib.hid (fun w => sgood_v h2 w)
  have S1 := Lib.hid (fun w => small_any v1 u1 w h1)
  have S2 := Lib.hid (fun w => small_any v2 u2 w h2)
  generalize v1 * facOf u1 = s1 at *
  generalize v2 * facOf u2 = s2 at *
  have hlt : s1 < s2 := by omega
  clear h1 h2 hS h
  go_enter Tryd.func29, Tryd.ntmps29
  go_wp2_with (first
    | (go_at_call_of 42 (Value.agg #[Value.int IntKind.i64 v1, Value.int IntKind.i64 u1]); refine (G1.out _).mono ?_; rintro e w1 ⟨rfl, hb1⟩; have hB := on_base hB HSZ.out hb1; obtain ⟨c0, c1, c2, c3⟩ := box_two hB HSS.out)
    | (go_at_call_of 42 (Value.agg #[Value.int IntKind.i64 v2, Value.int IntKind.i64 u2]); refine (G2.out _).mono ?_; rintro e w1 ⟨rfl, hb1⟩; have hB := on_base hB HSZ.out hb1; obtain ⟨c0, c1, c2, c3⟩ := box_two hB HSS.out))
  obtain ⟨hlb0, hlb1⟩ := box_lts hB HSS.out
  have hG := @cell_g
  refine region_below (by kernel_rfl) (by kernel_rfl) ?_
  repeat (first | go_big_quiet_step ((first
    | (go_at_call_of 44 (Value.agg #[Value.int IntKind.i64 v1, Value.int IntKind.i64 u1]); exact met S1.out)
    | (go_at_call_of 44 (Value.agg #[Value.int IntKind.i64 v2, Value.int IntKind.i64 u2]); exact met S2.out))))
  refine wpQuiet_nil ?_
  intro wz hbz
  have hB := on_base hB HSZ.out hbz
  go_wp2
  go_ret2
  exact ⟨rfl, under_two hB HSS.out⟩
set_option maxHeartbeats 4000000 in
set_option maxRecDepth 100000 in
theorem cmp_lt (v1 u1 v2 u2 : Int) (w : World) (hFu : Fu w) (h1 : okA v1 u1 = true) (h2 : okA v2 u2 = true) (h : v1 * facOf u1 < v2 * facOf u2) :
    Calls Tryd.prog 30 #[av v1 u1, av v2 u2] w (Gives2 1 true w) := by
  obtain ⟨S, hS⟩ : ∃ S, S = w.heap.size + 2 := ⟨_, rfl⟩
  have hB : Below S ((w.alloc (.cells #[.int .i64 v1, .int .i64 u1] 29)).alloc (.cells #[.int .i64 v2, .int .i64 u2] 29)) ((w.alloc (.cells #[.int .i64 v1, .int .i64 u1] 29)).alloc (.cells #[.int .i64 v2, .int .i64 u2] 29)) := Below.refl _ _
  have HSS := Lib.hid hS
  have HSZ := Lib.hid (show S = ((w.alloc (.cells #[.int .i64 v1, .int .i64 u1] 29)).alloc (.cells #[.int .i64 v2, .int .i64 u2] 29)).heap.size by simp [hS])
  have G1 := Lib.hid (fun w => valid_v h1 w)
  have G2 := Lib.hid (fun w => valid_v h2 w)
  have L1 := Lib.hid (fun w' (hb : Below S ((w.alloc (.cells #[.int .i64 v1, .int .i64 u1] 29)).alloc (.cells #[.int .i64 v2, .int .i64 u2] 29)) w') => liters_any v1 u1 w' (hFu.later (under_two hb hS)) h1)
  have L2 := Lib.hid (fun w' (hb : Below S ((w.alloc (.cells #[.int .i64 v1, .int .i64 u1] 29)).alloc (.cells #[.int .i64 v2, .int .i64 u2] 29)) w') => liters_any v2 u2 w' (hFu.later (under_two hb hS)) h2)
  have e1 := day_mul v1 u1
  have e2 := day_mul v2 u2
  generalize v1 * dayOf u1 = s1 at *
  generalize v2 * dayOf u2 = s2 at *
  have hlt : s1 < s2 := by omega
  clear h1 h2 hS h hFu e1 e2
  go_enter Tryd.func30, Tryd.ntmps30
  go_wp2_with (first
    | (go_at_call_of 39 (Value.agg #[Value.int IntKind.i64 v1, Value.int IntKind.i64 u1]); refine (G1.out _).mono ?_; rintro e w1 ⟨rfl, hb1⟩; have hB := on_base hB HSZ.out hb1; obtain ⟨c0, c1, c2, c3⟩ := box_two hB HSS.out)
    | (go_at_call_of 39 (Value.agg #[Value.int IntKind.i64 v2, Value.int IntKind.i64 u2]); refine (G2.out _).mono ?_; rintro e w1 ⟨rfl, hb1⟩; have hB := on_base hB HSZ.out hb1; obtain ⟨c0, c1, c2, c3⟩ := box_two hB HSS.out))
  obtain ⟨hlb0, hlb1⟩ := box_lts hB HSS.out
  have hG := @cell_g
  refine region_below (by kernel_rfl) (by kernel_rfl) ?_
  repeat (first | go_big_quiet_step ((first
    | (go_at_call_of 41 (Value.agg #[Value.int IntKind.i64 v1, Value.int IntKind.i64 u1]); exact met_at (fun w' hb => L1.out w' (on_base hB HSZ.out hb)))
    | (go_at_call_of 41 (Value.agg #[Value.int IntKind.i64 v2, Value.int IntKind.i64 u2]); exact met_at (fun w' hb => L2.out w' (on_base hB HSZ.out hb))))))
  refine wpQuiet_nil ?_
  intro wz hbz
  have hB := on_base hB HSZ.out hbz
  go_wp2
  go_ret2
  exact ⟨rfl, under_two hB HSS.out⟩
set_option maxHeartbeats 4000000 in
set_option maxRecDepth 100000 in
theorem scmp_gt (v1 u1 v2 u2 : Int) (w : World) (h1 : okA v1 u1 = true) (h2 : okA v2 u2 = true) (h : v2 * facOf u2 < v1 * facOf u1) :
    Calls Tryd.prog 29 #[av v1 u1, av v2 u2] w (Gives2 2 true w) := by
  obtain ⟨S, hS⟩ : ∃ S, S = w.heap.size + 2 := ⟨_, rfl⟩
  have hB : Below S ((w.alloc (.cells #[.int .i64 v1, .int .i64 u1] 29)).alloc (.cells #[.int .i64 v2, .int .i64 u2] 29)) ((w.alloc (.cells #[.int .i64 v1, .int .i64 u1] 29)).alloc (.cells #[.int .i64 v2, .int .i64 u2] 29)) := Below.refl _ _
  have HSS := Lib.hid hS
  have HSZ := Lib.hid (show S = ((w.alloc (.cells #[.int .i64 v1, .int .i64 u1] 29)).alloc (.cells #[.int .i64 v2, .int .i64 u2] 29)).heap.size by simp [hS])
  have G1 := Lib.hid (fun w => sgood_v h1 w)
  have G2 := Lib.hid (fun w => sgood_v h2 w)
  have S1 := Lib.hid (fun w => small_any v1 u1 w h1)
  have S2 := Lib.hid (fun w => small_any v2 u2 w h2)
  generalize v1 * facOf u1 = s1 at *
  generalize v2 * facOf u2 = s2 at *
  have hlt : ¬ s1 < s2 := by omega
  have hgt : s2 < s1 := by omega
  clear h1 h2 hS h
  go_enter Tryd.func29, Tryd.ntmps29
  go_wp2_with (first
    | (go_at_call_of 42 (Value.agg #[Value.int IntKind.i64 v1, Value.int IntKind.i64 u1]); refine (G1.out _).mono ?_; rintro e w1 ⟨rfl, hb1⟩; have hB := on_base hB HSZ.out hb1; obtain ⟨c0, c1, c2, c3⟩ := box_two hB HSS.out)
    | (go_at_call_of 42 (Value.agg #[Value.int IntKind.i64 v2, Value.int IntKind.i64 u2]); refine (G2.out _).mono ?_; rintro e w1 ⟨rfl, hb1⟩; have hB := on_base hB HSZ.out hb1; obtain ⟨c0, c1, c2, c3⟩ := box_two hB HSS.out))
  obtain ⟨hlb0, hlb1⟩ := box_lts hB HSS.out
  have hG := @cell_g
  refine region_below (by kernel_rfl) (by kernel_rfl) ?_
  repeat (first | go_big_quiet_step ((first
    | (go_at_call_of 44 (Value.agg #[Value.int IntKind.i64 v1, Value.int IntKind.i64 u1]); exact met S1.out)
    | (go_at_call_of 44 (Value.agg #[Value.int IntKind.i64 v2, Value.int IntKind.i64 u2]); exact met S2.out))))
  refine wpQuiet_nil ?_
  intro wz hbz
  have hB := on_base hB HSZ.out hbz
  go_wp2
  obtain ⟨c0, c1, c2, c3⟩ := box_two hB HSS.out
  obtain ⟨hlb0, hlb1⟩ := box_lts hB HSS.out
  have hG := @cell_g
  refine region_below (by kernel_rfl) (by kernel_rfl) ?_
  repeat (first | go_big_quiet_step ((first
    | (go_at_call_of 44 (Value.agg #[Value.int IntKind.i64 v1, Value.int IntKind.i64 u1]); exact met S1.out)
    | (go_at_call_of 44 (Value.agg #[Value.int IntKind.i64 v2, Value.int IntKind.i64 u2]); exact met S2.out))))
  refine wpQuiet_nil ?_
  intro wz hbz
  have hB := on_base hB HSZ.out hbz
  go_wp2
  go_ret2
  exact ⟨rfl, under_two hB HSS.out⟩
set_option maxHeartbeats 4000000 in
set_option maxRecDepth 100000 in
theorem cmp_gt (v1 u1 v2 u2 : Int) (w : World) (hFu : Fu w) (h1 : okA v1 u1 = true) (h2 : okA v2 u2 = true) (h : v2 * facOf u2 < v1 * facOf u1) :
    Calls Tryd.prog 30 #[av v1 u1, av v2 u2] w (Gives2 2 true w) := by
  obtain ⟨S, hS⟩ : ∃ S, S = w.heap.size + 2 := ⟨_, rfl⟩
  have hB : Below S ((w.alloc (.cells #[.int .i64 v1, .int .i64 u1] 29)).alloc (.cells #[.int .i64 v2, .int .i64 u2] 29)) ((w.alloc (.cells #[.int .i64 v1, .int .i64 u1] 29)).alloc (.cells #[.int .i64 v2, .int .i64 u2] 29)) := Below.refl _ _
  have HSS := Lib.hid hS
  have HSZ := Lib.hid (show S = ((w.alloc (.cells #[.int .i64 v1, .int .i64 u1] 29)).alloc (.cells #[.int .i64 v2, .int .i64 u2] 29)).heap.size by simp [hS])
  have G1 := Lib.hid (fun w => valid_v h1 w)
  have G2 := Lib.hid (fun w => valid_v h2 w)
  have L1 := Lib.hid (fun w' (hb : Below S ((w.alloc (.cells #[.int .i64 v1, .int .i64 u1] 29)).alloc (.cells #[.int .i64 v2, .int .i64 u2] 29)) w') => liters_any v1 u1 w' (hFu.later (under_two hb hS)) h1)
  have L2 := Lib.hid (fun w' (hb : Below S ((w.alloc (.cells #[.int .i64 v1, .int .i64 u1] 29)).alloc (.cells #[.int .i64 v2, .int .i64 u2] 29)) w') => liters_any v2 u2 w' (hFu.later (under_two hb hS)) h2)
  have e1 := day_mul v1 u1
  have e2 := day_mul v2 u2
  generalize v1 * dayOf u1 = s1 at *
  generalize v2 * dayOf u2 = s2 at *
  have hlt : ¬ s1 < s2 := by omega
  have hgt : s2 < s1 := by omega
  clear h1 h2 hS h hFu e1 e2
  go_enter Tryd.func30, Tryd.ntmps30
  go_wp2_with (first
    | (go_at_call_of 39 (Value.agg #[Value.int IntKind.i64 v1, Value.int IntKind.i64 u1]); refine (G1.out _).mono ?_; rintro e w1 ⟨rfl, hb1⟩; have hB := on_base hB HSZ.out hb1; obtain ⟨c0, c1, c2, c3⟩ := box_two hB HSS.out)
    | (go_at_call_of 39 (Value.agg #[Value.int IntKind.i64 v2, Value.int IntKind.i64 u2]); refine (G2.out _).mono ?_; rintro e w1 ⟨rfl, hb1⟩; have hB := on_base hB HSZ.out hb1; obtain ⟨c0, c1, c2, c3⟩ := box_two hB HSS.out))
  obtain ⟨hlb0, hlb1⟩ := box_lts hB HSS.out
  have hG := @cell_g
  refine region_below (by kernel_rfl) (by kernel_rfl) ?_
  repeat (first | go_big_quiet_step ((first
    | (go_at_call_of 41 (Value.agg #[Value.int IntKind.i64 v1, Value.int IntKind.i64 u1]); exact met_at (fun w' hb => L1.out w' (on_base hB HSZ.out hb)))
    | (go_at_call_of 41 (Value.agg #[Value.int IntKind.i64 v2, Value.int IntKind.i64 u2]); exact met_at (fun w' hb => L2.out w' (on_base hB HSZ.out hb))))))
  refine wpQuiet_nil ?_
  intro wz hbz
  have hB := on_base hB HSZ.out hbz
  go_wp2
  go_ret2
  exact ⟨rfl, under_two hB HSS.out⟩
set_option maxHeartbeats 4000000 in
set_option maxRecDepth 100000 in
theorem scmp_eq (v1 u1 v2 u2 : Int) (w : World) (h1 : okA v1 u1 = true) (h2 : okA v2 u2 = true) (h : v1 * facOf u1 = v2 * facOf u2) :
    Calls Tryd.prog 29 #[av v1 u1, av v2 u2] w (Gives2 0 true w) := by
  obtain ⟨S, hS⟩ : ∃ S, S = w.heap.size + 2 := ⟨_, rfl⟩
  have hB : Below S ((w.alloc (.cells #[.int .i64 v1, .int .i64 u1] 29)).alloc (.cells #[.int .i64 v2, .int .i64 u2] 29)) ((w.alloc (.cells #[.int .i64 v1, .int .i64 u1] 29)).alloc (.cells #[.int .i64 v2, .int .i64 u2] 29)) := Below.refl _ _
  have HSS := Lib.hid hS
  have HSZ := Lib.hid (show S = ((w.alloc (.cells #[.int .i64 v1, .int .i64 u1] 29)).alloc (.cells #[.int .i64 v2, .int .i64 u2] 29)).heap.size by simp [hS])
  have G1 := Lib.hid (fun w => sgood_v h1 w)
  have G2 := Lib.hid (fun w => sgood_v h2 w)
  have S1 := Lib.hid (fun w => small_any v1 u1 w h1)
  have S2 := Lib.hid (fun w => small_any v2 u2 w h2)
  generalize v1 * facOf u1 = s1 at *
  generalize v2 * facOf u2 = s2 at *
  have hlt : ¬ s1 < s2 := by omega
  have hgt : ¬ s2 < s1 := by omega
  clear h1 h2 hS h
  go_enter Tryd.func29, Tryd.ntmps29
  go_wp2_with (first
    | (go_at_call_of 42 (Value.agg #[Value.int IntKind.i64 v1, Value.int IntKind.i64 u1]); refine (G1.out _).mono ?_; rintro e w1 ⟨rfl, hb1⟩; have hB := on_base hB HSZ.out hb1; obtain ⟨c0, c1, c2, c3⟩ := box_two hB HSS.out)
    | (go_at_call_of 42 (Value.agg #[Value.int IntKind.i64 v2, Value.int IntKind.i64 u2]); refine (G2.out _).mono ?_; rintro e w1 ⟨rfl, hb1⟩; have hB := on_base hB HSZ.out hb1; obtain ⟨c0, c1, c2, c3⟩ := box_two hB HSS.out))
  obtain ⟨hlb0, hlb1⟩ := box_lts hB HSS.out
  have hG := @cell_g
  refine region_below (by kernel_rfl) (by kernel_rfl) ?_
  repeat (first | go_big_quiet_step ((first
    | (go_at_call_of 44 (Value.agg #[Value.int IntKind.i64 v1, Value.int IntKind.i64 u1]); exact met S1.out)
    | (go_at_call_of 44 (Value.agg #[Value.int IntKind.i64 v2, Value.int IntKind.i64 u2]); exact met S2.out))))
  refine wpQuiet_nil ?_
  intro wz hbz
  have hB := on_base hB HSZ.out hbz
  go_wp2
  obtain ⟨c0, c1, c2, c3⟩ := box_two hB HSS.out
  obtain ⟨hlb0, hlb1⟩ := box_lts hB HSS.out
  have hG := @cell_g
  refine region_below (by kernel_rfl) (by kernel_rfl) ?_
  repeat (first | go_big_quiet_step ((first
    | (go_at_call_of 44 (Value.agg #[Value.int IntKind.i64 v1, Value.int IntKind.i64 u1]); exact met S1.out)
    | (go_at_call_of 44 (Value.agg #[Value.int IntKind.i64 v2, Value.int IntKind.i64 u2]); exact met S2.out))))
  refine wpQuiet_nil ?_
  intro wz hbz
  have hB := on_base hB HSZ.out hbz
  go_wp2
  go_ret2
  exact ⟨rfl, under_two hB HSS.out⟩
set_option maxHeartbeats 4000000 in
set_option maxRecDepth 100000 in
theorem cmp_eq (v1 u1 v2 u2 : Int) (w : World) (hFu : Fu w) (h1 : okA v1 u1 = true) (h2 : okA v2 u2 = true) (h : v1 * facOf u1 = v2 * facOf u2) :
    Calls Tryd.prog 30 #[av v1 u1, av v2 u2] w (Gives2 0 true w) := by
  obtain ⟨S, hS⟩ : ∃ S, S = w.heap.size + 2 := ⟨_, rfl⟩
  have hB : Below S ((w.alloc (.cells #[.int .i64 v1, .int .i64 u1] 29)).alloc (.cells #[.int .i64 v2, .int .i64 u2] 29)) ((w.alloc (.cells #[.int .i64 v1, .int .i64 u1] 29)).alloc (.cells #[.int .i64 v2, .int .i64 u2] 29)) := Below.refl _ _
  have HSS := Lib.hid hS
  have HSZ := Lib.hid (show S = ((w.alloc (.cells #[.int .i64 v1, .int .i64 u1] 29)).alloc (.cells #[.int .i64 v2, .int .i64 u2] 29)).heap.size by simp [hS])
  have G1 := Lib.hid (fun w => valid_v h1 w)
  have G2 := Lib.hid (fun w => valid_v h2 w)
  have L1 := Lib.hid (fun w' (hb : Below S ((w.alloc (.cells #[.int .i64 v1, .int .i64 u1] 29)).alloc (.cells #[.int .i64 v2, .int .i64 u2] 29)) w') => liters_any v1 u1 w' (hFu.later (under_two hb hS)) h1)
  have L2 := Lib.hid (fun w' (hb : Below S ((w.alloc (.cells #[.int .i64 v1, .int .i64 u1] 29)).alloc (.cells #[.int .i64 v2, .int .i64 u2] 29)) w') => liters_any v2 u2 w' (hFu.later (under_two hb hS)) h2)
  have e1 := day_mul v1 u1
  have e2 := day_mul v2 u2
  generalize v1 * dayOf u1 = s1 at *
  generalize v2 * dayOf u2 = s2 at *
  have hlt : ¬ s1 < s2 := by omega
  have hgt : ¬ s2 < s1 := by omega
  clear h1 h2 hS h hFu e1 e2
  go_enter Tryd.func30, Tryd.ntmps30
  go_wp2_with (first
    | (go_at_call_of 39 (Value.agg #[Value.int IntKind.i64 v1, Value.int IntKind.i64 u1]); refine (G1.out _).mono ?_; rintro e w1 ⟨rfl, hb1⟩; have hB := on_base hB HSZ.out hb1; obtain ⟨c0, c1, c2, c3⟩ := box_two hB HSS.out)
    | (go_at_call_of 39 (Value.agg #[Value.int IntKind.i64 v2, Value.int IntKind.i64 u2]); refine (G2.out _).mono ?_; rintro e w1 ⟨rfl, hb1⟩; have hB := on_base hB HSZ.out hb1; obtain ⟨c0, c1, c2, c3⟩ := box_two hB HSS.out))
  obtain ⟨hlb0, hlb1⟩ := box_lts hB HSS.out
  have hG := @cell_g
  refine region_below (by kernel_rfl) (by kernel_rfl) ?_
  repeat (first | go_big_quiet_step ((first
    | (go_at_call_of 41 (Value.agg #[Value.int IntKind.i64 v1, Value.int IntKind.i64 u1]); exact met_at (fun w' hb => L1.out w' (on_base hB HSZ.out hb)))
    | (go_at_call_of 41 (Value.agg #[Value.int IntKind.i64 v2, Value.int IntKind.i64 u2]); exact met_at (fun w' hb => L2.out w' (on_base hB HSZ.out hb))))))
  refine wpQuiet_nil ?_
  intro wz hbz
  have hB := on_base hB HSZ.out hbz
  go_wp2
  go_ret2
  exact ⟨rfl, under_two hB HSS.out⟩
/-- Both comparisons are one. -/
theorem cmp_both (v1 u1 v2 u2 : Int) : ∃ n ok, (∀ w, Fu w → Calls Tryd.prog 30 #[av v1 u1, av v2 u2] w (Gives2 n ok w)) ∧ (∀ w, Calls Tryd.prog 29 #[av v1 u1, av v2 u2] w (Gives2 n ok w)) := by
  by_cases h : okA v1 u1 = false ∨ okA v2 u2 = false
  · exact ⟨_, _, fun w _ => cmp_no v1 u1 v2 u2 w h, fun w => scmp_no v1 u1 v2 u2 w h⟩
  · have h1 : okA v1 u1 = true := by cases e : okA v1 u1; exact absurd (.inl e) h; rfl
    have h2 : okA v2 u2 = true := by cases e : okA v2 u2; exact absurd (.inr e) h; rfl
    rcases Int.lt_trichotomy (v1 * facOf u1) (v2 * facOf u2) with hl | he | hg
    · exact ⟨_, _, fun w hF => cmp_lt v1 u1 v2 u2 w hF h1 h2 hl, fun w => scmp_lt v1 u1 v2 u2 w h1 h2 hl⟩
    · exact ⟨_, _, fun w hF => cmp_eq v1 u1 v2 u2 w hF h1 h2 he, fun w => scmp_eq v1 u1 v2 u2 w h1 h2 he⟩
    · exact ⟨_, _, fun w hF => cmp_gt v1 u1 v2 u2 w hF h1 h2 hg, fun w => scmp_gt v1 u1 v2 u2 w h1 h2 hg⟩

/-! ### Volumes -/
def volN (v u m : Int) : Nat := (v * facOf u * m).toNat
theorem vol_facts {v u m : Int} (h : okA v u = true) (h0 : 0 ≤ m) (h1 : m ≤ 10000) : v * facOf u * m = (volN v u m : Int) ∧ volN v u m ≤ 900000000000000 ∧ v * dayOf u * m = ((40 * volN v u m : Nat) : Int) ∧ (0 ≤ v * facOf u ∧ v * facOf u ≤ 90000000000) ∧ (0 ≤ v * dayOf u ∧ v * dayOf u ≤ 3600000000000) := by
  obtain ⟨⟨a0, a1⟩, b0, b1⟩ := okA_iff.1 h
  have f1 := fac_pos b0 b1
  have p1 := prod_bd a0 a1 (show 0 ≤ facOf u by omega) (show facOf u ≤ 90000 by omega)
  have e := day_mul v u
  have q0 := Int.mul_nonneg p1.1 h0
  have q1 := Int.mul_le_mul p1.2 h1 h0 (by omega)
  have e2 : v * dayOf u * m = 40 * (v * facOf u * m) := by rw [e, Int.mul_assoc]
  refine ⟨?_, ?_, ?_, p1, ?_⟩
  · unfold volN; omega
  · unfold volN; omega
  · rw [e2]; unfold volN; omega
  · omega
set_option maxHeartbeats 4000000 in
set_option maxRecDepth 100000 in
theorem svol_yes (v1 u1 m : Int) (w : World) (h1 : okA v1 u1 = true) (m0 : 0 ≤ m) (m1 : m ≤ 10000) :
    Calls Tryd.prog 17 #[av v1 u1, .int .i64 m] w (Gives3 (lowN (volN v1 u1 m) 36) (lowD (volN v1 u1 m) 36) true w) := by
  obtain ⟨S, hS⟩ : ∃ S, S = w.heap.size + 1 := ⟨_, rfl⟩
  have hB : Below S (w.alloc (.cells #[.int .i64 v1, .int .i64 u1] 29)) (w.alloc (.cells #[.int .i64 v1, .int .i64 u1] 29)) := Below.refl _ _
  have HSS := Lib.hid hS
  have HSZ := Lib.hid (show S = (w.alloc (.cells #[.int .i64 v1, .int .i64 u1] 29)).heap.size by simp [hS])
  have G1 := Lib.hid (fun w => sgood_v h1 w)
  obtain ⟨hX, hXl, hY, hp1, hp2⟩ := vol_facts h1 m0 m1
  have HI := Lib.hid (fun w => in_any m 0 10000 w)
  rw [show decide ((0 : Int) ≤ m ∧ m ≤ 10000) = true by simp; omega] at HI
  have SM := Lib.hid (fun w => small_any v1 u1 w h1)
  have SR := Lib.hid (fun w => reduce_any (volN v1 u1 m) 36 w (by omega) (by omega) (by omega))
  clear hY hp2
  generalize v1 * facOf u1 = s1 at *
  generalize volN v1 u1 m = X at *
  clear h1 hS
  go_enter Tryd.func17, Tryd.ntmps17
  go_wp2_with (first
    | (go_at_call 42; refine (G1.out _).mono ?_; rintro e w1 ⟨rfl, hb1⟩; have hB := on_base hB HSZ.out hb1; obtain ⟨c0, c1⟩ := box_one hB HSS.out)
    | (go_at_call 36; refine (HI.out _).mono ?_; rintro e w1 ⟨rfl, rfl⟩)
    | (go_at_call 44; refine (SM.out _).mono ?_; rintro e w1 ⟨rfl, hb1⟩; have hB := on_base hB HSZ.out hb1; obtain ⟨c0, c1⟩ := box_one hB HSS.out)
    | (go_at_call 43; refine (SR.out _).mono ?_; rintro e w1 ⟨rfl, hb1⟩; have hB := on_base hB HSZ.out hb1; obtain ⟨c0, c1⟩ := box_one hB HSS.out))
  go_ret3
  exact ⟨rfl, under_one hB HSS.out⟩
set_option maxHeartbeats 4000000 in
set_option maxRecDepth 100000 in
theorem vol_yes (v1 u1 m : Int) (w : World) (hFu : Fu w) (h1 : okA v1 u1 = true) (m0 : 0 ≤ m) (m1 : m ≤ 10000) :
    Calls Tryd.prog 16 #[av v1 u1, .int .i64 m] w (Gives3 (lowN (volN v1 u1 m) 36) (lowD (volN v1 u1 m) 36) true w) := by
  obtain ⟨S, hS⟩ : ∃ S, S = w.heap.size + 1 := ⟨_, rfl⟩
  have hB : Below S (w.alloc (.cells #[.int .i64 v1, .int .i64 u1] 29)) (w.alloc (.cells #[.int .i64 v1, .int .i64 u1] 29)) := Below.refl _ _
  have HSS := Lib.hid hS
  have HSZ := Lib.hid (show S = (w.alloc (.cells #[.int .i64 v1, .int .i64 u1] 29)).heap.size by simp [hS])
  have G1 := Lib.hid (fun w => valid_v h1 w)
  obtain ⟨hX, hXl, hY, hp1, hp2⟩ := vol_facts h1 m0 m1
  have SM := Lib.hid (fun w' (hb : Below S (w.alloc (.cells #[.int .i64 v1, .int .i64 u1] 29)) w') => liters_any v1 u1 w' (hFu.later (under_one hb hS)) h1)
  have SR0 := Lib.hid (fun w => low_any (40 * volN v1 u1 m) (40 * 36) w (by omega) (by omega) (by omega))
  rw [lowV_mul (volN v1 u1 m) 36] at SR0
  have SR := Lib.hid (show ∀ w, Calls Tryd.prog 40 #[.int .i64 ((40 * volN v1 u1 m : Nat) : Int), .int .i64 1440] w fun e w' => e = .returned (lowV (volN v1 u1 m) 36) ∧ Below w.heap.size w w' from SR0.out)
  clear SR0 hX hp1
  generalize v1 * dayOf u1 = s1 at *
  generalize volN v1 u1 m = X at *
  generalize hZ : 40 * X = Z at *
  clear hFu
  clear h1 hS
  go_enter Tryd.func16, Tryd.ntmps16
  go_wp2_with (first
    | (go_at_call 39; refine (G1.out _).mono ?_; rintro e w1 ⟨rfl, hb1⟩; have hB := on_base hB HSZ.out hb1; obtain ⟨c0, c1⟩ := box_one hB HSS.out)
    | (go_at_call 41; refine (SM.out _ hB).mono ?_; rintro e w1 ⟨rfl, hb1⟩; have hB := on_base hB HSZ.out hb1; obtain ⟨c0, c1⟩ := box_one hB HSS.out)
    | (go_at_call 40; refine (SR.out _).mono ?_; rintro e w1 ⟨rfl, hb1⟩; have hB := on_base hB HSZ.out hb1; obtain ⟨c0, c1⟩ := box_one hB HSS.out))
  go_ret3
  exact ⟨rfl, under_one hB HSS.out⟩
set_option maxHeartbeats 4000000 in
set_option maxRecDepth 100000 in
theorem svol_no (v1 u1 m : Int) (w : World) (h : okA v1 u1 = false ∨ m < 0 ∨ 10000 < m) :
    Calls Tryd.prog 17 #[av v1 u1, .int .i64 m] w (Gives3 0 0 false w) := by
  obtain ⟨S, hS⟩ : ∃ S, S = w.heap.size + 1 := ⟨_, rfl⟩
  have hB : Below S (w.alloc (.cells #[.int .i64 v1, .int .i64 u1] 29)) (w.alloc (.cells #[.int .i64 v1, .int .i64 u1] 29)) := Below.refl _ _
  have HSS := Lib.hid hS
  have HSZ := Lib.hid (show S = (w.alloc (.cells #[.int .i64 v1, .int .i64 u1] 29)).heap.size by simp [hS])
  clear hS
  cases h1 : okA v1 u1
  · have G1 := Lib.hid (fun w => sgood_v h1 w)
    clear h h1
    go_enter Tryd.func17, Tryd.ntmps17
    go_wp2_with (first
        | (go_at_call 42; refine (G1.out _).mono ?_; rintro e w1 ⟨rfl, hb1⟩; have hB := on_base hB HSZ.out hb1; obtain ⟨c0, c1⟩ := box_one hB HSS.out))
    go_ret3
    exact ⟨rfl, under_one hB HSS.out⟩
  · have h3 : m < 0 ∨ 10000 < m := by rcases h with h | h; rw [h1] at h; cases h; exact h
    have G1 := Lib.hid (fun w => sgood_v h1 w)
    have HI := Lib.hid (fun w => in_any m 0 10000 w)
    rw [show decide ((0 : Int) ≤ m ∧ m ≤ 10000) = false by simp; omega] at HI
    clear h h1 h3
    go_enter Tryd.func17, Tryd.ntmps17
    go_wp2_with (first
        | (go_at_call 42; refine (G1.out _).mono ?_; rintro e w1 ⟨rfl, hb1⟩; have hB := on_base hB HSZ.out hb1; obtain ⟨c0, c1⟩ := box_one hB HSS.out)
        | (go_at_call 36; refine (HI.out _).mono ?_; rintro e w1 ⟨rfl, rfl⟩))
    go_ret3
    exact ⟨rfl, under_one hB HSS.out⟩
set_option maxHeartbeats 4000000 in
set_option maxRecDepth 100000 in
theorem vol_no (v1 u1 m : Int) (w : World) (h : okA v1 u1 = false ∨ m < 0 ∨ 10000 < m) :
    Calls Tryd.prog 16 #[av v1 u1, .int .i64 m] w (Gives3 0 0 false w) := by
  obtain ⟨S, hS⟩ : ∃ S, S = w.heap.size + 1 := ⟨_, rfl⟩
  have hB : Below S (w.alloc (.cells #[.int .i64 v1, .int .i64 u1] 29)) (w.alloc (.cells #[.int .i64 v1, .int .i64 u1] 29)) := Below.refl _ _
  have HSS := Lib.hid hS
  have HSZ := Lib.hid (show S = (w.alloc (.cells #[.int .i64 v1, .int .i64 u1] 29)).heap.size by simp [hS])
  clear hS
  cases h1 : okA v1 u1
  · have G1 := Lib.hid (fun w => valid_v h1 w)
    clear h h1
    go_enter Tryd.func16, Tryd.ntmps16
    go_wp2_with (first
        | (go_at_call 39; refine (G1.out _).mono ?_; rintro e w1 ⟨rfl, hb1⟩; have hB := on_base hB HSZ.out hb1; obtain ⟨c0, c1⟩ := box_one hB HSS.out))
    go_ret3
    exact ⟨rfl, under_one hB HSS.out⟩
  · have h3 : m < 0 ∨ 10000 < m := by rcases h with h | h; rw [h1] at h; cases h; exact h
    have G1 := Lib.hid (fun w => valid_v h1 w)
    clear h h1
    by_cases hm : m < 0
    · clear h3
      go_enter Tryd.func16, Tryd.ntmps16
      go_wp2_with (first
        | (go_at_call 39; refine (G1.out _).mono ?_; rintro e w1 ⟨rfl, hb1⟩; have hB := on_base hB HSZ.out hb1; obtain ⟨c0, c1⟩ := box_one hB HSS.out))
      go_ret3
      exact ⟨rfl, under_one hB HSS.out⟩
    · have hm2 : 10000 < m := by omega
      clear h3
      go_enter Tryd.func16, Tryd.ntmps16
      go_wp2_with (first
        | (go_at_call 39; refine (G1.out _).mono ?_; rintro e w1 ⟨rfl, hb1⟩; have hB := on_base hB HSZ.out hb1; obtain ⟨c0, c1⟩ := box_one hB HSS.out))
      go_ret3
      exact ⟨rfl, under_one hB HSS.out⟩
/-- Both volumes are one. -/
theorem vol_both (v1 u1 m : Int) : ∃ n d ok, (∀ w, Fu w → Calls Tryd.prog 16 #[av v1 u1, .int .i64 m] w (Gives3 n d ok w)) ∧ (∀ w, Calls Tryd.prog 17 #[av v1 u1, .int .i64 m] w (Gives3 n d ok w)) ∧
    (ok = true → okA v1 u1 = true ∧ 0 ≤ m ∧ m ≤ 10000 ∧ n = lowN (volN v1 u1 m) 36 ∧ d = lowD (volN v1 u1 m) 36) := by
  by_cases h : okA v1 u1 = false ∨ m < 0 ∨ 10000 < m
  · exact ⟨_, _, _, fun w _ => vol_no v1 u1 m w h, fun w => svol_no v1 u1 m w h, fun h => by cases h⟩
  · have h1 : okA v1 u1 = true := by cases e : okA v1 u1; exact absurd (.inl e) h; rfl
    exact ⟨_, _, _, fun w hF => vol_yes v1 u1 m w hF h1 (by omega) (by omega), fun w => svol_yes v1 u1 m w h1 (by omega) (by omega), fun _ => ⟨h1, by omega, by omega, rfl, rfl⟩⟩
end Go.Proofs.YtpdkphokinhhdaaDoor.S3
