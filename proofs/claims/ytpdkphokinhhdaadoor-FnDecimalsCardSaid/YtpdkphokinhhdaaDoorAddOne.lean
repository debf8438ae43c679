/- Sums, conversions and comparisons of amounts, and volumes: what the program and the model return: contracts. Conditions: each theorem's own premises. -/
import Derived.Test.YtpdkphokinhhdaaDoorUnitTab
import Derived.Test.YtpdkphokinhhdaaDoorAmtOne
import Derived.OwnWalk
namespace Go.Proofs.YtpdkphokinhhdaaDoor.S3
open Go.RowKit Go.Sort P3 S2

theorem met_at {P : Program} {f : FuncId} {args : Array Value} {w : World} {d : Nat} {os : Array Obj} {v : Value}
    (h : ∀ w', Below w.heap.size w w' → Calls P f args w' fun e w'' => e = .returned v ∧ Below w'.heap.size w' w'') : Calls P f args (grow (redrawn w d) os) fun e w'' => e = .returned v ∧ ∃ p : Regrown, w'' = grow (redrawn w p.d) p.os :=
  Calls.regrown_of (h _ (below_regrown w d os))
theorem prod_bd {v f : Int} (h0 : 0 ≤ v) (h1 : v ≤ 1000000) (g0 : 0 ≤ f) (g1 : f ≤ 90000) : 0 ≤ v * f ∧ v * f ≤ 90000000000 := by
  refine ⟨Int.mul_nonneg h0 g0, ?_⟩
  have a := Int.mul_le_mul_of_nonneg_right h1 g0
  have b := Int.mul_le_mul_of_nonneg_left g1 (show (0 : Int) ≤ 1000000 by omega)
  omega
theorem day_mul (v u : Int) : v * dayOf u = 40 * (v * facOf u) := by rw [day_fac, Int.mul_left_comm]

theorem fac_any (u : Int) (w : World) (h1 : 1 ≤ u) (h4 : u ≤ 4) :
    Calls Tryd.prog 51 #[.int .i64 u] w fun e w' => e = .returned (.int .i64 (facOf u)) ∧ Below w.heap.size w w' := by
  have hu : u = 1 ∨ u = 2 ∨ u = 3 ∨ u = 4 := by omega
  clear h1 h4
  rcases hu with rfl | rfl | rfl | rfl
  · rw [show facOf 1 = 36 from rfl]
    go_enter Tryd.func51, Tryd.ntmps51
    go_wp2
    go_ret
    exact ⟨rfl, (Below.refl _ _).alloc (Nat.le_refl _) _⟩
  · rw [show facOf 2 = 2160 from rfl]
    go_enter Tryd.func51, Tryd.ntmps51
    go_wp2
    go_ret
    exact ⟨rfl, (Below.refl _ _).alloc (Nat.le_refl _) _⟩
  · rw [show facOf 3 = 600 from rfl]
    go_enter Tryd.func51, Tryd.ntmps51
    go_wp2
    go_ret
    exact ⟨rfl, (Below.refl _ _).alloc (Nat.le_refl _) _⟩
  · rw [show facOf 4 = 25 from rfl]
    go_enter Tryd.func51, Tryd.ntmps51
    go_wp2
    go_ret
    exact ⟨rfl, (Below.refl _ _).alloc (Nat.le_refl _) _⟩

theorem small_any (v u : Int) (w : World) (hv : okA v u = true) :
    Calls Tryd.prog 44 #[av v u] w fun e w' => e = .returned (.int .i64 (v * facOf u)) ∧ Below w.heap.size w w' := by
  obtain ⟨⟨hv0, hv1⟩, hu0, hu1⟩ := okA_iff.1 hv
  have H := Lib.hid (fun w => fac_any u w hu0 hu1)
  obtain ⟨hf0, hf1⟩ := fac_pos hu0 hu1
  have hp := prod_bd hv0 hv1 (show 0 ≤ facOf u by omega) (show facOf u ≤ 90000 by omega)
  have hw : IntKind.i64.wrap (v * facOf u) = v * facOf u := IntWalk.i64_in _ (by omega)
  clear hv
  generalize facOf u = f at *
  go_enter Tryd.func44, Tryd.ntmps44
  go_wp2
  generalize hW : w.alloc (.cells #[.int .i64 v, .int .i64 u] 29) = W
  obtain ⟨c0, c1⟩ : W.cell? ⟨w.heap.size, 0, none⟩ = some (.int .i64 v) ∧ W.cell? ⟨w.heap.size, 1, none⟩ = some (.int .i64 u) := by rw [← hW]; exact box_one (Below.refl _ _) rfl
  have hl : w.heap.size < W.heap.size := by rw [← hW]; simp
  have hBW : Below w.heap.size w W := by rw [← hW]; exact (Below.refl _ _).alloc (Nat.le_refl _) _
  clear hW
  have hG := @cell_g
  refine region_below (by kernel_rfl) (by kernel_rfl) ?_
  repeat (first | go_big_quiet_step ((go_at_call 51; exact met H.out)))
  refine wpQuiet_nil ?_
  intro w1 hb1
  go_wp2
  go_ret
  exact ⟨rfl, hBW.trans (hb1.mono (by omega))⟩

/-- The sum of two flows, in the model's measure. -/
def sumN (v1 u1 v2 u2 : Int) : Nat := (v1 * facOf u1 + v2 * facOf u2).toNat
def facN (u : Int) : Nat := (facOf u).toNat
theorem sum_facts {v1 u1 v2 u2 : Int} (h1 : okA v1 u1 = true) (h2 : okA v2 u2 = true) : v1 * facOf u1 + v2 * facOf u2 = (sumN v1 u1 v2 u2 : Int) ∧ (0 ≤ v1 * facOf u1 ∧ v1 * facOf u1 ≤ 90000000000) ∧ (0 ≤ v2 * facOf u2 ∧ v2 * facOf u2 ≤ 90000000000) := by
  obtain ⟨⟨a0, a1⟩, b0, b1⟩ := okA_iff.1 h1
  obtain ⟨⟨c0, c1⟩, d0, d1⟩ := okA_iff.1 h2
  have f1 := fac_pos b0 b1
  have f2 := fac_pos d0 d1
  have p1 := prod_bd a0 a1 (show 0 ≤ facOf u1 by omega) (show facOf u1 ≤ 90000 by omega)
  have p2 := prod_bd c0 c1 (show 0 ≤ facOf u2 by omega) (show facOf u2 ≤ 90000 by omega)
  refine ⟨?_, p1, p2⟩
  unfold sumN
  omega
theorem sum_le {v1 u1 v2 u2 : Int} (h1 : okA v1 u1 = true) (h2 : okA v2 u2 = true) : sumN v1 u1 v2 u2 ≤ 180000000000 := by
  have := sum_facts h1 h2
  omega
theorem facN_facts {u : Int} (h : unB u = true) : facOf u = (facN u : Int) ∧ 25 ≤ facN u ∧ facN u ≤ 2160 := by
  obtain ⟨b0, b1⟩ := unB_iff.1 h
  have f1 := fac_pos b0 b1
  unfold facN
  omega

set_option maxHeartbeats 4000000 in
set_option maxRecDepth 100000 in
theorem sadd_yes (v1 u1 v2 u2 t : Int) (w : World) (h1 : okA v1 u1 = true) (h2 : okA v2 u2 = true) (h3 : unB t = true) :
    Calls Tryd.prog 31 #[av v1 u1, av v2 u2, .int .i64 t] w (Gives3 (lowN (sumN v1 u1 v2 u2) (facN t)) (lowD (sumN v1 u1 v2 u2) (facN t)) true w) := by
  have G1 := Lib.hid (fun w => sgood_v h1 w)
  have G2 := Lib.hid (fun w => sgood_v h2 w)
  have GU := Lib.hid (fun w => sunit_any t w)
  rw [h3] at GU
  have S1 := Lib.hid (fun w => small_any v1 u1 w h1)
  have S2 := Lib.hid (fun w => small_any v2 u2 w h2)
  obtain ⟨t0, t4⟩ := unB_iff.1 h3
  have SF := Lib.hid (fun w => fac_any t w t0 t4)
  obtain ⟨hX, hp1, hp2⟩ := sum_facts h1 h2
  have hXl := sum_le h1 h2
  obtain ⟨hF, hF1, hF2⟩ := facN_facts h3
  rw [hF] at SF
  have SR := Lib.hid (fun w => reduce_any (sumN v1 u1 v2 u2) (facN t) w (by omega) (by omega) (by omega))
  obtain ⟨S, hS⟩ : ∃ S, S = w.heap.size + 2 := ⟨_, rfl⟩
  have hB : Below S ((w.alloc (.cells #[.int .i64 v1, .int .i64 u1] 29)).alloc (.cells #[.int .i64 v2, .int .i64 u2] 29)) ((w.alloc (.cells #[.int .i64 v1, .int .i64 u1] 29)).alloc (.cells #[.int .i64 v2, .int .i64 u2] 29)) := Below.refl _ _
  have HSS := Lib.hid hS
  have HSZ := Lib.hid (show S = ((w.alloc (.cells #[.int .i64 v1, .int .i64 u1] 29)).alloc (.cells #[.int .i64 v2, .int .i64 u2] 29)).heap.size by simp [hS])
  clear h1 h2 h3 t0 t4 hF hS
  generalize v1 * facOf u1 = s1 at *
  generalize v2 * facOf u2 = s2 at *
  generalize sumN v1 u1 v2 u2 = X at *
  generalize facN t = K at *
  go_enter Tryd.func31, Tryd.ntmps31
  go_wp2_with (first
    | (go_at_call_of 42 (Value.agg #[Value.int IntKind.i64 v1, Value.int IntKind.i64 u1]); refine (G1.out _).mono ?_; rintro e w1 ⟨rfl, hb1⟩; have hB := on_base hB HSZ.out hb1; obtain ⟨c0, c1, c2, c3⟩ := box_two hB HSS.out)
    | (go_at_call_of 42 (Value.agg #[Value.int IntKind.i64 v2, Value.int IntKind.i64 u2]); refine (G2.out _).mono ?_; rintro e w1 ⟨rfl, hb1⟩; have hB := on_base hB HSZ.out hb1; obtain ⟨c0, c1, c2, c3⟩ := box_two hB HSS.out)
    | (go_at_call 50; refine (GU.out _).mono ?_; rintro e w1 ⟨rfl, rfl⟩))
  have hlb := box_lts hB HSS.out
  obtain ⟨hlb0, hlb1⟩ := hlb
  have hG := @cell_g
  refine region_below (by kernel_rfl) (by kernel_rfl) ?_
  repeat (first | go_big_quiet_step ((first
    | (go_at_call_of 44 (Value.agg #[Value.int IntKind.i64 v1, Value.int IntKind.i64 u1]); exact met S1.out)
    | (go_at_call_of 44 (Value.agg #[Value.int IntKind.i64 v2, Value.int IntKind.i64 u2]); exact met S2.out)
    | (go_at_call 51; exact met SF.out)
    | (go_at_call 43; exact met SR.out))))
  refine wpQuiet_nil ?_
  intro wz hbz
  have hB := on_base hB HSZ.out hbz
  go_wp2
  go_ret3
  exact ⟨rfl, under_two hB HSS.out⟩
end Go.Proofs.YtpdkphokinhhdaaDoor.S3
