/- ReducerFor of the program and of the model: contracts. Conditions: each theorem's own premises. -/
import Derived.Test.YtjfpimldiokpbaaZnPs
namespace Go.Proofs.Ytjfpimldiokpbaa.S12
open Go.RowKit Go.Sort P12

/-- A number beside a bool. -/
def OneN (w : World) (x : Int) (ok : Bool) (e : Ending) (w' : World) : Prop := e = .returned (.tuple #[.int .i64 x, .bool ok]) ∧ Below w.heap.size w w'
theorem pl_one (x : Int) : plB [x] = inR 0 1000 x := by simp [plB, allR]
theorem iat_one (w : World) (x : Int) : IAt (w.alloc (.cells #[iv x] 3)) (some ⟨w.heap.size, 0, none⟩) [x] := by
  refine .inr ⟨w.heap.size, 0, rfl, by simp, fun i hi => ?_⟩
  have e : i = 0 := by simp at hi; omega
  subst e
  rw [World.cell?_alloc_at _ _ _ _ rfl]; rfl
set_option maxHeartbeats 2000000 in
theorem rd_no1 (x a b h : Int) (w : World) (hv : prB [x] h = false) :
    Calls Try.prog 34 #[.int .i64 x, rv a b, .int .i64 h] w (OneN w 0 false) := by
  have HB0 := Lib.hid (two_below w (rb 25 a b) (.cells #[iv x] 3))
  have HT0 := Lib.hid ((BT.new w 25 a b).kept (alloc_below _ (.cells #[iv x] 3)))
  have hI0 := iat_one (w.alloc (rb 25 a b)) x
  rw [alloc_size] at hI0
  have HP := Lib.hid (pr_no (some ⟨w.heap.size + 1, 0, none⟩) 1 [x] h _ hI0 (by simp) hv)
  clear hv
  clear hI0
  go_enter Try.func34, Try.ntmps34
  go_wp2_with (first
    | (go_at_call 30; refine HP.out.mono ?_; rintro e w1 ⟨g, c, rfl, hg, hO, hb1⟩; have HB1 := Lib.hid (HB0.out.trans (hb1.mono HB0.out.size)); obtain ⟨q9, q0, q1⟩ := HT0.out.kept hb1; have HO := Lib.hid hO; have hgl := iown_lt' hO; clear hb1 hO hg)
    | fail)
  have hG := @cell_g
  refine region_below (by kernel_rfl) (by kernel_rfl) ?_
  repeat (first | go_big_quiet_step ((fail)))
  refine wpQuiet_nil ?_
  intro wy hby
  have HBY := Lib.hid (HB1.out.trans (hby.mono HB1.out.size))
  clear hby hG
  go_wp2
  go_ret2
  exact ⟨rfl, HBY.out⟩
set_option maxHeartbeats 2000000 in
theorem rd_no2 (x a b h : Int) (w : World) (hv : plB [x] = true) (hh : lvB h = true) (hr : rlB a b = false) :
    Calls Try.prog 34 #[.int .i64 x, rv a b, .int .i64 h] w (OneN w 0 false) := by
  have HB0 := Lib.hid (two_below w (rb 25 a b) (.cells #[iv x] 3))
  have HT0 := Lib.hid ((BT.new w 25 a b).kept (alloc_below _ (.cells #[iv x] 3)))
  have hI0 := iat_one (w.alloc (rb 25 a b)) x
  rw [alloc_size] at hI0
  rw [pl_one] at hv
  have hplv : plB [x] = true := by rw [pl_one]; exact hv
  have HP := Lib.hid (pr_yes (some ⟨w.heap.size + 1, 0, none⟩) 1 [x] h _ hI0 (by simp) (plB_iff.1 hplv) hh)
  have hx := (plB_iff.1 hplv).mem (x := x) (by simp)
  have hl2 := lvB_iff.1 hh
  clear hplv
  have HR := Lib.hid (fun w => rule_any a b w)
  rw [hr] at HR
  clear hv hh hr
  clear hI0
  go_enter Try.func34, Try.ntmps34
  go_wp2_with (first
    | (go_at_call 30; refine HP.out.mono ?_; rintro e w1 ⟨g, c, rfl, hg, hO, hb1⟩; have HB1 := Lib.hid (HB0.out.trans (hb1.mono HB0.out.size)); obtain ⟨q9, q0, q1⟩ := HT0.out.kept hb1; have HO := Lib.hid hO; have hgl := iown_lt' hO; clear hb1 hO hg)
    | fail)
  have hG := @cell_g
  refine region_below (by kernel_rfl) (by kernel_rfl) ?_
  repeat (first | go_big_quiet_step ((go_at_call 16; exact met HR.out)))
  refine wpQuiet_nil ?_
  intro wy hby
  have HBY := Lib.hid (HB1.out.trans (hby.mono HB1.out.size))
  clear hby hG
  go_wp2
  go_ret2
  exact ⟨rfl, HBY.out⟩
set_option maxHeartbeats 2000000 in
theorem rd_no3 (x a b h : Int) (w : World) (hv : plB [x] = true) (hh : lvB h = true) (hr : rlB a b = true) (hlt : h - x < a) :
    Calls Try.prog 34 #[.int .i64 x, rv a b, .int .i64 h] w (OneN w 0 false) := by
  have HB0 := Lib.hid (two_below w (rb 25 a b) (.cells #[iv x] 3))
  have HT0 := Lib.hid ((BT.new w 25 a b).kept (alloc_below _ (.cells #[iv x] 3)))
  have hI0 := iat_one (w.alloc (rb 25 a b)) x
  rw [alloc_size] at hI0
  rw [pl_one] at hv
  have hplv : plB [x] = true := by rw [pl_one]; exact hv
  have HP := Lib.hid (pr_yes (some ⟨w.heap.size + 1, 0, none⟩) 1 [x] h _ hI0 (by simp) (plB_iff.1 hplv) hh)
  have hx := (plB_iff.1 hplv).mem (x := x) (by simp)
  have hl2 := lvB_iff.1 hh
  clear hplv
  have HR := Lib.hid (fun w => rule_any a b w)
  rw [hr] at HR
  have hd : decide (h - x < a) = true := by simp [hlt]
  clear hv hh hr hlt
  clear hI0
  go_enter Try.func34, Try.ntmps34
  go_wp2_with (first
    | (go_at_call 30; refine HP.out.mono ?_; rintro e w1 ⟨g, c, rfl, hg, hO, hb1⟩; have HB1 := Lib.hid (HB0.out.trans (hb1.mono HB0.out.size)); obtain ⟨q9, q0, q1⟩ := HT0.out.kept hb1; have HO := Lib.hid hO; have hgl := iown_lt' hO; clear hb1 hO hg)
    | fail)
  have p0 : w1.cell? ⟨g, 0, none⟩ = some (iv (h - x)) := by
    have := (HO.out.iat).at_ (i := 0) (by rw [prK_len]; simp)
    obtain ⟨b', o', hA, _, hc⟩ := this
    simp only [Option.some.injEq, Addr.mk.injEq, and_true] at hA
    obtain ⟨rfl, rfl⟩ := hA
    rw [prK_at _ _ (by simp)] at hc
    exact hc
  have hlen1 : (prK [x] h 1).length = 1 := prK_len _ _ _
  rw [hlen1]
  clear hlen1
  have hG := @cell_g
  refine region_below (by kernel_rfl) (by kernel_rfl) ?_
  repeat (first | go_big_quiet_step ((go_at_call 16; exact met HR.out)))
  refine wpQuiet_nil ?_
  intro wy hby
  have HBY := Lib.hid (HB1.out.trans (hby.mono HB1.out.size))
  clear hby hG
  go_wp2
  go_ret2
  exact ⟨rfl, HBY.out⟩
set_option maxHeartbeats 2000000 in
theorem rd_yes (x a b h : Int) (w : World) (hv : plB [x] = true) (hh : lvB h = true) (hr : rlB a b = true) (hge : ¬ h - x < a) :
    Calls Try.prog 34 #[.int .i64 x, rv a b, .int .i64 h] w (OneN w (rdI (h - x) b) true) := by
  have HB0 := Lib.hid (two_below w (rb 25 a b) (.cells #[iv x] 3))
  have HT0 := Lib.hid ((BT.new w 25 a b).kept (alloc_below _ (.cells #[iv x] 3)))
  have hI0 := iat_one (w.alloc (rb 25 a b)) x
  rw [alloc_size] at hI0
  rw [pl_one] at hv
  have hplv : plB [x] = true := by rw [pl_one]; exact hv
  have HP := Lib.hid (pr_yes (some ⟨w.heap.size + 1, 0, none⟩) 1 [x] h _ hI0 (by simp) (plB_iff.1 hplv) hh)
  have hx := (plB_iff.1 hplv).mem (x := x) (by simp)
  have hl2 := lvB_iff.1 hh
  clear hplv
  have HR := Lib.hid (fun w => rule_any a b w)
  rw [hr] at HR
  have hrr := rlB_iff.1 hr
  have hd : decide (h - x < a) = false := by simp; omega
  have hs : IntKind.i64.wrap (h - x - b) = h - x - b := IntWalk.i64_in _ (by omega)
  have HD := Lib.hid (show rdI (h - x) b = if h - x - b < 0 then 0 else h - x - b from rfl)
  generalize rdI (h - x) b = R at *
  clear hv hh hr hge
  clear hI0
  go_enter Try.func34, Try.ntmps34
  go_wp2_with (first
    | (go_at_call 30; refine HP.out.mono ?_; rintro e w1 ⟨g, c, rfl, hg, hO, hb1⟩; have HB1 := Lib.hid (HB0.out.trans (hb1.mono HB0.out.size)); obtain ⟨q9, q0, q1⟩ := HT0.out.kept hb1; have HO := Lib.hid hO; have hgl := iown_lt' hO; clear hb1 hO hg)
    | fail)
  have p0 : w1.cell? ⟨g, 0, none⟩ = some (iv (h - x)) := by
    have := (HO.out.iat).at_ (i := 0) (by rw [prK_len]; simp)
    obtain ⟨b', o', hA, _, hc⟩ := this
    simp only [Option.some.injEq, Addr.mk.injEq, and_true] at hA
    obtain ⟨rfl, rfl⟩ := hA
    rw [prK_at _ _ (by simp)] at hc
    exact hc
  have hlen1 : (prK [x] h 1).length = 1 := prK_len _ _ _
  rw [hlen1]
  clear hlen1
  have hG := @cell_g
  refine region_below (by kernel_rfl) (by kernel_rfl) ?_
  repeat (first | go_big_quiet_step ((go_at_call 16; exact met HR.out)))
  refine wpQuiet_nil ?_
  intro wy hby
  have q0' := (hby.cell (p := ⟨w.heap.size, 0, none⟩) q9).trans q0
  have q1' := (hby.cell (p := ⟨w.heap.size, 1, none⟩) q9).trans q1
  have p0' := (hby.cell (p := ⟨g, 0, none⟩) hgl).trans p0
  have q9' := Nat.lt_of_lt_of_le q9 hby.size
  have hgl' := Nat.lt_of_lt_of_le hgl hby.size
  have HBY := Lib.hid (HB1.out.trans (hby.mono HB1.out.size))
  clear hby q0 q1 p0 q9 hgl
  go_wp2
  refine region_below (by kernel_rfl) (by kernel_rfl) ?_
  repeat (first | go_big_quiet_step (fail))
  refine wpQuiet_nil ?_
  intro wz hbz
  have HBZ := Lib.hid (HBY.out.trans (hbz.mono HBY.out.size))
  clear hbz hG
  go_wp2
  all_goals
    go_ret2
    exact ⟨by rw [HD.out]; split <;> first | rfl | (exfalso; omega), HBZ.out⟩
set_option maxHeartbeats 2000000 in
theorem srd_no (x a b h : Int) (w : World) (hv : rdB x a b h = false) :
    Calls Try.prog 33 #[.int .i64 x, rv a b, .int .i64 h] w (OneN w 0 false) := by
  have HT0 := Lib.hid (BT.new w 25 a b)
  have HB0 := Lib.hid (alloc_below w (rb 25 a b))
  have H1 := Lib.hid (fun w => sel_any x w)
  have H2 := Lib.hid (fun w => srule_any a b w)
  have H3 := Lib.hid (fun w => slv_any h w)
  have HX := Lib.hid (show inR 0 1000 x = true → 0 ≤ x ∧ x ≤ 1000 from fun e => by simpa [inR] using e)
  have HL := Lib.hid (show lvB h = true → 0 ≤ h ∧ h ≤ 2000 from fun e => lvB_iff.1 e)
  have HV := Lib.hid (show inR 0 1000 x = true → rlB a b = true → lvB h = true → h - x < a from fun e1 e2 e3 => by
    unfold rdB at hv
    rw [e1, e2, e3, Bool.true_and, Bool.true_and, Bool.true_and, decide_eq_false_iff_not] at hv
    omega)
  clear hv
  generalize inR 0 1000 x = v1 at *
  generalize rlB a b = v2 at *
  generalize lvB h = v3 at *
  cases v1 with
  | false =>
    go_enter Try.func33, Try.ntmps33
    go_wp2_with (go_at_call 64; refine (H1.out _).mono ?_; rintro e w1 ⟨rfl, hw⟩; replace hw := hw.symm; subst hw)
    go_ret2
    exact ⟨rfl, HB0.out⟩
  | true =>
    cases v2 with
    | false =>
      go_enter Try.func33, Try.ntmps33
      go_wp2_with (first
        | (go_at_call 64; refine (H1.out _).mono ?_; rintro e w1 ⟨rfl, hw⟩; replace hw := hw.symm; subst hw; obtain ⟨q9, q0, q1⟩ := HT0.out)
        | (go_at_call 45; refine (H2.out _).mono ?_; rintro e w2 ⟨rfl, hb2⟩; have HB2 := Lib.hid (HB0.out.trans (hb2.mono HB0.out.size)); clear hb2))
      go_ret2
      exact ⟨rfl, HB2.out⟩
    | true =>
      cases v3 with
      | false =>
        go_enter Try.func33, Try.ntmps33
        go_wp2_with (first
          | (go_at_call 64; refine (H1.out _).mono ?_; rintro e w1 ⟨rfl, hw⟩; replace hw := hw.symm; subst hw; obtain ⟨q9, q0, q1⟩ := HT0.out)
          | (go_at_call 45; refine (H2.out _).mono ?_; rintro e w2 ⟨rfl, hb2⟩; have HB2 := Lib.hid (HB0.out.trans (hb2.mono HB0.out.size)); clear hb2)
          | (go_at_call 47; refine (H3.out _).mono ?_; rintro e w3 ⟨rfl, hw⟩; replace hw := hw.symm; subst hw))
        go_ret2
        exact ⟨rfl, HB2.out⟩
      | true =>
        obtain ⟨x0, x1⟩ := HX.out rfl
        obtain ⟨h0, h1⟩ := HL.out rfl
        have hd := HV.out rfl rfl rfl
        go_enter Try.func33, Try.ntmps33
        go_wp2_with (first
          | (go_at_call 64; refine (H1.out _).mono ?_; rintro e w1 ⟨rfl, hw⟩; replace hw := hw.symm; subst hw; obtain ⟨q9, q0, q1⟩ := HT0.out)
          | (go_at_call 45; refine (H2.out _).mono ?_; rintro e w2 ⟨rfl, hb2⟩; have HB2 := Lib.hid (HB0.out.trans (hb2.mono HB0.out.size)); clear q9 q0 q1; obtain ⟨q9, q0, q1⟩ := HT0.out.kept hb2; clear hb2)
          | (go_at_call 47; refine (H3.out _).mono ?_; rintro e w3 ⟨rfl, hw⟩; replace hw := hw.symm; subst hw))
        go_ret2
        exact ⟨rfl, HB2.out⟩
set_option maxHeartbeats 2000000 in
theorem srd_yes (x a b h : Int) (w : World) (hv : inR 0 1000 x = true) (hh : lvB h = true) (hr : rlB a b = true) (hge : ¬ h - x < a) :
    Calls Try.prog 33 #[.int .i64 x, rv a b, .int .i64 h] w (OneN w (rdI (h - x) b) true) := by
  have HT0 := Lib.hid (BT.new w 25 a b)
  have HB0 := Lib.hid (alloc_below w (rb 25 a b))
  have H1 := Lib.hid (fun w => sel_v hv w)
  have H2 := Lib.hid (fun w => srule_v hr w)
  have H3 := Lib.hid (fun w => slv_any h w)
  rw [hh] at H3
  obtain ⟨x0, x1⟩ : 0 ≤ x ∧ x ≤ 1000 := by simpa [inR] using hv
  obtain ⟨h0, h1⟩ := lvB_iff.1 hh
  obtain ⟨a0, a1, a2⟩ := rlB_iff.1 hr
  have hd : a ≤ h - x := by omega
  have H4 := Lib.hid (fun w => smost_any 0 (h - x - b) w)
  have HD := Lib.hid (show rdI (h - x) b = max 0 (h - x - b) by unfold rdI; split <;> omega)
  generalize rdI (h - x) b = R at *
  clear hv hh hr hge
  go_enter Try.func33, Try.ntmps33
  go_wp2_with (first
    | (go_at_call 64; refine (H1.out _).mono ?_; rintro e w1 ⟨rfl, hw⟩; replace hw := hw.symm; subst hw; obtain ⟨q9, q0, q1⟩ := HT0.out)
    | (go_at_call 45; refine (H2.out _).mono ?_; rintro e w2 ⟨rfl, hb2⟩; have HB2 := Lib.hid (HB0.out.trans (hb2.mono HB0.out.size)); clear q9 q0 q1; obtain ⟨q9, q0, q1⟩ := HT0.out.kept hb2; clear hb2)
    | (go_at_call 47; refine (H3.out _).mono ?_; rintro e w3 ⟨rfl, hw⟩; replace hw := hw.symm; subst hw)
    | (go_at_call 52; refine (H4.out _).mono ?_; rintro e w4 ⟨rfl, hw⟩; replace hw := hw.symm; subst hw))
  go_ret2
  exact ⟨by rw [HD.out]; rfl, HB2.out⟩
/-- Both sides. -/
theorem rd_any (x a b h : Int) (w : World) : Calls Try.prog 34 #[.int .i64 x, rv a b, .int .i64 h] w (OneN w (if rdB x a b h then rdI (h - x) b else 0) (rdB x a b h)) := by
  unfold rdB
  cases h1 : inR 0 1000 x with
  | false => exact rd_no1 x a b h w (by unfold prB; rw [pl_one, h1]; rfl)
  | true =>
    cases h3 : lvB h with
    | false =>
      rw [Bool.false_and, Bool.and_false, Bool.and_false]
      exact rd_no1 x a b h w (by unfold prB; rw [h3, Bool.and_false])
    | true =>
      cases h2 : rlB a b with
      | false => exact rd_no2 x a b h w (by rw [pl_one]; exact h1) h3 h2
      | true =>
        by_cases h4 : h - x < a
        · rw [show decide (a ≤ h - x) = false by simp; omega]
          exact rd_no3 x a b h w (by rw [pl_one]; exact h1) h3 h2 h4
        · rw [show decide (a ≤ h - x) = true by simp; omega]
          exact rd_yes x a b h w (by rw [pl_one]; exact h1) h3 h2 h4
theorem srd_any (x a b h : Int) (w : World) : Calls Try.prog 33 #[.int .i64 x, rv a b, .int .i64 h] w (OneN w (if rdB x a b h then rdI (h - x) b else 0) (rdB x a b h)) := by
  cases hv : rdB x a b h with
  | false => exact srd_no x a b h w hv
  | true =>
    unfold rdB at hv
    rw [Bool.and_eq_true, Bool.and_eq_true, Bool.and_eq_true, decide_eq_true_iff] at hv
    exact srd_yes x a b h w hv.1 hv.2.2.1 hv.2.1 (by have := hv.2.2.2; omega)
end Go.Proofs.Ytjfpimldiokpbaa.S12
