/- The texts of amounts: what the model's and the program's AmountText return: contracts. Conditions: each theorem's own premises. -/
import Derived.Test.YtpdkphokinhhdaaDoorSpecOne
import Derived.Test.YtpdkphokinhhdaaDoorDecTwo
import Derived.Test.YtpdkphokinhhdaaDoorUnitTab
import Derived.Test.YtpdkphokinhhdaaDoorAddOne
namespace Go.Proofs.YtpdkphokinhhdaaDoor.S3
open Go.RowKit Go.Sort P1 P3 S1 S2
open Go.Lib hiding intOf

theorem num_step (u : Nat) (w : World) (h0 : 10 ≤ u) (h1 : u ≤ 1000000) :
    Calls Tryd.prog 57 #[.int .i64 (u : Int)] w fun e w' => e = .returned (.string ⟨(decDigits u).toArray⟩) ∧ ∃ d, w' = w.drewN d := by
  obtain ⟨q, hqn⟩ : ∃ q, q = u / 10 := ⟨_, rfl⟩
  obtain ⟨r, hrn⟩ : ∃ r, r = u % 10 := ⟨_, rfl⟩
  have hr10 : r < 10 := by omega
  have hq : (u : Int) / 10 = (q : Int) := by omega
  have hr : (u : Int).tmod 10 = (r : Int) := by rw [Int.tmod_eq_emod_of_nonneg (by omega)]; omega
  have hq' : IntKind.i64.wrap (q : Int) = (q : Int) := IntWalk.i64_in _ (by omega)
  have hr' : IntKind.i64.wrap (r : Int) = (r : Int) := IntWalk.i64_in _ (by omega)
  have hr1 : IntKind.i64.wrap ((r : Int) + 1) = (r : Int) + 1 := IntWalk.i64_in _ (by omega)
  have hfin := Lib.hid (show decDigits u = decDigits q ++ decDigits r by rw [hqn, hrn, dec_big (by omega), dec_small (u := u % 10) (by omega)])
  have hsl := digit_slice r hr10
  have hlq := dec_len_six q (by omega)
  have hlr := dec_len_six r (by omega)
  have hadd : ∀ wx : World, (Op.stringOp .add ⟨(decDigits q).toArray⟩ ⟨(decDigits r).toArray⟩).run Tryd.prog wx = .ok (.string ⟨(decDigits q ++ decDigits r).toArray⟩) wx :=
    fun wx => run_string_add_lists wx _ _ (by omega) (by omega)
  have IH := Lib.hid (fun w => num_nonneg q (q : Int) w (by omega) (by omega) (by omega))
  clear hqn hrn
  go_enter Tryd.func57, Tryd.ntmps57
  go_wp2_with fail
  go_quiet ((go_at_call 57; exact Calls.quiet_of (IH.out _)))
  go_wp2
  go_ret
  exact ⟨ret_str hfin.out.symm, nq, rfl⟩
theorem num_mill (u : Nat) (w : World) (h1 : u ≤ 1000000) :
    Calls Tryd.prog 57 #[.int .i64 (u : Int)] w fun e w' => e = .returned (.string ⟨(decDigits u).toArray⟩) ∧ ∃ d, w' = w.drewN d := by
  by_cases h : u ≤ 999999
  · exact num_nonneg u (u : Int) w (by omega) (by omega) (by omega)
  · exact num_step u w (by omega) h1

/-- A unit as it is written. -/
def nameL (u : Int) : List UInt8 := if u = 1 then [108, 47, 109, 105, 110] else if u = 2 then [108, 47, 115] else if u = 3 then [109, 51, 47, 104] else [109, 51, 47, 100]
def textL (v u : Int) : List UInt8 := decDigits v.toNat ++ [32] ++ nameL u
theorem words_any (w : World) :
    Calls Tryd.prog 58 #[] w fun e w' => e = .returned (.slice (some ⟨w.heap.size, 0, none⟩) 5 5) ∧ w' = w.alloc (.cells #[.string ⟨#[]⟩, .string ⟨#[108, 47, 109, 105, 110]⟩, .string ⟨#[108, 47, 115]⟩, .string ⟨#[109, 51, 47, 104]⟩, .string ⟨#[109, 51, 47, 100]⟩] 9) := by
  go_enter Tryd.func58, Tryd.ntmps58
  go_wp2
  go_ret
  exact ⟨rfl, rfl⟩

set_option maxHeartbeats 2000000 in
set_option maxRecDepth 100000 in
theorem stext_any (v u : Int) (w : World) (hv : okA v u = true) :
    Calls Tryd.prog 45 #[av v u] w fun e w' => e = .returned (.string ⟨(textL v u).toArray⟩) ∧ Below w.heap.size w w' := by
  obtain ⟨⟨hv0, hv1⟩, hu0, hu1⟩ := okA_iff.1 hv
  obtain ⟨k, rfl⟩ : ∃ k : Nat, v = (k : Int) := ⟨v.toNat, by omega⟩
  have HN := Lib.hid (fun w => num_mill k w (by omega))
  have hlk : (decDigits k).length ≤ 8 := dec_len_le 7 k (by omega)
  have HW := Lib.hid (fun w => words_any w)
  have hu : u = 1 ∨ u = 2 ∨ u = 3 ∨ u = 4 := by omega
  have hadd1 := fun wx => add_one (decDigits k) [32] (by omega) (by simp) wx
  unfold textL
  rw [Int.toNat_natCast]
  clear hv hv0 hv1 hu0 hu1
  rcases hu with rfl | rfl | rfl | rfl
  · have hadd2 := fun wx => add_one (decDigits k ++ [32]) [108, 47, 109, 105, 110] (by simp; omega) (by simp) wx
    rw [show nameL 1 = [108, 47, 109, 105, 110] from rfl]
    generalize decDigits k ++ [32] ++ [108, 47, 109, 105, 110] = LL at *
    generalize decDigits k ++ [32] = L2 at *
    generalize decDigits k = L1 at *
    go_enter Tryd.func45, Tryd.ntmps45
    go_wp2
    go_region_with (first
      | (go_at_call 57; refine (HN.out _).mono ?_; rintro e w1 ⟨rfl, d1, rfl⟩)
      | (go_at_call 58; refine (HW.out _).mono ?_; rintro e w2 ⟨rfl, rfl⟩))
    all_goals
      go_wp2
      go_ret
      exact ⟨rfl, by repeat (first | exact Below.refl _ _ | refine below_drewN ?_ _ | refine Below.drew ?_ | refine Below.alloc ?_ (by simp) _ | refine Below.alloc ?_ (by simp; omega) _)⟩
  · have hadd2 := fun wx => add_one (decDigits k ++ [32]) [108, 47, 115] (by simp; omega) (by simp) wx
    rw [show nameL 2 = [108, 47, 115] from rfl]
    generalize decDigits k ++ [32] ++ [108, 47, 115] = LL at *
    generalize decDigits k ++ [32] = L2 at *
    generalize decDigits k = L1 at *
    go_enter Tryd.func45, Tryd.ntmps45
    go_wp2
    go_region_with (first
      | (go_at_call 57; refine (HN.out _).mono ?_; rintro e w1 ⟨rfl, d1, rfl⟩)
      | (go_at_call 58; refine (HW.out _).mono ?_; rintro e w2 ⟨rfl, rfl⟩))
    all_goals
      go_wp2
      go_ret
      exact ⟨rfl, by repeat (first | exact Below.refl _ _ | refine below_drewN ?_ _ | refine Below.drew ?_ | refine Below.alloc ?_ (by simp) _ | refine Below.alloc ?_ (by simp; omega) _)⟩
  · have hadd2 := fun wx => add_one (decDigits k ++ [32]) [109, 51, 47, 104] (by simp; omega) (by simp) wx
    rw [show nameL 3 = [109, 51, 47, 104] from rfl]
    generalize decDigits k ++ [32] ++ [109, 51, 47, 104] = LL at *
    generalize decDigits k ++ [32] = L2 at *
    generalize decDigits k = L1 at *
    go_enter Tryd.func45, Tryd.ntmps45
    go_wp2
    go_region_with (first
      | (go_at_call 57; refine (HN.out _).mono ?_; rintro e w1 ⟨rfl, d1, rfl⟩)
      | (go_at_call 58; refine (HW.out _).mono ?_; rintro e w2 ⟨rfl, rfl⟩))
    all_goals
      go_wp2
      go_ret
      exact ⟨rfl, by repeat (first | exact Below.refl _ _ | refine below_drewN ?_ _ | refine Below.drew ?_ | refine Below.alloc ?_ (by simp) _ | refine Below.alloc ?_ (by simp; omega) _)⟩
  · have hadd2 := fun wx => add_one (decDigits k ++ [32]) [109, 51, 47, 100] (by simp; omega) (by simp) wx
    rw [show nameL 4 = [109, 51, 47, 100] from rfl]
    generalize decDigits k ++ [32] ++ [109, 51, 47, 100] = LL at *
    generalize decDigits k ++ [32] = L2 at *
    generalize decDigits k = L1 at *
    go_enter Tryd.func45, Tryd.ntmps45
    go_wp2
    go_region_with (first
      | (go_at_call 57; refine (HN.out _).mono ?_; rintro e w1 ⟨rfl, d1, rfl⟩)
      | (go_at_call 58; refine (HW.out _).mono ?_; rintro e w2 ⟨rfl, rfl⟩))
    all_goals
      go_wp2
      go_ret
      exact ⟨rfl, by repeat (first | exact Below.refl _ _ | refine below_drewN ?_ _ | refine Below.drew ?_ | refine Below.alloc ?_ (by simp) _ | refine Below.alloc ?_ (by simp; omega) _)⟩

set_option maxHeartbeats 2000000 in
set_option maxRecDepth 100000 in
theorem satext_any (v u : Int) (w : World) :
    Calls Tryd.prog 21 #[av v u] w fun e w' => e = .returned (.tuple #[.string ⟨(if okA v u then textL v u else []).toArray⟩, .bool (okA v u)]) ∧ Below w.heap.size w w' := by
  obtain ⟨S, hS⟩ : ∃ S, S = w.heap.size + 1 := ⟨_, rfl⟩
  have hB : Below S (w.alloc (.cells #[.int .i64 v, .int .i64 u] 29)) (w.alloc (.cells #[.int .i64 v, .int .i64 u] 29)) := Below.refl _ _
  have HSS := Lib.hid hS
  have HSZ := Lib.hid (show S = (w.alloc (.cells #[.int .i64 v, .int .i64 u] 29)).heap.size by simp [hS])
  clear hS
  cases hv : okA v u
  · have HG := Lib.hid (fun w => sgood_v hv w)
    clear hv
    rw [if_neg (by simp)]
    go_enter Tryd.func21, Tryd.ntmps21
    go_wp2_with (go_at_call 42; refine (HG.out _).mono ?_; rintro e w1 ⟨rfl, hb1⟩; have hB := on_base hB HSZ.out hb1; obtain ⟨c0, c1⟩ := box_one hB HSS.out)
    go_ret2
    exact ⟨rfl, under_one hB HSS.out⟩
  · have HG := Lib.hid (fun w => sgood_v hv w)
    have HT := Lib.hid (fun w => stext_any v u w hv)
    clear hv
    rw [if_pos rfl]
    generalize textL v u = L at *
    go_enter Tryd.func21, Tryd.ntmps21
    go_wp2_with (first
      | (go_at_call 42; refine (HG.out _).mono ?_; rintro e w1 ⟨rfl, hb1⟩; have hB := on_base hB HSZ.out hb1; obtain ⟨c0, c1⟩ := box_one hB HSS.out)
      | (go_at_call 45; refine (HT.out _).mono ?_; rintro e w1 ⟨rfl, hb1⟩; have hB := on_base hB HSZ.out hb1))
    go_ret2
    exact ⟨rfl, under_one hB HSS.out⟩

set_option maxHeartbeats 2000000 in
set_option maxRecDepth 100000 in
theorem atext_any (v u : Int) (w : World) (hT : Tab w) (hFu : Fu w) :
    Calls Tryd.prog 23 #[av v u] w fun e w' => e = .returned (.tuple #[.string ⟨(if okA v u then textL v u else []).toArray⟩, .bool (okA v u)]) ∧ Below w.heap.size w w' := by
  obtain ⟨S, hS⟩ : ∃ S, S = w.heap.size + 1 := ⟨_, rfl⟩
  have hB : Below S (w.alloc (.cells #[.int .i64 v, .int .i64 u] 29)) (w.alloc (.cells #[.int .i64 v, .int .i64 u] 29)) := Below.refl _ _
  have HSS := Lib.hid hS
  have HSZ := Lib.hid (show S = (w.alloc (.cells #[.int .i64 v, .int .i64 u] 29)).heap.size by simp [hS])
  cases hv : okA v u
  · have HG := Lib.hid (fun w => valid_v hv w)
    clear hv hS
    rw [if_neg (by simp)]
    go_enter Tryd.func23, Tryd.ntmps23
    go_wp2_with (go_at_call 39; refine (HG.out _).mono ?_; rintro e w1 ⟨rfl, hb1⟩; have hB := on_base hB HSZ.out hb1; obtain ⟨c0, c1⟩ := box_one hB HSS.out)
    go_ret2
    exact ⟨rfl, under_one hB HSS.out⟩
  · obtain ⟨⟨hv0, hv1⟩, hu0, hu1⟩ := okA_iff.1 hv
    have HG := Lib.hid (fun w => valid_v hv w)
    obtain ⟨k, rfl⟩ : ∃ k : Nat, v = (k : Int) := ⟨v.toNat, by omega⟩
    have HI := Lib.hid (fun w' (hb : Below S (w.alloc (.cells #[.int .i64 (k : Int), .int .i64 u] 29)) w') => itoa_at k w' (by omega) (hT.later (under_one hb hS)))
    have hlk : (decDigits k).length ≤ 8 := dec_len_le 7 k (by omega)
    have hu : u = 1 ∨ u = 2 ∨ u = 3 ∨ u = 4 := by omega
    have hadd1 := fun wx => add_one (decDigits k) [32] (by omega) (by simp) wx
    have HFu := Lib.hid hFu
    rw [if_pos rfl]
    unfold textL
    rw [Int.toNat_natCast]
    clear hv hv0 hv1 hu0 hu1 hS hT hFu
    rcases hu with rfl | rfl | rfl | rfl
    · have hadd2 := fun wx => add_one (decDigits k ++ [32]) [108, 47, 109, 105, 110] (by simp; omega) (by simp) wx
      rw [show nameL 1 = [108, 47, 109, 105, 110] from rfl]
      generalize decDigits k ++ [32] ++ [108, 47, 109, 105, 110] = LL at *
      generalize decDigits k ++ [32] = L2 at *
      generalize decDigits k = L1 at *
      go_enter Tryd.func23, Tryd.ntmps23
      go_wp2_with (go_at_call 39; refine (HG.out _).mono ?_; rintro e w1 ⟨rfl, hb1⟩; have hB := on_base hB HSZ.out hb1; obtain ⟨c0, c1⟩ := box_one hB HSS.out)
      have hFw := HFu.out.later (under_one hB HSS.out)
      have hc := hFw.cell 2 (v := .string ⟨#[108, 47, 109, 105, 110]⟩) rfl
      have hcl := hFw.lt
      have hlb0 := box_lt1 hB HSS.out
      clear hFw
      have hG := @cell_g
      refine region_below (by kernel_rfl) (by kernel_rfl) ?_
      repeat (first | go_big_quiet_step ((go_at_call 35; exact met_at (fun w' hb => HI.out w' (on_base hB HSZ.out hb)))))
      refine wpQuiet_nil ?_
      intro wz hbz
      have hB := on_base hB HSZ.out hbz
      go_wp2
      go_ret2
      exact ⟨rfl, under_one hB HSS.out⟩
    · have hadd2 := fun wx => add_one (decDigits k ++ [32]) [108, 47, 115] (by simp; omega) (by simp) wx
      rw [show nameL 2 = [108, 47, 115] from rfl]
      generalize decDigits k ++ [32] ++ [108, 47, 115] = LL at *
      generalize decDigits k ++ [32] = L2 at *
      generalize decDigits k = L1 at *
      go_enter Tryd.func23, Tryd.ntmps23
      go_wp2_with (go_at_call 39; refine (HG.out _).mono ?_; rintro e w1 ⟨rfl, hb1⟩; have hB := on_base hB HSZ.out hb1; obtain ⟨c0, c1⟩ := box_one hB HSS.out)
      have hFw := HFu.out.later (under_one hB HSS.out)
      have hc := hFw.cell 4 (v := .string ⟨#[108, 47, 115]⟩) rfl
      have hcl := hFw.lt
      have hlb0 := box_lt1 hB HSS.out
      clear hFw
      have hG := @cell_g
      refine region_below (by kernel_rfl) (by kernel_rfl) ?_
      repeat (first | go_big_quiet_step ((go_at_call 35; exact met_at (fun w' hb => HI.out w' (on_base hB HSZ.out hb)))))
      refine wpQuiet_nil ?_
      intro wz hbz
      have hB := on_base hB HSZ.out hbz
      go_wp2
      go_ret2
      exact ⟨rfl, under_one hB HSS.out⟩
    · have hadd2 := fun wx => add_one (decDigits k ++ [32]) [109, 51, 47, 104] (by simp; omega) (by simp) wx
      rw [show nameL 3 = [109, 51, 47, 104] from rfl]
      generalize decDigits k ++ [32] ++ [109, 51, 47, 104] = LL at *
      generalize decDigits k ++ [32] = L2 at *
      generalize decDigits k = L1 at *
      go_enter Tryd.func23, Tryd.ntmps23
      go_wp2_with (go_at_call 39; refine (HG.out _).mono ?_; rintro e w1 ⟨rfl, hb1⟩; have hB := on_base hB HSZ.out hb1; obtain ⟨c0, c1⟩ := box_one hB HSS.out)
      have hFw := HFu.out.later (under_one hB HSS.out)
      have hc := hFw.cell 6 (v := .string ⟨#[109, 51, 47, 104]⟩) rfl
      have hcl := hFw.lt
      have hlb0 := box_lt1 hB HSS.out
      clear hFw
      have hG := @cell_g
      refine region_below (by kernel_rfl) (by kernel_rfl) ?_
      repeat (first | go_big_quiet_step ((go_at_call 35; exact met_at (fun w' hb => HI.out w' (on_base hB HSZ.out hb)))))
      refine wpQuiet_nil ?_
      intro wz hbz
      have hB := on_base hB HSZ.out hbz
      go_wp2
      go_ret2
      exact ⟨rfl, under_one hB HSS.out⟩
    · have hadd2 := fun wx => add_one (decDigits k ++ [32]) [109, 51, 47, 100] (by simp; omega) (by simp) wx
      rw [show nameL 4 = [109, 51, 47, 100] from rfl]
      generalize decDigits k ++ [32] ++ [109, 51, 47, 100] = LL at *
      generalize decDigits k ++ [32] = L2 at *
      generalize decDigits k = L1 at *
      go_enter Tryd.func23, Tryd.ntmps23
      go_wp2_with (go_at_call 39; refine (HG.out _).mono ?_; rintro e w1 ⟨rfl, hb1⟩; have hB := on_base hB HSZ.out hb1; obtain ⟨c0, c1⟩ := box_one hB HSS.out)
      have hFw := HFu.out.later (under_one hB HSS.out)
      have hc := hFw.cell 8 (v := .string ⟨#[109, 51, 47, 100]⟩) rfl
      have hcl := hFw.lt
      have hlb0 := box_lt1 hB HSS.out
      clear hFw
      have hG := @cell_g
      refine region_below (by kernel_rfl) (by kernel_rfl) ?_
      repeat (first | go_big_quiet_step ((go_at_call 35; exact met_at (fun w' hb => HI.out w' (on_base hB HSZ.out hb)))))
      refine wpQuiet_nil ?_
      intro wz hbz
      have hB := on_base hB HSZ.out hbz
      go_wp2
      go_ret2
      exact ⟨rfl, under_one hB HSS.out⟩
/-- Both texts are one. -/
theorem text_both (v u : Int) : ∃ l ok, (∀ w, Tab w → Fu w → Calls Tryd.prog 23 #[av v u] w fun e w' => e = .returned (.tuple #[.string l, .bool ok]) ∧ Below w.heap.size w w') ∧ (∀ w, Calls Tryd.prog 21 #[av v u] w fun e w' => e = .returned (.tuple #[.string l, .bool ok]) ∧ Below w.heap.size w w') :=
  ⟨_, _, fun w ht hF => atext_any v u w ht hF, fun w => satext_any v u w⟩
end Go.Proofs.YtpdkphokinhhdaaDoor.S3
