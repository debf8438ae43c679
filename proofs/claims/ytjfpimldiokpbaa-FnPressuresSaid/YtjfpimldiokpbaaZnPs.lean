/- PressuresAt and RaisePlaces of the model: contracts. Conditions: each theorem's own premises. -/
import Derived.Test.YtjfpimldiokpbaaZnPr
namespace Go.Proofs.Ytjfpimldiokpbaa.S12
open Go.RowKit Go.Sort P12

theorem own_e1 (w : World) : IOwn (w.alloc (.cells #[] 3)) w.heap.size (.slice (some ⟨w.heap.size, 0, none⟩) 0 0) [] := own_empty w w.heap.size (Nat.le_refl _)
/-- The model's empty list, made before it asks. -/
theorem gives_e {w w1 : World} (h : Below (w.heap.size + 1) (w.alloc (.cells #[] 3)) w1) : GivesA w [] false (.returned (.tuple #[.slice (some ⟨w.heap.size, 0, none⟩) 0 0, .bool false])) w1 :=
  ⟨_, 0, 0, rfl, Nat.le_refl _, .inl rfl, below_box h, box_lt h⟩
set_option maxHeartbeats 1000000 in
theorem spr_no (A : Option Addr) (cap : Nat) (l : List Int) (h : Int) (w : World) (hI : IAt w A l) (hl : l.length ≤ 1048576) (hv : plB l = false ∨ lvB h = false) :
    Calls Try.prog 29 #[.slice A l.length cap, .int .i64 h] w (GivesA w [] false) := by
  have HA := Lib.hid (fun w' (hb : Below w.heap.size w w') => spl_any A cap l w' (hI.kept hb (Nat.le_refl _)) hl)
  have HL := Lib.hid (fun w => slv_any h w)
  have HB0 := Lib.hid (alloc_below w (.cells #[] 3))
  have HB3 := Lib.hid (fun w1 (hb : Below (w.alloc (.cells #[] 3)).heap.size (w.alloc (.cells #[] 3)) w1) => (show Below (w.heap.size + 1) (w.alloc (.cells #[] 3)) w1 from hb.mono (by simp)))
  clear hI
  generalize plB l = v1 at *
  generalize lvB h = v2 at *
  cases v1 with
  | false =>
    clear hv
    go_enter Try.func29, Try.ntmps29
    go_wp2_with (go_at_call 62; refine (HA.out _ HB0.out).mono ?_; rintro e w1 ⟨rfl, hb1⟩; have HX1 := Lib.hid (HB3.out _ hb1); clear hb1)
    go_ret2
    exact gives_e HX1.out
  | true =>
    have hv2 : v2 = false := by
      rcases hv with h | h
      · cases h
      · exact h
    subst hv2
    clear hv
    go_enter Try.func29, Try.ntmps29
    go_wp2_with (first
      | (go_at_call 62; refine (HA.out _ HB0.out).mono ?_; rintro e w1 ⟨rfl, hb1⟩; have HX1 := Lib.hid (HB3.out _ hb1); clear hb1)
      | (go_at_call 47; refine (HL.out _).mono ?_; rintro e w2 ⟨rfl, hw⟩; replace hw := hw.symm; subst hw))
    go_ret2
    exact gives_e HX1.out
set_option maxHeartbeats 2000000 in
theorem spr_yes (A : Option Addr) (cap : Nat) (l : List Int) (h : Int) (w : World) (hI : IAt w A l) (hl : l.length ≤ 1048576) (hq : Pl l) (hh : lvB h = true) :
    Calls Try.prog 29 #[.slice A l.length cap, .int .i64 h] w (GivesA w (prK l h l.length) true) := by
  have HL := Lib.hid (fun w => slv_any h w)
  rw [hh] at HL
  obtain ⟨h0, h1⟩ := lvB_iff.1 hh
  have HA := Lib.hid (fun w' (hb : Below w.heap.size w w') => spl_v (plB_iff.2 hq) A cap w' (hI.kept hb (Nat.le_refl _)) hl)
  have HIK := Lib.hid (fun w' (hb : Below w.heap.size w w') => hI.kept hb (Nat.le_refl _))
  have HAT := Lib.hid (fun i (hi : i < l.length) => hq.at_ hi)
  have HB0 := Lib.hid (alloc_below w (.cells #[] 3))
  have HO0 := Lib.hid (own_e1 w)
  have hn12 := hq.n
  obtain ⟨i0, hi, hz0, hz1, hz2⟩ := info_parts infoI
  clear hI hh hq
  go_enter Try.func29, Try.ntmps29
  go_wp2_with (first
    | (go_at_call 62; refine (HA.out _ HB0.out).mono ?_; rintro e w1 ⟨rfl, hb1⟩; have HB1 := Lib.hid (HB0.out.trans (hb1.mono (by simp))); have HO1 := Lib.hid (HO0.out.on hb1); clear hb1; refine Hid.out ?_)
    | fail)
  clear HA HB0 HO0
  refine Lib.hid ?_
  go_wp2_with (first
    | (go_at_call 47; refine (HL.out _).mono ?_; rintro e w2 ⟨rfl, hw⟩; replace hw := hw.symm; subst hw)
    | fail)
  go_loopw [6, 7] (fun v i wr => ∃ k : Nat, k ≤ l.length ∧ i = .int .i64 (k : Int) ∧ Hid (IOwn wr w.heap.size v (prK l h k)) ∧ Hid (v ≠ .slice none 0 0) ∧ Hid (Below w.heap.size w wr)) (fun _ i _ => l.length - (intOf i).toNat)
  case atStart => exact ⟨0, Nat.zero_le _, rfl, HO1, Lib.hid (by simp), HB1⟩
  case round =>
    clear HO1 HB1
    obtain ⟨k, hk, rfl, hown, hvn, hB⟩ := hrel
    by_cases hlt : k < l.length
    · obtain ⟨bb, off, hA, hbl, p0⟩ := (HIK.out _ hB.out).at_ hlt
      subst hA
      obtain ⟨x0, x1⟩ := HAT.out k hlt
      have hk0 : (0 : Int) ≤ (k : Int) := by omega
      have hkn : (k : Int) < (l.length : Int) := by omega
      have hfl : (prK l h k).length = k := by first | exact prK_len _ _ _ | exact rsK_len _ _ _
      have hsn := Lib.hid (show prK l h (k + 1) = prK l h k ++ [h - l.getD k 0] by first | exact prK_succ _ _ _ | exact rsK_succ _ _ _)
      generalize l.getD k 0 = y at *
      have hs : IntKind.i64.wrap (h - y) = h - y := IntWalk.i64_in _ (by omega)
      have ho := hown.out
      unfold IOwn at ho
      go_wp2_with (at_builtin; go_must (refine wpList_append_own _ rfl _ _ 28 rfl w.heap.size 3 i0 (.int .i64 0) 1 8 Try.underlying28 hi hz0 hz1 hz2 rfl (by decide) _ _ _ rfl (ho.alloc _) ⟨wr.heap.size, 0, none⟩ 1 1 [iv (h - y)] rfl rfl (cell_one_new _ _ _) (by intro u hu; simp at hu; subst hu; rfl) (by unfold maxLen; omega) (by omega) (by have := hB.out.size; simp at this ⊢; omega) ?_); intro v' w7 hown' hgrow hnil)
      have hown3 := Lib.hid (IOwn.push hown')
      rw [← hsn.out] at hown3
      have hB7 := Lib.hid ((hB.out.alloc hB.out.size (.cells #[iv (h - y)] 3)).grown hgrow (by have := hB.out.size; simp at this ⊢; omega) (fun g hg => (ho.lt g hg).1))
      have hnil3 := Lib.hid (show v' ≠ .slice none 0 0 from fun e => by simp [e] at hnil)
      clear hown' hgrow hnil ho hs
      go_wp2
      go_roundw
      case rel => exact ⟨k + 1, by omega, by go_num, hown3, hnil3, hB7⟩
      case measure => simp [intOf]; omega
    · have hkN : k = l.length := by omega
      have hown2 := hown.out
      rw [hkN] at hown2
      obtain ⟨g', capg, rfl, hg'⟩ := own_slice hown2 hvn.out
      have HO := Lib.hid hown2
      have hlt9 := iown_lt' hown2
      clear hkN hown2
      go_wp2
      go_ret2
      exact ⟨g', 0, capg, rfl, hg', HO.out.iat, hB.out, hlt9⟩
set_option maxHeartbeats 1000000 in
theorem srs_no (A : Option Addr) (cap : Nat) (l : List Int) (m : Int) (w : World) (hI : IAt w A l) (hl : l.length ≤ 1048576) (hv : plB l = false ∨ mtB m = false) :
    Calls Try.prog 35 #[.slice A l.length cap, .int .i64 m] w (GivesA w [] false) := by
  have HA := Lib.hid (fun w' (hb : Below w.heap.size w w') => spl_any A cap l w' (hI.kept hb (Nat.le_refl _)) hl)
  have HL := Lib.hid (fun w => in_eq m (-1000) 1000 (mtB m) rfl w)
  have HB0 := Lib.hid (alloc_below w (.cells #[] 3))
  have HB3 := Lib.hid (fun w1 (hb : Below (w.alloc (.cells #[] 3)).heap.size (w.alloc (.cells #[] 3)) w1) => (show Below (w.heap.size + 1) (w.alloc (.cells #[] 3)) w1 from hb.mono (by simp)))
  clear hI
  generalize plB l = v1 at *
  generalize mtB m = v2 at *
  cases v1 with
  | false =>
    clear hv
    go_enter Try.func35, Try.ntmps35
    go_wp2_with (go_at_call 62; refine (HA.out _ HB0.out).mono ?_; rintro e w1 ⟨rfl, hb1⟩; have HX1 := Lib.hid (HB3.out _ hb1); clear hb1)
    go_ret2
    exact gives_e HX1.out
  | true =>
    have hv2 : v2 = false := by
      rcases hv with h | h
      · cases h
      · exact h
    subst hv2
    clear hv
    go_enter Try.func35, Try.ntmps35
    go_wp2_with (first
      | (go_at_call 62; refine (HA.out _ HB0.out).mono ?_; rintro e w1 ⟨rfl, hb1⟩; have HX1 := Lib.hid (HB3.out _ hb1); clear hb1)
      | (go_at_call 65; refine (HL.out _).mono ?_; rintro e w2 ⟨rfl, hw⟩; replace hw := hw.symm; subst hw))
    go_ret2
    exact gives_e HX1.out
set_option maxHeartbeats 2000000 in
theorem srs_true (A : Option Addr) (cap : Nat) (l : List Int) (m : Int) (w : World) (hI : IAt w A l) (hl : l.length ≤ 1048576) (hq : Pl l) (hm : mtB m = true) (hp : plB (rsK l m l.length) = true) :
    Calls Try.prog 35 #[.slice A l.length cap, .int .i64 m] w (GivesA w (rsK l m l.length) true) := by
  have HL := Lib.hid (fun w => in_eq m (-1000) 1000 true (by rw [← hm]; rfl) w)
  obtain ⟨h0, h1⟩ := mtB_iff.1 hm
  have HPV := Lib.hid hp
  have HA := Lib.hid (fun w' (hb : Below w.heap.size w w') => spl_v (plB_iff.2 hq) A cap w' (hI.kept hb (Nat.le_refl _)) hl)
  have HIK := Lib.hid (fun w' (hb : Below w.heap.size w w') => hI.kept hb (Nat.le_refl _))
  have HAT := Lib.hid (fun i (hi : i < l.length) => hq.at_ hi)
  have HB0 := Lib.hid (alloc_below w (.cells #[] 3))
  have HO0 := Lib.hid (own_e1 w)
  have hn12 := hq.n
  obtain ⟨i0, hi, hz0, hz1, hz2⟩ := info_parts infoI
  clear hI hm hq hp
  go_enter Try.func35, Try.ntmps35
  go_wp2_with (first
    | (go_at_call 62; refine (HA.out _ HB0.out).mono ?_; rintro e w1 ⟨rfl, hb1⟩; have HB1 := Lib.hid (HB0.out.trans (hb1.mono (by simp))); have HO1 := Lib.hid (HO0.out.on hb1); clear hb1; refine Hid.out ?_)
    | fail)
  clear HA HB0 HO0
  refine Lib.hid ?_
  go_wp2_with (first
    | (go_at_call 65; refine (HL.out _).mono ?_; rintro e w2 ⟨rfl, hw⟩; replace hw := hw.symm; subst hw)
    | fail)
  go_loopw [6, 7] (fun v i wr => ∃ k : Nat, k ≤ l.length ∧ i = .int .i64 (k : Int) ∧ Hid (IOwn wr w.heap.size v (rsK l m k)) ∧ Hid (v ≠ .slice none 0 0) ∧ Hid (Below w.heap.size w wr)) (fun _ i _ => l.length - (intOf i).toNat)
  case atStart => exact ⟨0, Nat.zero_le _, rfl, HO1, Lib.hid (by simp), HB1⟩
  case round =>
    clear HO1 HB1
    obtain ⟨k, hk, rfl, hown, hvn, hB⟩ := hrel
    by_cases hlt : k < l.length
    · obtain ⟨bb, off, hA, hbl, p0⟩ := (HIK.out _ hB.out).at_ hlt
      subst hA
      obtain ⟨x0, x1⟩ := HAT.out k hlt
      have hk0 : (0 : Int) ≤ (k : Int) := by omega
      have hkn : (k : Int) < (l.length : Int) := by omega
      have hfl : (rsK l m k).length = k := by first | exact prK_len _ _ _ | exact rsK_len _ _ _
      have hsn := Lib.hid (show rsK l m (k + 1) = rsK l m k ++ [l.getD k 0 + m] by first | exact prK_succ _ _ _ | exact rsK_succ _ _ _)
      generalize l.getD k 0 = y at *
      have hs : IntKind.i64.wrap (y + m) = y + m := IntWalk.i64_in _ (by omega)
      have ho := hown.out
      unfold IOwn at ho
      go_wp2_with (at_builtin; go_must (refine wpList_append_own _ rfl _ _ 28 rfl w.heap.size 3 i0 (.int .i64 0) 1 8 Try.underlying28 hi hz0 hz1 hz2 rfl (by decide) _ _ _ rfl (ho.alloc _) ⟨wr.heap.size, 0, none⟩ 1 1 [iv (y + m)] rfl rfl (cell_one_new _ _ _) (by intro u hu; simp at hu; subst hu; rfl) (by unfold maxLen; omega) (by omega) (by have := hB.out.size; simp at this ⊢; omega) ?_); intro v' w7 hown' hgrow hnil)
      have hown3 := Lib.hid (IOwn.push hown')
      rw [← hsn.out] at hown3
      have hB7 := Lib.hid ((hB.out.alloc hB.out.size (.cells #[iv (y + m)] 3)).grown hgrow (by have := hB.out.size; simp at this ⊢; omega) (fun g hg => (ho.lt g hg).1))
      have hnil3 := Lib.hid (show v' ≠ .slice none 0 0 from fun e => by simp [e] at hnil)
      clear hown' hgrow hnil ho hs
      go_wp2
      go_roundw
      case rel => exact ⟨k + 1, by omega, by go_num, hown3, hnil3, hB7⟩
      case measure => simp [intOf]; omega
    · have hkN : k = l.length := by omega
      have hown2 := hown.out
      rw [hkN] at hown2
      obtain ⟨g', capg, rfl, hg'⟩ := own_slice hown2 hvn.out
      have HO := Lib.hid hown2
      have hlt9 := iown_lt' hown2
      clear hkN hown2
      have hP := spl_any (some ⟨g', 0, none⟩) capg (rsK l m l.length) wr HO.out.iat (by rw [rsK_len]; omega)
      rw [HPV.out] at hP
      have HP := Lib.hid hP
      clear hP
      go_wp2_with (go_at_call 62; refine HP.out.mono ?_; rintro e w3 ⟨rfl, hb3⟩; have HB3 := Lib.hid (hB.out.trans (hb3.mono hB.out.size)); have HO3 := Lib.hid (HO.out.on hb3); have hs3 := hb3.size; clear hb3)
      go_ret2
      exact ⟨g', 0, capg, rfl, hg', HO3.out.iat, HB3.out, Nat.lt_of_lt_of_le hlt9 hs3⟩
set_option maxHeartbeats 2000000 in
theorem srs_false (A : Option Addr) (cap : Nat) (l : List Int) (m : Int) (w : World) (hI : IAt w A l) (hl : l.length ≤ 1048576) (hq : Pl l) (hm : mtB m = true) (hp : plB (rsK l m l.length) = false) :
    Calls Try.prog 35 #[.slice A l.length cap, .int .i64 m] w (GivesA w ([]) false) := by
  have HL := Lib.hid (fun w => in_eq m (-1000) 1000 true (by rw [← hm]; rfl) w)
  obtain ⟨h0, h1⟩ := mtB_iff.1 hm
  have HPV := Lib.hid hp
  have HA := Lib.hid (fun w' (hb : Below w.heap.size w w') => spl_v (plB_iff.2 hq) A cap w' (hI.kept hb (Nat.le_refl _)) hl)
  have HIK := Lib.hid (fun w' (hb : Below w.heap.size w w') => hI.kept hb (Nat.le_refl _))
  have HAT := Lib.hid (fun i (hi : i < l.length) => hq.at_ hi)
  have HB0 := Lib.hid (alloc_below w (.cells #[] 3))
  have HO0 := Lib.hid (own_e1 w)
  have hn12 := hq.n
  obtain ⟨i0, hi, hz0, hz1, hz2⟩ := info_parts infoI
  clear hI hm hq hp
  go_enter Try.func35, Try.ntmps35
  go_wp2_with (first
    | (go_at_call 62; refine (HA.out _ HB0.out).mono ?_; rintro e w1 ⟨rfl, hb1⟩; have HB1 := Lib.hid (HB0.out.trans (hb1.mono (by simp))); have HO1 := Lib.hid (HO0.out.on hb1); clear hb1; refine Hid.out ?_)
    | fail)
  clear HA HB0 HO0
  refine Lib.hid ?_
  go_wp2_with (first
    | (go_at_call 65; refine (HL.out _).mono ?_; rintro e w2 ⟨rfl, hw⟩; replace hw := hw.symm; subst hw)
    | fail)
  go_loopw [6, 7] (fun v i wr => ∃ k : Nat, k ≤ l.length ∧ i = .int .i64 (k : Int) ∧ Hid (IOwn wr w.heap.size v (rsK l m k)) ∧ Hid (v ≠ .slice none 0 0) ∧ Hid (Below w.heap.size w wr)) (fun _ i _ => l.length - (intOf i).toNat)
  case atStart => exact ⟨0, Nat.zero_le _, rfl, HO1, Lib.hid (by simp), HB1⟩
  case round =>
    clear HO1 HB1
    obtain ⟨k, hk, rfl, hown, hvn, hB⟩ := hrel
    by_cases hlt : k < l.length
    · obtain ⟨bb, off, hA, hbl, p0⟩ := (HIK.out _ hB.out).at_ hlt
      subst hA
      obtain ⟨x0, x1⟩ := HAT.out k hlt
      have hk0 : (0 : Int) ≤ (k : Int) := by omega
      have hkn : (k : Int) < (l.length : Int) := by omega
      have hfl : (rsK l m k).length = k := by first | exact prK_len _ _ _ | exact rsK_len _ _ _
      have hsn := Lib.hid (show rsK l m (k + 1) = rsK l m k ++ [l.getD k 0 + m] by first | exact prK_succ _ _ _ | exact rsK_succ _ _ _)
      generalize l.getD k 0 = y at *
      have hs : IntKind.i64.wrap (y + m) = y + m := IntWalk.i64_in _ (by omega)
      have ho := hown.out
      unfold IOwn at ho
      go_wp2_with (at_builtin; go_must (refine wpList_append_own _ rfl _ _ 28 rfl w.heap.size 3 i0 (.int .i64 0) 1 8 Try.underlying28 hi hz0 hz1 hz2 rfl (by decide) _ _ _ rfl (ho.alloc _) ⟨wr.heap.size, 0, none⟩ 1 1 [iv (y + m)] rfl rfl (cell_one_new _ _ _) (by intro u hu; simp at hu; subst hu; rfl) (by unfold maxLen; omega) (by omega) (by have := hB.out.size; simp at this ⊢; omega) ?_); intro v' w7 hown' hgrow hnil)
      have hown3 := Lib.hid (IOwn.push hown')
      rw [← hsn.out] at hown3
      have hB7 := Lib.hid ((hB.out.alloc hB.out.size (.cells #[iv (y + m)] 3)).grown hgrow (by have := hB.out.size; simp at this ⊢; omega) (fun g hg => (ho.lt g hg).1))
      have hnil3 := Lib.hid (show v' ≠ .slice none 0 0 from fun e => by simp [e] at hnil)
      clear hown' hgrow hnil ho hs
      go_wp2
      go_roundw
      case rel => exact ⟨k + 1, by omega, by go_num, hown3, hnil3, hB7⟩
      case measure => simp [intOf]; omega
    · have hkN : k = l.length := by omega
      have hown2 := hown.out
      rw [hkN] at hown2
      obtain ⟨g', capg, rfl, hg'⟩ := own_slice hown2 hvn.out
      have HO := Lib.hid hown2
      have hlt9 := iown_lt' hown2
      clear hkN hown2
      have hP := spl_any (some ⟨g', 0, none⟩) capg (rsK l m l.length) wr HO.out.iat (by rw [rsK_len]; omega)
      rw [HPV.out] at hP
      have HP := Lib.hid hP
      clear hP
      go_wp2_with (go_at_call 62; refine HP.out.mono ?_; rintro e w3 ⟨rfl, hb3⟩; have HB3 := Lib.hid (hB.out.trans (hb3.mono hB.out.size)); have HO3 := Lib.hid (HO.out.on hb3); have hs3 := hb3.size; clear hb3)
      go_ret2
      exact (gives_none HB3.out).any
end Go.Proofs.Ytjfpimldiokpbaa.S12
