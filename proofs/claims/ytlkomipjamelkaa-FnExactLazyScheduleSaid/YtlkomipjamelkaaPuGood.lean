/- A pumping is valid: what the program and the model return: contracts. Conditions: each theorem's own premises. -/
import Derived.Test.YtlkomipjamelkaaPuTo
import Derived.Deep.DeepCutAuto
namespace Go.Proofs.Ytlkomipjamelkaa.S13
open Go.RowKit P11 S11 P13

theorem pg_eq (p : Pg) : pgB p = (tkB p.L p.a p.b && (decide (0 ≤ p.pm) && (decide (p.pm ≤ 10) && (decide (1 ≤ (p.ys.length : Int)) && (decide ((p.ys.length : Int) ≤ 12) && (amtB p.xs p.ys.length 0 100 && amtB p.ys p.ys.length 0 100)))))) := by
  rw [Bool.eq_iff_iff]
  simp only [Bool.and_eq_true, decide_eq_true_eq, pgB, dayB, amtB, allR_vols]
  constructor
  · rintro ⟨⟨h1, ⟨h2, h3⟩, h4, h5, h6⟩, h7, h8⟩
    exact ⟨h1, h7, h8, by omega, by omega, ⟨by omega, h5⟩, ⟨trivial, h6⟩⟩
  · rintro ⟨h1, h7, h8, h2, h3, ⟨h4, h5⟩, ⟨_, h6⟩⟩
    exact ⟨⟨h1, ⟨by omega, by omega⟩, by omega, h5, h6⟩, h7, h8⟩
theorem boxB (w : World) (t : TypeId) (p : Pg) (A : Option Addr) (c : Nat) (A2 : Option Addr) (c2 : Nat) : Below w.heap.size w (w.alloc (po t p A c A2 c2)) := alloc_below _ _
set_option maxHeartbeats 4000000 in
theorem ivp_any (p : Pg) (A : Option Addr) (c : Nat) (A2 : Option Addr) (c2 : Nat) (w : World) (h : PAt w p A A2) :
    Calls Try.prog 14 #[pv p A c A2 c2] w fun e w' => e = .returned (.bool (pgB p)) ∧ Below w.heap.size w w' := by
  rw [pg_eq]
  have HB0 := Lib.hid (boxB w 31 p A c A2 c2)
  have H6 := Lib.hid (B6.new w 31 p A c A2 c2)
  have HV := Lib.hid (fun w => valid_any p.L p.a p.b w)
  have HX := Lib.hid (fun w' (hb : Below w.heap.size w w') => am_any A c p.xs p.ys.length 0 100 w' (h.x.kept hb (Nat.le_refl _)) h.xl)
  have HY := Lib.hid (fun w' (hb : Below w.heap.size w w') => am_any A2 c2 p.ys p.ys.length 0 100 w' (h.y.kept hb (Nat.le_refl _)) h.yl)
  clear h
  generalize tkB p.L p.a p.b = v1 at *
  generalize amtB p.xs p.ys.length 0 100 = v2 at *
  generalize amtB p.ys p.ys.length 0 100 = v3 at *
  cases v1
  · rw [Bool.false_and]
    go_enter Try.func14, Try.ntmps14
    go_wp2_with (first | (go_at_call 38; refine (HV.out _).mono ?_; rintro e w1 ⟨rfl, hb1⟩; refine Hid.out ?_) | fail)
    have hB1 := HB0.out.trans (hb1.mono HB0.out.size)
    have H61 := Lib.hid (H6.out.kept hb1)
    obtain ⟨a0, a1, a2, a3, a4, a5⟩ := H61.out.out
    clear hb1 H6 HB0
    refine Lib.hid ?_
    go_wp2_with fail
    go_ret
    exact ⟨rfl, hB1⟩
  · rw [Bool.true_and]
    by_cases h1 : 0 ≤ p.pm
    rotate_left
    · have e : decide (0 ≤ p.pm) = false := by simp [h1]
      rw [e, Bool.false_and]
      clear e
      go_enter Try.func14, Try.ntmps14
      go_wp2_with (first | (go_at_call 38; refine (HV.out _).mono ?_; rintro e w1 ⟨rfl, hb1⟩; refine Hid.out ?_) | fail)
      have hB1 := HB0.out.trans (hb1.mono HB0.out.size)
      have H61 := Lib.hid (H6.out.kept hb1)
      obtain ⟨a0, a1, a2, a3, a4, a5⟩ := H61.out.out
      clear hb1 H6 HB0
      refine Lib.hid ?_
      go_wp2_with fail
      go_ret
      exact ⟨rfl, hB1⟩
    have eh1 : decide (0 ≤ p.pm) = true := by simp [h1]
    rw [eh1, Bool.true_and]
    by_cases h2 : p.pm ≤ 10
    rotate_left
    · have e : decide (p.pm ≤ 10) = false := by simp [h2]
      rw [e, Bool.false_and]
      clear e
      go_enter Try.func14, Try.ntmps14
      go_wp2_with (first | (go_at_call 38; refine (HV.out _).mono ?_; rintro e w1 ⟨rfl, hb1⟩; refine Hid.out ?_) | fail)
      have hB1 := HB0.out.trans (hb1.mono HB0.out.size)
      have H61 := Lib.hid (H6.out.kept hb1)
      obtain ⟨a0, a1, a2, a3, a4, a5⟩ := H61.out.out
      clear hb1 H6 HB0
      refine Lib.hid ?_
      go_wp2_with fail
      go_ret
      exact ⟨rfl, hB1⟩
    have eh2 : decide (p.pm ≤ 10) = true := by simp [h2]
    rw [eh2, Bool.true_and]
    by_cases h3 : 1 ≤ (p.ys.length : Int)
    rotate_left
    · have e : decide (1 ≤ (p.ys.length : Int)) = false := by simp [h3]
      rw [e, Bool.false_and]
      clear e
      go_enter Try.func14, Try.ntmps14
      go_wp2_with (first | (go_at_call 38; refine (HV.out _).mono ?_; rintro e w1 ⟨rfl, hb1⟩; refine Hid.out ?_) | fail)
      have hB1 := HB0.out.trans (hb1.mono HB0.out.size)
      have H61 := Lib.hid (H6.out.kept hb1)
      obtain ⟨a0, a1, a2, a3, a4, a5⟩ := H61.out.out
      clear hb1 H6 HB0
      refine Lib.hid ?_
      go_wp2_with fail
      go_ret
      exact ⟨rfl, hB1⟩
    have eh3 : decide (1 ≤ (p.ys.length : Int)) = true := by simp [h3]
    rw [eh3, Bool.true_and]
    by_cases h4 : (p.ys.length : Int) ≤ 12
    rotate_left
    · have e : decide ((p.ys.length : Int) ≤ 12) = false := by simp [h4]
      rw [e, Bool.false_and]
      clear e
      go_enter Try.func14, Try.ntmps14
      go_wp2_with (first | (go_at_call 38; refine (HV.out _).mono ?_; rintro e w1 ⟨rfl, hb1⟩; refine Hid.out ?_) | fail)
      have hB1 := HB0.out.trans (hb1.mono HB0.out.size)
      have H61 := Lib.hid (H6.out.kept hb1)
      obtain ⟨a0, a1, a2, a3, a4, a5⟩ := H61.out.out
      clear hb1 H6 HB0
      refine Lib.hid ?_
      go_wp2_with fail
      go_ret
      exact ⟨rfl, hB1⟩
    have eh4 : decide ((p.ys.length : Int) ≤ 12) = true := by simp [h4]
    rw [eh4, Bool.true_and]
    cases v2
    · rw [Bool.false_and]
      go_enter Try.func14, Try.ntmps14
      go_wp2_with (first | (go_at_call 38; refine (HV.out _).mono ?_; rintro e w1 ⟨rfl, hb1⟩; refine Hid.out ?_) | fail)
      have hB1 := HB0.out.trans (hb1.mono HB0.out.size)
      have H61 := Lib.hid (H6.out.kept hb1)
      obtain ⟨a0, a1, a2, a3, a4, a5⟩ := H61.out.out
      clear hb1 H6 HB0
      refine Lib.hid ?_
      go_wp2_with (first | (go_at_call 39; refine (HX.out _ hB1).mono ?_; rintro e w2 ⟨rfl, hb2⟩; refine Hid.out ?_) | fail)
      have hB2 := hB1.trans (hb2.mono hB1.size)
      obtain ⟨b0, b1, b2, b3, b4, b5⟩ := (H61.out.kept hb2).out
      clear hb2 a0 a1 a2 a3 a4 a5
      refine Lib.hid ?_
      go_wp2_with fail
      go_ret
      exact ⟨rfl, hB2⟩
    · rw [Bool.true_and]
      go_enter Try.func14, Try.ntmps14
      go_wp2_with (first | (go_at_call 38; refine (HV.out _).mono ?_; rintro e w1 ⟨rfl, hb1⟩; refine Hid.out ?_) | fail)
      have hB1 := HB0.out.trans (hb1.mono HB0.out.size)
      have H61 := Lib.hid (H6.out.kept hb1)
      obtain ⟨a0, a1, a2, a3, a4, a5⟩ := H61.out.out
      clear hb1 H6 HB0
      refine Lib.hid ?_
      go_wp2_with (first | (go_at_call 39; refine (HX.out _ hB1).mono ?_; rintro e w2 ⟨rfl, hb2⟩; refine Hid.out ?_) | fail)
      have hB2 := hB1.trans (hb2.mono hB1.size)
      obtain ⟨b0, b1, b2, b3, b4, b5⟩ := (H61.out.kept hb2).out
      clear hb2 a0 a1 a2 a3 a4 a5
      refine Lib.hid ?_
      go_wp2_with (first | (go_at_call 39; refine (HY.out _ hB2).mono ?_; rintro e w3 ⟨rfl, hb3⟩; refine Hid.out ?_) | fail)
      have hB3 := hB2.trans (hb3.mono hB2.size)
      clear hb3
      refine Lib.hid ?_
      go_wp2_with fail
      go_ret
      exact ⟨rfl, hB3⟩
theorem ivp_v {p : Pg} {v : Bool} (hv : pgB p = v) (A : Option Addr) (c : Nat) (A2 : Option Addr) (c2 : Nat) (w : World) (h : PAt w p A A2) :
    Calls Try.prog 14 #[pv p A c A2 c2] w fun e w' => e = .returned (.bool v) ∧ Below w.heap.size w w' := by
  rw [← hv]; exact ivp_any p A c A2 c2 w h
theorem pg_eqS (p : Pg) : pgB p = (tkB p.L p.a p.b && (decide (0 ≤ p.pm ∧ p.pm ≤ 10) && (decide (1 ≤ (p.xs.length : Int) ∧ (p.xs.length : Int) ≤ 12) && (decide ((p.ys.length : Int) = p.xs.length) && (volsB p.xs && volsB p.ys))))) := by
  rw [Bool.eq_iff_iff]
  simp only [Bool.and_eq_true, decide_eq_true_eq, pgB, dayB]
  constructor
  · rintro ⟨⟨h1, ⟨h2, h3⟩, h4, h5, h6⟩, h7, h8⟩
    exact ⟨h1, ⟨h7, h8⟩, ⟨by omega, by omega⟩, by omega, h5, h6⟩
  · rintro ⟨h1, ⟨h7, h8⟩, ⟨h2, h3⟩, h4, h5, h6⟩
    exact ⟨⟨h1, ⟨by omega, by omega⟩, by omega, h5, h6⟩, h7, h8⟩
set_option maxHeartbeats 4000000 in
theorem lgood_any (p : Pg) (A : Option Addr) (c : Nat) (A2 : Option Addr) (c2 : Nat) (w : World) (h : PAt w p A A2) :
    Calls Try.prog 36 #[pv p A c A2 c2] w fun e w' => e = .returned (.bool (pgB p)) ∧ Below w.heap.size w w' := by
  rw [pg_eqS]
  have HB0 := Lib.hid (boxB w 31 p A c A2 c2)
  have H6 := Lib.hid (B6.new w 31 p A c A2 c2)
  have HG := Lib.hid (fun w => sgood_any p.L p.a p.b w)
  have HP := Lib.hid (fun w => in_any p.pm 0 10 w)
  have HN := Lib.hid (fun w => in_any (p.xs.length : Int) 1 12 w)
  have HPA := Lib.hid h
  clear h
  generalize tkB p.L p.a p.b = v1 at *
  obtain ⟨v2, hv2⟩ : ∃ v2, decide (0 ≤ p.pm ∧ p.pm ≤ 10) = v2 := ⟨_, rfl⟩
  obtain ⟨v3, hv3⟩ : ∃ v3, decide (1 ≤ (p.xs.length : Int) ∧ (p.xs.length : Int) ≤ 12) = v3 := ⟨_, rfl⟩
  rw [hv2, hv3]
  rw [hv2] at HP
  rw [hv3] at HN
  clear hv2
  cases v1
  · rw [Bool.false_and]
    go_enter Try.func36, Try.ntmps36
    go_wp2_with (first | (go_at_call 51; refine (HG.out _).mono ?_; rintro e w1 ⟨rfl, hb1⟩; refine Hid.out ?_) | fail)
    have hB1 := HB0.out.trans (hb1.mono HB0.out.size)
    have H61 := Lib.hid (H6.out.kept hb1)
    obtain ⟨a0, a1, a2, a3, a4, a5⟩ := H61.out.out
    clear hb1 H6 HB0
    refine Lib.hid ?_
    go_wp2_with fail
    go_ret
    exact ⟨rfl, hB1⟩
  rw [Bool.true_and]
  cases v2
  · rw [Bool.false_and]
    go_enter Try.func36, Try.ntmps36
    go_wp2_with (first | (go_at_call 51; refine (HG.out _).mono ?_; rintro e w1 ⟨rfl, hb1⟩; refine Hid.out ?_) | fail)
    have hB1 := HB0.out.trans (hb1.mono HB0.out.size)
    have H61 := Lib.hid (H6.out.kept hb1)
    obtain ⟨a0, a1, a2, a3, a4, a5⟩ := H61.out.out
    clear hb1 H6 HB0
    refine Lib.hid ?_
    go_wp2_with (first | (go_at_call 52; refine (HP.out _).mono ?_; rintro e w2 ⟨rfl, hw⟩; replace hw := hw.symm; subst hw; refine Hid.out ?_) | fail)
    refine Lib.hid ?_
    go_wp2_with fail
    go_ret
    exact ⟨rfl, hB1⟩
  rw [Bool.true_and]
  cases v3
  · rw [Bool.false_and]
    go_enter Try.func36, Try.ntmps36
    go_wp2_with (first | (go_at_call 51; refine (HG.out _).mono ?_; rintro e w1 ⟨rfl, hb1⟩; refine Hid.out ?_) | fail)
    have hB1 := HB0.out.trans (hb1.mono HB0.out.size)
    have H61 := Lib.hid (H6.out.kept hb1)
    obtain ⟨a0, a1, a2, a3, a4, a5⟩ := H61.out.out
    clear hb1 H6 HB0
    refine Lib.hid ?_
    go_wp2_with (first | (go_at_call 52; refine (HP.out _).mono ?_; rintro e w2 ⟨rfl, hw⟩; replace hw := hw.symm; subst hw; refine Hid.out ?_) | fail)
    refine Lib.hid ?_
    go_wp2_with (first | (go_at_call 52; refine (HN.out _).mono ?_; rintro e w2 ⟨rfl, hw⟩; replace hw := hw.symm; subst hw; refine Hid.out ?_) | fail)
    refine Lib.hid ?_
    go_wp2_with fail
    go_ret
    exact ⟨rfl, hB1⟩
  rw [Bool.true_and]
  by_cases hl : (p.ys.length : Int) = p.xs.length
  rotate_left
  · have e : decide ((p.ys.length : Int) = p.xs.length) = false := by simp; omega
    have d : ((p.ys.length : Int) == (p.xs.length : Int)) = false := by simp; omega
    rw [e, Bool.false_and]
    clear e hl
    go_enter Try.func36, Try.ntmps36
    go_wp2_with (first | (go_at_call 51; refine (HG.out _).mono ?_; rintro e w1 ⟨rfl, hb1⟩; refine Hid.out ?_) | fail)
    have hB1 := HB0.out.trans (hb1.mono HB0.out.size)
    have H61 := Lib.hid (H6.out.kept hb1)
    obtain ⟨a0, a1, a2, a3, a4, a5⟩ := H61.out.out
    clear hb1 H6 HB0
    refine Lib.hid ?_
    go_wp2_with (first | (go_at_call 52; refine (HP.out _).mono ?_; rintro e w2 ⟨rfl, hw⟩; replace hw := hw.symm; subst hw; refine Hid.out ?_) | fail)
    refine Lib.hid ?_
    go_wp2_with (first | (go_at_call 52; refine (HN.out _).mono ?_; rintro e w2 ⟨rfl, hw⟩; replace hw := hw.symm; subst hw; refine Hid.out ?_) | fail)
    refine Lib.hid ?_
    go_wp2_with fail
    go_ret
    exact ⟨rfl, hB1⟩
  have e : decide ((p.ys.length : Int) = p.xs.length) = true := by simp; omega
  rw [e, Bool.true_and]
  clear e
  have d : ((p.ys.length : Int) != (p.xs.length : Int)) = false := by simp; omega
  have hn : p.xs.length ≤ 12 := by simp at hv3; omega
  have HL := Lib.hid (show p.ys.length = p.xs.length by omega)
  clear hv3 hl
  go_enter Try.func36, Try.ntmps36
  go_wp2_with (first | (go_at_call 51; refine (HG.out _).mono ?_; rintro e w1 ⟨rfl, hb1⟩; refine Hid.out ?_) | fail)
  have hB1 := HB0.out.trans (hb1.mono HB0.out.size)
  have H61 := Lib.hid (H6.out.kept hb1)
  obtain ⟨a0, a1, a2, a3, a4, a5⟩ := H61.out.out
  clear hb1 H6 HB0
  refine Lib.hid ?_
  go_wp2_with (first | (go_at_call 52; refine (HP.out _).mono ?_; rintro e w2 ⟨rfl, hw⟩; replace hw := hw.symm; subst hw; refine Hid.out ?_) | fail)
  refine Lib.hid ?_
  go_wp2_with (first | (go_at_call 52; refine (HN.out _).mono ?_; rintro e w2 ⟨rfl, hw⟩; replace hw := hw.symm; subst hw; refine Hid.out ?_) | fail)
  have HPW := Lib.hid (HPA.out.kept hB1)
  clear HPA
  refine Lib.hid ?_
  go_wp2_with fail
  try rw [d]
  clear d
  go_loop [3] (fun i => ∃ k : Nat, k ≤ p.xs.length ∧ i = .int .i64 (k : Int) ∧ Hid (∀ j, j < k → volB (p.xs.getD j 0) = true ∧ volB (p.ys.getD j 0) = true)) (fun i => p.xs.length - (intOf i).toNat)
  case atStart => exact ⟨0, Nat.zero_le _, rfl, Lib.hid (fun j hj => absurd hj (by omega))⟩
  case round =>
    obtain ⟨k, hk, rfl, hno⟩ := hrel
    by_cases hlt : k < p.xs.length
    · obtain ⟨bx, ox, hAx, hbx, hcx⟩ := HPW.out.x.at_ hlt
      obtain ⟨by_, oy, hAy, hby, hcy⟩ := HPW.out.y.at_ (show k < p.ys.length by rw [HL.out]; exact hlt)
      have hly : (k : Int) < (p.ys.length : Int) := by rw [HL.out]; omega
      have hk0 : (0 : Int) ≤ (k : Int) := by omega
      subst hAx hAy
      have HIX := Lib.hid (fun w => in_eq (p.xs.getD k 0) 0 100 (volB (p.xs.getD k 0)) rfl w)
      have HIY := Lib.hid (fun w => svol_any (p.ys.getD k 0) w)
      cases hvx : volB (p.xs.getD k 0) with
      | false =>
        have HE := Lib.hid (show (volsB p.xs && volsB p.ys) = false by rw [vols_no hlt hvx]; rfl)
        rw [hvx] at HIX
        clear hvx HIY hno
        generalize p.xs.getD k 0 = x at *
        generalize p.ys.getD k 0 = y at *
        go_wp2_with (first | (go_at_call 52; refine (HIX.out _).mono ?_; rintro e w2 ⟨rfl, hw⟩; replace hw := hw.symm; subst hw; refine Hid.out ?_) | fail)
        refine Lib.hid ?_
        go_wp2_with fail
        go_ret
        exact ⟨by rw [HE.out]; rfl, hB1⟩
      | true =>
        rw [hvx] at HIX
        cases hvy : volB (p.ys.getD k 0) with
        | false =>
          have HE := Lib.hid (show (volsB p.xs && volsB p.ys) = false by rw [vols_no (show k < p.ys.length by rw [HL.out]; exact hlt) hvy]; simp)
          rw [hvy] at HIY
          clear hvy hvx hno
          generalize p.xs.getD k 0 = x at *
          generalize p.ys.getD k 0 = y at *
          go_wp2_with (first | (go_at_call 52; refine (HIX.out _).mono ?_; rintro e w2 ⟨rfl, hw⟩; replace hw := hw.symm; subst hw; refine Hid.out ?_) | fail)
          refine Lib.hid ?_
          go_wp2_with (first | (go_at_call 53; refine (HIY.out _).mono ?_; rintro e w2 ⟨rfl, hw⟩; replace hw := hw.symm; subst hw; refine Hid.out ?_) | fail)
          refine Lib.hid ?_
          go_wp2_with fail
          go_ret
          exact ⟨by rw [HE.out]; rfl, hB1⟩
        | true =>
          have hno2 := Lib.hid (show ∀ j, j < k + 1 → volB (p.xs.getD j 0) = true ∧ volB (p.ys.getD j 0) = true from fun j hj => by
            by_cases e : j = k
            · subst e; exact ⟨hvx, hvy⟩
            · exact hno.out j (by omega))
          rw [hvy] at HIY
          clear hvy hvx hno
          generalize hgx : p.xs.getD k 0 = x at *
          generalize hgy : p.ys.getD k 0 = y at *
          clear hgx hgy
          go_wp2_with (first | (go_at_call 52; refine (HIX.out _).mono ?_; rintro e w2 ⟨rfl, hw⟩; replace hw := hw.symm; subst hw; refine Hid.out ?_) | fail)
          refine Lib.hid ?_
          go_wp2_with (first | (go_at_call 53; refine (HIY.out _).mono ?_; rintro e w2 ⟨rfl, hw⟩; replace hw := hw.symm; subst hw; refine Hid.out ?_) | fail)
          refine Lib.hid ?_
          go_wp2_with fail
          go_round
          case rel => exact ⟨k + 1, by omega, by go_num, hno2⟩
          case measure => simp [intOf]; omega
    · have HE := Lib.hid (show (volsB p.xs && volsB p.ys) = true by rw [vols_mk (fun j hj => (hno.out j (by omega)).1), vols_mk (fun j hj => (hno.out j (by rw [HL.out] at hj; omega)).2)]; rfl)
      go_wp2
      go_ret
      exact ⟨by rw [HE.out]; rfl, hB1⟩
theorem lgood_v {p : Pg} {v : Bool} (hv : pgB p = v) (A : Option Addr) (c : Nat) (A2 : Option Addr) (c2 : Nat) (w : World) (h : PAt w p A A2) :
    Calls Try.prog 36 #[pv p A c A2 c2] w fun e w' => e = .returned (.bool v) ∧ Below w.heap.size w w' := by
  rw [← hv]; exact lgood_any p A c A2 c2 w h
theorem sivp_any (p : Pg) (A : Option Addr) (c : Nat) (A2 : Option Addr) (c2 : Nat) (w : World) (h : PAt w p A A2) :
    Calls Try.prog 12 #[pv p A c A2 c2] w fun e w' => e = .returned (.bool (pgB p)) ∧ Below w.heap.size w w' := by
  have H := Lib.hid (fun w' hb => lgood_any p A c A2 c2 w' (h.kept hb))
  have HB := Lib.hid (boxB w 31 p A c A2 c2)
  clear h
  generalize pgB p = v at *
  go_enter Try.func12, Try.ntmps12
  go_wp2_with (first | (go_at_call 36; refine (H.out _ HB.out).mono ?_; rintro e w1 ⟨rfl, hb1⟩; refine Hid.out ?_) | fail)
  refine Lib.hid ?_
  go_wp2_with fail
  go_ret
  exact ⟨rfl, HB.out.trans (hb1.mono HB.out.size)⟩
end Go.Proofs.Ytlkomipjamelkaa.S13
