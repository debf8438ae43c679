/- NextPrice and VolumeFor of the model: contracts. Conditions: each theorem's own premises. -/
import Derived.Test.YtidlpoambmeiiaaTaNx
import Derived.Test.YtidlpoambmeiiaaTaSplS
namespace Go.Proofs.Ytidlpoambmeiiaa.S14
open Go.RowKit P14

set_option maxHeartbeats 4000000 in
theorem snext_any (t : Ta) (A : Option Addr) (c : Nat) (v : Int) (w : World) (h : TAt w t A) :
    Calls Try.prog 22 #[tv t A c, .int .i64 v] w (NxI t v w) := by
  have HA := Lib.hid h.x
  have HB0 := Lib.hid (alloc_below w (tb 29 t A c))
  have HQ0 := Lib.hid (B2.new w 29 t A c)
  obtain ⟨b, hb⟩ : ∃ b, gB t = b := ⟨_, rfl⟩
  obtain ⟨d, hd⟩ : ∃ d, decide (0 ≤ v ∧ v ≤ 100000) = d := ⟨_, rfl⟩
  have HG := Lib.hid (fun w' (hb' : Below w.heap.size w w') => sgood_w hb A c w' (h.kept hb'))
  have HV := Lib.hid (fun w => svol_any v d hd w)
  clear h
  cases b with
  | false =>
    have HN := Lib.hid (nxV_bad (v := v) hb)
    clear hb hd HV
    go_enter Try.func22, Try.ntmps22
    go_wp2_with (first | (go_at_call 53; refine (HG.out _ HB0.out).mono ?_; rintro e w1 ⟨rfl, hb1⟩; have HB1 := Lib.hid (HB0.out.trans (hb1.mono HB0.out.size)); have HQ1 := Lib.hid (C2.kept HQ0.out hb1); clear hb1; refine Hid.out ?_) | fail)
    refine Lib.hid ?_
    go_wp2_with fail
    go_ret2
    exact nx_no HN.out HB1.out
  | true =>
    cases d with
    | false =>
      have HN := Lib.hid (nxV_low (t := t) (v := v) (by simp at hd; omega))
      clear hb hd
      go_enter Try.func22, Try.ntmps22
      go_wp2_with (first | (go_at_call 53; refine (HG.out _ HB0.out).mono ?_; rintro e w1 ⟨rfl, hb1⟩; have HB1 := Lib.hid (HB0.out.trans (hb1.mono HB0.out.size)); have HQ1 := Lib.hid (C2.kept HQ0.out hb1); clear hb1; refine Hid.out ?_) | fail)
      refine Lib.hid ?_
      go_wp2_with (first | (go_at_call 56; refine (HV.out _).mono ?_; rintro e w2 ⟨rfl, hw⟩; replace hw := hw.symm; subst hw) | fail)
      go_ret2
      exact nx_no HN.out HB1.out
    | true =>
      have hr : 0 ≤ v ∧ v ≤ 100000 := by simpa using hd
      have HGB := Lib.hid hb
      clear hd hb
      by_cases he : v = 100000
      · have HN := Lib.hid (nxV_low (t := t) (v := v) (by omega))
        have he2 : (v == 100000) = true := by simp [he]
        clear he hr
        go_enter Try.func22, Try.ntmps22
        go_wp2_with (first | (go_at_call 53; refine (HG.out _ HB0.out).mono ?_; rintro e w1 ⟨rfl, hb1⟩; have HB1 := Lib.hid (HB0.out.trans (hb1.mono HB0.out.size)); have HQ1 := Lib.hid (C2.kept HQ0.out hb1); clear hb1; refine Hid.out ?_) | fail)
        refine Lib.hid ?_
        go_wp2_with (first | (go_at_call 56; refine (HV.out _).mono ?_; rintro e w2 ⟨rfl, hw⟩; replace hw := hw.symm; subst hw) | fail)
        go_ret2
        exact nx_no HN.out HB1.out
      · have hr2 : 0 ≤ v ∧ v < 100000 := by omega
        have HOK := Lib.hid (nxV_mk HGB.out hr2)
        have he2 : (v == 100000) = false := by simp [he]
        obtain ⟨m, HX⟩ : ∃ m, Hid (NX t v m) := by obtain ⟨i, hi⟩ := nx_ex (gB_of HGB.out) hr2.1 hr2.2; exact ⟨i, Lib.hid hi⟩
        have hmn := HX.out.1
        have hln := (gB_of HGB.out).2.1.2
        clear he hr hr2
        go_enter Try.func22, Try.ntmps22
        go_wp2_with (first | (go_at_call 53; refine (HG.out _ HB0.out).mono ?_; rintro e w1 ⟨rfl, hb1⟩; have HB1 := Lib.hid (HB0.out.trans (hb1.mono HB0.out.size)); have HQ1 := Lib.hid (C2.kept HQ0.out hb1); clear hb1; refine Hid.out ?_) | fail)
        obtain ⟨_, q0, q1, _⟩ := HQ1.out
        clear HB0 HQ0 HG
        refine Lib.hid ?_
        go_wp2_with (first | (go_at_call 56; refine (HV.out _).mono ?_; rintro e w2 ⟨rfl, hw⟩; replace hw := hw.symm; subst hw) | fail)
        go_loopw [6] (fun i wr => ∃ k : Nat, k ≤ m ∧ i = .int .i64 (k : Int) ∧ Hid (wr = w1)) (fun i _ => m - (intOf i).toNat)
        case atStart => exact ⟨0, Nat.zero_le _, rfl, Lib.hid rfl⟩
        case round =>
          obtain ⟨k, hk, rfl, hw⟩ := hrel
          have hw' := hw.out
          clear hw
          subst hw'
          obtain ⟨b, off, hA, hbl, p0, p1⟩ := (HA.out.kept HB1.out (Nat.le_refl _)).at_ (show k < t.bs.length by omega)
          subst hA
          have hk0 : (0 : Int) ≤ (k : Int) := by omega
          have hkn : (k : Int) < (t.bs.length : Int) := by omega
          by_cases hlt : k < m
          · have hle : (cAt t.bs k).up ≤ v := by
              have h1 := (gB_of HGB.out).mono (i := k + 1) (j := m) (by omega) (by omega)
              have h2 := HX.out.2.2
              have h3 : (cAt t.bs k).up ≤ pre t.bs m := h1
              omega
            generalize (cAt t.bs k).up = x at *
            go_wp2
            go_roundw
            case rel => exact ⟨k + 1, by omega, by go_num, Lib.hid (by trivial)⟩
            case measure => simp [intOf]; omega
          · have e : k = m := by omega
            subst e
            have hgt : ¬ (cAt t.bs k).up ≤ v := by have := HX.out.2.1; omega
            have HR := Lib.hid (nxR_yes HGB.out HX.out)
            generalize (cAt t.bs k).up = x at *
            generalize (cAt t.bs k).pr = y at *
            go_wp2
            go_ret2
            exact ⟨by rw [HR.out, HOK.out]; rfl, HB1.out⟩
set_option maxHeartbeats 4000000 in
theorem svolume_any (t : Ta) (A : Option Addr) (c : Nat) (v : Int) (w : World) (h : TAt w t A) :
    Calls Try.prog 24 #[tv t A c, .int .i64 v] w (VfI t v w) := by
  have HT := Lib.hid h
  have HB0 := Lib.hid (alloc_below w (tb 29 t A c))
  have HQ0 := Lib.hid (B2.new w 29 t A c)
  obtain ⟨b, hb⟩ : ∃ b, gB t = b := ⟨_, rfl⟩
  obtain ⟨d, hd⟩ : ∃ d, decide (t.fee ≤ v ∧ v ≤ 1000000000) = d := ⟨_, rfl⟩
  have HG := Lib.hid (fun w' (hb' : Below w.heap.size w w') => sgood_w hb A c w' (h.kept hb'))
  have HV := Lib.hid (fun w => in_eq v t.fee 1000000000 d hd w)
  clear h
  cases b with
  | false =>
    have HN := Lib.hid (vfV_bad (c := v) hb)
    clear hb hd HV
    go_enter Try.func24, Try.ntmps24
    go_wp2_with (first | (go_at_call 53; refine (HG.out _ HB0.out).mono ?_; rintro e w1 ⟨rfl, hb1⟩; have HB1 := Lib.hid (HB0.out.trans (hb1.mono HB0.out.size)); have HQ1 := Lib.hid (C2.kept HQ0.out hb1); clear hb1; refine Hid.out ?_) | fail)
    refine Lib.hid ?_
    go_wp2_with fail
    go_ret2
    exact vf_no HN.out HB1.out
  | true =>
    cases d with
    | false =>
      have HN := Lib.hid (vfV_low (t := t) (c := v) (by simpa using hd))
      clear hb hd
      go_enter Try.func24, Try.ntmps24
      go_wp2_with (first | (go_at_call 53; refine (HG.out _ HB0.out).mono ?_; rintro e w1 ⟨rfl, hb1⟩; have HB1 := Lib.hid (HB0.out.trans (hb1.mono HB0.out.size)); have HQ1 := Lib.hid (C2.kept HQ0.out hb1); clear hb1; refine Hid.out ?_) | fail)
      obtain ⟨_, q0, q1, _⟩ := HQ1.out
      refine Lib.hid ?_
      go_wp2_with (first | (go_at_call 60; refine (HV.out _).mono ?_; rintro e w2 ⟨rfl, hw⟩; replace hw := hw.symm; subst hw) | fail)
      go_ret2
      exact vf_no HN.out HB1.out
    | true =>
      have hr : t.fee ≤ v ∧ v ≤ 1000000000 := by simpa using hd
      have HGB := Lib.hid hb
      have HOK := Lib.hid (vfV_mk hb hr)
      have HZ := Lib.hid (show cost t ((0 : Nat) : Int) ≤ v by have := cost_zero (gB_of hb); simp only [Int.natCast_zero]; omega)
      clear hd hb hr
      go_enter Try.func24, Try.ntmps24
      go_wp2_with (first | (go_at_call 53; refine (HG.out _ HB0.out).mono ?_; rintro e w1 ⟨rfl, hb1⟩; have HB1 := Lib.hid (HB0.out.trans (hb1.mono HB0.out.size)); have HQ1 := Lib.hid (C2.kept HQ0.out hb1); clear hb1; refine Hid.out ?_) | fail)
      obtain ⟨_, q0, q1, _⟩ := HQ1.out
      clear HB0 HQ0 HG
      refine Lib.hid ?_
      go_wp2_with (first | (go_at_call 60; refine (HV.out _).mono ?_; rintro e w2 ⟨rfl, hw⟩; replace hw := hw.symm; subst hw) | fail)
      clear q0 q1
      go_loopw [6, 7, 8] (fun lo hi _ wr => ∃ I J : Nat, I ≤ J ∧ J ≤ 100000 ∧ lo = .int .i64 (I : Int) ∧ hi = .int .i64 (J : Int) ∧ Hid (cost t (I : Int) ≤ v) ∧ Hid (J < 100000 → v < cost t ((J : Int) + 1)) ∧ Hid (Below w1.heap.size w1 wr)) (fun lo hi _ _ => (intOf hi - intOf lo).toNat)
      case atStart => exact ⟨0, 100000, by omega, Nat.le_refl _, rfl, rfl, HZ, Lib.hid (fun h => absurd h (by omega)), Lib.hid (Below.refl _ _)⟩
      case round =>
        obtain ⟨I, J, hIJ, hJ, rfl, rfl, hlow, hhigh, hb⟩ := hrel
        obtain ⟨_, q0, q1, _⟩ := C2.kept HQ1.out hb.out
        by_cases hlt : I < J
        · obtain ⟨M, hM⟩ : ∃ M, M = (I + J + 1) / 2 := ⟨_, rfl⟩
          have hM1 : I < M := by omega
          have hM2 : M ≤ J := by omega
          have hMt : ((I : Int) + (J : Int) + 1).tdiv 2 = (M : Int) := by rw [Int.tdiv_eq_ediv_of_nonneg (by omega)]; omega
          have hMd : ((I : Int) + (J : Int) + 1) / 2 = (M : Int) := by omega
          have HC := Lib.hid (scost_any t A c (M : Int) wr (HT.out.kept (HB1.out.trans (hb.out.mono HB1.out.size))) (gB_of HGB.out) (by omega) (by omega))
          obtain ⟨C, hC⟩ : ∃ C, C = cost t (M : Int) := ⟨_, rfl⟩
          rw [← hC] at HC
          have HCC := Lib.hid hC
          clear hM hC
          by_cases hle : C ≤ v
          · have hl2 := Lib.hid (show cost t (M : Int) ≤ v by rw [← HCC.out]; exact hle)
            go_wp2_with (go_at_call 57; refine HC.out.mono ?_; rintro e w3 ⟨rfl, hb3⟩; have HB3 := Lib.hid (hb.out.trans (hb3.mono hb.out.size)); clear hb3)
            go_roundw
            case rel => exact ⟨M, J, hM2, hJ, rfl, rfl, hl2, hhigh, HB3⟩
            case measure => simp [intOf]; omega
          · have hh2 := Lib.hid (show M - 1 < 100000 → v < cost t (((M - 1 : Nat) : Int) + 1) from fun _ => by rw [show ((M - 1 : Nat) : Int) + 1 = (M : Int) by omega, ← HCC.out]; omega)
            have hm1 : ((M - 1 : Nat) : Int) = (M : Int) - 1 := by omega
            have HM1 := Lib.hid hm1
            clear hm1
            go_wp2_with (go_at_call 57; refine HC.out.mono ?_; rintro e w3 ⟨rfl, hb3⟩; have HB3 := Lib.hid (hb.out.trans (hb3.mono hb.out.size)); clear hb3)
            go_roundw
            case rel => exact ⟨I, M - 1, by omega, by omega, rfl, by rw [HM1.out], hlow, hh2, HB3⟩
            case measure => simp [intOf]; omega
        · have e : I = J := by omega
          subst e
          have HR := Lib.hid (vfR_yes HOK.out (v := (I : Int)) ⟨⟨by omega, by omega⟩, hlow.out, fun h => hhigh.out (by omega)⟩)
          have HBF := Lib.hid (HB1.out.trans (hb.out.mono HB1.out.size))
          go_wp2
          go_ret2
          exact ⟨by rw [HR.out, HOK.out]; rfl, HBF.out⟩
end Go.Proofs.Ytidlpoambmeiiaa.S14
