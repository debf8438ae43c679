/- Whether a tariff is valid: what the model returns: contracts. Conditions: each theorem's own premises. -/
import Derived.Test.YtidlpoambmeiiaaTaGood
namespace Go.Proofs.Ytidlpoambmeiiaa.S14
open Go.RowKit P14

theorem in_met (x a b : Int) (v : Bool) (h : decide (a ≤ x ∧ x ≤ b) = v) (w : World) :
    Calls Try.prog 60 #[.int .i64 x, .int .i64 a, .int .i64 b] w fun e w' => e = .returned (.bool v) ∧ Below w.heap.size w w' := by
  refine (in_eq x a b v h w).mono ?_
  rintro e w' ⟨rfl, rfl⟩
  exact ⟨rfl, Below.refl _ _⟩
theorem box_b2 {w wr : World} {ty : TypeId} {t : Ta} {A : Option Addr} {c : Nat} (h : Below (w.heap.size + 1) (w.alloc (tb ty t A c)) wr) : B2 wr w.heap.size t A c := C2.keep (B2.new w ty t A c) h (by omega)
theorem Ok.up {bs : List Bl} {k : Nat} (hto : To bs k) (h : Ok bs k) : 0 < (cAt bs k).up := by
  have h1 := pre_mono hto (Nat.zero_le k) (Nat.le_refl _)
  have h2 : pre bs 0 = 0 := rfl
  have := h.1
  omega
set_option maxHeartbeats 8000000 in
theorem sgood_any (t : Ta) (A : Option Addr) (c : Nat) (w : World) (h : TAt w t A) :
    Calls Try.prog 53 #[tv t A c] w (GPost t w) := by
  have HA := Lib.hid h.x
  have hlm := h.xl
  have HB0 := Lib.hid (alloc_below w (tb 29 t A c))
  clear h
  obtain ⟨v1, hv1⟩ : ∃ v, decide (0 ≤ t.fee ∧ t.fee ≤ 100000) = v := ⟨_, rfl⟩
  obtain ⟨v0, hv0⟩ : ∃ v, decide (1 ≤ ((t.bs.length : Nat) : Int) ∧ ((t.bs.length : Nat) : Int) ≤ 5) = v := ⟨_, rfl⟩
  have H1 := Lib.hid (fun w => in_eq t.fee 0 100000 v1 hv1 w)
  have H0 := Lib.hid (fun w => in_eq ((t.bs.length : Nat) : Int) 1 5 v0 hv0 w)
  cases v1 with
  | false =>
    have HV := Lib.hid (gB_fee (t := t) (by simpa using hv1))
    clear hv1 hv0
    go_enter Try.func53, Try.ntmps53
    go_wp2_with (first | (go_at_call_of 60 (Value.int IntKind.i64 t.fee); refine (H1.out _).mono ?_; rintro e w1 ⟨rfl, hw⟩; replace hw := hw.symm; subst hw) | (go_at_call 60; refine (H0.out _).mono ?_; rintro e w1 ⟨rfl, hw⟩; replace hw := hw.symm; subst hw))
    go_ret
    exact gpost HV.out HB0.out
  | true =>
    cases v0 with
    | false =>
      have HV := Lib.hid (gB_len (t := t) (by simp at hv0; omega))
      clear hv1 hv0
      go_enter Try.func53, Try.ntmps53
      go_wp2_with (first | (go_at_call_of 60 (Value.int IntKind.i64 t.fee); refine (H1.out _).mono ?_; rintro e w1 ⟨rfl, hw⟩; replace hw := hw.symm; subst hw) | (go_at_call 60; refine (H0.out _).mono ?_; rintro e w1 ⟨rfl, hw⟩; replace hw := hw.symm; subst hw))
      go_ret
      exact gpost HV.out HB0.out
    | true =>
      have hf : 0 ≤ t.fee ∧ t.fee ≤ 100000 := by simpa using hv1
      have hl : 1 ≤ t.bs.length ∧ t.bs.length ≤ 5 := by simp at hv0; omega
      clear hv1 hv0
      obtain ⟨j, hj⟩ : ∃ j, t.bs.length = j + 1 := ⟨t.bs.length - 1, by omega⟩
      have HL := Lib.hid (show pre t.bs t.bs.length = (cAt t.bs j).up by rw [hj]; rfl)
      obtain ⟨b, off, hA, hbl, z0, z1⟩ := HA.out.at_ (show j < t.bs.length by omega)
      subst hA
      have hj1 : ((t.bs.length : Nat) : Int) - 1 = (j : Int) := by omega
      have hj2 : (0 : Int) ≤ (j : Int) := by omega
      have hj3 : (j : Int) < ((t.bs.length : Nat) : Int) := by omega
      have HJ := Lib.hid hj
      have HF := Lib.hid hf
      have HLE := Lib.hid hl
      clear hj hf hl z1
      by_cases hu : (cAt t.bs j).up = 100000
      · rw [hu] at z0
        have HU := Lib.hid (HL.out.trans hu)
        clear hu HL
        go_enter Try.func53, Try.ntmps53
        go_wp2_with (first | (go_at_call_of 60 (Value.int IntKind.i64 t.fee); refine (H1.out _).mono ?_; rintro e w1 ⟨rfl, hw⟩; replace hw := hw.symm; subst hw) | (go_at_call 60; refine (H0.out _).mono ?_; rintro e w1 ⟨rfl, hw⟩; replace hw := hw.symm; subst hw))
        clear z0 hj1 hj2 hj3 hbl
        go_loopw [4] (fun i wr => ∃ k : Nat, k ≤ t.bs.length ∧ i = .int .i64 k ∧ Hid (To t.bs k) ∧ Hid (Below (w.heap.size + 1) (w.alloc (tb 29 t (some ⟨b, off, none⟩) c)) wr)) (fun i _ => t.bs.length - (intOf i).toNat)
        case atStart => exact ⟨0, Nat.zero_le _, rfl, Lib.hid (To.zero _), Lib.hid (Below.refl _ _)⟩
        case round =>
          obtain ⟨k, hk, rfl, hto, HB⟩ := hrel
          by_cases hlt : k < t.bs.length
          · obtain ⟨b', off', hA, hbl, h0, h1⟩ := HA.out.at_ hlt
            simp only [Option.some.injEq, Addr.mk.injEq, and_true] at hA
            obtain ⟨rfl, rfl⟩ := hA
            have hk0 : (0 : Int) ≤ (k : Int) := by omega
            have hkn : (k : Int) < (t.bs.length : Int) := by omega
            have hzb := box_lt HB.out
            have hbr : b < wr.heap.size := by omega
            have HBN := Lib.hid (HB.out.alloc (show w.heap.size + 1 ≤ wr.heap.size by omega) (.cells #[.int .i64 (cAt t.bs k).up, .int .i64 (cAt t.bs k).pr] 62))
            have hzn := new_lt wr (.cells #[.int .i64 (cAt t.bs k).up, .int .i64 (cAt t.bs k).pr] 62)
            have HCN := Lib.hid (C2.new wr 62 (.int .i64 (cAt t.bs k).up) (.int .i64 (cAt t.bs k).pr))
            have HAN := Lib.hid (HA.out.kept (below_box HBN.out) (Nat.le_refl _))
            have HQN := Lib.hid (box_b2 HBN.out)
            obtain ⟨_, q0, q1, _⟩ := box_b2 HB.out
            replace h0 := ((below_box HB.out).cell (p := ⟨b, off + k * 2, none⟩) hbl).trans h0
            replace h1 := ((below_box HB.out).cell (p := ⟨b, off + k * 2 + 1, none⟩) hbl).trans h1
            have HNX := Lib.hid (fun h => hto.out.next (k := k) h)
            have HBAD := Lib.hid (fun h => gB_bad (t := t) (k := k) hlt h)
            have HUP := Lib.hid (fun h => Ok.up hto.out (k := k) h)
            have HPR := Lib.hid (fun (h : k = 0) => show pre t.bs k = 0 by rw [h]; rfl)
            have HPJ := Lib.hid (fun m (h : k = m + 1) => show pre t.bs k = (cAt t.bs m).up by rw [h]; rfl)
            have HOK := Lib.hid (show Ok t.bs k ↔ pre t.bs k < (cAt t.bs k).up ∧ 0 ≤ (cAt t.bs k).pr ∧ (cAt t.bs k).pr ≤ 1000 from Iff.rfl)
            generalize (cAt t.bs k).up = x at *
            generalize (cAt t.bs k).pr = y at *
            have hG := @cell_g
            by_cases e1 : x < 1
            · have HV := Lib.hid (HBAD.out (fun h => by have := HUP.out h; omega))
              have H2 := Lib.hid (fun w => in_met y 0 1000 _ rfl w)
              have d1 : decide (x < 1) = true := by simp [e1]
              go_wp2
              generalize hWa : wr.alloc (.cells #[.int .i64 x, .int .i64 y] 62) = wa at *
              clear hWa q0 q1 h0 h1
              obtain ⟨_, x0, x1, _⟩ := HCN.out
              obtain ⟨hlw, p0, p1, _⟩ := HQN.out
              have hbw : b < wa.heap.size := by omega
              refine region_below (by kernel_rfl) (by kernel_rfl) ?_
              repeat (first | go_big_quiet_step ((go_at_call 60; exact met H2.out)))
              refine wpQuiet_nil ?_
              intro w1 hb1
              have HB1 := Lib.hid (HBN.out.trans (hb1.mono (by omega)))
              clear hb1
              go_wp2
              go_ret
              exact gpost HV.out (below_box HB1.out)
            · have d1 : decide (x < 1) = false := by simp [e1]
              obtain ⟨v2, hv2⟩ : ∃ v, decide (0 ≤ y ∧ y ≤ 1000) = v := ⟨_, rfl⟩
              have H2 := Lib.hid (fun w => in_met y 0 1000 v2 hv2 w)
              cases v2 with
              | false =>
                have HV := Lib.hid (HBAD.out (fun h => by have := HOK.out.1 h; simp at hv2; omega))
                clear hv2
                go_wp2
                generalize hWa : wr.alloc (.cells #[.int .i64 x, .int .i64 y] 62) = wa at *
                clear hWa q0 q1 h0 h1
                obtain ⟨_, x0, x1, _⟩ := HCN.out
                obtain ⟨hlw, p0, p1, _⟩ := HQN.out
                have hbw : b < wa.heap.size := by omega
                refine region_below (by kernel_rfl) (by kernel_rfl) ?_
                repeat (first | go_big_quiet_step ((go_at_call 60; exact met H2.out)))
                refine wpQuiet_nil ?_
                intro w1 hb1
                have HB1 := Lib.hid (HBN.out.trans (hb1.mono (by omega)))
                clear hb1
                go_wp2
                go_ret
                exact gpost HV.out (below_box HB1.out)
              | true =>
                have hy : 0 ≤ y ∧ y ≤ 1000 := by simpa using hv2
                clear hv2
                by_cases ek : k = 0
                · have HT := Lib.hid (HNX.out (HOK.out.2 ⟨by rw [HPR.out ek]; omega, hy⟩))
                  have d3 : decide ((0 : Int) < (k : Int)) = false := by simp; omega
                  have d3n : decide (0 < k) = false := by simp; omega
                  clear ek hy
                  go_wp2
                  generalize hWa : wr.alloc (.cells #[.int .i64 x, .int .i64 y] 62) = wa at *
                  clear hWa q0 q1 h0 h1
                  obtain ⟨_, x0, x1, _⟩ := HCN.out
                  obtain ⟨hlw, p0, p1, _⟩ := HQN.out
                  have hbw : b < wa.heap.size := by omega
                  refine region_below (by kernel_rfl) (by kernel_rfl) ?_
                  repeat (first | go_big_quiet_step ((go_at_call 60; exact met H2.out)))
                  refine wpQuiet_nil ?_
                  intro w1 hb1
                  have HB1 := Lib.hid (HBN.out.trans (hb1.mono (by omega)))
                  clear hb1
                  go_wp2
                  go_roundw
                  case rel => exact ⟨k + 1, by omega, by go_num, HT, HB1⟩
                  case measure => simp [intOf]; omega
                · obtain ⟨m, hm⟩ : ∃ m, k = m + 1 := ⟨k - 1, by omega⟩
                  have d3 : decide ((0 : Int) < (k : Int)) = true := by simp; omega
                  have d3n : decide (0 < k) = true := by simp; omega
                  obtain ⟨b', off', hA, hbl', g0, _⟩ := HAN.out.at_ (show m < t.bs.length by omega)
                  simp only [Option.some.injEq, Addr.mk.injEq, and_true] at hA
                  obtain ⟨rfl, rfl⟩ := hA
                  have HPM := Lib.hid (HPJ.out m hm)
                  have hmw : (k : Int) - 1 = (m : Int) := by omega
                  have hm0 : (0 : Int) ≤ (m : Int) := by omega
                  have hmn : (m : Int) < (t.bs.length : Int) := by omega
                  have hmr : IntKind.i64.wrap (m : Int) = (m : Int) := IntWalk.i64_in _ (by omega)
                  generalize (cAt t.bs m).up = u at *
                  clear hm ek
                  by_cases e4 : x ≤ u
                  · have d4 : decide (x ≤ u) = true := by simp [e4]
                    have HV := Lib.hid (HBAD.out (fun h => by have := HOK.out.1 h; rw [HPM.out] at this; omega))
                    go_wp2
                    generalize hWa : wr.alloc (.cells #[.int .i64 x, .int .i64 y] 62) = wa at *
                    clear hWa q0 q1 h0 h1
                    obtain ⟨_, x0, x1, _⟩ := HCN.out
                    obtain ⟨hlw, p0, p1, _⟩ := HQN.out
                    have hbw : b < wa.heap.size := by omega
                    refine region_below (by kernel_rfl) (by kernel_rfl) ?_
                    repeat (first | go_big_quiet_step ((go_at_call 60; exact met H2.out)))
                    refine wpQuiet_nil ?_
                    intro w1 hb1
                    have HB1 := Lib.hid (HBN.out.trans (hb1.mono (by omega)))
                    clear hb1
                    go_wp2
                    go_ret
                    exact gpost HV.out (below_box HB1.out)
                  · have d4 : decide (x ≤ u) = false := by simp [e4]
                    have HT := Lib.hid (HNX.out (HOK.out.2 ⟨by rw [HPM.out]; omega, hy⟩))
                    clear hy
                    go_wp2
                    generalize hWa : wr.alloc (.cells #[.int .i64 x, .int .i64 y] 62) = wa at *
                    clear hWa q0 q1 h0 h1
                    obtain ⟨_, x0, x1, _⟩ := HCN.out
                    obtain ⟨hlw, p0, p1, _⟩ := HQN.out
                    have hbw : b < wa.heap.size := by omega
                    refine region_below (by kernel_rfl) (by kernel_rfl) ?_
                    repeat (first | go_big_quiet_step ((go_at_call 60; exact met H2.out)))
                    refine wpQuiet_nil ?_
                    intro w1 hb1
                    have HB1 := Lib.hid (HBN.out.trans (hb1.mono (by omega)))
                    clear hb1
                    go_wp2
                    go_roundw
                    case rel => exact ⟨k + 1, by omega, by go_num, HT, HB1⟩
                    case measure => simp [intOf]; omega
          · have e : k = t.bs.length := by omega
            have HV := Lib.hid (gB_mk (t := t) ⟨HF.out, HLE.out, e ▸ hto.out, HU.out⟩)
            have hkn : ¬ ((k : Int) < (t.bs.length : Int)) := by omega
            obtain ⟨_, q0, q1, _⟩ := box_b2 HB.out
            clear e
            go_wp2
            go_ret
            exact gpost HV.out (below_box HB.out)
      · have HV := Lib.hid (gB_end (t := t) (by rw [HL.out]; exact hu))
        have hu2 : ((cAt t.bs j).up == 100000) = false := by simpa using hu
        clear HL
        generalize (cAt t.bs j).up = u at *
        go_enter Try.func53, Try.ntmps53
        go_wp2_with (first | (go_at_call_of 60 (Value.int IntKind.i64 t.fee); refine (H1.out _).mono ?_; rintro e w1 ⟨rfl, hw⟩; replace hw := hw.symm; subst hw) | (go_at_call 60; refine (H0.out _).mono ?_; rintro e w1 ⟨rfl, hw⟩; replace hw := hw.symm; subst hw))
        go_ret
        exact gpost HV.out HB0.out
  theorem sgood_w {t : Ta} {v : Bool} (hv : gB t = v) (A : Option Addr) (c : Nat) (w : World) (h : TAt w t A) :
      Calls Try.prog 53 #[tv t A c] w fun e w' => e = .returned (.bool v) ∧ Below w.heap.size w w' := by
    rw [← hv]; exact sgood_any t A c w h
  theorem svalid_any (t : Ta) (A : Option Addr) (c : Nat) (w : World) (h : TAt w t A) :
      Calls Try.prog 16 #[tv t A c] w fun e w' => e = .returned (.bool (gB t)) ∧ Below w.heap.size w w' := by
    have H := Lib.hid (fun w' (hb : Below w.heap.size w w') => sgood_w (v := gB t) rfl A c w' (h.kept hb))
    have HB0 := Lib.hid (alloc_below w (tb 29 t A c))
    clear h
    generalize gB t = v at *
    go_enter Try.func16, Try.ntmps16
    go_wp2_with (first | (go_at_call 53; refine (H.out _ HB0.out).mono ?_; rintro e w1 ⟨rfl, hb1⟩; refine Hid.out ?_) | fail)
    have hB1 := HB0.out.trans (hb1.mono HB0.out.size)
    refine Lib.hid ?_
    go_wp2_with fail
    go_ret
    exact ⟨rfl, hB1⟩
end Go.Proofs.Ytidlpoambmeiiaa.S14
