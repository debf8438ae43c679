/- Whether a curve is valid, the model: contracts. Conditions: each theorem's own premises. -/
import Derived.Test.YtpldbakllegheabCvGood
namespace Go.Proofs.Ytpldbakllegheab.S7
open Go.RowKit P7

set_option maxHeartbeats 8000000 in
theorem sgood_any (A : Option Addr) (cap : Nat) (cs : List Cp) (w : World) (h : CAt w A cs) (hm : cs.length ≤ 1048576) :
    Calls Try.prog 53 #[.slice A cs.length cap] w (GoodPost cs w) := by
  have HA := Lib.hid h
  clear h
  go_enter Try.func53, Try.ntmps53
  go_wp2
  go_loopw [3] (fun i wr => ∃ k : Nat, k ≤ cs.length ∧ i = .int .i64 k ∧ Hid (To cs k) ∧ Below w.heap.size w wr) (fun i _ => cs.length - (intOf i).toNat)
  case atStart => exact ⟨0, Nat.zero_le _, rfl, Lib.hid (To.zero _), Below.refl _ _⟩
  case round =>
    obtain ⟨k, hk, rfl, hto, hb⟩ := hrel
    by_cases hlt : k < cs.length
    · obtain ⟨b, off, hA, hbl, h0, h1⟩ := HA.out.at_ hlt
      subst hA
      obtain ⟨hc, hf⟩ := bcell hb
      have hk0 : (0 : Int) ≤ (k : Int) := by omega
      have hkn : (k : Int) < (cs.length : Int) := by omega
      have hbad := Lib.hid (fun h => gB_bad (cs := cs) (k := k) hlt h)
      have hnext := Lib.hid (fun h => hto.out.next (k := k) h)
      have HK0 := Lib.hid (show k = 0 → (cAt cs k).fl = (cAt cs 0).fl from fun h => by rw [h])
      obtain ⟨x, hx⟩ : ∃ x, x = (cAt cs k).fl := ⟨_, rfl⟩
      obtain ⟨y, hy⟩ : ∃ y, y = (cAt cs k).hd := ⟨_, rfl⟩
      rw [← hx] at h0
      rw [← hy] at h1
      have HX := Lib.hid hx
      have HY := Lib.hid hy
      obtain ⟨v1, hv1⟩ : ∃ v, vB x = v := ⟨_, rfl⟩
      obtain ⟨v2, hv2⟩ : ∃ v, vB y = v := ⟨_, rfl⟩
      have H1 := Lib.hid (fun w => sval_eq x v1 hv1 w)
      have H2 := Lib.hid (fun w => sval_eq y v2 hv2 w)
      have HV1 := Lib.hid hv1
      have HV2 := Lib.hid hv2
      clear hx hy hv1 hv2
      by_cases hvv : v1 = true ∧ v2 = true
      · obtain ⟨rfl, rfl⟩ := hvv
        have q1 := vB_iff.1 HV1.out
        have q2 := vB_iff.1 HV2.out
        by_cases hk00 : k = 0
        · subst hk00
          simp only [Nat.zero_mul, Nat.add_zero] at h0 h1
          by_cases hz : x = 0
          · have hz2 := Lib.hid hz
            subst hz
            have HN := Lib.hid (hnext.out ⟨by rw [← HX.out]; exact q1, by rw [← HY.out]; exact q2, fun _ => HX.out.symm, fun h => absurd h (by omega)⟩)
            clear hbad hnext HK0
            go_wp2_with (first
              | (go_at_call 52; refine (H1.out _).mono ?_; rintro e w' ⟨rfl, hw⟩; replace hw := hw.symm; subst hw)
              | (go_at_call 52; refine (H2.out _).mono ?_; rintro e w' ⟨rfl, hw⟩; replace hw := hw.symm; subst hw))
            go_quiet (fail)
            go_wp2
            go_roundw
            case rel => exact ⟨1, by omega, by go_num, HN, below_drewN hb _⟩
            case measure => simp [intOf]; omega
          · have hfin := Lib.hid (hbad.out (fun h => hz (HX.out.trans (h.2.2.1 rfl))))
            clear hbad hnext HK0
            go_wp2_with (first
              | (go_at_call 52; refine (H1.out _).mono ?_; rintro e w' ⟨rfl, hw⟩; replace hw := hw.symm; subst hw)
              | (go_at_call 52; refine (H2.out _).mono ?_; rintro e w' ⟨rfl, hw⟩; replace hw := hw.symm; subst hw))
            go_ret
            exact good_post hfin.out hb
        · obtain ⟨j, rfl⟩ : ∃ j, k = j + 1 := ⟨k - 1, by omega⟩
          obtain ⟨b', off', hA', hbl', g0, g1⟩ := HA.out.at_ (show j < cs.length by omega)
          simp only [Option.some.injEq, Addr.mk.injEq, and_true] at hA'
          obtain ⟨rfl, rfl⟩ := hA'
          have hj0 : (0 : Int) ≤ (j : Int) := by omega
          have hj2 : (0 : Int) ≤ (j : Int) + 1 := by omega
          have hj3 : (j : Int) + 1 < (cs.length : Int) := by omega
          have hjw : IntKind.i64.wrap (j : Int) = (j : Int) := IntWalk.i64_in _ (by omega)
          have hj1 : (j : Int) < (cs.length : Int) := by omega
          have HJ := Lib.hid (show cAt cs (j + 1 - 1) = cAt cs j by simp)
          obtain ⟨u, hu⟩ : ∃ u, u = (cAt cs j).fl := ⟨_, rfl⟩
          obtain ⟨v, hv⟩ : ∃ v, v = (cAt cs j).hd := ⟨_, rfl⟩
          rw [← hu] at g0
          rw [← hv] at g1
          have HU := Lib.hid hu
          have HV := Lib.hid hv
          clear hu hv hbl' hk00 HK0
          by_cases hlt1 : u < x
          · by_cases hlt2 : y < v
            · have HN := Lib.hid (hnext.out ⟨by rw [← HX.out]; exact q1, by rw [← HY.out]; exact q2, fun h => absurd h (by omega), fun _ => by rw [HJ.out, ← HX.out, ← HY.out, ← HU.out, ← HV.out]; exact ⟨hlt1, hlt2⟩⟩)
              clear hbad hnext
              go_wp2_with (first
                | (go_at_call 52; refine (H1.out _).mono ?_; rintro e w' ⟨rfl, hw⟩; replace hw := hw.symm; subst hw)
                | (go_at_call 52; refine (H2.out _).mono ?_; rintro e w' ⟨rfl, hw⟩; replace hw := hw.symm; subst hw))
              go_quiet (fail)
              go_wp2
              go_roundw
              case rel => exact ⟨j + 1 + 1, by omega, by go_num, HN, below_drewN hb _⟩
              case measure => simp [intOf]; omega
            · have hfin := Lib.hid (hbad.out (fun h => by have := (h.2.2.2 (by omega)).2; rw [HJ.out, ← HY.out, ← HV.out] at this; omega))
              clear hbad hnext
              have hlt3 : v ≤ y := by omega
              go_wp2_with (first
                | (go_at_call 52; refine (H1.out _).mono ?_; rintro e w' ⟨rfl, hw⟩; replace hw := hw.symm; subst hw)
                | (go_at_call 52; refine (H2.out _).mono ?_; rintro e w' ⟨rfl, hw⟩; replace hw := hw.symm; subst hw))
              go_quiet (fail)
              go_wp2
              go_ret
              exact good_post hfin.out (below_drewN hb _)
          · have hfin := Lib.hid (hbad.out (fun h => by have := (h.2.2.2 (by omega)).1; rw [HJ.out, ← HX.out, ← HU.out] at this; omega))
            clear hbad hnext
            have hlt3 : x ≤ u := by omega
            go_wp2_with (first
              | (go_at_call 52; refine (H1.out _).mono ?_; rintro e w' ⟨rfl, hw⟩; replace hw := hw.symm; subst hw)
              | (go_at_call 52; refine (H2.out _).mono ?_; rintro e w' ⟨rfl, hw⟩; replace hw := hw.symm; subst hw))
            go_quiet (fail)
            go_wp2
            go_ret
            exact good_post hfin.out (below_drewN hb _)
      · have hfin := Lib.hid (hbad.out (fun h => hvv ⟨by rw [← HV1.out, HX.out]; exact vB_iff.2 h.1, by rw [← HV2.out, HY.out]; exact vB_iff.2 h.2.1⟩))
        clear hbad hnext HK0
        cases v1 <;> cases v2 <;> first | (exact absurd ⟨rfl, rfl⟩ hvv) | skip
        all_goals
          clear hvv
          go_wp2_with (first
            | (go_at_call 52; refine (H1.out _).mono ?_; rintro e w' ⟨rfl, hw⟩; replace hw := hw.symm; subst hw)
            | (go_at_call 52; refine (H2.out _).mono ?_; rintro e w' ⟨rfl, hw⟩; replace hw := hw.symm; subst hw))
          go_ret
          exact good_post hfin.out hb
    · have e : k = cs.length := by omega
      subst e
      obtain ⟨v, hv⟩ : ∃ v, decide (2 ≤ (cs.length : Int) ∧ (cs.length : Int) ≤ 6) = v := ⟨_, rfl⟩
      have hfin := Lib.hid ((gB_fin hto.out).trans hv)
      have HI := Lib.hid (fun w => in_eq (cs.length : Int) 2 6 v hv w)
      clear hv
      go_wp2_with (go_at_call 51; refine (HI.out _).mono ?_; rintro e w' ⟨rfl, hw⟩; replace hw := hw.symm; subst hw)
      go_ret
      exact good_post hfin.out hb

theorem valid_v {cs : List Cp} {v : Bool} (hv : gB cs = v) (A : Option Addr) (cap : Nat) (w : World) (h : CAt w A cs) (hm : cs.length ≤ 1048576) :
    Calls Try.prog 23 #[.slice A cs.length cap] w fun e w' => e = .returned (.bool v) ∧ Below w.heap.size w w' := by
  rw [← hv]; exact valid_any A cap cs w h hm
theorem sgood_v {cs : List Cp} {v : Bool} (hv : gB cs = v) (A : Option Addr) (cap : Nat) (w : World) (h : CAt w A cs) (hm : cs.length ≤ 1048576) :
    Calls Try.prog 53 #[.slice A cs.length cap] w fun e w' => e = .returned (.bool v) ∧ Below w.heap.size w w' := by
  rw [← hv]; exact sgood_any A cap cs w h hm
end Go.Proofs.Ytpldbakllegheab.S7
