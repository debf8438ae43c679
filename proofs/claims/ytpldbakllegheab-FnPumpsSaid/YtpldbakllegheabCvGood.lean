/- Whether a curve is valid: what the program and the model return: contracts. Conditions: each theorem's own premises. -/
import Derived.Test.YtpldbakllegheabCvLow
namespace Go.Proofs.Ytpldbakllegheab.S7
open Go.RowKit P7

def GoodPost (cs : List Cp) (w : World) (e : Ending) (w' : World) : Prop := e = .returned (.bool (gB cs)) ∧ Below w.heap.size w w'
theorem good_post {cs : List Cp} {w w' : World} {v : Bool} (h : gB cs = v) (hb : Below w.heap.size w w') : GoodPost cs w (.returned (.bool v)) w' := ⟨by rw [h], hb⟩
theorem val_any (x : Int) (w : World) : Calls Try.prog 43 #[.int .i64 x] w fun e w' => e = .returned (.bool (vB x)) ∧ w' = w := by
  by_cases h1 : 0 ≤ x
  · have e : vB x = decide (x ≤ 1000) := by simp [vB, h1]
    rw [e]
    go_enter Try.func43, Try.ntmps43
    go_wp2
    go_ret
    exact ⟨rfl, rfl⟩
  · have e : vB x = false := by simp [vB, h1]
    rw [e]
    go_enter Try.func43, Try.ntmps43
    go_wp2
    go_ret
    exact ⟨rfl, rfl⟩
theorem val_eq (x : Int) (v : Bool) (h : vB x = v) (w : World) : Calls Try.prog 43 #[.int .i64 x] w fun e w' => e = .returned (.bool v) ∧ w' = w := by
  rw [← h]; exact val_any x w
theorem sval_any (x : Int) (w : World) : Calls Try.prog 52 #[.int .i64 x] w fun e w' => e = .returned (.bool (vB x)) ∧ w' = w := by
  have H1 := Lib.hid (fun w => in_any x 0 1000 w)
  unfold vB
  generalize decide (0 ≤ x ∧ x ≤ 1000) = v at *
  go_enter Try.func52, Try.ntmps52
  go_wp2_with (go_at_call 51; refine (H1.out _).mono ?_; rintro e w' ⟨rfl, hw⟩; replace hw := hw.symm; subst hw)
  go_ret
  exact ⟨rfl, rfl⟩
theorem sval_eq (x : Int) (v : Bool) (h : vB x = v) (w : World) : Calls Try.prog 52 #[.int .i64 x] w fun e w' => e = .returned (.bool v) ∧ w' = w := by
  rw [← h]; exact sval_any x w
theorem gB_fin {cs : List Cp} (h : To cs cs.length) : gB cs = decide (2 ≤ (cs.length : Int) ∧ (cs.length : Int) ≤ 6) := by
  by_cases h1 : 2 ≤ cs.length ∧ cs.length ≤ 6
  · rw [gB_end h1.1 h1.2 h]; symm; simp; omega
  · rw [gB_len h1]; symm; simp; omega
theorem vB_iff {x : Int} : vB x = true ↔ (0 ≤ x ∧ x ≤ 1000) := by simp [vB]
theorem vB_no {x : Int} : vB x = false ↔ ¬ (0 ≤ x ∧ x ≤ 1000) := by simp [vB]

set_option maxHeartbeats 8000000 in
theorem valid_any (A : Option Addr) (cap : Nat) (cs : List Cp) (w : World) (h : CAt w A cs) (hm : cs.length ≤ 1048576) :
    Calls Try.prog 23 #[.slice A cs.length cap] w (GoodPost cs w) := by
  have HA := Lib.hid h
  clear h
  by_cases hl : 2 ≤ cs.length ∧ cs.length ≤ 6
  · obtain ⟨hl0, hl9⟩ := hl
    obtain ⟨b, off, hA, hbl, c0, c1⟩ := HA.out.at_ (show 0 < cs.length by omega)
    subst hA
    rw [Nat.zero_mul, Nat.add_zero] at c0
    clear c1
    by_cases hz : (cAt cs 0).fl = 0
    · rw [hz] at c0
      have HZ := Lib.hid hz
      clear hz
      go_enter Try.func23, Try.ntmps23
      go_wp2
      go_loopw [22] (fun i wr => ∃ k : Nat, k ≤ cs.length ∧ i = .int .i64 k ∧ Hid (To cs k) ∧ Below w.heap.size w wr) (fun i _ => cs.length - (intOf i).toNat)
      case atStart => exact ⟨0, Nat.zero_le _, rfl, Lib.hid (To.zero _), Below.refl _ _⟩
      case round =>
        clear c0 hbl
        obtain ⟨k, hk, rfl, hto, hb⟩ := hrel
        by_cases hlt : k < cs.length
        · obtain ⟨b, off, hA, hbl, h0, h1⟩ := HA.out.at_ hlt
          simp only [Option.some.injEq, Addr.mk.injEq, and_true] at hA
          obtain ⟨rfl, rfl⟩ := hA
          obtain ⟨hc, hf⟩ := bcell hb
          have hk0 : (0 : Int) ≤ (k : Int) := by omega
          have hkn : (k : Int) < (cs.length : Int) := by omega
          have hbn := Lib.hid (fun x y => hb.alloc hb.size (.cells #[.int .i64 x, .int .i64 y] 38))
          have hbad := Lib.hid (fun h => gB_bad (cs := cs) (k := k) hlt h)
          have hnext := Lib.hid (fun h => hto.out.next (k := k) h)
          have HK0 := Lib.hid (show k = 0 → (cAt cs k).fl = (cAt cs 0).fl from fun h => by rw [h])
          obtain ⟨x, hx⟩ : ∃ x, x = (cAt cs k).fl := ⟨_, rfl⟩
          obtain ⟨y, hy⟩ : ∃ y, y = (cAt cs k).hd := ⟨_, rfl⟩
          rw [← hx] at h0
          rw [← hy] at h1
          have HX := Lib.hid hx
          have HY := Lib.hid hy
          obtain ⟨v1, hv1⟩ : ∃ v, vB x = v := ⟨_, rfl⟩
          obtain ⟨v2, hv2⟩ : ∃ v, vB y = v := ⟨_, rfl⟩
          have H1 := Lib.hid (fun w => val_eq x v1 hv1 w)
          have H2 := Lib.hid (fun w => val_eq y v2 hv2 w)
          have HV1 := Lib.hid hv1
          have HV2 := Lib.hid hv2
          clear hx hy hv1 hv2
          by_cases hvv : v1 = true ∧ v2 = true
          · obtain ⟨rfl, rfl⟩ := hvv
            have q1 := vB_iff.1 HV1.out
            have q2 := vB_iff.1 HV2.out
            by_cases hk00 : k = 0
            · subst hk00
              simp only [Nat.zero_mul, Nat.add_zero] at h0 h1
              have HN := Lib.hid (hnext.out ⟨by rw [← HX.out]; exact q1, by rw [← HY.out]; exact q2, fun _ => HZ.out, fun h => absurd h (by omega)⟩)
              clear hbad hnext HK0
              go_wp2_with (first
                | (go_at_call 43; refine (H1.out _).mono ?_; rintro e w' ⟨rfl, hw⟩; replace hw := hw.symm; subst hw)
                | (go_at_call 43; refine (H2.out _).mono ?_; rintro e w' ⟨rfl, hw⟩; replace hw := hw.symm; subst hw))
              go_quiet (fail)
              go_wp2
              go_roundw
              case rel => exact ⟨1, by omega, by go_num, HN, below_drewN (hbn.out _ _) _⟩
              case measure => simp [intOf]; omega
            · obtain ⟨j, rfl⟩ : ∃ j, k = j + 1 := ⟨k - 1, by omega⟩
              obtain ⟨b', off', hA', hbl', g0, g1⟩ := HA.out.at_ (show j < cs.length by omega)
              simp only [Option.some.injEq, Addr.mk.injEq, and_true] at hA'
              obtain ⟨rfl, rfl⟩ := hA'
              have hj0 : (0 : Int) ≤ (j : Int) := by omega
              have hjw : IntKind.i64.wrap (j : Int) = (j : Int) := IntWalk.i64_in _ (by omega)
              have hj1 : (j : Int) < (cs.length : Int) := by omega
              have HJ := Lib.hid (show cAt cs (j + 1 - 1) = cAt cs j by simp)
              obtain ⟨u, hu⟩ : ∃ u, u = (cAt cs j).fl := ⟨_, rfl⟩
              obtain ⟨v, hv⟩ : ∃ v, v = (cAt cs j).hd := ⟨_, rfl⟩
              rw [← hu] at g0
              rw [← hv] at g1
              have HU := Lib.hid hu
              have HV := Lib.hid hv
              clear hu hv hbl' hk00 HK0
              replace g0 := ((hbn.out x y).cell (p := ⟨b, off + j * 2, none⟩) hbl).trans g0
              replace g1 := ((hbn.out x y).cell (p := ⟨b, off + j * 2 + 1, none⟩) hbl).trans g1
              have hbW := hb.size
              by_cases hlt1 : u < x
              · by_cases hlt2 : y < v
                · have HN := Lib.hid (hnext.out ⟨by rw [← HX.out]; exact q1, by rw [← HY.out]; exact q2, fun h => absurd h (by omega), fun _ => by rw [HJ.out, ← HX.out, ← HY.out, ← HU.out, ← HV.out]; exact ⟨hlt1, hlt2⟩⟩)
                  clear hbad hnext
                  go_wp2_with (first
                    | (go_at_call 43; refine (H1.out _).mono ?_; rintro e w' ⟨rfl, hw⟩; replace hw := hw.symm; subst hw)
                    | (go_at_call 43; refine (H2.out _).mono ?_; rintro e w' ⟨rfl, hw⟩; replace hw := hw.symm; subst hw))
                  go_quiet (fail)
                  go_wp2
                  go_roundw
                  case rel => exact ⟨j + 1 + 1, by omega, by go_num, HN, below_drewN (hbn.out x y) _⟩
                  case measure => simp [intOf]; omega
                · have hfin := Lib.hid (hbad.out (fun h => by have := (h.2.2.2 (by omega)).2; rw [HJ.out, ← HY.out, ← HV.out] at this; omega))
                  clear hbad hnext
                  have hlt3 : v ≤ y := by omega
                  go_wp2_with (first
                    | (go_at_call 43; refine (H1.out _).mono ?_; rintro e w' ⟨rfl, hw⟩; replace hw := hw.symm; subst hw)
                    | (go_at_call 43; refine (H2.out _).mono ?_; rintro e w' ⟨rfl, hw⟩; replace hw := hw.symm; subst hw))
                  go_quiet (fail)
                  go_wp2
                  go_ret
                  exact good_post hfin.out (below_drewN (hbn.out x y) _)
              · have hfin := Lib.hid (hbad.out (fun h => by have := (h.2.2.2 (by omega)).1; rw [HJ.out, ← HX.out, ← HU.out] at this; omega))
                clear hbad hnext
                have hlt3 : x ≤ u := by omega
                go_wp2_with (first
                  | (go_at_call 43; refine (H1.out _).mono ?_; rintro e w' ⟨rfl, hw⟩; replace hw := hw.symm; subst hw)
                  | (go_at_call 43; refine (H2.out _).mono ?_; rintro e w' ⟨rfl, hw⟩; replace hw := hw.symm; subst hw))
                go_quiet (fail)
                go_wp2
                go_ret
                exact good_post hfin.out (below_drewN (hbn.out x y) _)
          · have hfin := Lib.hid (hbad.out (fun h => hvv ⟨by rw [← HV1.out, HX.out]; exact vB_iff.2 h.1, by rw [← HV2.out, HY.out]; exact vB_iff.2 h.2.1⟩))
            clear hbad hnext HK0
            cases v1 <;> cases v2 <;> first | (exact absurd ⟨rfl, rfl⟩ hvv) | skip
            all_goals
              clear hvv
              go_wp2_with (first
                | (go_at_call 43; refine (H1.out _).mono ?_; rintro e w' ⟨rfl, hw⟩; replace hw := hw.symm; subst hw)
                | (go_at_call 43; refine (H2.out _).mono ?_; rintro e w' ⟨rfl, hw⟩; replace hw := hw.symm; subst hw))
              go_ret
              exact good_post hfin.out (hbn.out x y)
        · have e : k = cs.length := by omega
          subst e
          have hfin := Lib.hid (gB_end hl0 hl9 hto.out)
          go_wp2
          go_ret
          exact good_post hfin.out hb
    · have hfin := Lib.hid (gB_bad (cs := cs) (k := 0) (by omega) (fun h => hz (h.2.2.1 rfl)))
      generalize (cAt cs 0).fl = z at *
      have hz2 : (z != 0) = true := by simp [hz]
      go_enter Try.func23, Try.ntmps23
      go_wp2
      go_ret
      exact good_post hfin.out (Below.refl _ _)
  · have hfin := Lib.hid (gB_len hl)
    by_cases hl0 : cs.length < 2
    · clear hl
      go_enter Try.func23, Try.ntmps23
      go_wp2
      go_ret
      exact good_post hfin.out (Below.refl _ _)
    · have hl9 : 6 < cs.length := by omega
      clear hl
      go_enter Try.func23, Try.ntmps23
      go_wp2
      go_ret
      exact good_post hfin.out (Below.refl _ _)
end Go.Proofs.Ytpldbakllegheab.S7
