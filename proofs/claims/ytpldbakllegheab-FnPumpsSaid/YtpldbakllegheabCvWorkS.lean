/- The working point, the model's: contracts. Conditions: each theorem's own premises. -/
import Derived.Test.YtpldbakllegheabCvWork
import Derived.Test.YtpldbakllegheabCvGoodS
namespace Go.Proofs.Ytpldbakllegheab.S7
open Go.RowKit P7

theorem asked_any (A : Option Addr) (cap : Nat) (cs : List Cp) (l s : Int) (w : World) (h : CAt w A cs) (hm : cs.length ≤ 1048576) :
    Calls Try.prog 46 #[.slice A cs.length cap, .int .i64 l, .int .i64 s] w fun e w' => e = .returned (.bool (gB cs && vB l && vB s)) ∧ Below w.heap.size w w' := by
  obtain ⟨v, hv⟩ : ∃ v, gB cs = v := ⟨_, rfl⟩
  obtain ⟨v1, hv1⟩ : ∃ v, vB l = v := ⟨_, rfl⟩
  obtain ⟨v2, hv2⟩ : ∃ v, vB s = v := ⟨_, rfl⟩
  have HV := Lib.hid (sgood_v hv A cap w h hm)
  have H1 := Lib.hid (fun w => sval_eq l v1 hv1 w)
  have H2 := Lib.hid (fun w => sval_eq s v2 hv2 w)
  rw [hv, hv1, hv2]
  clear h hv hv1 hv2
  go_enter Try.func46, Try.ntmps46
  cases v <;> cases v1 <;> cases v2
  all_goals
    go_wp2_with (first
      | (go_at_call 53; refine HV.out.mono ?_; rintro e w1 ⟨rfl, hb1⟩)
      | (go_at_call 52; refine (H1.out _).mono ?_; rintro e w1x ⟨rfl, hw⟩; replace hw := hw.symm; subst hw)
      | (go_at_call 52; refine (H2.out _).mono ?_; rintro e w1x ⟨rfl, hw⟩; replace hw := hw.symm; subst hw))
    go_ret
    exact ⟨rfl, hb1⟩
theorem asked_v {cs : List Cp} {l s : Int} {v : Bool} (hv : (gB cs && vB l && vB s) = v) (A : Option Addr) (cap : Nat) (w : World) (h : CAt w A cs) (hm : cs.length ≤ 1048576) :
    Calls Try.prog 46 #[.slice A cs.length cap, .int .i64 l, .int .i64 s] w fun e w' => e = .returned (.bool v) ∧ Below w.heap.size w w' := by
  rw [← hv]; exact asked_any A cap cs l s w h hm

set_option maxHeartbeats 8000000 in
theorem swork_any (A : Option Addr) (cap : Nat) (cs : List Cp) (l s : Int) (w : World) (h : CAt w A cs) (hm : cs.length ≤ 1048576) :
    Calls Try.prog 11 #[.slice A cs.length cap, .int .i64 l, .int .i64 s] w (WPost cs l s w) := by
  obtain ⟨q, hn⟩ : ∃ q, (gB cs && vB l && vB s) = q := ⟨_, rfl⟩
  have HV := Lib.hid (asked_v hn A cap w h hm)
  cases q with
  | false =>
    have hfin := Lib.hid (show ∀ k, ¬ WK cs l s k from fun k hk => by
      rw [gB_mk hk.1, vB_iff.2 hk.2.1, vB_iff.2 hk.2.2.1] at hn; cases hn)
    clear hn h
    go_enter Try.func11, Try.ntmps11
    go_wp2_with (go_at_call 46; refine HV.out.mono ?_; rintro e w1 ⟨rfl, hb1⟩)
    go_ret3
    exact wpost_no hfin.out hb1
  | true =>
    simp only [Bool.and_eq_true] at hn
    obtain ⟨⟨hv, hl⟩, hs⟩ := hn
    have HA := Lib.hid h
    have g := gB_of hv
    have HG := Lib.hid g
    have hl0 := g.1
    have hl9 := g.2.1
    have hl2 := vB_iff.1 hl
    have hs2 := vB_iff.1 hs
    obtain ⟨b, off, hA, hbl, k0, k1⟩ := h.at_ (show 0 < cs.length by omega)
    subst hA
    rw [Nat.zero_mul, Nat.add_zero] at k1
    by_cases hle : l ≤ (cAt cs 0).hd
    · have HLE := Lib.hid hle
      obtain ⟨x, hx⟩ : ∃ x, x = (cAt cs 0).hd := ⟨_, rfl⟩
      rw [← hx] at k1 hle
      clear h hv hl hs g k0 hx
      go_enter Try.func11, Try.ntmps11
      go_wp2_with (go_at_call 46; refine HV.out.mono ?_; rintro e w1 ⟨rfl, hb1⟩; obtain ⟨hc1, hf1⟩ := bcell hb1)
      clear hc1 hf1
      go_loopw [9] (fun i wr => ∃ k : Nat, 0 < k ∧ k ≤ cs.length ∧ i = .int .i64 k ∧ Hid (∀ j, 0 < j → j < k → l + s * (cAt cs j).fl < (cAt cs j).hd) ∧ Below w.heap.size w wr) (fun i _ => cs.length - (intOf i).toNat)
      case atStart => exact ⟨1, by omega, by omega, rfl, Lib.hid (fun j a b => by omega), hb1⟩
      case round =>
        clear hb1 k1
        obtain ⟨k, hk0, hk, rfl, hno, hb⟩ := hrel
        by_cases hlt : k < cs.length
        · obtain ⟨i, rfl⟩ : ∃ i, k = i + 1 := ⟨k - 1, by omega⟩
          obtain ⟨hc, hf9⟩ := bcell hb
          obtain ⟨b', off', hA, _, h0, h1⟩ := HA.out.at_ (show i < cs.length by omega)
          simp only [Option.some.injEq, Addr.mk.injEq, and_true] at hA
          obtain ⟨rfl, rfl⟩ := hA
          obtain ⟨b', off', hA, _, g0, g1⟩ := HA.out.at_ (show i + 1 < cs.length by omega)
          simp only [Option.some.injEq, Addr.mk.injEq, and_true] at hA
          obtain ⟨rfl, rfl⟩ := hA
          obtain ⟨⟨a1, a2⟩, a3, a4⟩ := HG.out.at_ (i := i) (by omega)
          obtain ⟨⟨e1, e2⟩, e3, e4⟩ := HG.out.at_ (i := i + 1) hlt
          have hst := HG.out.step hlt
          have hz := hb.size
          have hbw : b < wr.heap.size := by omega
          have hyes := Lib.hid (show (cAt cs (i + 1)).hd ≤ l + s * (cAt cs (i + 1)).fl → WK cs l s (i + 1) from fun h => ⟨HG.out, hl2, hs2, HLE.out, by omega, hlt, h, hno.out⟩)
          have hnxt := Lib.hid (fun (h : l + s * (cAt cs (i + 1)).fl < (cAt cs (i + 1)).hd) => (fun j a b => by
            by_cases e : j = i + 1
            · subst e; exact h
            · exact hno.out j a (by omega) : ∀ j, 0 < j → j < i + 1 + 1 → l + s * (cAt cs j).fl < (cAt cs j).hd))
          have hfit := Lib.hid (fun h => WK.fit (cs := cs) (l := l) (s := s) (k := i + 1) h)
          have hovr := Lib.hid (fun h => WK.over (cs := cs) (l := l) (s := s) (k := i + 1) h)
          have hE : ovr cs l s (i + 1 - 1) = ovr cs l s i := by simp
          have hE2 : cAt cs (i + 1 - 1) = cAt cs i := by simp
          rw [hE] at hfit hovr
          rw [hE2] at hfit
          have hX : ovr cs l s i = (cAt cs i).hd - l - s * (cAt cs i).fl := rfl
          have hY : ovr cs l s (i + 1) = (cAt cs (i + 1)).hd - l - s * (cAt cs (i + 1)).fl := rfl
          rw [hX, hY] at hfit hovr
          clear hE hE2 hX hY hno
          generalize (cAt cs i).fl = x0 at *
          generalize (cAt cs i).hd = y0 at *
          generalize (cAt cs (i + 1)).fl = x1 at *
          generalize (cAt cs (i + 1)).hd = y1 at *
          obtain ⟨hs0, hs9⟩ := hs2
          obtain ⟨hl20, hl29⟩ := hl2
          have m0 := mul_le (x := s) (y := x1) (a := 1000) (b := 1000) hs0 hs9 e1 e2
          have wM : IntKind.i64.wrap (s * x1) = s * x1 := w64 _ (by omega)
          have wM2 : IntKind.i64.wrap (l + s * x1) = l + s * x1 := w64 _ (by omega)
          have hiw : IntKind.i64.wrap (i : Int) = (i : Int) := w64 _ (by omega)
          have hi0 : (0 : Int) ≤ (i : Int) := by omega
          have hi1 : (i : Int) < (cs.length : Int) := by omega
          have hi2 : (0 : Int) ≤ (i : Int) + 1 := by omega
          have hi3 : (i : Int) + 1 < (cs.length : Int) := by omega
          by_cases hin : l + s * x1 < y1
          · have hno2 := hnxt.out hin
            clear hyes hnxt hfit hovr
            have HNO2 := Lib.hid hno2
            clear hno2
            go_upto_region 6 with (fail)
            go_region
            all_goals
              go_wp2
              go_roundw
              case rel => exact ⟨i + 1 + 1, by omega, by omega, by go_num, HNO2, ((hb.alloc hz _).alloc (by simp; omega) _).drew⟩
              case measure => simp [intOf]; omega
          · have hk1 := hyes.out (by omega)
            obtain ⟨d1, d2, d3, n1, n2⟩ := hfit.out hk1
            obtain ⟨v1, v2⟩ := hovr.out hk1
            have HP := Lib.hid (fun wx (hbx : Below w.heap.size w wx) => wpost_yes hk1 hbx)
            have H := Lib.hid (fun w => reduce_any (wNum cs l s (i + 1)) (wDen cs l s (i + 1)) w d2 (by omega) (by omega))
            unfold lowV at H
            have m3 := mul_le (x := s) (y := x0) (a := 1000) (b := 1000) hs0 hs9 a1 a2
            have m4 := mul_le (x := x1 - x0) (y := y0 - l) (a := 1000) (b := 1000) (by omega) (by omega) (by omega) (by omega)
            have m5 := mul_le (x := y0 - y1) (y := x0) (a := 1000) (b := 1000) (by omega) (by omega) a1 a2
            have m6 := mul_le (x := s) (y := x1 - x0) (a := 1000) (b := 1000) hs0 hs9 (by omega) (by omega)
            have q1 : ((wDen cs l s (i + 1) : Nat) : Int) = y0 - y1 + s * (x1 - x0) := by
              rw [d1, Int.mul_sub]; omega
            have q2 : ((wNum cs l s (i + 1) : Nat) : Int) = (x1 - x0) * (y0 - l) + (y0 - y1) * x0 := by
              rw [n1]
              simp only [Int.mul_sub, Int.mul_neg, Int.mul_comm, Int.mul_left_comm]
              omega
            rw [q1, q2] at H
            generalize lowN (wNum cs l s (i + 1)) (wDen cs l s (i + 1)) = u at *
            generalize lowD (wNum cs l s (i + 1)) (wDen cs l s (i + 1)) = v at *
            have hin2 : decide (l + s * x1 < y1) = false := by simpa using hin
            have w1x : IntKind.i64.wrap ((x1 - x0) * (y0 - l)) = (x1 - x0) * (y0 - l) := w64 _ (by omega)
            have w2x : IntKind.i64.wrap ((y0 - y1) * x0) = (y0 - y1) * x0 := w64 _ (by omega)
            have w3x : IntKind.i64.wrap ((x1 - x0) * (y0 - l) + (y0 - y1) * x0) = (x1 - x0) * (y0 - l) + (y0 - y1) * x0 := w64 _ (by omega)
            have w4x : IntKind.i64.wrap (s * (x1 - x0)) = s * (x1 - x0) := w64 _ (by omega)
            have w5x : IntKind.i64.wrap (y0 - y1 + s * (x1 - x0)) = y0 - y1 + s * (x1 - x0) := w64 _ (by omega)
            have w6x : IntKind.i64.wrap (x1 - x0) = x1 - x0 := w64 _ (by omega)
            have w7x : IntKind.i64.wrap (y0 - y1) = y0 - y1 := w64 _ (by omega)
            clear hyes hnxt hfit hovr hk1 d1 d2 d3 n1 n2 q1 q2
            go_upto_region 6 with (fail)
            go_region
            all_goals
              go_wp2
              go_quiet (fail)
              go_wp2_with (go_at_call 47; refine (H.out _).mono ?_; rintro e w3 ⟨rfl, hb3⟩)
              go_ret3
              exact HP.out _ (Below.trans (below_drewN ((hb.alloc hz _).alloc (by simp; omega) _) _) (hb3.mono (below_drewN ((hb.alloc hz _).alloc (by simp; omega) _) _).size))
        · have e : k = cs.length := by omega
          subst e
          have hfin := Lib.hid (show ∀ k, ¬ WK cs l s k from fun k hk => by
            have := hno.out k hk.2.2.2.2.1 hk.2.2.2.2.2.1
            have := hk.2.2.2.2.2.2.1
            omega)
          go_wp2
          go_ret3
          exact wpost_no hfin.out hb
    · have hfin := Lib.hid (show ∀ k, ¬ WK cs l s k from fun k hk => hle hk.2.2.2.1)
      generalize (cAt cs 0).hd = x at *
      have hle2 : x < l := by omega
      clear hle h hv hl hs g k0
      go_enter Try.func11, Try.ntmps11
      go_wp2_with (go_at_call 46; refine HV.out.mono ?_; rintro e w1 ⟨rfl, hb1⟩; obtain ⟨hc1, hf1⟩ := bcell hb1)
      go_ret3
      exact wpost_no hfin.out hb1
end Go.Proofs.Ytpldbakllegheab.S7
