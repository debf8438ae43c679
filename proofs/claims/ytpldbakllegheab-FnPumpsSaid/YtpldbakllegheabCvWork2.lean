/- The working point, the program's: contracts. Conditions: each theorem's own premises. -/
import Derived.Test.YtpldbakllegheabCvWork
namespace Go.Proofs.Ytpldbakllegheab.S7
open Go.RowKit P7

set_option maxHeartbeats 4000000 in
theorem work_cap (A : Option Addr) (cap : Nat) (cs : List Cp) (l s : Int) (w : World) (h : CAt w A cs) (hm : cs.length ≤ 1048576) (hc1 : cs.length ≤ cap) (hc2 : cap ≤ maxLen) :
    Calls Try.prog 10 #[.slice A cs.length cap, .int .i64 l, .int .i64 s] w (WPost cs l s w) := by
  unfold maxLen at hc2
  cases hn : (gB cs && vB l && vB s) with
  | false => exact work_no A cap cs l s w h hm hn
  | true =>
    simp only [Bool.and_eq_true] at hn
    obtain ⟨⟨hv, hl⟩, hs⟩ := hn
    have HA := Lib.hid h
    have HV := Lib.hid (valid_w hv A cap w h hm)
    have g := gB_of hv
    have HG := Lib.hid g
    have hl0 := g.1
    have hl9 := g.2.1
    have hl2 := vB_iff.1 hl
    have hs2 := vB_iff.1 hs
    obtain ⟨b, off, hA, hbl, k0, k1⟩ := h.at_ (show 0 < cs.length by omega)
    subst hA
    have H1 := Lib.hid (fun w => val_eq l true hl w)
    have H2 := Lib.hid (fun w => val_eq s true hs w)
    clear h hv hl hs g k0 k1
    go_enter Try.func10, Try.ntmps10
    go_wp2_with (first
      | (go_at_call 23; refine HV.out.mono ?_; rintro e w1 ⟨rfl, hb1⟩)
      | (go_at_call 43; refine (H1.out _).mono ?_; rintro e w1x ⟨rfl, hw⟩; replace hw := hw.symm; subst hw)
      | (go_at_call 43; refine (H2.out _).mono ?_; rintro e w1x ⟨rfl, hw⟩; replace hw := hw.symm; subst hw))
    go_loopw [32] (fun i wr => ∃ k : Nat, k + 1 ≤ cs.length ∧ i = .int .i64 k ∧ Hid (WNo cs l s k) ∧ Below w.heap.size w wr) (fun i _ => cs.length - (intOf i).toNat)
    case atStart => exact ⟨0, by omega, rfl, Lib.hid (WNo.zero _ _ _), hb1⟩
    case round =>
      clear hb1
      obtain ⟨k, hk, rfl, hno, hb⟩ := hrel
      by_cases hlt : k + 1 < cs.length
      · obtain ⟨hc, hf9⟩ := bcell hb
        obtain ⟨b', off', hA, _, h0, h1⟩ := HA.out.at_ (show k < cs.length by omega)
        simp only [Option.some.injEq, Addr.mk.injEq, and_true] at hA
        obtain ⟨rfl, rfl⟩ := hA
        obtain ⟨g0, g1⟩ := at_tail HA.out hlt
        have HQ0 := HG.out.at_ (i := k) (by omega)
        have HQ1 := HG.out.at_ (i := k + 1) hlt
        have hz := hb.size
        have hbw : b < wr.heap.size := by omega
        have hyes := Lib.hid (fun h0 h1 => WNo.yes HG.out hl2 hs2 hno.out hlt h0 h1)
        have hnxt := Lib.hid (fun h => WNo.next HG.out hno.out h)
        have hfit := Lib.hid (fun h => WK.fit (cs := cs) (l := l) (s := s) (k := k + 1) h)
        have HE := Lib.hid (show cAt cs (k + 1 - 1) = cAt cs k by simp)
        have HE2 := Lib.hid (show ovr cs l s (k + 1 - 1) = ovr cs l s k by simp)
        have HX0 := Lib.hid (fun w => excess_any (cAt cs k).fl (cAt cs k).hd l s w HQ0.1 HQ0.2 hl2 hs2)
        have HX1 := Lib.hid (fun w => excess_any (cAt cs (k + 1)).fl (cAt cs (k + 1)).hd l s w HQ1.1 HQ1.2 hl2 hs2)
        have o1 := ovr_fit HG.out hl2 hs2 (i := k) (by omega)
        have o2 := ovr_fit HG.out hl2 hs2 (i := k + 1) hlt
        have HD0 := Lib.hid (show (cAt cs k).hd - l - s * (cAt cs k).fl = ovr cs l s k from rfl)
        have HD1 := Lib.hid (show (cAt cs (k + 1)).hd - l - s * (cAt cs (k + 1)).fl = ovr cs l s (k + 1) from rfl)
        rw [HD0.out] at HX0
        rw [HD1.out] at HX1
        rw [HE.out, HE2.out] at hfit
        clear HD0 HD1 hno
        go_upto_region 7 with (fail)
        generalize (cAt cs k).fl = x0 at *
        generalize (cAt cs k).hd = y0 at *
        generalize (cAt cs (k + 1)).fl = x1 at *
        generalize (cAt cs (k + 1)).hd = y1 at *
        obtain ⟨W, hW⟩ : ∃ W, W = (wr.alloc (.cells #[.int .i64 x1, .int .i64 y1] 38)).alloc (.cells #[.int .i64 x0, .int .i64 y0] 38) := ⟨_, rfl⟩
        have hbW : Below wr.heap.size wr W := by rw [hW]; exact ((Below.refl _ _).alloc (Nat.le_refl _) _).alloc (by simp) _
        have hzW : W.heap.size = wr.heap.size + 2 := by rw [hW]; simp
        have v0 : W.cell? ⟨wr.heap.size, 0, none⟩ = some (.int .i64 x1) := by rw [hW]; go_simp
        have v1 : W.cell? ⟨wr.heap.size, 1, none⟩ = some (.int .i64 y1) := by rw [hW]; go_simp
        have v2 : W.cell? ⟨wr.heap.size + 1, 0, none⟩ = some (.int .i64 x0) := by rw [hW]; go_simp
        have v3 : W.cell? ⟨wr.heap.size + 1, 1, none⟩ = some (.int .i64 y0) := by rw [hW]; go_simp
        rw [← hW]
        have hW0 : wr.heap.size < W.heap.size := by omega
        have hW1 : wr.heap.size + 1 < W.heap.size := by omega
        have HBW := Lib.hid (hb.trans (hbW.mono hz))
        have hzW2 : w.heap.size ≤ W.heap.size := by omega
        clear hW hbW hzW hc hf9
        have hG := @cell_g
        generalize ovr cs l s k = X at *
        generalize ovr cs l s (k + 1) = Y at *
        obtain ⟨o1a, o1b, _, _⟩ := o1
        obtain ⟨o2a, o2b, _, _⟩ := o2
        have wN : IntKind.i64.wrap (-Y) = -Y := w64 _ (by omega)
        refine region_below (by kernel_rfl) (by kernel_rfl) ?_
        repeat (first | go_big_quiet_step ((first | (go_at_call_of 44 (Value.agg #[Value.int IntKind.i64 x0, Value.int IntKind.i64 y0]); exact met HX0.out) | (go_at_call_of 44 (Value.agg #[Value.int IntKind.i64 x1, Value.int IntKind.i64 y1]); exact met HX1.out))))
        refine wpQuiet_nil ?_
        intro w2 hb2
        clear hG HX0 HX1
        obtain ⟨hc2x, hf2x⟩ := bcell hb2
        have hz2 := hb2.size
        have q0 := (hc2x _ 0 hW0).trans v0
        have q2 := (hc2x _ 0 hW1).trans v2
        have HB2 := Lib.hid (HBW.out.trans (hb2.mono hzW2))
        have hz3 : w.heap.size ≤ w2.heap.size := by omega
        clear hb2 v0 v1 v2 v3 hc2x hf2x HBW
        by_cases hin : 0 ≤ X ∧ 0 ≤ -Y
        · obtain ⟨hi0, hi1⟩ := hin
          have hk1 := hyes.out hi0 hi1
          obtain ⟨d1, d2, d3, n1, n2⟩ := hfit.out hk1
          have HP := Lib.hid (fun wx (hbx : Below w.heap.size w wx) => wpost_yes hk1 hbx)
          have m1 := mul_le (x := x0) (y := -Y) (a := 1000) (b := 1001000) HQ0.1.1 HQ0.1.2 hi1 (by omega)
          have m2 := mul_le (x := x1) (y := X) (a := 1000) (b := 1000) HQ1.1.1 HQ1.1.2 hi0 (by omega)
          have H := Lib.hid (fun w => low_any (wNum cs l s (k + 1)) (wDen cs l s (k + 1)) w d2 (by omega) (by omega))
          unfold lowV at H
          rw [n1, d1] at H
          generalize lowN (wNum cs l s (k + 1)) (wDen cs l s (k + 1)) = u at *
          generalize lowD (wNum cs l s (k + 1)) (wDen cs l s (k + 1)) = v at *
          clear hyes hnxt hfit HE HE2 hk1 n1 n2 d1 d2 d3
          have wP : IntKind.i64.wrap (x0 * -Y) = x0 * -Y := w64 _ (by omega)
          have wQ : IntKind.i64.wrap (x1 * X) = x1 * X := w64 _ (by omega)
          have wS : IntKind.i64.wrap (x0 * -Y + x1 * X) = x0 * -Y + x1 * X := w64 _ (by omega)
          go_wp2_with (go_at_call 45; refine (H.out _).mono ?_; rintro e w3 ⟨rfl, hb3⟩)
          go_ret3
          exact HP.out _ (HB2.out.trans (hb3.mono hz3))
        · have hno2 := Lib.hid (hnxt.out hin)
          clear hyes hnxt hfit HE HE2
          by_cases hi0 : 0 ≤ X
          · have hi1 : -Y < 0 := by omega
            clear hin
            go_wp2
            go_roundw
            case rel => exact ⟨k + 1, by omega, by go_num, hno2, HB2.out⟩
            case measure => simp [intOf]; omega
          · clear hin
            go_wp2
            go_roundw
            case rel => exact ⟨k + 1, by omega, by go_num, hno2, HB2.out⟩
            case measure => simp [intOf]; omega
      · have e : k = cs.length - 1 := by omega
        subst e
        have hfin := Lib.hid hno.out.none
        go_wp2
        go_ret3
        exact wpost_no hfin.out hb
theorem work_any (A : Option Addr) (cap : Nat) (cs : List Cp) (l s : Int) (w : World) (h : CAt w A cs) (hm : cs.length ≤ 1048576) (hc1 : cs.length ≤ cap) (hc2 : cap ≤ 1048576) :
    Calls Try.prog 10 #[.slice A cs.length cap, .int .i64 l, .int .i64 s] w (WPost cs l s w) :=
  work_cap A cap cs l s w h hm hc1 (cap_ok hc2)
end Go.Proofs.Ytpldbakllegheab.S7
