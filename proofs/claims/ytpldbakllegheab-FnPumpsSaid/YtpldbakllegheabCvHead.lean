/- The head at a flow, the program's and the model's: contracts. Conditions: each theorem's own premises. -/
import Derived.Test.YtpldbakllegheabCvGood
namespace Go.Proofs.Ytpldbakllegheab.S7
open Go.RowKit P7

open Classical in
/-- What HeadAt tells. -/
noncomputable def hA (cs : List Cp) (f : Int) : Int × Int × Bool := if h : ∃ k, HK cs f k then (lowN (hNum cs f h.choose) (hDen cs h.choose), lowD (hNum cs f h.choose) (hDen cs h.choose), true) else (0, 0, false)
theorem hA_yes {cs : List Cp} {f : Int} {k : Nat} (h : HK cs f k) : hA cs f = (lowN (hNum cs f k) (hDen cs k), lowD (hNum cs f k) (hDen cs k), true) := by
  have hx : ∃ k, HK cs f k := ⟨k, h⟩
  unfold hA
  rw [dif_pos hx, hx.choose_spec.uniq h]
theorem hA_no {cs : List Cp} {f : Int} (h : ∀ k, ¬ HK cs f k) : hA cs f = (0, 0, false) := by
  unfold hA
  rw [dif_neg (fun ⟨k, hk⟩ => h k hk)]
abbrev HPost (cs : List Cp) (f : Int) (w : World) : Ending → World → Prop := Gives3 (hA cs f).1 (hA cs f).2.1 (hA cs f).2.2 w
theorem hpost_yes {cs : List Cp} {f : Int} {k : Nat} {w w' : World} (h : HK cs f k) (hb : Below w.heap.size w w') : HPost cs f w (.returned (ret3 (lowN (hNum cs f k) (hDen cs k)) (lowD (hNum cs f k) (hDen cs k)) true)) w' := by
  unfold HPost; rw [hA_yes h]; exact ⟨rfl, hb⟩
theorem hpost_no {cs : List Cp} {f : Int} {w w' : World} (h : ∀ k, ¬ HK cs f k) (hb : Below w.heap.size w w') : HPost cs f w (.returned (ret3 0 0 false)) w' := by
  unfold HPost; rw [hA_no h]; exact ⟨rfl, hb⟩
/-- The cells of all points, found from the second one on. -/
theorem at_tail {w : World} {b off : Nat} {cs : List Cp} (h : CAt w (some ⟨b, off, none⟩) cs) {k : Nat} (hk : k + 1 < cs.length) : w.cell? ⟨b, off + 2 + k * 2, none⟩ = some (.int .i64 (cAt cs (k + 1)).fl) ∧ w.cell? ⟨b, off + 2 + k * 2 + 1, none⟩ = some (.int .i64 (cAt cs (k + 1)).hd) := by
  obtain ⟨b', off', hA, _, h0, h1⟩ := h.at_ hk
  simp only [Option.some.injEq, Addr.mk.injEq, and_true] at hA
  obtain ⟨rfl, rfl⟩ := hA
  rw [show off + 2 + k * 2 = off + (k + 1) * 2 by omega]
  exact ⟨h0, h1⟩
theorem w64 (x : Int) (h : -9000000000000000000 ≤ x ∧ x ≤ 9000000000000000000) : IntKind.i64.wrap x = x := IntWalk.i64_in _ (by omega)

theorem valid_w {cs : List Cp} {v : Bool} (hv : gB cs = v) (A : Option Addr) (cap : Nat) (w : World) (h : CAt w A cs) (hm : cs.length ≤ 1048576) :
    Calls Try.prog 23 #[.slice A cs.length cap] w fun e w' => e = .returned (.bool v) ∧ Below w.heap.size w w' := by
  rw [← hv]; exact valid_any A cap cs w h hm
set_option maxHeartbeats 2000000 in
theorem head_cap (A : Option Addr) (cap : Nat) (cs : List Cp) (f : Int) (w : World) (h : CAt w A cs) (hm : cs.length ≤ 1048576) (hc1 : cs.length ≤ cap) (hc2 : cap ≤ maxLen) :
    Calls Try.prog 14 #[.slice A cs.length cap, .int .i64 f] w (HPost cs f w) := by
  have HA := Lib.hid h
  unfold maxLen at hc2
  obtain ⟨v, hv⟩ : ∃ v, gB cs = v := ⟨_, rfl⟩
  have HV := Lib.hid (valid_w hv A cap w h hm)
  clear h
  cases v with
  | false =>
    have hfin := Lib.hid (show ∀ k, ¬ HK cs f k from fun k hk => by rw [gB_mk hk.1] at hv; cases hv)
    clear hv
    go_enter Try.func14, Try.ntmps14
    go_wp2_with (go_at_call 23; refine HV.out.mono ?_; rintro e w1 ⟨rfl, hb1⟩)
    go_ret3
    exact hpost_no hfin.out hb1
  | true =>
    have g := gB_of hv
    have HG := Lib.hid g
    have hl0 := g.1
    have hl9 := g.2.1
    clear g hv
    obtain ⟨b, off, hA, hbl, k0, k1⟩ := HA.out.at_ (show 0 < cs.length by omega)
    subst hA
    clear k0 k1
    go_enter Try.func14, Try.ntmps14
    go_wp2_with (go_at_call 23; refine HV.out.mono ?_; rintro e w1 ⟨rfl, hb1⟩)
    go_loopw [18] (fun i wr => ∃ k : Nat, k + 1 ≤ cs.length ∧ i = .int .i64 k ∧ Hid (HNo cs f k) ∧ Below w.heap.size w wr) (fun i _ => cs.length - (intOf i).toNat)
    case atStart => exact ⟨0, by omega, rfl, Lib.hid (HNo.zero _ _), hb1⟩
    case round =>
      clear hb1
      obtain ⟨k, hk, rfl, hno, hb⟩ := hrel
      by_cases hlt : k + 1 < cs.length
      · obtain ⟨hc, hf9⟩ := bcell hb
        obtain ⟨b', off', hA, _, h0, h1⟩ := HA.out.at_ (show k < cs.length by omega)
        simp only [Option.some.injEq, Addr.mk.injEq, and_true] at hA
        obtain ⟨rfl, rfl⟩ := hA
        obtain ⟨g0, g1⟩ := at_tail HA.out hlt
        obtain ⟨⟨a1, a2⟩, a3, a4⟩ := HG.out.at_ (i := k) (by omega)
        obtain ⟨⟨e1, e2⟩, e3, e4⟩ := HG.out.at_ (i := k + 1) hlt
        have hst := (HG.out.step hlt).1
        have hz := hb.size
        have hbw : b < wr.heap.size := by omega
        have hyes := Lib.hid (fun h0 h1 => HNo.yes HG.out hno.out hlt h0 h1)
        have hnxt := Lib.hid (fun h => HNo.next HG.out hno.out h)
        have hfit := Lib.hid (fun h => HK.fit (cs := cs) (f := f) (k := k + 1) h)
        have HE := Lib.hid (show cAt cs (k + 1 - 1) = cAt cs k by simp)
        have hbx : ∀ x y x' y', Below w.heap.size w ((wr.alloc (.cells #[.int .i64 x, .int .i64 y] 38)).alloc (.cells #[.int .i64 x', .int .i64 y'] 38)) := fun x y x' y' => (hb.alloc hz _).alloc (by simp; omega) _
        have HBX := Lib.hid hbx
        clear hbx
        rw [HE.out] at hfit
        by_cases hin : (cAt cs k).fl ≤ f ∧ f ≤ (cAt cs (k + 1)).fl
        · obtain ⟨hi0, hi1⟩ := hin
          have hk1 := hyes.out hi0 hi1
          obtain ⟨d1, d2, d3, n1, n2⟩ := hfit.out hk1
          have HP := Lib.hid (fun wx (hbx : Below w.heap.size w wx) => hpost_yes hk1 hbx)
          have m1 := mul_le (x := (cAt cs k).hd) (y := (cAt cs (k + 1)).fl - f) (a := 1000) (b := 1000) a3 a4 (by omega) (by omega)
          have m2 := mul_le (x := (cAt cs (k + 1)).hd) (y := f - (cAt cs k).fl) (a := 1000) (b := 1000) e3 e4 (by omega) (by omega)
          have H := Lib.hid (fun w => low_any (hNum cs f (k + 1)) (hDen cs (k + 1)) w d2 (by omega) (by omega))
          unfold lowV at H
          rw [n1, d1] at H
          generalize lowN (hNum cs f (k + 1)) (hDen cs (k + 1)) = u at *
          generalize lowD (hNum cs f (k + 1)) (hDen cs (k + 1)) = v at *
          generalize hNum cs f (k + 1) = NN at *
          generalize hDen cs (k + 1) = DD at *
          clear hyes hnxt hfit HE hno hk1
          generalize (cAt cs k).fl = x0 at *
          generalize (cAt cs k).hd = y0 at *
          generalize (cAt cs (k + 1)).fl = x1 at *
          generalize (cAt cs (k + 1)).hd = y1 at *
          have wP : IntKind.i64.wrap (y0 * (x1 - f)) = y0 * (x1 - f) := w64 _ (by omega)
          have wQ : IntKind.i64.wrap (y1 * (f - x0)) = y1 * (f - x0) := w64 _ (by omega)
          have wS : IntKind.i64.wrap (y0 * (x1 - f) + y1 * (f - x0)) = y0 * (x1 - f) + y1 * (f - x0) := w64 _ (by omega)
          clear n1 n2 d1 d2 d3
          go_wp2_with (go_at_call 45; refine (H.out _).mono ?_; rintro e w2 ⟨rfl, hb2⟩)
          go_ret3
          exact HP.out _ ((HBX.out _ _ _ _).trans (hb2.mono (by simp; omega)))
        · have hno2 := Lib.hid (hnxt.out hin)
          clear hyes hnxt hfit HE hno
          generalize (cAt cs k).fl = x0 at *
          generalize (cAt cs k).hd = y0 at *
          generalize (cAt cs (k + 1)).fl = x1 at *
          generalize (cAt cs (k + 1)).hd = y1 at *
          by_cases hi0 : x0 ≤ f
          · have hi1 : x1 < f := by omega
            clear hin
            go_wp2
            go_roundw
            case rel => exact ⟨k + 1, by omega, by go_num, hno2, HBX.out _ _ _ _⟩
            case measure => simp [intOf]; omega
          · clear hin
            go_wp2
            go_roundw
            case rel => exact ⟨k + 1, by omega, by go_num, hno2, HBX.out _ _ _ _⟩
            case measure => simp [intOf]; omega
      · have e : k = cs.length - 1 := by omega
        subst e
        have hfin := Lib.hid hno.out.none
        go_wp2
        go_ret3
        exact hpost_no hfin.out hb
theorem cap_ok {c : Nat} (h : c ≤ 1048576) : c ≤ maxLen := by unfold maxLen; omega
theorem head_any (A : Option Addr) (cap : Nat) (cs : List Cp) (f : Int) (w : World) (h : CAt w A cs) (hm : cs.length ≤ 1048576) (hc1 : cs.length ≤ cap) (hc2 : cap ≤ 1048576) :
    Calls Try.prog 14 #[.slice A cs.length cap, .int .i64 f] w (HPost cs f w) :=
  head_cap A cap cs f w h hm hc1 (cap_ok hc2)
end Go.Proofs.Ytpldbakllegheab.S7
