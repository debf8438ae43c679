/- The head at a flow, the model's: contracts. Conditions: each theorem's own premises. -/
import Derived.Test.YtpldbakllegheabCvHead
import Derived.Test.YtpldbakllegheabCvGoodS
namespace Go.Proofs.Ytpldbakllegheab.S7
open Go.RowKit P7

set_option maxHeartbeats 4000000 in
theorem l7head_any {cs : List Cp} {f : Int} {k : Nat} (hk : HK cs f k) (A : Option Addr) (cap : Nat) (w : World) (h : CAt w A cs) :
    Calls Try.prog 57 #[.slice A cs.length cap, .int .i64 f] w fun e w' => e = .returned (lowV (hNum cs f k) (hDen cs k)) ∧ Below w.heap.size w w' := by
  obtain ⟨i, rfl⟩ : ∃ i, k = i + 1 := ⟨k - 1, by have := hk.2.1; omega⟩
  have HA := Lib.hid h
  have hkl := hk.2.2.1
  have hl9 := hk.1.2.1
  have HLT := Lib.hid hk.2.2.2.2.2
  have hge := hk.2.2.2.2.1
  have hlo := hk.low
  have hpc := hk.piece
  obtain ⟨⟨a1, a2⟩, a3, a4⟩ := hk.1.at_ (i := i) (by omega)
  obtain ⟨⟨e1, e2⟩, e3, e4⟩ := hk.1.at_ (i := i + 1) (by omega)
  obtain ⟨d1, d2, d3, n1, n2⟩ := hk.fit
  have H := Lib.hid (fun w => reduce_any (hNum cs f (i + 1)) (hDen cs (i + 1)) w d2 (by omega) (by omega))
  unfold lowV at H ⊢
  simp only [Nat.add_sub_cancel] at n1 d1 hlo hpc
  have hbr : (cAt cs i).hd * ((cAt cs (i + 1)).fl - f) + (cAt cs (i + 1)).hd * (f - (cAt cs i).fl) = (cAt cs i).hd * ((cAt cs (i + 1)).fl - (cAt cs i).fl) - ((cAt cs i).hd - (cAt cs (i + 1)).hd) * (f - (cAt cs i).fl) := by
    generalize (cAt cs i).fl = x0
    generalize (cAt cs i).hd = y0
    generalize (cAt cs (i + 1)).fl = x1
    generalize (cAt cs (i + 1)).hd = y1
    simp only [Int.mul_sub, Int.sub_mul]
    omega
  rw [n1, d1, hbr] at H
  generalize lowN (hNum cs f (i + 1)) (hDen cs (i + 1)) = u at *
  generalize lowD (hNum cs f (i + 1)) (hDen cs (i + 1)) = v at *
  obtain ⟨b, off, hA, hbl, k0, k1⟩ := h.at_ (show 0 < cs.length by omega)
  subst hA
  clear h k0 k1 hk n1 n2 d1 d2 d3 hbr
  go_enter Try.func57, Try.ntmps57
  go_wp2
  go_loop [6] (fun x => ∃ j : Nat, 0 < j ∧ j ≤ i + 1 ∧ x = .int .i64 j) (fun x => i + 1 - (intOf x).toNat)
  case atStart => exact ⟨1, by omega, by omega, rfl⟩
  case round =>
    obtain ⟨j, hj0, hjk, rfl⟩ := hrel
    have hji : (0 : Int) ≤ (j : Int) := by omega
    have hjl : (j : Int) < (cs.length : Int) := by omega
    obtain ⟨b', off', hA, _, h0, h1⟩ := HA.out.at_ (show j < cs.length by omega)
    simp only [Option.some.injEq, Addr.mk.injEq, and_true] at hA
    obtain ⟨rfl, rfl⟩ := hA
    by_cases hlt : j < i + 1
    · have hlow := HLT.out j hj0 hlt
      generalize (cAt cs j).fl = x at *
      generalize (cAt cs j).hd = y at *
      go_wp2
      go_round
      case rel => exact ⟨j + 1, by omega, by omega, by go_num⟩
      case measure => simp [intOf]; omega
    · have e : j = i + 1 := by omega
      subst e
      obtain ⟨b', off', hA, _, g0, g1⟩ := HA.out.at_ (show i < cs.length by omega)
      simp only [Option.some.injEq, Addr.mk.injEq, and_true] at hA
      obtain ⟨rfl, rfl⟩ := hA
      generalize (cAt cs i).fl = x0 at *
      generalize (cAt cs i).hd = y0 at *
      generalize (cAt cs (i + 1)).fl = x1 at *
      generalize (cAt cs (i + 1)).hd = y1 at *
      have hiw : IntKind.i64.wrap (i : Int) = (i : Int) := w64 _ (by omega)
      have hi0 : (0 : Int) ≤ (i : Int) := by omega
      have hi1 : (i : Int) < (cs.length : Int) := by omega
      have hi2 : (0 : Int) ≤ (i : Int) + 1 := by omega
      have hi3 : (i : Int) + 1 < (cs.length : Int) := by omega
      clear HLT
      have m1 := mul_le (x := y0) (y := x1 - x0) (a := 1000) (b := 1000) a3 a4 (by omega) (by omega)
      have m2 := mul_le (x := y0 - y1) (y := f - x0) (a := 1000) (b := 1000) (by omega) (by omega) (by omega) (by omega)
      have wP : IntKind.i64.wrap (y0 * (x1 - x0)) = y0 * (x1 - x0) := w64 _ (by omega)
      have wQ : IntKind.i64.wrap ((y0 - y1) * (f - x0)) = (y0 - y1) * (f - x0) := w64 _ (by omega)
      have wS : IntKind.i64.wrap (y0 * (x1 - x0) - (y0 - y1) * (f - x0)) = y0 * (x1 - x0) - (y0 - y1) * (f - x0) := w64 _ (by omega)
      go_upto_region 4 with (fail)
      go_region
      all_goals
        go_wp2_with (go_at_call 47; refine (H.out _).mono ?_; rintro e w3 ⟨rfl, hb3⟩)
        go_ret2
        exact ⟨rfl, (((Below.refl _ _).alloc (Nat.le_refl _) _).alloc (by simp) _).drew.trans (hb3.mono (by simp; omega))⟩

set_option maxHeartbeats 4000000 in
theorem shead_any (A : Option Addr) (cap : Nat) (cs : List Cp) (f : Int) (w : World) (h : CAt w A cs) (hm : cs.length ≤ 1048576) :
    Calls Try.prog 22 #[.slice A cs.length cap, .int .i64 f] w (HPost cs f w) := by
  have HA := Lib.hid h
  obtain ⟨v, hv⟩ : ∃ v, gB cs = v := ⟨_, rfl⟩
  have HV := Lib.hid (sgood_v hv A cap w h hm)
  cases v with
  | false =>
    have hfin := Lib.hid (show ∀ k, ¬ HK cs f k from fun k hk => by rw [gB_mk hk.1] at hv; cases hv)
    clear hv
    go_enter Try.func22, Try.ntmps22
    go_wp2_with (go_at_call 53; refine HV.out.mono ?_; rintro e w1 ⟨rfl, hb1⟩)
    go_ret3
    exact hpost_no hfin.out hb1
  | true =>
    have g := gB_of hv
    have hl0 := g.1
    have hl9 := g.2.1
    obtain ⟨n, hn⟩ : ∃ n, cs.length = n + 1 := ⟨cs.length - 1, by omega⟩
    obtain ⟨b, off, hA, hbl, k0, k1⟩ := h.at_ (show n < cs.length by omega)
    subst hA
    have hz := g.at_ (i := n) (by omega)
    obtain ⟨x, hx⟩ : ∃ x, x = (cAt cs n).fl := ⟨_, rfl⟩
    rw [← hx] at k0
    obtain ⟨q, hq⟩ : ∃ q, decide (0 ≤ f ∧ f ≤ x) = q := ⟨_, rfl⟩
    have HI := Lib.hid (fun w => in_eq f 0 x q hq w)
    have hn1 : IntKind.i64.wrap (n : Int) = (n : Int) := w64 _ (by omega)
    have hn2 : (0 : Int) ≤ (n : Int) := by omega
    cases q with
    | false =>
      have hfin := Lib.hid (show ∀ k, ¬ HK cs f k from fun k hk => by
        have h1 := hk.last
        have h2 := hk.2.2.2.1
        rw [show cs.length - 1 = n by omega, ← hx] at h1
        have := of_decide_eq_false hq
        exact this ⟨h2, h1⟩)
      clear hq h k1 hv hx g hz
      rw [hn] at HV ⊢
      go_enter Try.func22, Try.ntmps22
      go_wp2_with (first
        | (go_at_call 53; refine HV.out.mono ?_; rintro e w1 ⟨rfl, hb1⟩; obtain ⟨hc, hf⟩ := bcell hb1)
        | (go_at_call 51; refine (HI.out _).mono ?_; rintro e w1x ⟨rfl, hw⟩; replace hw := hw.symm; subst hw))
      go_ret3
      exact hpost_no hfin.out hb1
    | true =>
      have hq2 := of_decide_eq_true hq
      obtain ⟨k, hk⟩ := hk_ex (f := f) g hq2.1 (by rw [show cs.length - 1 = n by omega, ← hx]; exact hq2.2)
      have HH := Lib.hid (fun w' (hb : Below w.heap.size w w') => l7head_any hk (some ⟨b, off, none⟩) cap w' (h.kept hb (Nat.le_refl _)))
      have HP := Lib.hid (fun wx (hbx : Below w.heap.size w wx) => hpost_yes hk hbx)
      clear hq h k1 hv hx g hz hk hq2
      rw [hn] at HV HH ⊢
      unfold lowV at HH
      generalize lowN (hNum cs f k) (hDen cs k) = u at *
      generalize lowD (hNum cs f k) (hDen cs k) = v at *
      go_enter Try.func22, Try.ntmps22
      go_wp2_with (first
        | (go_at_call 53; refine HV.out.mono ?_; rintro e w1 ⟨rfl, hb1⟩; obtain ⟨hc, hf⟩ := bcell hb1)
        | (go_at_call 51; refine (HI.out _).mono ?_; rintro e w1x ⟨rfl, hw⟩; replace hw := hw.symm; subst hw)
        | (go_at_call 57; refine (HH.out _ hb1).mono ?_; rintro e w2 ⟨rfl, hb2⟩))
      go_ret3
      exact HP.out _ (hb1.trans (hb2.mono hb1.size))
end Go.Proofs.Ytpldbakllegheab.S7
