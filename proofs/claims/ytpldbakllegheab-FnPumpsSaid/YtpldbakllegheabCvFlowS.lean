/- The flow at a head, the program's and the model's: contracts. Conditions: each theorem's own premises. -/
import Derived.Test.YtpldbakllegheabCvWork2
import Derived.Test.YtpldbakllegheabCvGoodS
namespace Go.Proofs.Ytpldbakllegheab.S7
open Go.RowKit P7

theorem flow_cap (A : Option Addr) (cap : Nat) (cs : List Cp) (l : Int) (w : World) (h : CAt w A cs) (hm : cs.length ≤ 1048576) (hc1 : cs.length ≤ cap) (hc2 : cap ≤ maxLen) :
    Calls Try.prog 24 #[.slice A cs.length cap, .int .i64 l] w (WPost cs l 0 w) := by
  have H := Lib.hid (work_cap A cap cs l 0 w h hm hc1 hc2)
  unfold WPost Gives3 ret3 at *
  generalize wA cs l 0 = r at *
  obtain ⟨r0, r1, r2⟩ := r
  clear h
  dsimp only at *
  go_enter Try.func24, Try.ntmps24
  go_wp2_with (go_at_call 10; refine H.out.mono ?_; rintro e w1 ⟨rfl, hb1⟩)
  go_ret3
  exact ⟨rfl, hb1⟩

/-- The flow of a resistance without a slope. -/
theorem wk_zero {cs : List Cp} {l : Int} {k : Nat} (hk : WK cs l 0 k) : (cAt cs k).hd ≤ l ∧ l ≤ (cAt cs (k - 1)).hd ∧ ∀ j, 0 < j → j < k → l < (cAt cs j).hd := by
  have ho := hk.over
  obtain ⟨g, hl, hs, hl0, h0, h1, h3, h4⟩ := hk
  unfold ovr at ho
  simp only [Int.zero_mul] at *
  exact ⟨by omega, by omega, fun j a b => by have := h4 j a b; omega⟩
theorem wk_zero_ex {cs : List Cp} {l : Int} (g : P7.Good cs) (h0 : l ≤ (cAt cs 0).hd) (h9 : (cAt cs (cs.length - 1)).hd ≤ l) : ∃ k, WK cs l 0 k := by
  have hl := g.1
  have hv : 0 ≤ l ∧ l ≤ 1000 := by
    have a := (g.at_ (i := 0) (by omega)).2
    have b := (g.at_ (i := cs.length - 1) (by omega)).2
    omega
  have key : ∀ n, n < cs.length → (∀ j, 0 < j → j ≤ n → l < (cAt cs j).hd) ∨ ∃ k, WK cs l 0 k := by
    intro n
    induction n with
    | zero => intro _; exact .inl fun j h1 h2 => by omega
    | succ n ih =>
      intro hn
      rcases ih (by omega) with h | h
      · by_cases e : l < (cAt cs (n + 1)).hd
        · refine .inl fun j h1 h2 => ?_
          by_cases e2 : j = n + 1
          · subst e2; exact e
          · exact h j h1 (by omega)
        · exact .inr ⟨n + 1, g, hv, by omega, h0, by omega, hn, by simp only [Int.zero_mul]; omega, fun j h1 h2 => by simp only [Int.zero_mul]; have := h j h1 (by omega); omega⟩
      · exact .inr h
  rcases key (cs.length - 1) (by omega) with h | h
  · have := h (cs.length - 1) (by omega) (Nat.le_refl _); omega
  · exact h
theorem wk_zero_last {cs : List Cp} {l : Int} {k : Nat} (hk : WK cs l 0 k) : (cAt cs (cs.length - 1)).hd ≤ l := by
  have h1 := (wk_zero hk).1
  have := (hk.1.mono (i := k) (j := cs.length - 1) (by have := hk.2.2.2.2.2.1; omega) (by have := hk.1.1; omega)).2
  omega

set_option maxHeartbeats 4000000 in
theorem l7flow_any {cs : List Cp} {f : Int} {k : Nat} (hk : WK cs f 0 k) (A : Option Addr) (cap : Nat) (w : World) (h : CAt w A cs) :
    Calls Try.prog 54 #[.slice A cs.length cap, .int .i64 f] w fun e w' => e = .returned (lowV (wNum cs f 0 k) (wDen cs f 0 k)) ∧ Below w.heap.size w w' := by
  obtain ⟨i, rfl⟩ : ∃ i, k = i + 1 := ⟨k - 1, by have := hk.2.2.2.2.1; omega⟩
  have HA := Lib.hid h
  have hkl := hk.2.2.2.2.2.1
  have hl9 := hk.1.2.1
  obtain ⟨hge, hlo, hlt0⟩ := wk_zero hk
  have HLT := Lib.hid hlt0
  have hpc := hk.1.step (i := i) (by omega)
  obtain ⟨⟨a1, a2⟩, a3, a4⟩ := hk.1.at_ (i := i) (by omega)
  obtain ⟨⟨e1, e2⟩, e3, e4⟩ := hk.1.at_ (i := i + 1) (by omega)
  obtain ⟨d1, d2, d3, n1, n2⟩ := hk.fit
  have H := Lib.hid (fun w => reduce_any (wNum cs f 0 (i + 1)) (wDen cs f 0 (i + 1)) w d2 (by omega) (by omega))
  unfold lowV at H ⊢
  simp only [Nat.add_sub_cancel] at n1 d1 hlo
  have hd1 : ((wDen cs f 0 (i + 1) : Nat) : Int) = (cAt cs i).hd - (cAt cs (i + 1)).hd := by
    rw [d1]; unfold ovr; simp only [Int.zero_mul]; omega
  have hbr : ((wNum cs f 0 (i + 1) : Nat) : Int) = (cAt cs i).fl * ((cAt cs i).hd - (cAt cs (i + 1)).hd) + ((cAt cs (i + 1)).fl - (cAt cs i).fl) * ((cAt cs i).hd - f) := by
    rw [n1]
    unfold ovr
    generalize (cAt cs i).fl = x0
    generalize (cAt cs i).hd = y0
    generalize (cAt cs (i + 1)).fl = x1
    generalize (cAt cs (i + 1)).hd = y1
    simp only [Int.zero_mul, Int.sub_zero, Int.neg_sub, Int.mul_sub, Int.sub_mul]
    omega
  rw [hbr, hd1] at H
  generalize lowN (wNum cs f 0 (i + 1)) (wDen cs f 0 (i + 1)) = u at *
  generalize lowD (wNum cs f 0 (i + 1)) (wDen cs f 0 (i + 1)) = v at *
  obtain ⟨b, off, hA, hbl, k0, k1⟩ := h.at_ (show 0 < cs.length by omega)
  subst hA
  clear h k0 k1 hk n1 n2 d1 d2 d3 hbr hd1 hlt0
  go_enter Try.func54, Try.ntmps54
  go_wp2
  go_loop [6] (fun x => ∃ j : Nat, 0 < j ∧ j ≤ i + 1 ∧ x = .int .i64 j) (fun x => i + 1 - (intOf x).toNat)
  case atStart => exact ⟨1, by omega, by omega, rfl⟩
  case round =>
    obtain ⟨j, hj0, hjk, rfl⟩ := hrel
    have hji : (0 : Int) ≤ (j : Int) := by omega
    have hjl : (j : Int) < (cs.length : Int) := by omega
    obtain ⟨b', off', hA, _, h0, h1⟩ := HA.out.at_ (show j < cs.length by omega)
    simp only [Option.some.injEq, Addr.mk.injEq, and_true] at hA
    obtain ⟨rfl, rfl⟩ := hA
    by_cases hlt : j < i + 1
    · have hlow := HLT.out j hj0 hlt
      generalize (cAt cs j).fl = x at *
      generalize (cAt cs j).hd = y at *
      go_wp2
      go_round
      case rel => exact ⟨j + 1, by omega, by omega, by go_num⟩
      case measure => simp [intOf]; omega
    · have e : j = i + 1 := by omega
      subst e
      obtain ⟨b', off', hA, _, g0, g1⟩ := HA.out.at_ (show i < cs.length by omega)
      simp only [Option.some.injEq, Addr.mk.injEq, and_true] at hA
      obtain ⟨rfl, rfl⟩ := hA
      generalize (cAt cs i).fl = x0 at *
      generalize (cAt cs i).hd = y0 at *
      generalize (cAt cs (i + 1)).fl = x1 at *
      generalize (cAt cs (i + 1)).hd = y1 at *
      have hiw : IntKind.i64.wrap (i : Int) = (i : Int) := w64 _ (by omega)
      have hi0 : (0 : Int) ≤ (i : Int) := by omega
      have hi1 : (i : Int) < (cs.length : Int) := by omega
      have hi2 : (0 : Int) ≤ (i : Int) + 1 := by omega
      have hi3 : (i : Int) + 1 < (cs.length : Int) := by omega
      clear HLT
      have m1 := mul_le (x := x0) (y := y0 - y1) (a := 1000) (b := 1000) a1 a2 (by omega) (by omega)
      have m2 := mul_le (x := x1 - x0) (y := y0 - f) (a := 1000) (b := 1000) (by omega) (by omega) (by omega) (by omega)
      have wP : IntKind.i64.wrap (x0 * (y0 - y1)) = x0 * (y0 - y1) := w64 _ (by omega)
      have wQ : IntKind.i64.wrap ((x1 - x0) * (y0 - f)) = (x1 - x0) * (y0 - f) := w64 _ (by omega)
      have wS : IntKind.i64.wrap (x0 * (y0 - y1) + (x1 - x0) * (y0 - f)) = x0 * (y0 - y1) + (x1 - x0) * (y0 - f) := w64 _ (by omega)
      go_upto_region 4 with (fail)
      go_region
      all_goals
        go_wp2_with (go_at_call 47; refine (H.out _).mono ?_; rintro e w3 ⟨rfl, hb3⟩)
        go_ret2
        exact ⟨rfl, (((Below.refl _ _).alloc (Nat.le_refl _) _).alloc (by simp) _).drew.trans (hb3.mono (by simp; omega))⟩

set_option maxHeartbeats 4000000 in
theorem sflow_any (A : Option Addr) (cap : Nat) (cs : List Cp) (f : Int) (w : World) (h : CAt w A cs) (hm : cs.length ≤ 1048576) :
    Calls Try.prog 27 #[.slice A cs.length cap, .int .i64 f] w (WPost cs f 0 w) := by
  have HA := Lib.hid h
  obtain ⟨v, hv⟩ : ∃ v, gB cs = v := ⟨_, rfl⟩
  have HV := Lib.hid (sgood_v hv A cap w h hm)
  have hG := @cell_g
  cases v with
  | false =>
    have hfin := Lib.hid (show ∀ k, ¬ WK cs f 0 k from fun k hk => by rw [gB_mk hk.1] at hv; cases hv)
    have HV2 := Lib.hid (fun w' (hb : Below w.heap.size w w') => sgood_v hv A cap w' (h.kept hb (Nat.le_refl _)) hm)
    clear hv HV h
    go_enter Try.func27, Try.ntmps27
    go_upto_region 1 with (fail)
    refine region_below (by kernel_rfl) (by kernel_rfl) ?_
    repeat (first | go_big_quiet_step ((go_at_call 53; exact met_at HV2.out)))
    refine wpQuiet_nil ?_
    intro w1 hb1
    clear hG
    go_wp2
    go_ret3
    exact wpost_no hfin.out hb1
  | true =>
    have g := gB_of hv
    have hl0 := g.1
    have hl9 := g.2.1
    obtain ⟨n, hn⟩ : ∃ n, cs.length = n + 1 := ⟨cs.length - 1, by omega⟩
    have HV2 := Lib.hid (fun w' (hb : Below w.heap.size w w') => sgood_v hv A cap w' (h.kept hb (Nat.le_refl _)) hm)
    obtain ⟨b, off, hA, hbl, k0, k1⟩ := h.at_ (show n < cs.length by omega)
    obtain ⟨b', off', hA', _, g0, g1⟩ := h.at_ (show 0 < cs.length by omega)
    subst hA
    simp only [Option.some.injEq, Addr.mk.injEq, and_true] at hA'
    obtain ⟨rfl, rfl⟩ := hA'
    obtain ⟨x, hx⟩ : ∃ x, x = (cAt cs n).hd := ⟨_, rfl⟩
    obtain ⟨y, hy⟩ : ∃ y, y = (cAt cs 0).hd := ⟨_, rfl⟩
    rw [← hx] at k1
    rw [← hy, Nat.zero_mul, Nat.add_zero] at g1
    obtain ⟨q, hq⟩ : ∃ q, decide (x ≤ f ∧ f ≤ y) = q := ⟨_, rfl⟩
    have HI := Lib.hid (fun w' (_ : Below w.heap.size w w') => (in_eq f x y q hq w').mono (fun e w'' (h : e = .returned (.bool q) ∧ w'' = w') => (⟨h.1, by rw [h.2]; exact Below.refl _ _⟩ : e = .returned (.bool q) ∧ Below w'.heap.size w' w'')))
    have hn1 : IntKind.i64.wrap (n : Int) = (n : Int) := w64 _ (by omega)
    have hn2 : (0 : Int) ≤ (n : Int) := by omega
    have hn3 : (n : Int) < (n : Int) + 1 := by omega
    cases q with
    | false =>
      have hfin := Lib.hid (show ∀ k, ¬ WK cs f 0 k from fun k hk => by
        have h1 := wk_zero_last hk
        have h2 := hk.2.2.2.1
        rw [show cs.length - 1 = n by omega, ← hx] at h1
        rw [← hy] at h2
        have := of_decide_eq_false hq
        exact this ⟨h1, h2⟩)
      clear hq h k0 g0 hv hx hy g HV
      rw [hn] at HV2 ⊢
      go_enter Try.func27, Try.ntmps27
      go_upto_region 1 with (fail)
      refine region_below (by kernel_rfl) (by kernel_rfl) ?_
      repeat (first | go_big_quiet_step ((first | (go_at_call 53; exact met_at HV2.out) | (go_at_call 51; exact met_at HI.out))))
      refine wpQuiet_nil ?_
      intro w1 hb1
      clear hG
      go_wp2
      go_ret3
      exact wpost_no hfin.out hb1
    | true =>
      have hq2 := of_decide_eq_true hq
      obtain ⟨k, hk⟩ := wk_zero_ex (l := f) g (by rw [← hy]; exact hq2.2) (by rw [show cs.length - 1 = n by omega, ← hx]; exact hq2.1)
      have HH := Lib.hid (fun w' (hb : Below w.heap.size w w') => l7flow_any hk (some ⟨b, off, none⟩) cap w' (h.kept hb (Nat.le_refl _)))
      have HP := Lib.hid (fun wx (hbx : Below w.heap.size w wx) => wpost_yes hk hbx)
      clear hq h k0 g0 hv hx hy g hk hq2 HV
      rw [hn] at HV2 HH ⊢
      unfold lowV at HH
      generalize lowN (wNum cs f 0 k) (wDen cs f 0 k) = u at *
      generalize lowD (wNum cs f 0 k) (wDen cs f 0 k) = v at *
      go_enter Try.func27, Try.ntmps27
      go_upto_region 1 with (fail)
      refine region_below (by kernel_rfl) (by kernel_rfl) ?_
      repeat (first | go_big_quiet_step ((first | (go_at_call 53; exact met_at HV2.out) | (go_at_call 51; exact met_at HI.out))))
      refine wpQuiet_nil ?_
      intro w1 hb1
      clear hG
      go_wp2_with (go_at_call 54; refine (HH.out _ hb1).mono ?_; rintro e w2 ⟨rfl, hb2⟩)
      go_ret3
      exact HP.out _ (hb1.trans (hb2.mono hb1.size))
theorem flow_any (A : Option Addr) (cap : Nat) (cs : List Cp) (l : Int) (w : World) (h : CAt w A cs) (hm : cs.length ≤ 1048576) (hc1 : cs.length ≤ cap) (hc2 : cap ≤ 1048576) :
    Calls Try.prog 24 #[.slice A cs.length cap, .int .i64 l] w (WPost cs l 0 w) :=
  flow_cap A cap cs l w h hm hc1 (cap_ok hc2)
end Go.Proofs.Ytpldbakllegheab.S7
