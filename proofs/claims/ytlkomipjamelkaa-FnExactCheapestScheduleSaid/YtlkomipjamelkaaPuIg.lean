/- Good schedules: what the program returns: contracts. Conditions: each theorem's own premises. -/
import Derived.Test.YtlkomipjamelkaaPuCostS
import Derived.Deep.DeepCutAuto
namespace Go.Proofs.Ytlkomipjamelkaa.S13
open Go.RowKit Go.Sort Go.ChangeShapes Go.WideShapes Go.Deep Go.Joins P11 S11 P13

theorem sum_zero {f : Nat → Int} {k : Nat} (h : ∀ i, i < k → 0 ≤ f i) : sumF f k = 0 ↔ ∀ i, i < k → f i = 0 := by
  have hp := sumF_pos h
  constructor
  · intro e i hi
    have := h i hi
    by_cases hq : 0 < f i
    · have := hp.2 ⟨i, hi, hq⟩; omega
    · omega
  · intro e
    have h0 : 0 ≤ sumF f k := by
      clear hp e
      induction k with
      | zero => simp [sumF]
      | succ k ih =>
        have := ih (fun i hi => h i (by omega))
        have h2 := h k (by omega)
        show 0 ≤ sumF f k + f k
        omega
    by_cases hq : 0 < sumF f k
    · obtain ⟨i, hi, hf⟩ := hp.1 hq
      have := e i hi
      omega
    · omega
theorem sc_day {p : Pg} {vs : List Int} (hg : P13.Good p) (hl : vs.length = p.xs.length) (hr : allR 0 p.pm vs = true) : Day p.L p.a p.b vs p.ys := by
  have h10 := hg.m1
  refine ⟨hg.day.tk, by rw [hl]; exact hg.day.n0, by rw [hl]; exact hg.day.n1, by rw [hl]; exact hg.day.eq, vols_mk fun j hj => ?_, hg.day.yv⟩
  have := allR_at hr hj
  unfold volB
  rw [decide_eq_true_eq]
  omega
/-- A schedule is good: by the sums of a day. -/
theorem gs_day {p : Pg} {vs : List Int} (hg : P13.Good p) (hl : vs.length = p.xs.length) (hr : allR 0 p.pm vs = true) :
    gsB p vs = ((spiS p.a p.b vs p.ys p.L == 0) && ((misS p.a p.b vs p.ys p.L == 0) && decide (p.L ≤ lvS p vs vs.length))) := by
  have hd := sc_day hg hl hr
  have e1 := sum_zero (f := spA p.a p.b p.L vs p.ys) (k := vs.length) (fun i hi => (hd.sp hi).1)
  have e2 := sum_zero (f := miA p.a p.b p.L vs p.ys) (k := vs.length) (fun i hi => (hd.mi hi).1)
  rw [Bool.eq_iff_iff, gs_iff, Bool.and_eq_true, Bool.and_eq_true, beq_iff_eq, beq_iff_eq, decide_eq_true_eq]
  unfold spiS misS
  rw [e1, e2]
  constructor
  · rintro ⟨_, _, h3, h4⟩
    exact ⟨fun i hi => (okS_iff.1 (hr_in (h3 i hi)).2).1, fun i hi => (okS_iff.1 (hr_in (h3 i hi)).2).2, h4⟩
  · rintro ⟨h1, h2, h4⟩
    refine ⟨hg, hl, fun j hj => ?_, h4⟩
    have ha := allR_at hr hj
    unfold hrB
    rw [Bool.and_eq_true]
    exact ⟨by simp [inR]; exact ha, okS_iff.2 ⟨h1 j hj, h2 j hj⟩⟩
theorem gs_bad {p : Pg} {vs : List Int} {n : Int} (hn : n = p.xs.length) (h : amtB vs n 0 p.pm = false) : gsB p vs = false := by
  cases e : gsB p vs with
  | false => rfl
  | true =>
    obtain ⟨_, h2, h3, _⟩ := gs_all e
    have : amtB vs n 0 p.pm = true := by
      unfold amtB
      rw [Bool.and_eq_true, decide_eq_true_eq]
      exact ⟨by omega, allR_mk fun j hj => by have := (hr_in (h3 j hj)).1; simp [inR]; exact this⟩
    rw [h] at this; cases this
set_option maxHeartbeats 4000000 in
theorem igs_any (p : Pg) (A : Option Addr) (c : Nat) (A2 : Option Addr) (c2 : Nat) (AS : Option Addr) (cs : Nat) (vs : List Int) (w : World) (h : PAt w p A A2) (hv : IAt w AS vs) (hvl : vs.length ≤ 1048576) :
    Calls Try.prog 18 #[pv p A c A2 c2, .slice AS vs.length cs] w fun e w' => e = .returned (.bool (gsB p vs)) ∧ Below w.heap.size w w' := by
  have HB0 := Lib.hid (boxB w 31 p A c A2 c2)
  have H60 := Lib.hid (B6.new w 31 p A c A2 c2)
  have HI := Lib.hid (fun w' hb => ivp_any p A c A2 c2 w' (h.kept (w' := w') hb))
  have HAM := Lib.hid (fun w' (hb : Below w.heap.size w w') => am_any AS cs vs p.ys.length 0 p.pm w' (hv.kept hb (Nat.le_refl _)) hvl)
  have HRUN := Lib.hid (fun (hd : Day p.L p.a p.b vs p.ys) w' (hb : Below w.heap.size w w') => run_yes p.L p.a p.b AS cs vs A2 c2 p.ys w' (hv.kept hb (Nat.le_refl _)) hvl (h.y.kept hb (Nat.le_refl _)) h.yl hd)
  clear h hv
  cases hp : pgB p with
  | false =>
    have HE := Lib.hid (show gsB p vs = false by unfold gsB; rw [hp]; rfl)
    rw [hp] at HI
    rw [HE.out]
    go_enter Try.func18, Try.ntmps18
    go_wp2_with (first | (go_at_call 14; refine (HI.out _ HB0.out).mono ?_; rintro e w1 ⟨rfl, hb1⟩; refine Hid.out ?_) | fail)
    have hB1 := HB0.out.trans (hb1.mono HB0.out.size)
    refine Lib.hid ?_
    go_wp2_with fail
    go_ret
    exact ⟨rfl, hB1⟩
  | true =>
    have hg := pgB_iff.1 hp
    have heq := hg.day.eq
    rw [hp] at HI
    cases ha : amtB vs p.ys.length 0 p.pm with
    | false =>
      have HE := Lib.hid (gs_bad (show (p.ys.length : Int) = p.xs.length by omega) ha)
      rw [ha] at HAM
      rw [HE.out]
      clear HRUN hg heq hp
      go_enter Try.func18, Try.ntmps18
      go_wp2_with (first | (go_at_call 14; refine (HI.out _ HB0.out).mono ?_; rintro e w1 ⟨rfl, hb1⟩; refine Hid.out ?_) | fail)
      have hB1 := HB0.out.trans (hb1.mono HB0.out.size)
      obtain ⟨a0, a1, a2, a3, a4, a5⟩ := (H60.out.kept hb1).out
      refine Lib.hid ?_
      go_wp2_with (first | (go_at_call 39; refine (HAM.out _ hB1).mono ?_; rintro e w2 ⟨rfl, hb2⟩; refine Hid.out ?_) | fail)
      have hB2 := hB1.trans (hb2.mono hB1.size)
      refine Lib.hid ?_
      go_wp2_with fail
      go_ret
      exact ⟨rfl, hB2⟩
    | true =>
      have hab : (vs.length : Int) = p.ys.length ∧ allR 0 p.pm vs = true := by simpa [amtB] using ha
      have hl : vs.length = p.xs.length := by omega
      have hd := sc_day hg hl hab.2
      have HRN := Lib.hid (HRUN.out hd)
      have HGE := Lib.hid (gs_day hg hl hab.2)
      have hn1 := hd.n0
      have hn12 := hd.n1
      have HLEN := Lib.hid (levL_len p.a p.b p.L vs p.ys vs.length)
      have HLAST := Lib.hid (show (levL p.a p.b p.L vs p.ys vs.length).getD (vs.length - 1) 0 = lvS p vs vs.length by
        rw [levL_at p.a p.b _ vs p.ys (by omega)]
        show lev p.a p.b p.L vs p.ys (vs.length - 1 + 1) = lev p.a p.b p.L vs p.ys vs.length
        rw [show vs.length - 1 + 1 = vs.length by omega])
      rw [ha] at HAM
      rw [HGE.out]
      clear HRUN hg heq hp ha hab hl hd HGE
      generalize lvS p vs vs.length = ll at *
      generalize spiS p.a p.b vs p.ys p.L = s at *
      generalize misS p.a p.b vs p.ys p.L = m at *
      generalize hs0 : (s == 0) = b1 at *
      generalize hm0 : (m == 0) = b2 at *
      go_enter Try.func18, Try.ntmps18
      go_wp2_with (first | (go_at_call 14; refine (HI.out _ HB0.out).mono ?_; rintro e w1 ⟨rfl, hb1⟩; refine Hid.out ?_) | fail)
      have HB1 := Lib.hid (HB0.out.trans (hb1.mono HB0.out.size))
      have H61 := Lib.hid (H60.out.kept hb1)
      obtain ⟨a0, a1, a2, a3, a4, a5⟩ := H61.out.out
      clear HI hb1 H60 HB0
      refine Lib.hid ?_
      go_wp2_with (first | (go_at_call 39; refine (HAM.out _ HB1.out).mono ?_; rintro e w2 ⟨rfl, hb2⟩; refine Hid.out ?_) | fail)
      have HB2 := Lib.hid (HB1.out.trans (hb2.mono HB1.out.size))
      have H62 := Lib.hid (H61.out.kept hb2)
      clear a0 a1 a2 a3 a4 a5
      obtain ⟨a0, a1, a2, a3, a4, a5⟩ := H62.out.out
      clear HAM hb2 H61 HB1
      refine Lib.hid ?_
      go_wp2_with (first | (go_at_call 42; refine (HRN.out _ HB2.out).mono ?_; rintro e w3 ⟨rg, rk, rfl, hr1, ho, hb3⟩; refine Hid.out ?_) | fail)
      have HB3 := Lib.hid (HB2.out.trans (hb3.mono HB2.out.size))
      have h63 := H62.out.kept hb3
      have hwl := h63.lt
      clear a0 a1 a2 a3 a4 a5
      obtain ⟨a0, a1, a2, a3, a4, a5⟩ := h63.out
      have hrg := iown_lt' ho
      obtain ⟨bb, off, hA, hbl, h0⟩ := ho.iat.at_ (i := vs.length - 1) (by rw [HLEN.out]; omega)
      injection hA with hA
      injection hA with q1 q2 _
      subst q1 q2
      rw [HLAST.out, Nat.zero_add] at h0
      rw [HLEN.out]
      clear HLEN HLAST ho hb3 HRN hr1 h63 H62 HB2 hbl
      have hcast : (vs.length : Int) - 1 = ((vs.length - 1 : Nat) : Int) := by omega
      have hml : ((vs.length - 1 : Nat) : Int) < (vs.length : Int) := by omega
      have hmg : (0 : Int) ≤ ((vs.length - 1 : Nat) : Int) := by omega
      refine Lib.hid ?_
      cases b1 <;> cases b2 <;> (
        go_wp2_with fail
        have hG := @cell_g
        refine region_below (by kernel_rfl) (by kernel_rfl) ?_
        repeat (first | go_big_quiet_step (fail))
        refine wpQuiet_nil ?_
        intro w4 hb4
        have HB4 := Lib.hid (HB3.out.trans (hb4.mono HB3.out.size))
        clear hb4 hG
        go_wp2_with fail
        go_ret
        exact ⟨rfl, HB4.out⟩)
end Go.Proofs.Ytlkomipjamelkaa.S13
