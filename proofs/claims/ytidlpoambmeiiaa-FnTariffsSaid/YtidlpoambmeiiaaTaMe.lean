/- MeanPrice, the program's and the model's: contracts. Conditions: each theorem's own premises. -/
import Derived.Test.YtidlpoambmeiiaaTaLow
import Derived.Test.YtidlpoambmeiiaaTaAns
import Derived.Test.YtidlpoambmeiiaaTaSplS
namespace Go.Proofs.Ytidlpoambmeiiaa.S14
open Go.RowKit P14

def MeI (t : Ta) (v : Int) (w : World) (e : Ending) (w' : World) : Prop := e = .returned (.tuple #[.int .i64 (meN t v), .int .i64 (meD t v), .bool (meV t v)]) ∧ Below w.heap.size w w'
theorem me_no {t : Ta} {v : Int} {w w' : World} (h : meV t v = false) (hb : Below w.heap.size w w') : MeI t v w (.returned (.tuple #[.int .i64 0, .int .i64 0, .bool false])) w' := ⟨by rw [meN_no h, meD_no h, h], hb⟩
theorem me_yes {t : Ta} {v : Int} (h : meV t v = true) : ∃ a b : Nat, (a : Int) = cost t v ∧ (b : Int) = v ∧ 0 < b ∧ a ≤ 4000000000000000000 ∧ b ≤ 4000000000000000000 ∧ meN t v = lowN a b ∧ meD t v = lowD a b := by
  obtain ⟨h1, h2⟩ := meV_of h
  obtain ⟨g, h3, h4⟩ := okV_of h1
  have hc := cost_le g v
  have hf := g.1
  refine ⟨(cost t v).toNat, v.toNat, by omega, by omega, by omega, by omega, by omega, ?_, ?_⟩
  · unfold meN lowN; rw [if_pos h]
  · unfold meD lowD; rw [if_pos h]
set_option maxHeartbeats 2000000 in
theorem mean_any (t : Ta) (A : Option Addr) (c : Nat) (v : Int) (w : World) (h : TAt w t A) :
    Calls Try.prog 27 #[tv t A c, .int .i64 v] w (MeI t v w) := by
  have HB0 := Lib.hid (alloc_below w (tb 29 t A c))
  obtain ⟨ok, hok⟩ : ∃ b, okV t v = b := ⟨_, rfl⟩
  obtain ⟨C, hC⟩ : ∃ b, coR t v = b := ⟨_, rfl⟩
  have HC := Lib.hid (fun w' (hb' : Below w.heap.size w w') => cost_w hC hok A c w' (h.kept hb'))
  clear h
  cases ok with
  | false =>
    have HN := Lib.hid (meV_bad hok)
    clear hok hC
    go_enter Try.func27, Try.ntmps27
    go_wp2_with (first | (go_at_call 21; refine (HC.out _ HB0.out).mono ?_; rintro e w1 ⟨rfl, hb1⟩; have HB1 := Lib.hid (HB0.out.trans (hb1.mono HB0.out.size)); clear hb1; refine Hid.out ?_) | fail)
    refine Lib.hid ?_
    go_wp2_with fail
    go_ret3
    exact me_no HN.out HB1.out
  | true =>
    by_cases hz : v = 0
    · have HN := Lib.hid (show meV t v = false by rw [hz]; exact meV_zero)
      have hz2 : (v == 0) = true := by simp [hz]
      clear hok hC hz
      go_enter Try.func27, Try.ntmps27
      go_wp2_with (first | (go_at_call 21; refine (HC.out _ HB0.out).mono ?_; rintro e w1 ⟨rfl, hb1⟩; have HB1 := Lib.hid (HB0.out.trans (hb1.mono HB0.out.size)); clear hb1; refine Hid.out ?_) | fail)
      refine Lib.hid ?_
      go_wp2_with fail
      go_ret3
      exact me_no HN.out HB1.out
    · have HM := Lib.hid (meV_mk hok hz)
      have hz2 : (v == 0) = false := by simp [hz]
      obtain ⟨a, b, ha, hb, hb0, ha9, hb9, hN, hD⟩ := me_yes HM.out
      have hCa : C = (a : Int) := by rw [← hC, coR_yes hok, ha]
      have HL := Lib.hid (fun w => low_any a b w hb0 ha9 hb9)
      have HND := Lib.hid (And.intro hN hD)
      clear hC hok hz ha hN hD
      subst hCa hb
      go_enter Try.func27, Try.ntmps27
      go_wp2_with (first | (go_at_call 21; refine (HC.out _ HB0.out).mono ?_; rintro e w1 ⟨rfl, hb1⟩; have HB1 := Lib.hid (HB0.out.trans (hb1.mono HB0.out.size)); clear hb1; refine Hid.out ?_) | fail)
      refine Lib.hid ?_
      go_wp2_with (first | (go_at_call 63; refine (HL.out _).mono ?_; rintro e w2 ⟨rfl, hb2⟩; have HB2 := Lib.hid (HB1.out.trans (hb2.mono HB1.out.size)); clear hb2; refine Hid.out ?_) | fail)
      refine Lib.hid ?_
      go_wp2_with fail
      go_ret3
      exact ⟨by rw [HND.out.1, HND.out.2, HM.out]; rfl, HB2.out⟩
set_option maxHeartbeats 2000000 in
theorem smean_any (t : Ta) (A : Option Addr) (c : Nat) (v : Int) (w : World) (h : TAt w t A) :
    Calls Try.prog 26 #[tv t A c, .int .i64 v] w (MeI t v w) := by
  have HT := Lib.hid h
  have HB0 := Lib.hid (alloc_below w (tb 29 t A c))
  have HQ0 := Lib.hid (B2.new w 29 t A c)
  obtain ⟨b, hb⟩ : ∃ b, gB t = b := ⟨_, rfl⟩
  obtain ⟨d, hd⟩ : ∃ d, decide (0 ≤ v ∧ v ≤ 100000) = d := ⟨_, rfl⟩
  have HG := Lib.hid (fun w' (hb' : Below w.heap.size w w') => sgood_w hb A c w' (h.kept hb'))
  have HV := Lib.hid (fun w => svol_any v d hd w)
  clear h
  cases b with
  | false =>
    have HN := Lib.hid (meV_bad (okV_bad (v := v) hb))
    clear hb hd HV
    go_enter Try.func26, Try.ntmps26
    go_wp2_with (first | (go_at_call 53; refine (HG.out _ HB0.out).mono ?_; rintro e w1 ⟨rfl, hb1⟩; have HB1 := Lib.hid (HB0.out.trans (hb1.mono HB0.out.size)); clear hb1; refine Hid.out ?_) | fail)
    refine Lib.hid ?_
    go_wp2_with fail
    go_ret3
    exact me_no HN.out HB1.out
  | true =>
    cases d with
    | false =>
      have HN := Lib.hid (meV_bad (okV_low (t := t) (v := v) (by simpa using hd)))
      clear hb hd
      go_enter Try.func26, Try.ntmps26
      go_wp2_with (first | (go_at_call 53; refine (HG.out _ HB0.out).mono ?_; rintro e w1 ⟨rfl, hb1⟩; have HB1 := Lib.hid (HB0.out.trans (hb1.mono HB0.out.size)); clear hb1; refine Hid.out ?_) | fail)
      refine Lib.hid ?_
      go_wp2_with (first | (go_at_call 56; refine (HV.out _).mono ?_; rintro e w2 ⟨rfl, hw⟩; replace hw := hw.symm; subst hw) | fail)
      go_ret3
      exact me_no HN.out HB1.out
    | true =>
      have hr : 0 ≤ v ∧ v ≤ 100000 := by simpa using hd
      by_cases hz : v = 0
      · have HN := Lib.hid (show meV t v = false by rw [hz]; exact meV_zero)
        have hz2 : (v == 0) = true := by simp [hz]
        clear hb hd hz hr
        go_enter Try.func26, Try.ntmps26
        go_wp2_with (first | (go_at_call 53; refine (HG.out _ HB0.out).mono ?_; rintro e w1 ⟨rfl, hb1⟩; have HB1 := Lib.hid (HB0.out.trans (hb1.mono HB0.out.size)); clear hb1; refine Hid.out ?_) | fail)
        refine Lib.hid ?_
        go_wp2_with (first | (go_at_call 56; refine (HV.out _).mono ?_; rintro e w2 ⟨rfl, hw⟩; replace hw := hw.symm; subst hw) | fail)
        go_ret3
        exact me_no HN.out HB1.out
      · have HM := Lib.hid (meV_mk (okV_mk hb hr) hz)
        have hz2 : (v == 0) = false := by simp [hz]
        obtain ⟨a, b, ha, hbv, hb0, ha9, hb9, hN, hD⟩ := me_yes HM.out
        have HC := Lib.hid (fun w' (hb' : Below w.heap.size w w') => scost_any t A c v w' (HT.out.kept hb') (gB_of hb) hr.1 hr.2)
        rw [← ha] at HC
        have HL := Lib.hid (fun w => reduce_any a b w hb0 ha9 hb9)
        have HND := Lib.hid (And.intro hN hD)
        clear hb hd hz hr ha hN hD
        subst hbv
        go_enter Try.func26, Try.ntmps26
        go_wp2_with (first | (go_at_call 53; refine (HG.out _ HB0.out).mono ?_; rintro e w1 ⟨rfl, hb1⟩; have HB1 := Lib.hid (HB0.out.trans (hb1.mono HB0.out.size)); have HQ1 := Lib.hid (C2.kept HQ0.out hb1); clear hb1; refine Hid.out ?_) | fail)
        obtain ⟨_, q0, q1, _⟩ := HQ1.out
        clear HB0 HQ0 HG
        refine Lib.hid ?_
        go_wp2_with (first
          | (go_at_call 56; refine (HV.out _).mono ?_; rintro e w2 ⟨rfl, hw⟩; replace hw := hw.symm; subst hw)
          | (go_at_call 57; refine (HC.out _ HB1.out).mono ?_; rintro e w3 ⟨rfl, hb3⟩; have HB3 := Lib.hid (HB1.out.trans (hb3.mono HB1.out.size)); clear hb3; refine Hid.out ?_)
          | fail)
        refine Lib.hid ?_
        go_wp2_with (first | (go_at_call 62; refine (HL.out _).mono ?_; rintro e w4 ⟨rfl, hb4⟩; have HB4 := Lib.hid (HB3.out.trans (hb4.mono HB3.out.size)); clear hb4; refine Hid.out ?_) | fail)
        refine Lib.hid ?_
        go_wp2_with fail
        go_ret3
        exact ⟨by rw [HND.out.1, HND.out.2, HM.out]; rfl, HB4.out⟩
end Go.Proofs.Ytidlpoambmeiiaa.S14
