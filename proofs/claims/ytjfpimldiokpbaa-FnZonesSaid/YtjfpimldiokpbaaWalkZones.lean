/- The walk of the law FnZones: contracts. Conditions: each theorem's own premises. -/
import Derived.Test.YtjfpimldiokpbaaZnV
import Derived.Test.YtjfpimldiokpbaaZnDr
import Derived.Deep.DeepCutAuto
namespace Go.Proofs.Ytjfpimldiokpbaa.S12
open Go.RowKit Go.Sort P12

theorem sg_pack (l : List Int) (a b : Int) (hq : ZAsk l a b) : ∃ lo hi : Int, (∀ (A : Option Addr) (cap : Nat) (w : World), IAt w A l → l.length ≤ 1048576 → Calls Try.prog 24 #[.slice A l.length cap, rv a b] w (TwoN w lo hi (suOk l a b))) ∧ (∀ (A : Option Addr) (cap : Nat) (w : World), IAt w A l → l.length ≤ 1048576 → Calls Try.prog 23 #[.slice A l.length cap, rv a b] w (TwoN w lo hi (suOk l a b))) := by
  by_cases h0 : 0 < l.length
  · have e : suOk l a b = decide (loL l a ≤ hiL l b) := by unfold suOk; rw [askB_iff.2 hq, decide_eq_true h0]; rfl
    rw [e]
    exact ⟨_, _, fun A cap w hI hl => sg_yes A cap l a b w hI hl hq h0, fun A cap w hI hl => ssg_yes A cap l a b w hI hl hq h0⟩
  · have e : suOk l a b = false := by unfold suOk; rw [decide_eq_false h0]; simp
    rw [e]
    exact ⟨0, 0, fun A cap w hI hl => sg_no A cap l a b w hI hl (.inr (by omega)), fun A cap w hI hl => ssg_no A cap l a b w hI hl (.inr (by omega))⟩
theorem zone_facts {l : List Int} {a b : Int} (hq : ZAsk l a b) {i : Nat} (hi : i < l.length) :
    ((znL l a b).getD i 0).toNat < (fewL l a b).length ∧ (znL l a b).getD i 0 = ((((znL l a b).getD i 0).toNat : Nat) : Int) ∧ l.getD i 0 + a ≤ (fewL l a b).getD ((znL l a b).getD i 0).toNat 0 ∧ (fewL l a b).getD ((znL l a b).getD i 0).toNat 0 ≤ l.getD i 0 + b ∧ 0 ≤ l.getD i 0 ∧ l.getD i 0 ≤ 1000 := by
  have e : (znL l a b).getD i 0 = ((zi a b (fewL l a b) (l.getD i 0) : Nat) : Int) := znK_at l a b (fewL l a b) hi
  rw [e, Int.toNat_natCast]
  have h1 := zn_in hq.ab hi
  have h2 := suB_iff.1 (zn_su hq.ab hi)
  have h3 := hq.toPl.at_ hi
  exact ⟨h1, rfl, h2.1, h2.2, h3.1, h3.2⟩
set_option maxHeartbeats 16000000 in
set_option maxRecDepth 100000 in
theorem walkZones (a : Option Addr) (n cap : Nat) (w : World) (hc : S1.Cd w.heap.size a n w) :
    Calls Try.prog 12 #[.slice a n cap] w fun e w' => e = .returned (.bool true) ∧ Below w.heap.size w w' := by
  by_cases hn : n ≤ 65536
  case neg =>
    have HV := Lib.hid (fun w => rbig_yes a n cap w (by omega))
    go_enter Try.func12, Try.ntmps12
    go_wp2_with (go_at_call 37; refine (HV.out _).mono ?_; rintro e w1 ⟨rfl, rfl⟩)
    go_ret
    exact ⟨rfl, Below.refl _ _⟩
  have HV := Lib.hid (fun w => rbig_no a n cap w hn)
  have HDR := Lib.hid (dfw_any a n cap w hc hn)
  go_enter Try.func12, Try.ntmps12
  go_wp2_with (first | (go_at_call 37; refine (HV.out _).mono ?_; rintro e wv ⟨rfl, hw⟩; replace hw := hw.symm; subst hw; refine Hid.out ?_) | fail)
  have hB0 := Below.refl w.heap.size w
  refine Lib.hid ?_
  go_wp2_with (first | (go_at_call 38; refine (HDR.out).mono ?_; rintro e w1 ⟨q, c, l, x, y, rfl, hl14, hq, hqlt, ha, hb1⟩; refine Hid.out ?_) | fail)
  have hz1 := hb1.size
  have hB1 := hB0.trans (hb1.mono hB0.size)
  clear hB0 hb1
  have I1_1 := Lib.hid ha
  clear ha HDR HV hq hqlt
  have hb1a := alloc_below w1 (rb 25 x y)
  have Qnt := Lib.hid (BT.new w1 25 x y)
  have hz1a := hb1a.size
  have hB1a := hB1.trans (hb1a.mono hB1.size)
  have I1_1a := Lib.hid (I1_1.out.kept hb1a (Nat.le_refl _))
  clear hB1 I1_1 hb1a
  have Qt_1a := Qnt
  clear Qnt
  cases hv : askB l x y with
  | false =>
    obtain ⟨ltt, bt0, bt1⟩ := Qt_1a.out
    refine Lib.hid ?_
    go_wp2_with (first | (go_at_call 26; refine (fw_no _ c l x y _ I1_1a.out (by omega) hv).mono ?_; rintro e w2 ⟨ga, ca, rfl, hga, hoa, hb2⟩; refine Hid.out ?_) | fail)
    clear bt0 bt1 ltt
    have hz2 := hb2.size
    have hB2 := hB1a.trans (hb2.mono hB1a.size)
    have I1_2 := Lib.hid (I1_1a.out.kept hb2 (Nat.le_refl _))
    have Qt_2 := Lib.hid (Qt_1a.out.kept hb2)
    clear hB1a I1_1a Qt_1a hb2
    have Ia_2 := Lib.hid hoa.iat
    clear hoa hga
    obtain ⟨ltt, bt0, bt1⟩ := Qt_2.out
    refine Lib.hid ?_
    go_wp2_with (first | (go_at_call 25; refine (sfw_no _ c l x y _ I1_2.out (by omega) hv).mono ?_; rintro e w3 ⟨gb, cb, rfl, hgb, hob, hb3⟩; refine Hid.out ?_) | fail)
    clear bt0 bt1 ltt
    have hz3 := hb3.size
    have hB3 := hB2.trans (hb3.mono hB2.size)
    have I1_3 := Lib.hid (I1_2.out.kept hb3 (Nat.le_refl _))
    have Qt_3 := Lib.hid (Qt_2.out.kept hb3)
    have Ia_3 := Lib.hid (Ia_2.out.kept hb3 (Nat.le_refl _))
    clear hB2 I1_2 Qt_2 Ia_2 hb3
    have Ib_3 := Lib.hid hob.iat
    clear hob hgb
    obtain ⟨ltt, bt0, bt1⟩ := Qt_3.out
    refine Lib.hid ?_
    go_wp2_with (first | (go_at_call 39; refine (rints_same _ _ ca cb [] _ Ia_3.out Ib_3.out (by simp)).mono ?_; rintro e w4 ⟨rfl, hb4⟩; refine Hid.out ?_) | fail)
    clear bt0 bt1 ltt
    have hz4 := hb4.size
    have hB4 := hB3.trans (hb4.mono hB3.size)
    have I1_4 := Lib.hid (I1_3.out.kept hb4 (Nat.le_refl _))
    have Qt_4 := Lib.hid (Qt_3.out.kept hb4)
    have Ia_4 := Lib.hid (Ia_3.out.kept hb4 (Nat.le_refl _))
    have Ib_4 := Lib.hid (Ib_3.out.kept hb4 (Nat.le_refl _))
    clear hB3 I1_3 Qt_3 Ia_3 Ib_3 hb4
    clear Ia_4
    clear Ib_4
    obtain ⟨ltt, bt0, bt1⟩ := Qt_4.out
    refine Lib.hid ?_
    go_wp2_with (first | (go_at_call 28; refine (zo_no _ c l x y _ I1_4.out (by omega) hv).mono ?_; rintro e w5 ⟨gd, cd, rfl, hgd, hod, hb5⟩; refine Hid.out ?_) | fail)
    clear bt0 bt1 ltt
    have hz5 := hb5.size
    have hB5 := hB4.trans (hb5.mono hB4.size)
    have I1_5 := Lib.hid (I1_4.out.kept hb5 (Nat.le_refl _))
    have Qt_5 := Lib.hid (Qt_4.out.kept hb5)
    clear hB4 I1_4 Qt_4 hb5
    have Id_5 := Lib.hid hod.iat
    clear hod hgd
    obtain ⟨ltt, bt0, bt1⟩ := Qt_5.out
    refine Lib.hid ?_
    go_wp2_with (first | (go_at_call 27; refine (szo_no _ c l x y _ I1_5.out (by omega) hv).mono ?_; rintro e w6 ⟨ge, oe, ce, rfl, hge, hae, hb6, hle⟩; refine Hid.out ?_) | fail)
    clear bt0 bt1 ltt
    have hz6 := hb6.size
    have hB6 := hB5.trans (hb6.mono hB5.size)
    have I1_6 := Lib.hid (I1_5.out.kept hb6 (Nat.le_refl _))
    have Qt_6 := Lib.hid (Qt_5.out.kept hb6)
    have Id_6 := Lib.hid (Id_5.out.kept hb6 (Nat.le_refl _))
    clear hB5 I1_5 Qt_5 Id_5 hb6
    have Ie_6 := Lib.hid hae
    clear hae hge hle
    obtain ⟨ltt, bt0, bt1⟩ := Qt_6.out
    refine Lib.hid ?_
    go_wp2_with (first | (go_at_call 39; refine (rints_same _ _ cd ce [] _ Id_6.out Ie_6.out (by simp)).mono ?_; rintro e w7 ⟨rfl, hb7⟩; refine Hid.out ?_) | fail)
    clear bt0 bt1 ltt
    have hz7 := hb7.size
    have hB7 := hB6.trans (hb7.mono hB6.size)
    have I1_7 := Lib.hid (I1_6.out.kept hb7 (Nat.le_refl _))
    have Qt_7 := Lib.hid (Qt_6.out.kept hb7)
    have Id_7 := Lib.hid (Id_6.out.kept hb7 (Nat.le_refl _))
    have Ie_7 := Lib.hid (Ie_6.out.kept hb7 (Nat.le_refl _))
    clear hB6 I1_6 Qt_6 Id_6 Ie_6 hb7
    clear Id_7
    clear Ie_7
    obtain ⟨ltt, bt0, bt1⟩ := Qt_7.out
    refine Lib.hid ?_
    go_wp2_with (first | (go_at_call 24; refine (sg_no _ c l x y _ I1_7.out (by omega) (.inl hv)).mono ?_; rintro e w8 ⟨rfl, hb8⟩; refine Hid.out ?_) | fail)
    clear bt0 bt1 ltt
    have hz8 := hb8.size
    have hB8 := hB7.trans (hb8.mono hB7.size)
    have I1_8 := Lib.hid (I1_7.out.kept hb8 (Nat.le_refl _))
    have Qt_8 := Lib.hid (Qt_7.out.kept hb8)
    clear hB7 I1_7 Qt_7 hb8
    obtain ⟨ltt, bt0, bt1⟩ := Qt_8.out
    refine Lib.hid ?_
    go_wp2_with (first | (go_at_call 23; refine (ssg_no _ c l x y _ I1_8.out (by omega) (.inl hv)).mono ?_; rintro e w9 ⟨rfl, hb9⟩; refine Hid.out ?_) | fail)
    clear bt0 bt1 ltt
    have hz9 := hb9.size
    have hB9 := hB8.trans (hb9.mono hB8.size)
    have I1_9 := Lib.hid (I1_8.out.kept hb9 (Nat.le_refl _))
    have Qt_9 := Lib.hid (Qt_8.out.kept hb9)
    clear hB8 I1_8 Qt_8 hb9
    obtain ⟨ltt, bt0, bt1⟩ := Qt_9.out
    refine Lib.hid ?_
    go_wp2_with (first | (go_at_call 32; refine (bs_no _ c l x y _ I1_9.out (by omega) hv).mono ?_; rintro e w10 ⟨rfl, hb10⟩; refine Hid.out ?_) | fail)
    clear bt0 bt1 ltt
    have hz10 := hb10.size
    have hB10 := hB9.trans (hb10.mono hB9.size)
    have I1_10 := Lib.hid (I1_9.out.kept hb10 (Nat.le_refl _))
    have Qt_10 := Lib.hid (Qt_9.out.kept hb10)
    clear hB9 I1_9 Qt_9 hb10
    obtain ⟨ltt, bt0, bt1⟩ := Qt_10.out
    refine Lib.hid ?_
    go_wp2_with (first | (go_at_call 31; refine (sbs_no _ c l x y _ I1_10.out (by omega) hv).mono ?_; rintro e w11 ⟨rfl, hb11⟩; refine Hid.out ?_) | fail)
    clear bt0 bt1 ltt
    have hz11 := hb11.size
    have hB11 := hB10.trans (hb11.mono hB10.size)
    have I1_11 := Lib.hid (I1_10.out.kept hb11 (Nat.le_refl _))
    have Qt_11 := Lib.hid (Qt_10.out.kept hb11)
    clear hB10 I1_10 Qt_10 hb11
    have HBB := Lib.hid hB11
    refine Lib.hid ?_
    go_wp2_with fail
    go_ret
    exact ⟨rfl, HBB.out⟩
  | true =>
    have hq := askB_iff.1 hv
    have hn12 := hq.n
    obtain ⟨lo, hi, HSG, HSS⟩ := sg_pack l x y hq
    have HFL := Lib.hid (Nat.le_trans (few_len (l := l) hq.ab) hn12)
    have HZL := Lib.hid (show (znL l x y).length = l.length from znK_len _ _ _ _ _)
    have HQ := Lib.hid hq
    have HZS := Lib.hid (fun (i : Nat) (hi : i < l.length) => zone_facts hq hi)
    have HLV := Lib.hid (fun (k : Nat) (hk : k < (fewL l x y).length) => few_in hq hk)
    have HLT := Lib.hid (fun (k : Nat) (hk : k + 1 < (fewL l x y).length) => few_lt (l := l) hq.ab (Nat.lt_succ_self k) hk)
    have HCN := Lib.hid (fun (k : Nat) (hk : k < (fewL l x y).length) => few_cnt hq hk)
    have HOF := Lib.hid (ok_few hq)
    have HOB := Lib.hid (ok_best hq)
    have HRU := Lib.hid (fun w => rule_v (show rlB x y = true from rlB_iff.2 ⟨hq.a1, hq.ab, hq.b1⟩) w)
    obtain ⟨ha1, hab, hb1⟩ : 1 ≤ x ∧ x ≤ y ∧ y ≤ 200 := ⟨hq.a1, hq.ab, hq.b1⟩
    have HSP := Lib.hid (fun (A : Option Addr) (cp : Nat) (h : Int) (w' : World) (hI : IAt w' A l) (hh : lvB h = true) => sp_yes A cp l x y h w' hI (by omega) hq hh)
    obtain ⟨ltt, bt0, bt1⟩ := Qt_1a.out
    refine Lib.hid ?_
    go_wp2_with (first | (go_at_call 26; refine (fw_yes _ c l x y _ I1_1a.out (by omega) HQ.out).mono ?_; rintro e w2 ⟨ga, ca, rfl, hga, hoa, hb2⟩; refine Hid.out ?_) | fail)
    clear bt0 bt1 ltt
    have hz2 := hb2.size
    have hB2 := hB1a.trans (hb2.mono hB1a.size)
    have I1_2 := Lib.hid (I1_1a.out.kept hb2 (Nat.le_refl _))
    have Qt_2 := Lib.hid (Qt_1a.out.kept hb2)
    clear hB1a I1_1a Qt_1a hb2
    have Ia_2 := Lib.hid hoa.iat
    clear hoa hga
    obtain ⟨ltt, bt0, bt1⟩ := Qt_2.out
    refine Lib.hid ?_
    go_wp2_with (first | (go_at_call 25; refine (sfw_yes _ c l x y _ I1_2.out (by omega) HQ.out).mono ?_; rintro e w3 ⟨gb, cb, rfl, hgb, hob, hb3⟩; refine Hid.out ?_) | fail)
    clear bt0 bt1 ltt
    have hz3 := hb3.size
    have hB3 := hB2.trans (hb3.mono hB2.size)
    have I1_3 := Lib.hid (I1_2.out.kept hb3 (Nat.le_refl _))
    have Qt_3 := Lib.hid (Qt_2.out.kept hb3)
    have Ia_3 := Lib.hid (Ia_2.out.kept hb3 (Nat.le_refl _))
    clear hB2 I1_2 Qt_2 Ia_2 hb3
    have Ib_3 := Lib.hid hob.iat
    clear hob hgb
    obtain ⟨ltt, bt0, bt1⟩ := Qt_3.out
    refine Lib.hid ?_
    go_wp2_with (first | (go_at_call 39; refine (rints_same _ _ ca cb (fewL l x y) _ Ia_3.out Ib_3.out (by have := HFL.out; omega)).mono ?_; rintro e w4 ⟨rfl, hb4⟩; refine Hid.out ?_) | fail)
    clear bt0 bt1 ltt
    have hz4 := hb4.size
    have hB4 := hB3.trans (hb4.mono hB3.size)
    have I1_4 := Lib.hid (I1_3.out.kept hb4 (Nat.le_refl _))
    have Qt_4 := Lib.hid (Qt_3.out.kept hb4)
    have Ia_4 := Lib.hid (Ia_3.out.kept hb4 (Nat.le_refl _))
    have Ib_4 := Lib.hid (Ib_3.out.kept hb4 (Nat.le_refl _))
    clear hB3 I1_3 Qt_3 Ia_3 Ib_3 hb4
    clear Ib_4
    obtain ⟨ltt, bt0, bt1⟩ := Qt_4.out
    refine Lib.hid ?_
    go_wp2_with (first | (go_at_call 28; refine (zo_yes _ c l x y _ I1_4.out (by omega) HQ.out).mono ?_; rintro e w5 ⟨gd, cd, rfl, hgd, hod, hb5⟩; refine Hid.out ?_) | fail)
    clear bt0 bt1 ltt
    have hz5 := hb5.size
    have hB5 := hB4.trans (hb5.mono hB4.size)
    have I1_5 := Lib.hid (I1_4.out.kept hb5 (Nat.le_refl _))
    have Qt_5 := Lib.hid (Qt_4.out.kept hb5)
    have Ia_5 := Lib.hid (Ia_4.out.kept hb5 (Nat.le_refl _))
    clear hB4 I1_4 Qt_4 Ia_4 hb5
    have Id_5 := Lib.hid hod.iat
    clear hod hgd
    obtain ⟨ltt, bt0, bt1⟩ := Qt_5.out
    refine Lib.hid ?_
    go_wp2_with (first | (go_at_call 27; refine (szo_yes _ c l x y _ I1_5.out (by omega) HQ.out).mono ?_; rintro e w6 ⟨ge, oe, ce, rfl, hge, hae, hb6, hle⟩; refine Hid.out ?_) | fail)
    clear bt0 bt1 ltt
    have hz6 := hb6.size
    have hB6 := hB5.trans (hb6.mono hB5.size)
    have I1_6 := Lib.hid (I1_5.out.kept hb6 (Nat.le_refl _))
    have Qt_6 := Lib.hid (Qt_5.out.kept hb6)
    have Ia_6 := Lib.hid (Ia_5.out.kept hb6 (Nat.le_refl _))
    have Id_6 := Lib.hid (Id_5.out.kept hb6 (Nat.le_refl _))
    clear hB5 I1_5 Qt_5 Ia_5 Id_5 hb6
    have Ie_6 := Lib.hid hae
    clear hae hge hle
    obtain ⟨ltt, bt0, bt1⟩ := Qt_6.out
    refine Lib.hid ?_
    go_wp2_with (first | (go_at_call 39; refine (rints_same _ _ cd ce (znL l x y) _ Id_6.out Ie_6.out (by have := HZL.out; omega)).mono ?_; rintro e w7 ⟨rfl, hb7⟩; refine Hid.out ?_) | fail)
    clear bt0 bt1 ltt
    have hz7 := hb7.size
    have hB7 := hB6.trans (hb7.mono hB6.size)
    have I1_7 := Lib.hid (I1_6.out.kept hb7 (Nat.le_refl _))
    have Qt_7 := Lib.hid (Qt_6.out.kept hb7)
    have Ia_7 := Lib.hid (Ia_6.out.kept hb7 (Nat.le_refl _))
    have Id_7 := Lib.hid (Id_6.out.kept hb7 (Nat.le_refl _))
    have Ie_7 := Lib.hid (Ie_6.out.kept hb7 (Nat.le_refl _))
    clear hB6 I1_6 Qt_6 Ia_6 Id_6 Ie_6 hb7
    clear Ie_7
    obtain ⟨ltt, bt0, bt1⟩ := Qt_7.out
    refine Lib.hid ?_
    go_wp2_with (first | (go_at_call 24; refine (HSG _ c _ I1_7.out (by omega)).mono ?_; rintro e w8 ⟨rfl, hb8⟩; refine Hid.out ?_) | fail)
    clear bt0 bt1 ltt
    have hz8 := hb8.size
    have hB8 := hB7.trans (hb8.mono hB7.size)
    have I1_8 := Lib.hid (I1_7.out.kept hb8 (Nat.le_refl _))
    have Qt_8 := Lib.hid (Qt_7.out.kept hb8)
    have Ia_8 := Lib.hid (Ia_7.out.kept hb8 (Nat.le_refl _))
    have Id_8 := Lib.hid (Id_7.out.kept hb8 (Nat.le_refl _))
    clear hB7 I1_7 Qt_7 Ia_7 Id_7 hb8
    obtain ⟨ltt, bt0, bt1⟩ := Qt_8.out
    refine Lib.hid ?_
    go_wp2_with (first | (go_at_call 23; refine (HSS _ c _ I1_8.out (by omega)).mono ?_; rintro e w9 ⟨rfl, hb9⟩; refine Hid.out ?_) | fail)
    clear bt0 bt1 ltt
    have hz9 := hb9.size
    have hB9 := hB8.trans (hb9.mono hB8.size)
    have I1_9 := Lib.hid (I1_8.out.kept hb9 (Nat.le_refl _))
    have Qt_9 := Lib.hid (Qt_8.out.kept hb9)
    have Ia_9 := Lib.hid (Ia_8.out.kept hb9 (Nat.le_refl _))
    have Id_9 := Lib.hid (Id_8.out.kept hb9 (Nat.le_refl _))
    clear hB8 I1_8 Qt_8 Ia_8 Id_8 hb9
    obtain ⟨ltt, bt0, bt1⟩ := Qt_9.out
    refine Lib.hid ?_
    go_wp2_with (first | (go_at_call 32; refine (bs_yes _ c l x y _ I1_9.out (by omega) HQ.out).mono ?_; rintro e w10 ⟨rfl, hb10⟩; refine Hid.out ?_) | fail)
    clear bt0 bt1 ltt
    have hz10 := hb10.size
    have hB10 := hB9.trans (hb10.mono hB9.size)
    have I1_10 := Lib.hid (I1_9.out.kept hb10 (Nat.le_refl _))
    have Qt_10 := Lib.hid (Qt_9.out.kept hb10)
    have Ia_10 := Lib.hid (Ia_9.out.kept hb10 (Nat.le_refl _))
    have Id_10 := Lib.hid (Id_9.out.kept hb10 (Nat.le_refl _))
    clear hB9 I1_9 Qt_9 Ia_9 Id_9 hb10
    obtain ⟨ltt, bt0, bt1⟩ := Qt_10.out
    refine Lib.hid ?_
    go_wp2_with (first | (go_at_call 31; refine (sbs_yes _ c l x y _ I1_10.out (by omega) HQ.out).mono ?_; rintro e w11 ⟨rfl, hb11⟩; refine Hid.out ?_) | fail)
    clear bt0 bt1 ltt
    have hz11 := hb11.size
    have hB11 := hB10.trans (hb11.mono hB10.size)
    have I1_11 := Lib.hid (I1_10.out.kept hb11 (Nat.le_refl _))
    have Qt_11 := Lib.hid (Qt_10.out.kept hb11)
    have Ia_11 := Lib.hid (Ia_10.out.kept hb11 (Nat.le_refl _))
    have Id_11 := Lib.hid (Id_10.out.kept hb11 (Nat.le_refl _))
    clear hB10 I1_10 Qt_10 Ia_10 Id_10 hb11
    clear HSG HSS
    have HCC := Lib.hid (show ∀ h, cnt l x y h = (suL l x y h).length from fun h => rfl)
    generalize hLL : fewL l x y = LL at *
    generalize hZZ : znL l x y = ZZ at *
    generalize bsM l x y = M at *
    generalize bsB l x y = B at *
    generalize hOK : suOk l x y = OK at *
    clear hLL hZZ hOK hv hq
    have h9 : LL.length ≤ 12 := HFL.out
    obtain ⟨ltt, bt0, bt1⟩ := Qt_11.out
    refine Lib.hid ?_
    go_upto_region 22 with (fail)
    go_cut [166] (fun s wx => s = .bool false ∧ Hid (Below w11.heap.size w11 wx))
    case first => as_aux_lemma =>
      have hof := HOF.out
      have hob := HOB.out
      have HBR := Lib.hid (Below.refl w11.heap.size w11)
      cases OK with
      | true =>
        have e1 : LL.length = 1 := by simpa using hof.symm
        have e2 : M = l.length ∧ 0 < M := by simpa using hob.symm
        have g1 : ((LL.length : Int) == 1) = true := by rw [e1]; rfl
        have g2 : ((M : Int) == (l.length : Int)) = true := by rw [e2.1]; simp
        have g2' : (M == l.length) = true := by rw [e2.1]; simp
        have g3 : decide (0 < (M : Int)) = true := decide_eq_true (by omega)
        have g3' : decide (0 < M) = true := decide_eq_true (by omega)
        clear e1 e2 hof hob
        go_wp2_with (first | (go_at_call 16; refine (HRU.out _).mono ?_; rintro e wq ⟨rfl, hbq⟩; have HBQ := Lib.hid hbq; clear hbq) | fail)
        go_meet
        exact ⟨rfl, HBQ⟩
      | false =>
        have e1 : ¬ LL.length = 1 := by simpa using hof.symm
        have g1 : ((LL.length : Int) == 1) = false := by rw [beq_eq_false_iff_ne]; omega
        by_cases e2 : M = l.length
        · have e3 : ¬ 0 < M := fun h => by
            rw [decide_eq_true e2, decide_eq_true h] at hob
            cases hob
          have g2 : ((M : Int) == (l.length : Int)) = true := by rw [e2]; simp
          have g2' : (M == l.length) = true := by rw [e2]; simp
          have g3 : decide (0 < (M : Int)) = false := decide_eq_false (by omega)
          have g3' : decide (0 < M) = false := decide_eq_false (by omega)
          clear e1 e2 e3 hof hob
          go_wp2_with (first | (go_at_call 16; refine (HRU.out _).mono ?_; rintro e wq ⟨rfl, hbq⟩; have HBQ := Lib.hid hbq; clear hbq) | fail)
          go_meet
          exact ⟨rfl, HBQ⟩
        · have g2 : ((M : Int) == (l.length : Int)) = false := by rw [beq_eq_false_iff_ne]; omega
          have g2' : (M == l.length) = false := by rw [beq_eq_false_iff_ne]; exact e2
          clear e1 e2 hof hob
          go_wp2_with (first | (go_at_call 16; refine (HRU.out _).mono ?_; rintro e wq ⟨rfl, hbq⟩; have HBQ := Lib.hid hbq; clear hbq) | fail)
          go_meet
          exact ⟨rfl, HBQ⟩
    case rest => as_aux_lemma =>
      obtain ⟨rfl, hbc⟩ := hcut
      obtain ⟨w12, hwb⟩ : ∃ w12, w12 = wc := ⟨_, rfl⟩
      subst hwb
      have hb12 := hbc.out
      clear hbc
      clear bt0 bt1 ltt
      have hz12 := hb12.size
      have hB12 := hB11.trans (hb12.mono hB11.size)
      have I1_12 := Lib.hid (I1_11.out.kept hb12 (Nat.le_refl _))
      have Qt_12 := Lib.hid (Qt_11.out.kept hb12)
      have Ia_12 := Lib.hid (Ia_11.out.kept hb12 (Nat.le_refl _))
      have Id_12 := Lib.hid (Id_11.out.kept hb12 (Nat.le_refl _))
      clear hB11 I1_11 Qt_11 Ia_11 Id_11 hb12
      clear HOF HOB HRU HQ
      have hz14 : ZZ.length = l.length := HZL.out
      have HI1 := Lib.hid (fun w' (hb : Below w12.heap.size w12 w') => I1_12.out.kept hb (Nat.le_refl _))
      have HIA := Lib.hid (fun w' (hb : Below w12.heap.size w12 w') => Ia_12.out.kept hb (Nat.le_refl _))
      have HID := Lib.hid (fun w' (hb : Below w12.heap.size w12 w') => Id_12.out.kept hb (Nat.le_refl _))
      have HQT := Lib.hid Qt_12.out
      have HBW := Lib.hid hB12
      clear I1_12 Ia_12 Id_12 Qt_12 hB12
      rw [hz14]
      clear hz14
      refine Hid.out ?_
      refine Lib.hid ?_
      go_wp2_with fail
      go_loopw [25] (fun i wr => ∃ k : Nat, k ≤ l.length ∧ i = .int .i64 (k : Int) ∧ Hid (Below w12.heap.size w12 wr)) (fun i _ => l.length - (intOf i).toNat)
      case atStart => exact ⟨0, Nat.zero_le _, rfl, Lib.hid (Below.refl _ _)⟩
      case round =>
        obtain ⟨k, hk, rfl, hB⟩ := hrel
        by_cases hlt : k < l.length
        · obtain ⟨b1, o1, hA1, hb1, p1⟩ := (HI1.out _ hB.out).at_ hlt
          have hzk : k < ZZ.length := by have := HZL.out; omega
          obtain ⟨hz1, hz2, hz3, hz4, hz5⟩ := HZS.out k hlt
          obtain ⟨z, hzz⟩ : ∃ z : Nat, z = (ZZ.getD k 0).toNat := ⟨_, rfl⟩
          rw [← hzz] at hz1 hz2 hz3 hz4
          obtain ⟨b2, o2, hA2, hb2, p2⟩ := (HID.out _ hB.out).at_ hzk
          obtain ⟨b3, o3, hA3, hb3, p3⟩ := (HIA.out _ hB.out).at_ hz1
          rw [hz2] at p2
          simp only [Option.some.injEq, Addr.mk.injEq, and_true] at hA1 hA2 hA3
          obtain ⟨rfl, rfl⟩ := hA1
          obtain ⟨rfl, rfl⟩ := hA2
          obtain ⟨rfl, rfl⟩ := hA3
          rw [Nat.zero_add] at p1 p2 p3
          obtain ⟨q9, q0, q1⟩ := HQT.out.kept hB.out
          have hk0 : (0 : Int) ≤ (k : Int) := by omega
          have hkn : (k : Int) < (l.length : Int) := by omega
          have hz0 : (0 : Int) ≤ (z : Int) := by omega
          have hzn : (z : Int) < (LL.length : Int) := by omega
          have hin := HLV.out z hz1
          have hs9 : IntKind.i64.wrap (LL.getD z 0 - l.getD k 0) = LL.getD z 0 - l.getD k 0 := IntWalk.i64_in _ (by omega)
          have g1 : decide (LL.getD z 0 - l.getD k 0 < x) = false := decide_eq_false (by omega)
          have g2 : decide (y < LL.getD z 0 - l.getD k 0) = false := decide_eq_false (by omega)
          clear hz2 hz3 hz4 hz5 hzz hin
          generalize LL.getD z 0 = h at *
          generalize l.getD k 0 = v at *
          have hG := @cell_g
          go_wp2
          refine region_below (by kernel_rfl) (by kernel_rfl) ?_
          repeat (first | go_big_quiet_step (fail))
          refine wpQuiet_nil ?_
          intro wy hby
          have r0 := (hby.cell (p := ⟨w1.heap.size, 0, none⟩) q9).trans q0
          have r1 := (hby.cell (p := ⟨w1.heap.size, 1, none⟩) q9).trans q1
          have r9 := Nat.lt_of_lt_of_le q9 hby.size
          have HBY := Lib.hid (hB.out.trans (hby.mono hB.out.size))
          clear hby q0 q1 q9 p1 p2 p3 hG
          go_wp2
          go_roundw
          case rel => exact ⟨k + 1, by omega, by go_num, HBY⟩
          case measure => simp [intOf]; omega
        · obtain ⟨wl, hwl⟩ : ∃ wl, wl = wr := ⟨_, rfl⟩
          subst hwl
          refine Hid.out ?_
          refine Lib.hid ?_
          go_wp2_with fail
          go_loopw [27] (fun i wr => ∃ k : Nat, k ≤ LL.length ∧ i = .int .i64 (k : Int) ∧ Hid (Below w12.heap.size w12 wr)) (fun i _ => LL.length - (intOf i).toNat)
          case atStart => exact ⟨0, Nat.zero_le _, rfl, hB⟩
          case round =>
            clear hB
            obtain ⟨k, hk, rfl, hB⟩ := hrel
            by_cases hlt : k < LL.length
            · obtain ⟨b3, o3, hA3, hb3, p3⟩ := (HIA.out _ hB.out).at_ hlt
              simp only [Option.some.injEq, Addr.mk.injEq, and_true] at hA3
              obtain ⟨rfl, rfl⟩ := hA3
              rw [Nat.zero_add] at p3
              obtain ⟨q9, q0, q1⟩ := HQT.out.kept hB.out
              have hk0 : (0 : Int) ≤ (k : Int) := by omega
              have hkn : (k : Int) < (LL.length : Int) := by omega
              have hin := HLV.out k hlt
              have HCK := Lib.hid (HCN.out k hlt)
              rw [HCC.out] at HCK
              have HSK := Lib.hid (HSP.out (some ⟨q, 0, none⟩) c (LL.getD k 0) wr.drew (HI1.out wr hB.out) (lvB_iff.2 (by omega)))
              have hC := HCK.out
              have hPR := HLT.out (k - 1)
              generalize hh : LL.getD k 0 = h at *
              generalize suL l x y h = S9 at *
              obtain ⟨C, hCC⟩ : ∃ C, C = S9.length := ⟨_, rfl⟩
              rw [← hCC] at hC
              refine Hid.out ?_
              refine Lib.hid ?_
              go_upto_region 33 with (fail)
              refine wp_region_held_drew (S := fun w' => w'.cell? ⟨w1.heap.size, 0, none⟩ = some (.int .i64 x) ∧ w'.cell? ⟨w1.heap.size, 1, none⟩ = some (.int .i64 y) ∧ w'.cell? ⟨ga, k, none⟩ = some (.int .i64 h)) (by kernel_rfl) (by exact ⟨q0, q1, p3⟩) (fun hHeld => ?_)
              refine wpAnyH_take (i := 0) (v := .slice (some ⟨q, 0, none⟩) l.length c) rfl (by kernel_rfl) (by kernel_rfl) (by kernel_rfl) (fun _ _ _ h => h) (Or.inl ⟨by kernel_rfl, ?_⟩) (by assumption) ?_
              · (intro w hSw; (try dsimp only at hSw); go_simp)
              simp only [Act.put, List.setIfInBounds_toArray]
              refine wpAnyH_take (i := 1) (v := .agg #[.int .i64 x, .int .i64 y]) rfl (by kernel_rfl) (by kernel_rfl) (by kernel_rfl) (fun _ _ _ h => h) (Or.inl ⟨by kernel_rfl, ?_⟩) (by assumption) ?_
              · (intro w hSw; (try dsimp only at hSw); go_simp)
              simp only [Act.put]
              refine wpAnyH_take (i := 2) (v := .slice (some ⟨ga, 0, none⟩) LL.length ca) rfl (by kernel_rfl) (by kernel_rfl) (by kernel_rfl) (fun _ _ _ h => h) (Or.inl ⟨by kernel_rfl, ?_⟩) (by assumption) ?_
              · (intro w hSw; (try dsimp only at hSw); go_simp)
              simp only [Act.put]
              refine wpAnyH_take (i := 3) (v := .int .i64 (k : Int)) rfl (by kernel_rfl) (by kernel_rfl) (by kernel_rfl) (fun _ _ _ h => h) (Or.inl ⟨by kernel_rfl, ?_⟩) (by assumption) ?_
              · (intro w hSw; (try dsimp only at hSw); go_simp)
              simp only [Act.put]
              refine wpAnyH_take (i := 4) (v := .pointer (some ⟨ga, k, none⟩)) rfl (by kernel_rfl) (by kernel_rfl) (by kernel_rfl) (fun _ _ _ h => h) (Or.inl ⟨by kernel_rfl, ?_⟩) (by assumption) ?_
              · (intro w hSw; (try dsimp only at hSw); go_simp)
              simp only [Act.put]
              refine wpAnyH_take (i := 5) (v := .int .i64 h) rfl (by kernel_rfl) (by kernel_rfl) (by kernel_rfl) (fun _ _ _ h => h) (Or.inl ⟨by kernel_rfl, ?_⟩) (by assumption) ?_
              · (intro w hSw; (try dsimp only at hSw); go_simp)
              simp only [Act.put]
              refine wpAnyH_ready (rs := [6]) (by kernel_rfl) (by simp) ?_
              refine AllReadyH.cons rfl (fun K hK => ?_) AllReadyH.nil
              go_simp
              go_at_call 19
              refine HSK.out.mono ?_
              rintro e w5 ⟨gs, cs, rfl, hgs, hos, hb5⟩
              have n0 := (hb5.cell (p := ⟨w1.heap.size, 0, none⟩) q9).trans q0
              have n1 := (hb5.cell (p := ⟨w1.heap.size, 1, none⟩) q9).trans q1
              have n2 := (hb5.cell (p := ⟨ga, k, none⟩) hb3).trans p3
              have HB5 := Lib.hid (hB.out.trans ((Below.refl wr.heap.size wr).drew.trans hb5 |>.mono hB.out.size))
              clear hgs hos hb5
              rw [← hCC]
              refine hK.out _ _ (by exact ⟨n0, n1, n2⟩) (fun hHeld => ?_)
              clear hK K
              refine wpAnyH_take (i := 7) (v := .tuple #[.slice (some ⟨gs, 0, none⟩) C cs, .bool true]) rfl (by kernel_rfl) (by kernel_rfl) (by kernel_rfl) (fun _ _ _ h => h) (Or.inl ⟨by kernel_rfl, ?_⟩) (by assumption) ?_
              · (intro w hSw; (try dsimp only at hSw); go_simp)
              simp only [Act.put]
              refine wpAnyH_take (i := 8) (v := .slice (some ⟨gs, 0, none⟩) C cs) rfl (by kernel_rfl) (by kernel_rfl) (by kernel_rfl) (fun _ _ _ h => h) (Or.inl ⟨by kernel_rfl, ?_⟩) (by assumption) ?_
              · (intro w hSw; (try dsimp only at hSw); go_simp)
              simp only [Act.put]
              refine wpAnyH_take (i := 9) (v := .bool true) rfl (by kernel_rfl) (by kernel_rfl) (by kernel_rfl) (fun _ _ _ h => h) (Or.inl ⟨by kernel_rfl, ?_⟩) (by assumption) ?_
              · (intro w hSw; (try dsimp only at hSw); go_simp)
              simp only [Act.put, List.getElem_toArray, List.getElem_cons_succ, List.getElem_cons_zero]
              refine wpAnyH_ready (rs := [10]) (by kernel_rfl) (by simp) ?_
              refine AllReadyH.cons rfl (fun K hK => ?_) AllReadyH.nil
              go_simp
              refine hK.out _ _ (by exact ⟨n0, n1, n2⟩) (fun hHeld => ?_)
              clear hK K
              refine wpAnyH_ready (rs := [11]) (by kernel_rfl) (by simp) ?_
              refine AllReadyH.cons rfl (fun K hK => ?_) AllReadyH.nil
              go_simp
              refine hK.out _ _ (by exact ⟨n0, n1, n2⟩) (fun hHeld => ?_)
              clear hK K
              refine wpAnyH_done (by kernel_rfl) ?_ _
              clear hHeld n0 n1 n2 q0 q1 q9 p3
              have hc1 : decide ((M : Int) < (C : Int)) = false := decide_eq_false (by omega)
              have hc2 : decide (M < C) = false := decide_eq_false (by omega)
              have hc3 : decide ((M : Int) < (S9.length : Int)) = false := by rw [← hCC]; exact hc1
              have hc4 : decide (M < S9.length) = false := by rw [← hCC]; exact hc2
              clear hCC
              obtain ⟨b6, o6, hA6, hb6, p6⟩ := (HIA.out _ HB5.out).at_ hlt
              simp only [Option.some.injEq, Addr.mk.injEq, and_true] at hA6
              obtain ⟨rfl, rfl⟩ := hA6
              rw [Nat.zero_add] at p6
              by_cases hk1 : k = 0
              · have d1 : decide (0 < (k : Int)) = false := decide_eq_false (by omega)
                have d2 : decide (0 < k) = false := decide_eq_false (by omega)
                clear hk1 hPR p6 hC
                have hG := @cell_g
                go_wp2_with fail
                refine region_below (by kernel_rfl) (by kernel_rfl) ?_
                repeat (first | go_big_quiet_step (fail))
                refine wpQuiet_nil ?_
                intro wy hby
                have HBY := Lib.hid (HB5.out.trans (hby.mono HB5.out.size))
                clear hby hG
                go_wp2_with fail
                go_roundw
                case rel => exact ⟨k + 1, by omega, by go_num, HBY⟩
                case measure => simp [intOf]; omega
              · obtain ⟨k1, hk1e⟩ : ∃ k1, k = k1 + 1 := ⟨k - 1, by omega⟩
                have hk1l : k1 < LL.length := by omega
                obtain ⟨b7, o7, hA7, hb7, p7⟩ := (HIA.out _ HB5.out).at_ hk1l
                simp only [Option.some.injEq, Addr.mk.injEq, and_true] at hA7
                obtain ⟨rfl, rfl⟩ := hA7
                rw [Nat.zero_add] at p7
                have hp : LL.getD k1 0 < LL.getD k 0 := by
                  have := HLT.out k1 (by omega)
                  rw [Nat.succ_eq_add_one, ← hk1e] at this
                  exact this
                have d1 : decide (0 < (k : Int)) = true := decide_eq_true (by omega)
                have d2 : decide (0 < k) = true := decide_eq_true (by omega)
                have e1 : IntKind.i64.wrap ((k : Int) - 1) = (k1 : Int) := by rw [IntWalk.i64_in _ (by omega)]; omega
                have e2 : (0 : Int) ≤ (k1 : Int) := by omega
                have e3 : (k1 : Int) < (LL.length : Int) := by omega
                rw [hh] at hp p6
                have d3 : decide (h ≤ LL.getD k1 0) = false := decide_eq_false (by omega)
                clear hk1 hk1e hPR hp hC hh
                generalize LL.getD k1 0 = h7 at *
                have hG := @cell_g
                go_wp2_with fail
                refine region_below (by kernel_rfl) (by kernel_rfl) ?_
                repeat (first | go_big_quiet_step (fail))
                refine wpQuiet_nil ?_
                intro wy hby
                have HBY := Lib.hid (HB5.out.trans (hby.mono HB5.out.size))
                clear hby hG e1
                go_wp2_with fail
                go_roundw
                case rel => exact ⟨k + 1, by omega, by go_num, HBY⟩
                case measure => simp [intOf]; omega
            · have HBE := Lib.hid (HBW.out.trans (hB.out.mono HBW.out.size))
              go_wp2
              go_ret
              exact ⟨rfl, HBE.out⟩
end Go.Proofs.Ytjfpimldiokpbaa.S12
