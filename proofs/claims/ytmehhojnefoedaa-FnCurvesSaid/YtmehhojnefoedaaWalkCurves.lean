/- The walk of the law FnCurves: contracts. Conditions: each theorem's own premises. -/
import Derived.Test.YtmehhojnefoedaaCvPack
import Derived.Deep.DeepCutAuto
namespace Go.Proofs.Ytmehhojnefoedaa.S7
open Go.RowKit P7

set_option maxHeartbeats 4000000 in
set_option maxRecDepth 100000 in
theorem walkCurves (a : Option Addr) (n cap : Nat) (w : World) (hc : S1.Cd w.heap.size a n w) :
    Calls Try.prog 12 #[.slice a n cap] w fun e w' => e = .returned (.bool true) ∧ Below w.heap.size w w' := by
  have HC := Lib.hid hc
  clear hc
  by_cases hbig : 65536 < n
  · have H := Lib.hid (fun w => rbig_yes a n cap w hbig)
    go_enter Try.func12, Try.ntmps12
    go_wp2_with (go_at_call 40; refine (H.out _).mono ?_; rintro e w1 ⟨rfl, rfl⟩)
    go_ret
    exact ⟨rfl, Below.refl _ _⟩
  have hn : n ≤ 65536 := by omega
  have HR := Lib.hid (fun w => rbig_below a n cap w hn)
  clear hbig
  go_enter Try.func12, Try.ntmps12
  have hB0 := Below.refl w.heap.size w
  refine Hid.out ?_
  refine Lib.hid ?_
  go_wp2_with (first | (go_at_call 40; refine (HR.out _).mono ?_; rintro e w1 ⟨rfl, hb1⟩; refine Hid.out ?_) | fail)
  have hz1 := hb1.size
  have hB1 := on_base hB0 (by omega) hb1
  clear hB0 hb1
  refine Lib.hid ?_
  go_wp2_with (first | (go_at_call 41; refine (dhead_any a n cap _ (HC.out.later hB1 (Nat.le_refl _)) hn).mono ?_; rintro e w2 ⟨⟨b1, v1, l1, z1, rfl, hl1, hc1, hI⟩, hb2⟩; refine Hid.out ?_) | fail)
  have hz2 := hb2.size
  have hB2 := on_base hB1 (by omega) hb2
  clear hB1 hb2
  have Ip_2 := Lib.hid hI
  clear hI
  obtain ⟨x1, y1, k1, hA1⟩ := tri_parts (hA l1 z1)
  have HH1 := Lib.hid (fun A c w (h : CAt w A l1) (h1 : l1.length ≤ c) (h9 : c ≤ maxLen) => head_cap A c l1 z1 w h (by omega) h1 h9)
  have HS1 := Lib.hid (fun A c w (h : CAt w A l1) => shead_any A c l1 z1 w h (by omega))
  unfold HPost at HH1 HS1
  rw [hA1] at HH1 HS1
  unfold Gives3 ret3 at HH1 HS1
  dsimp only at HH1 HS1
  clear hA1
  obtain ⟨q1, hq1⟩ : ∃ v, gB l1 = v := ⟨_, rfl⟩
  have HV1 := Lib.hid (fun A c w (h : CAt w A l1) => valid_w hq1 A c w h (by omega))
  have HQ1 := Lib.hid hq1
  clear hq1
  refine Lib.hid ?_
  go_wp2_with (first | (go_at_call 20; refine (HH1.out _ _ _ Ip_2.out hc1.1 hc1.2).mono ?_; rintro e w3 ⟨rfl, hb3⟩; refine Hid.out ?_) | fail)
  have hz3 := hb3.size
  have hB3 := on_base hB2 (by omega) hb3
  have Ip_3 := Lib.hid (Ip_2.out.kept hb3 (Nat.le_refl _))
  clear hB2 Ip_2 hb3
  refine Lib.hid ?_
  go_wp2_with (first | (go_at_call 19; refine (HS1.out _ _ _ Ip_3.out).mono ?_; rintro e w4 ⟨rfl, hb4⟩; refine Hid.out ?_) | fail)
  have hz4 := hb4.size
  have hB4 := on_base hB3 (by omega) hb4
  have Ip_4 := Lib.hid (Ip_3.out.kept hb4 (Nat.le_refl _))
  clear hB3 Ip_3 hb4
  refine Lib.hid ?_
  go_wp2_with (first | (go_at_call 17; refine (HV1.out _ _ _ Ip_4.out).mono ?_; rintro e w5 ⟨rfl, hb5⟩; refine Hid.out ?_) | fail)
  have hz5 := hb5.size
  have hB5 := on_base hB4 (by omega) hb5
  have Ip_5 := Lib.hid (Ip_4.out.kept hb5 (Nat.le_refl _))
  clear hB4 Ip_4 hb5
  clear HH1 HS1 HV1
  refine Lib.hid ?_
  go_upto_if 82 with (fail)
  go_cut [] (fun wx => Hid (Below w.heap.size w wx))
  case first => as_aux_lemma =>
    cases q1 with
    | false =>
      go_wp2_with fail
      go_meet
      exact Lib.hid hB5
    | true =>
      have hg1 := gB_of HQ1.out
      have ha0 := hg1.1
      obtain ⟨m, hm⟩ : ∃ m, m = l1.length - 1 := ⟨_, rfl⟩
      have hm1 : m < l1.length := by omega
      have hwm : IntKind.i64.wrap ((l1.length : Int) - 1) = (m : Int) := by rw [w64 _ (by omega)]; omega
      have hm2 : (0 : Int) ≤ (m : Int) := by omega
      have hm3 : (m : Int) < (l1.length : Int) := by omega
      have he1 := hA_end hg1
      have he2 := wA_first hg1
      have he3 := abA_self hg1
      rw [← hm] at he1
      have HE1 := Lib.hid (fun A c w (h : CAt w A l1) (h1 : l1.length ≤ c) (h9 : c ≤ maxLen) => head_cap A c l1 (cAt l1 m).fl w h (by omega) h1 h9)
      have HE2 := Lib.hid (fun A c w (h : CAt w A l1) (h1 : l1.length ≤ c) (h9 : c ≤ maxLen) => flow_cap A c l1 (cAt l1 0).hd w h (by omega) h1 h9)
      have HE3 := Lib.hid (fun A c w (h : CAt w A l1) (h1 : l1.length ≤ c) (h9 : c ≤ maxLen) => above_cap A A c c l1 l1 w h (by omega) h1 h9 h (by omega) h1 h9)
      unfold HPost at HE1
      unfold WPost at HE2
      unfold APost at HE3
      rw [he1] at HE1
      rw [he2] at HE2
      rw [he3] at HE3
      unfold Gives3 ret3 at HE1 HE2
      dsimp only at HE1 HE2 HE3
      obtain ⟨bb, oo, hA, hbl, c0, c1⟩ := Ip_5.out.at_ hm1
      simp only [Option.some.injEq, Addr.mk.injEq, and_true] at hA
      obtain ⟨rfl, rfl⟩ := hA
      rw [Nat.zero_add] at c0 c1
      have HZ := Lib.hid (fun (wx : World) (h : CAt wx (some ⟨b1, 0, none⟩) l1) => (show wx.cell? ⟨b1, 1, none⟩ = some (.int .i64 (cAt l1 0).hd) from by
        obtain ⟨bb, oo, hA, _, _, d1⟩ := h.at_ (show 0 < l1.length by omega)
        simp only [Option.some.injEq, Addr.mk.injEq, and_true] at hA
        obtain ⟨rfl, rfl⟩ := hA
        simpa using d1))
      have hnil : ¬ l1 = [] := by intro e; rw [e] at ha0; simp at ha0
      clear hm hg1 he1 he2 he3
      generalize (cAt l1 m).fl = X at *
      generalize (cAt l1 m).hd = Y at *
      generalize (cAt l1 0).hd = Z at *
      have hnpos : 0 < l1.length := by omega
      refine Hid.out ?_
      refine Lib.hid ?_
      go_upto_region 10 with (fail)
      obtain ⟨w6, hw6⟩ : ∃ w6, w6 = w5.alloc (.cells #[.int .i64 X, .int .i64 Y] 52) := ⟨_, rfl⟩
      have hb6 : Below w5.heap.size w5 w6 := by rw [hw6]; exact alloc_below _ _
      have k0 : w6.cell? ⟨w5.heap.size, 0, none⟩ = some (.int .i64 X) := by rw [hw6]; go_simp
      have k1 : w6.cell? ⟨w5.heap.size, 1, none⟩ = some (.int .i64 Y) := by rw [hw6]; go_simp
      have hk : w5.heap.size < w6.heap.size := by rw [hw6]; simp
      rw [← hw6]
      clear hw6 c0 c1 hwm hm2 hm3
      refine Hid.out ?_
      have hz6 := hb6.size
      have hB6 := on_base hB5 (by omega) hb6
      have Ip_6 := Lib.hid (Ip_5.out.kept hb6 (Nat.le_refl _))
      clear hB5 Ip_5 hb6
      have Dk_6 := k1
      clear k1
      refine Lib.hid ?_
      go_wp2_with (first | (go_at_call 20; refine (HE1.out _ _ _ Ip_6.out hc1.1 hc1.2).mono ?_; rintro e w7 ⟨rfl, hb7⟩; refine Hid.out ?_) | fail)
      have hz7 := hb7.size
      have hB7 := on_base hB6 (by omega) hb7
      have Ip_7 := Lib.hid (Ip_6.out.kept hb7 (Nat.le_refl _))
      have Dk_7 := (hb7.cell (p := ⟨w5.heap.size, 1, none⟩) (by dsimp only; omega)).trans Dk_6
      clear hB6 Ip_6 Dk_6 hb7
      clear k0
      have d1 := HZ.out _ Ip_7.out
      refine Lib.hid ?_
      go_wp2_with (first | (go_at_call 22; refine (HE2.out _ _ _ Ip_7.out hc1.1 hc1.2).mono ?_; rintro e w8 ⟨rfl, hb8⟩; refine Hid.out ?_) | fail)
      have hz8 := hb8.size
      have hB8 := on_base hB7 (by omega) hb8
      have Ip_8 := Lib.hid (Ip_7.out.kept hb8 (Nat.le_refl _))
      have Dk_8 := (hb8.cell (p := ⟨w5.heap.size, 1, none⟩) (by dsimp only; omega)).trans Dk_7
      clear hB7 Ip_7 Dk_7 hb8
      clear d1
      refine Lib.hid ?_
      go_wp2_with (first | (go_at_call 39; refine (HE3.out _ _ _ Ip_8.out hc1.1 hc1.2).mono ?_; rintro e w9 ⟨rfl, hb9⟩; refine Hid.out ?_) | fail)
      have hz9 := hb9.size
      have hB9 := on_base hB8 (by omega) hb9
      have Ip_9 := Lib.hid (Ip_8.out.kept hb9 (Nat.le_refl _))
      have Dk_9 := (hb9.cell (p := ⟨w5.heap.size, 1, none⟩) (by dsimp only; omega)).trans Dk_8
      clear hB8 Ip_8 Dk_8 hb9
      refine Lib.hid ?_
      go_wp2_with fail
      go_meet
      exact Lib.hid hB9
  case rest => as_aux_lemma =>
    have hB10 := hcut.out
    clear hcut
    clear hB5 Ip_5
    obtain ⟨w10, hwb⟩ : ∃ w10, w10 = wc := ⟨_, rfl⟩
    subst hwb
    clear hl1 hc1 HQ1
    refine Hid.out ?_
    refine Lib.hid ?_
    go_wp2_with (first | (go_at_call 42; refine (dflow_any a n cap _ (HC.out.later hB10 (Nat.le_refl _)) hn).mono ?_; rintro e w11 ⟨⟨b2, v2, l2, z2, rfl, hl2, hc2, hI⟩, hb11⟩; refine Hid.out ?_) | fail)
    have hz11 := hb11.size
    have hB11 := on_base hB10 (by omega) hb11
    clear hB10 hb11
    have Id_11 := Lib.hid hI
    clear hI
    obtain ⟨x2, y2, k2, hA2⟩ := tri_parts (wA l2 z2 0)
    have HH2 := Lib.hid (fun A c w (h : CAt w A l2) (h1 : l2.length ≤ c) (h9 : c ≤ maxLen) => flow_cap A c l2 z2 w h (by omega) h1 h9)
    have HS2 := Lib.hid (fun A c w (h : CAt w A l2) => sflow_any A c l2 z2 w h (by omega))
    have HX2 := Lib.hid (fun (e1 : y2 = 1) (e2 : k2 = true) A c w (h : CAt w A l2) (h1 : l2.length ≤ c) (h9 : c ≤ maxLen) => (show Calls Try.prog 20 #[.slice A l2.length c, .int .i64 x2] w (Gives3 z2 1 true w) from by
      have e := flow_head (cs := l2) (h := z2) (x := x2) (by rw [hA2, e1, e2])
      have := head_cap A c l2 x2 w h (by omega) h1 h9
      unfold HPost at this
      rwa [e] at this))
    unfold WPost at HH2 HS2
    rw [hA2] at HH2 HS2
    unfold Gives3 ret3 at HH2 HS2 HX2
    dsimp only at HH2 HS2
    clear hA2
    refine Lib.hid ?_
    go_wp2_with (first | (go_at_call 22; refine (HH2.out _ _ _ Id_11.out hc2.1 hc2.2).mono ?_; rintro e w12 ⟨rfl, hb12⟩; refine Hid.out ?_) | fail)
    have hz12 := hb12.size
    have hB12 := on_base hB11 (by omega) hb12
    have Id_12 := Lib.hid (Id_11.out.kept hb12 (Nat.le_refl _))
    clear hB11 Id_11 hb12
    refine Lib.hid ?_
    go_wp2_with (first | (go_at_call 21; refine (HS2.out _ _ _ Id_12.out).mono ?_; rintro e w13 ⟨rfl, hb13⟩; refine Hid.out ?_) | fail)
    have hz13 := hb13.size
    have hB13 := on_base hB12 (by omega) hb13
    have Id_13 := Lib.hid (Id_12.out.kept hb13 (Nat.le_refl _))
    clear hB12 Id_12 hb13
    clear HH2 HS2
    obtain ⟨t2, hqt2⟩ : ∃ b, (k2 && decide (y2 = 1)) = b := ⟨_, rfl⟩
    refine Lib.hid ?_
    go_upto_region 20 with (fail)
    go_cut [181] (fun s wx => s = .bool t2 ∧ Hid (Below w13.heap.size w13 wx))
    case first => as_aux_lemma =>
      cases k2
      all_goals
        go_wp2_with fail
        go_meet
        exact ⟨by rw [← hqt2]; rfl, Lib.hid (Below.refl _ _)⟩
    case rest => as_aux_lemma =>
      obtain ⟨rfl, hbc⟩ := hcut
      obtain ⟨w14, hwb⟩ : ∃ w14, w14 = wc := ⟨_, rfl⟩
      subst hwb
      have hb14 := hbc.out
      clear hbc
      have HQt2 := Lib.hid hqt2
      clear hqt2
      have hz14 := hb14.size
      have hB14 := on_base hB13 (by omega) hb14
      have Id_14 := Lib.hid (Id_13.out.kept hb14 (Nat.le_refl _))
      clear hB13 Id_13 hb14
      refine Hid.out ?_
      refine Lib.hid ?_
      go_upto_if 181 with (fail)
      go_cut [] (fun wx => Hid (Below w.heap.size w wx))
      case first => as_aux_lemma =>
        cases t2 with
        | false =>
          go_wp2_with fail
          go_meet
          exact Lib.hid hB14
        | true =>
          obtain ⟨hk2, hy2⟩ : k2 = true ∧ y2 = 1 := by simpa using HQt2.out
          subst hk2 hy2
          have HY2 := Lib.hid (HX2.out rfl rfl)
          clear HX2
          refine Hid.out ?_
          refine Lib.hid ?_
          go_wp2_with (first | (go_at_call 20; refine (HY2.out _ _ _ Id_14.out hc2.1 hc2.2).mono ?_; rintro e w15 ⟨rfl, hb15⟩; refine Hid.out ?_) | fail)
          have hz15 := hb15.size
          have hB15 := on_base hB14 (by omega) hb15
          have Id_15 := Lib.hid (Id_14.out.kept hb15 (Nat.le_refl _))
          clear hB14 Id_14 hb15
          refine Lib.hid ?_
          go_wp2_with fail
          go_meet
          exact Lib.hid hB15
      case rest => as_aux_lemma =>
        have hB16 := hcut.out
        clear hcut
        clear hB14 Id_14
        obtain ⟨w16, hwb⟩ : ∃ w16, w16 = wc := ⟨_, rfl⟩
        subst hwb
        clear hl2 hc2 HX2
        refine Hid.out ?_
        refine Lib.hid ?_
        go_wp2_with (first | (go_at_call 43; refine (draise_any a n cap _ (HC.out.later hB16 (Nat.le_refl _)) hn).mono ?_; rintro e w17 ⟨⟨b3, v3, l3, z3, rfl, hl3, hc3, hI⟩, hb17⟩; refine Hid.out ?_) | fail)
        have hz17 := hb17.size
        have hB17 := on_base hB16 (by omega) hb17
        clear hB16 hb17
        have Ie_17 := Lib.hid hI
        clear hI
        have HH3 := Lib.hid (fun A c w (h : CAt w A l3) => (raise_any A c l3 z3 w h (by omega)).mono (fun _ _ h => h.any))
        have HS3 := Lib.hid (fun A c w (h : CAt w A l3) => sraise_any A c l3 z3 w h (by omega))
        have hF3 := rL_len l3 z3
        have HT3 := Lib.hid (fun (e : rB l3 z3 = true) => rB_parts e)
        have HK3 := Lib.hid (fun (e : rB l3 z3 = true) => rB_back e)
        have HL3 := Lib.hid (fun (e : rB l3 z3 = true) => rL_yes e)
        obtain ⟨F3, hF⟩ : ∃ F, F = rL l3 z3 := ⟨_, rfl⟩
        obtain ⟨k3, hk3⟩ : ∃ k, k = rB l3 z3 := ⟨_, rfl⟩
        rw [← hF] at hF3 HL3
        rw [← hF, ← hk3] at HH3 HS3
        rw [← hk3] at HT3 HK3 HL3
        clear hF hk3
        refine Lib.hid ?_
        go_wp2_with (first | (go_at_call 35; refine (HH3.out _ _ _ Ie_17.out).mono ?_; rintro e w18 ⟨gf, cf, rfl, hgf, hI, hb18, hlf, hcf1, hcf2⟩; refine Hid.out ?_) | fail)
        have hz18 := hb18.size
        have hB18 := on_base hB17 (by omega) hb18
        have Ie_18 := Lib.hid (Ie_17.out.kept hb18 (Nat.le_refl _))
        clear hB17 Ie_17 hb18
        have If_18 := Lib.hid hI
        clear hI
        refine Lib.hid ?_
        go_wp2_with (first | (go_at_call 34; refine (HS3.out _ _ _ Ie_18.out).mono ?_; rintro e w19 ⟨gt, ct, rfl, hgt, hI, hb19, hlt, hct1, hct2⟩; refine Hid.out ?_) | fail)
        have hz19 := hb19.size
        have hB19 := on_base hB18 (by omega) hb19
        have Ie_19 := Lib.hid (Ie_18.out.kept hb19 (Nat.le_refl _))
        have If_19 := Lib.hid (If_18.out.kept hb19 (Nat.le_refl _))
        clear hB18 Ie_18 If_18 hb19
        have It_19 := Lib.hid hI
        clear hI
        refine Lib.hid ?_
        go_wp2_with (first | (go_at_call 44; refine (rcurves_same _ _ _ _ F3 _ If_19.out It_19.out (by omega)).mono ?_; rintro e w20 ⟨rfl, hb20⟩; refine Hid.out ?_) | fail)
        have hz20 := hb20.size
        have hB20 := on_base hB19 (by omega) hb20
        have Ie_20 := Lib.hid (Ie_19.out.kept hb20 (Nat.le_refl _))
        have If_20 := Lib.hid (If_19.out.kept hb20 (Nat.le_refl _))
        have It_20 := Lib.hid (It_19.out.kept hb20 (Nat.le_refl _))
        clear hB19 Ie_19 If_19 It_19 hb20
        clear It_20
        clear HH3 HS3
        refine Lib.hid ?_
        go_upto_if 226 with (fail)
        go_cut [] (fun wx => Hid (Below w.heap.size w wx))
        case first => as_aux_lemma =>
          cases k3 with
          | false =>
            go_wp2_with fail
            go_meet
            exact Lib.hid hB20
          | true =>
            obtain ⟨hg3, hr3, hz30, hz39⟩ := HT3.out rfl
            have hF3e := HL3.out rfl
            obtain ⟨hbk1, hbk2⟩ := HK3.out rfl
            rw [← hF3e] at hbk1 hbk2
            have hab : abA F3 l3 = (decide (0 ≤ z3), true) := by rw [hF3e]; exact abA_raise hg3 hr3
            have HAB := Lib.hid (fun A c A2 c2 w (h : CAt w A F3) (h1 : F3.length ≤ c) (h9 : c ≤ maxLen) (k : CAt w A2 l3) (k1 : l3.length ≤ c2) (k9 : c2 ≤ maxLen) => above_cap A A2 c c2 F3 l3 w h (by omega) h1 h9 k (by omega) k1 k9)
            unfold APost at HAB
            rw [hab] at HAB
            dsimp only at HAB
            have HBK := Lib.hid (fun A c w (h : CAt w A F3) => (raise_any A c F3 (-z3) w h (by omega)).mono (fun _ _ h => h.any))
            rw [hbk1, hbk2] at HBK
            have hnz : IntKind.i64.wrap (-z3) = -z3 := w64 _ (by omega)
            clear HT3 HK3 HL3 hF3e hg3 hr3 hab hbk1 hbk2
            by_cases hz3s : 0 ≤ z3
            · rw [show decide (0 ≤ z3) = true by simpa using hz3s] at HAB
              refine Hid.out ?_
              refine Lib.hid ?_
              go_wp2_with (first | (go_at_call 39; refine (HAB.out _ _ _ _ _ If_20.out hcf1 hcf2 Ie_20.out hc3.1 hc3.2).mono ?_; rintro e w21 ⟨rfl, hb21⟩; refine Hid.out ?_) | fail)
              have hz21 := hb21.size
              have hB21 := on_base hB20 (by omega) hb21
              have Ie_21 := Lib.hid (Ie_20.out.kept hb21 (Nat.le_refl _))
              have If_21 := Lib.hid (If_20.out.kept hb21 (Nat.le_refl _))
              clear hB20 Ie_20 If_20 hb21
              refine Lib.hid ?_
              go_wp2_with (first | (go_at_call 35; refine (HBK.out _ _ _ If_21.out).mono ?_; rintro e w22 ⟨gr, cr, rfl, hgr, hI, hb22, hlr, hcr1, hcr2⟩; refine Hid.out ?_) | fail)
              have hz22 := hb22.size
              have hB22 := on_base hB21 (by omega) hb22
              have Ie_22 := Lib.hid (Ie_21.out.kept hb22 (Nat.le_refl _))
              have If_22 := Lib.hid (If_21.out.kept hb22 (Nat.le_refl _))
              clear hB21 Ie_21 If_21 hb22
              have Ir_22 := Lib.hid hI
              clear hI
              refine Lib.hid ?_
              go_wp2_with (first | (go_at_call 44; refine (rcurves_same _ _ _ _ l3 _ Ir_22.out Ie_22.out (by omega)).mono ?_; rintro e w23 ⟨rfl, hb23⟩; refine Hid.out ?_) | fail)
              have hz23 := hb23.size
              have hB23 := on_base hB22 (by omega) hb23
              have Ie_23 := Lib.hid (Ie_22.out.kept hb23 (Nat.le_refl _))
              have If_23 := Lib.hid (If_22.out.kept hb23 (Nat.le_refl _))
              have Ir_23 := Lib.hid (Ir_22.out.kept hb23 (Nat.le_refl _))
              clear hB22 Ie_22 If_22 Ir_22 hb23
              refine Lib.hid ?_
              go_wp2_with fail
              go_meet
              exact Lib.hid hB23
            · rw [show decide (0 ≤ z3) = false by simpa using hz3s] at HAB
              have hz3t : z3 < 0 := by omega
              clear hz3s
              refine Hid.out ?_
              refine Lib.hid ?_
              go_wp2_with (first | (go_at_call 39; refine (HAB.out _ _ _ _ _ If_20.out hcf1 hcf2 Ie_20.out hc3.1 hc3.2).mono ?_; rintro e w21 ⟨rfl, hb21⟩; refine Hid.out ?_) | fail)
              have hz21 := hb21.size
              have hB21 := on_base hB20 (by omega) hb21
              have Ie_21 := Lib.hid (Ie_20.out.kept hb21 (Nat.le_refl _))
              have If_21 := Lib.hid (If_20.out.kept hb21 (Nat.le_refl _))
              clear hB20 Ie_20 If_20 hb21
              refine Lib.hid ?_
              go_wp2_with (first | (go_at_call 35; refine (HBK.out _ _ _ If_21.out).mono ?_; rintro e w22 ⟨gr, cr, rfl, hgr, hI, hb22, hlr, hcr1, hcr2⟩; refine Hid.out ?_) | fail)
              have hz22 := hb22.size
              have hB22 := on_base hB21 (by omega) hb22
              have Ie_22 := Lib.hid (Ie_21.out.kept hb22 (Nat.le_refl _))
              have If_22 := Lib.hid (If_21.out.kept hb22 (Nat.le_refl _))
              clear hB21 Ie_21 If_21 hb22
              have Ir_22 := Lib.hid hI
              clear hI
              refine Lib.hid ?_
              go_wp2_with (first | (go_at_call 44; refine (rcurves_same _ _ _ _ l3 _ Ir_22.out Ie_22.out (by omega)).mono ?_; rintro e w23 ⟨rfl, hb23⟩; refine Hid.out ?_) | fail)
              have hz23 := hb23.size
              have hB23 := on_base hB22 (by omega) hb23
              have Ie_23 := Lib.hid (Ie_22.out.kept hb23 (Nat.le_refl _))
              have If_23 := Lib.hid (If_22.out.kept hb23 (Nat.le_refl _))
              have Ir_23 := Lib.hid (Ir_22.out.kept hb23 (Nat.le_refl _))
              clear hB22 Ie_22 If_22 Ir_22 hb23
              refine Lib.hid ?_
              go_wp2_with fail
              go_meet
              exact Lib.hid hB23
        case rest => as_aux_lemma =>
          have hB24 := hcut.out
          clear hcut
          clear hB20 Ie_20 If_20
          obtain ⟨w24, hwb⟩ : ∃ w24, w24 = wc := ⟨_, rfl⟩
          subst hwb
          clear hl3 hc3 HT3 HK3 HL3 hF3
          refine Hid.out ?_
          refine Lib.hid ?_
          go_wp2_with (first | (go_at_call 45; refine (dabove_any a n cap _ (HC.out.later hB24 (Nat.le_refl _)) hn).mono ?_; rintro e w25 ⟨⟨b4, v4, l4, b5, v5, l5, rfl, hl4, hc4, hI, hl5, hc5, hI2⟩, hb25⟩; refine Hid.out ?_) | fail)
          have hz25 := hb25.size
          have hB25 := on_base hB24 (by omega) hb25
          clear hB24 hb25
          have Ig_25 := Lib.hid hI
          clear hI
          have Ih_25 := Lib.hid hI2
          clear hI2
          have HH4 := Lib.hid (fun A c A2 c2 w (h : CAt w A l4) (h1 : l4.length ≤ c) (h9 : c ≤ maxLen) (k : CAt w A2 l5) (k1 : l5.length ≤ c2) (k9 : c2 ≤ maxLen) => above_cap A A2 c c2 l4 l5 w h (by omega) h1 h9 k (by omega) k1 k9)
          have HS4 := Lib.hid (fun A c A2 c2 w (h : CAt w A l4) (k : CAt w A2 l5) => sabove_any A A2 c c2 l4 l5 w h (by omega) k (by omega))
          unfold APost at HH4 HS4
          generalize abA l4 l5 = r4 at *
          obtain ⟨r40, r41⟩ := r4
          dsimp only at HH4 HS4
          refine Lib.hid ?_
          go_wp2_with (first | (go_at_call 39; refine (HH4.out _ _ _ _ _ Ig_25.out hc4.1 hc4.2 Ih_25.out hc5.1 hc5.2).mono ?_; rintro e w26 ⟨rfl, hb26⟩; refine Hid.out ?_) | fail)
          have hz26 := hb26.size
          have hB26 := on_base hB25 (by omega) hb26
          have Ig_26 := Lib.hid (Ig_25.out.kept hb26 (Nat.le_refl _))
          have Ih_26 := Lib.hid (Ih_25.out.kept hb26 (Nat.le_refl _))
          clear hB25 Ig_25 Ih_25 hb26
          refine Lib.hid ?_
          go_wp2_with (first | (go_at_call 38; refine (HS4.out _ _ _ _ _ Ig_26.out Ih_26.out).mono ?_; rintro e w27 ⟨rfl, hb27⟩; refine Hid.out ?_) | fail)
          have hz27 := hb27.size
          have hB27 := on_base hB26 (by omega) hb27
          have Ig_27 := Lib.hid (Ig_26.out.kept hb27 (Nat.le_refl _))
          have Ih_27 := Lib.hid (Ih_26.out.kept hb27 (Nat.le_refl _))
          clear hB26 Ig_26 Ih_26 hb27
          refine Lib.hid ?_
          cases r40 <;> cases r41
          all_goals
            go_wp2_with fail
            go_ret
            exact ⟨rfl, hB27⟩
end Go.Proofs.Ytmehhojnefoedaa.S7
