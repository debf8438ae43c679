/- The walk of the law FnPumps: contracts. Conditions: each theorem's own premises. -/
import Derived.Test.YtpldbakllegheabCvPump4
import Derived.Deep.DeepCutAuto
namespace Go.Proofs.Ytpldbakllegheab.S7
open Go.RowKit P7

set_option maxHeartbeats 24000000 in
set_option maxRecDepth 100000 in
theorem walkPumps (a : Option Addr) (n cap : Nat) (w : World) (hc : S1.Cd w.heap.size a n w) :
    Calls Try.prog 3 #[.slice a n cap] w fun e w' => e = .returned (.bool true) ∧ Below w.heap.size w w' := by
  have HC := Lib.hid hc
  clear hc
  by_cases hbig : 65536 < n
  · have H := Lib.hid (fun w => rbig_yes a n cap w hbig)
    go_enter Try.func3, Try.ntmps3
    go_wp2_with (go_at_call 8; refine (H.out _).mono ?_; rintro e w1 ⟨rfl, rfl⟩)
    go_ret
    exact ⟨rfl, Below.refl _ _⟩
  have hn : n ≤ 65536 := by omega
  have HR := Lib.hid (fun w => rbig_below a n cap w hn)
  clear hbig
  go_enter Try.func3, Try.ntmps3
  have hB0 := Below.refl w.heap.size w
  refine Hid.out ?_
  refine Lib.hid ?_
  go_wp2_with (first | (go_at_call 8; refine (HR.out _).mono ?_; rintro e w1 ⟨rfl, hb1⟩; refine Hid.out ?_) | fail)
  have hz1 := hb1.size
  have hB1 := on_base hB0 (by omega) hb1
  clear hB0 hb1
  refine Lib.hid ?_
  go_wp2_with (first | (go_at_call 9; refine (dwork_any a n cap _ (HC.out.later hB1 (Nat.le_refl _)) hn).mono ?_; rintro e w2 ⟨⟨b1, v1, l1, z1, s1, rfl, hl1, hc1, hI⟩, hb2⟩; refine Hid.out ?_) | fail)
  have hz2 := hb2.size
  have hB2 := on_base hB1 (by omega) hb2
  clear hB1 hb2
  have Ip_2 := Lib.hid hI
  clear hI
  obtain ⟨x1, y1, k1, hA1⟩ := tri_parts (wA l1 z1 s1)
  obtain ⟨x2, y2, k2, hA2⟩ := tri_parts (whA l1 z1 s1)
  have hk : k2 = k1 := by
    cases k1 with
    | false => have e := wp_no hA1; rw [hA2] at e; simp only [Prod.mk.injEq] at e; exact e.2.2
    | true => obtain ⟨_, _, _, _, _, _, e, _⟩ := wp_yes hA1; rw [hA2] at e; simp only [Prod.mk.injEq] at e; exact e.2.2
  rw [hk] at hA2
  clear hk
  have HH1 := Lib.hid (fun A c w (h : CAt w A l1) (h1 : l1.length ≤ c) (h9 : c ≤ maxLen) => work_cap A c l1 z1 s1 w h (by omega) h1 h9)
  have HS1 := Lib.hid (fun A c w (h : CAt w A l1) => swork_any A c l1 z1 s1 w h (by omega))
  have HH2 := Lib.hid (fun A c w (h : CAt w A l1) (h1 : l1.length ≤ c) (h9 : c ≤ maxLen) => whead_cap A c l1 z1 s1 w h (by omega) h1 h9)
  have HS2 := Lib.hid (fun A c w (h : CAt w A l1) => swhead_any A c l1 z1 s1 w h (by omega))
  have HX := Lib.hid (fun (e1 : k1 = true) (e2 : y1 = 1) A c w (h : CAt w A l1) (h1 : l1.length ≤ c) (h9 : c ≤ maxLen) => (show Calls Try.prog 14 #[.slice A l1.length c, .int .i64 x1] w (Gives3 x2 y2 true w) from by
    have e := point_head (cs := l1) (l := z1) (s := s1) (x := x1) (by rw [hA1, e1, e2])
    have := head_cap A c l1 x1 w h (by omega) h1 h9
    unfold HPost at this
    rw [e, hA2] at this
    exact this))
  have HE := Lib.hid (fun (e1 : k1 = true) => wp_mul (hA1.trans (by rw [e1])) (hA2.trans (by rw [e1])))
  unfold WPost at HH1 HS1
  unfold WHPost at HH2 HS2
  rw [hA1] at HH1 HS1
  rw [hA2] at HH2 HS2
  unfold Gives3 ret3 at HH1 HS1 HH2 HS2 HX
  dsimp only at HH1 HS1 HH2 HS2
  clear hA1 hA2
  refine Lib.hid ?_
  go_wp2_with (first | (go_at_call 10; refine (HH1.out _ _ _ Ip_2.out hc1.1 hc1.2).mono ?_; rintro e w3 ⟨rfl, hb3⟩; refine Hid.out ?_) | fail)
  have hz3 := hb3.size
  have hB3 := on_base hB2 (by omega) hb3
  have Ip_3 := Lib.hid (Ip_2.out.kept hb3 (Nat.le_refl _))
  clear hB2 Ip_2 hb3
  refine Lib.hid ?_
  go_wp2_with (first | (go_at_call 11; refine (HS1.out _ _ _ Ip_3.out).mono ?_; rintro e w4 ⟨rfl, hb4⟩; refine Hid.out ?_) | fail)
  have hz4 := hb4.size
  have hB4 := on_base hB3 (by omega) hb4
  have Ip_4 := Lib.hid (Ip_3.out.kept hb4 (Nat.le_refl _))
  clear hB3 Ip_3 hb4
  clear HH1 HS1
  refine Lib.hid ?_
  go_wp2_with (first | (go_at_call 12; refine (HH2.out _ _ _ Ip_4.out hc1.1 hc1.2).mono ?_; rintro e w5 ⟨rfl, hb5⟩; refine Hid.out ?_) | fail)
  have hz5 := hb5.size
  have hB5 := on_base hB4 (by omega) hb5
  have Ip_5 := Lib.hid (Ip_4.out.kept hb5 (Nat.le_refl _))
  clear hB4 Ip_4 hb5
  refine Lib.hid ?_
  go_wp2_with (first | (go_at_call 13; refine (HS2.out _ _ _ Ip_5.out).mono ?_; rintro e w6 ⟨rfl, hb6⟩; refine Hid.out ?_) | fail)
  have hz6 := hb6.size
  have hB6 := on_base hB5 (by omega) hb6
  have Ip_6 := Lib.hid (Ip_5.out.kept hb6 (Nat.le_refl _))
  clear hB5 Ip_5 hb6
  clear HH2 HS2
  refine Lib.hid ?_
  go_upto_if 120 with (fail)
  go_cut [] (fun wx => Hid (Below w.heap.size w wx))
  case first => as_aux_lemma =>
    cases k1 with
    | false =>
      go_wp2_with fail
      go_meet
      exact Lib.hid hB6
    | true =>
      have HY := Lib.hid (HX.out rfl)
      obtain ⟨V, p1, p2, p, e1, e2, e3, e4, e5⟩ := HE.out rfl
      clear HX HE
      refine Hid.out ?_
      obtain ⟨t, hqt⟩ : ∃ b, (decide (y1 = 1)) = b := ⟨_, rfl⟩
      refine Lib.hid ?_
      go_upto_region 15 with (fail)
      go_cut [135] (fun s wx => s = .bool t ∧ Hid (Below w6.heap.size w6 wx))
      case first => as_aux_lemma =>
        skip
        all_goals
          go_wp2_with fail
          go_meet
          exact ⟨by rw [← hqt]; rfl, Lib.hid (Below.refl _ _)⟩
      case rest => as_aux_lemma =>
        obtain ⟨rfl, hbc⟩ := hcut
        obtain ⟨w7, hwb⟩ : ∃ w7, w7 = wc := ⟨_, rfl⟩
        subst hwb
        have hb7 := hbc.out
        clear hbc
        have HQt := Lib.hid hqt
        clear hqt
        have hz7 := hb7.size
        have hB7 := on_base hB6 (by omega) hb7
        have Ip_7 := Lib.hid (Ip_6.out.kept hb7 (Nat.le_refl _))
        clear hB6 Ip_6 hb7
        refine Hid.out ?_
        cases t with
        | true =>
          have HZ := Lib.hid (HY.out (by simpa using HQt.out))
          clear HY HQt
          refine Lib.hid ?_
          go_wp2_with (first | (go_at_call 14; refine (HZ.out _ _ _ Ip_7.out hc1.1 hc1.2).mono ?_; rintro e w8 ⟨rfl, hb8⟩; refine Hid.out ?_) | fail)
          have hz8 := hb8.size
          have hB8 := on_base hB7 (by omega) hb8
          have Ip_8 := Lib.hid (Ip_7.out.kept hb8 (Nat.le_refl _))
          clear hB7 Ip_7 hb8
          refine Lib.hid ?_
          go_wp2_with fail
          go_meet
          exact Lib.hid hB8
        | false =>
          clear HY HQt
          refine Lib.hid ?_
          go_wp2_with fail
          go_meet
          exact Lib.hid hB7
  case rest => as_aux_lemma =>
    have hB9 := hcut.out
    clear hcut
    clear hB6 Ip_6
    obtain ⟨w9, hwb⟩ : ∃ w9, w9 = wc := ⟨_, rfl⟩
    subst hwb
    clear hl1 hc1 HX HE
    refine Hid.out ?_
    refine Lib.hid ?_
    go_wp2_with (first | (go_at_call 15; refine (dpar_any a n cap _ (HC.out.later hB9 (Nat.le_refl _)) hn).mono ?_; rintro e w10 ⟨⟨bd, vd, ld, zd, rfl, hld, hcd, hI⟩, hb10⟩; refine Hid.out ?_) | fail)
    have hz10 := hb10.size
    have hB10 := on_base hB9 (by omega) hb10
    clear hB9 hb10
    have Id_10 := Lib.hid hI
    clear hI
    obtain ⟨xd, yd, kd, hAd⟩ := tri_parts (parA ld zd)
    have HHd := Lib.hid (fun A c w (h : SCp w A ld) => par_all A c ld zd w h (by omega))
    have HSd := Lib.hid (fun A c w (h : SCp w A ld) => spar_all A c ld zd w h (by omega))
    have HXd := Lib.hid (fun (e1 : kd = true) => par_twice (hAd.trans (by rw [e1])))
    skip
    rw [hAd] at HHd HSd
    unfold Gives3 ret3 at HHd HSd
    dsimp only at HHd HSd
    clear hAd
    refine Lib.hid ?_
    go_wp2_with (first | (go_at_call 16; refine (HHd.out _ _ _ Id_10.out.scp).mono ?_; rintro e w11 ⟨rfl, hb11⟩; refine Hid.out ?_) | fail)
    have hz11 := hb11.size
    have hB11 := on_base hB10 (by omega) hb11
    have Id_11 := Lib.hid (Id_10.out.kept hb11 (Nat.le_refl _))
    clear hB10 Id_10 hb11
    refine Lib.hid ?_
    go_wp2_with (first | (go_at_call 17; refine (HSd.out _ _ _ Id_11.out.scp).mono ?_; rintro e w12 ⟨rfl, hb12⟩; refine Hid.out ?_) | fail)
    have hz12 := hb12.size
    have hB12 := on_base hB11 (by omega) hb12
    have Id_12 := Lib.hid (Id_11.out.kept hb12 (Nat.le_refl _))
    clear hB11 Id_11 hb12
    clear HHd HSd
    refine Lib.hid ?_
    go_upto_if 187 with (fail)
    go_cut [] (fun wx => Hid (Below w.heap.size w wx))
    case first => as_aux_lemma =>
      cases kd with
      | false =>
        go_wp2_with fail
        go_meet
        exact Lib.hid hB12
      | true =>
        obtain ⟨h1d, n1, d1, e1, f1, q1, q2, q3, q4, q5, q6, q7⟩ := HXd.out rfl
        obtain ⟨V, P, m1, m2, m3⟩ := two_mul q3 q4 q5 q6 q7
        obtain ⟨lzd, hlzd⟩ : ∃ lz, rw_ ld 0 = lz := ⟨_, rfl⟩
        rw [hlzd] at q1 q2
        have HLd := Lib.hid hlzd
        clear hlzd
        have HP1 := Lib.hid (fun B c w h h1 h2 => par_one q1 B c w h h1 h2)
        have HP2 := Lib.hid (fun B c w h h1 h2 => par_two q2 B c w h h1 h2)
        clear HXd q1 q2 q3 q4 q5 q6 q7
        refine Hid.out ?_
        obtain ⟨Bd, cd, hcelld, hCd, hbld, hmd, hnd, hxd, h7d⟩ := sdr_first Id_12.out h1d
        rw [HLd.out] at hcelld hCd hmd hnd h7d
        have hlend : (0 : Int) < (ld.length : Int) := by omega
        refine Lib.hid ?_
        go_wp2_with (first | (go_at_call 16; refine (HP1.out _ _ _ hCd hmd hxd).mono ?_; rintro e w13 ⟨rfl, hb13⟩; refine Hid.out ?_) | fail)
        have hz13 := hb13.size
        have hB13 := on_base hB12 (by omega) hb13
        have Id_13 := Lib.hid (Id_12.out.kept hb13 (Nat.le_refl _))
        clear hB12 Id_12 hb13
        clear hcelld hCd hbld hmd hnd hxd h7d hlend
        obtain ⟨Bd, cd, hcelld, hCd, hbld, hmd, hnd, hxd, h7d⟩ := sdr_first Id_13.out h1d
        rw [HLd.out] at hcelld hCd hmd hnd h7d
        have hlend : (0 : Int) < (ld.length : Int) := by omega
        refine Lib.hid ?_
        go_upto_region 26 with (fail)
        go_cut [32, 33, 34] (fun s0 s1 s2 wx => s0 = .int .i64 (e1 : Int) ∧ s1 = .int .i64 (f1 : Int) ∧ s2 = .bool true ∧ Hid (Below w13.heap.size w13 wx))
        case first => as_aux_lemma =>
          have hnild : ld ≠ [] := by
            intro h0
            simp [h0] at hlend
          refine wp_region_held_drew (S := fun w' => w'.cell? ⟨bd, 0, none⟩ = some (.slice (some ⟨Bd, 0, none⟩) lzd.length cd)) (by kernel_rfl) (by exact hcelld) (fun hHeld => ?_)
          refine wpAnyH_take (i := 0) (v := .slice (some ⟨bd, 0, none⟩) ld.length vd) rfl (by kernel_rfl) (by kernel_rfl) (by kernel_rfl) (fun _ _ _ h => h) (Or.inl ⟨by rfl, ?_⟩) (by assumption) ?_
          · (intro w hSw; (try dsimp only at hSw); go_simp)
          simp only [Act.put, List.setIfInBounds_toArray]
          refine wpAnyH_take (i := 1) (v := .pointer (some ⟨bd, 0, none⟩)) rfl (by kernel_rfl) (by kernel_rfl) (by kernel_rfl) (fun _ _ _ h => h) (Or.inl ⟨by rfl, ?_⟩) (by assumption) ?_
          · (intro w hSw; (try dsimp only at hSw); go_simp; (try exact fun h0 => absurd h0 hnild))
          simp only [Act.put]
          refine wpAnyH_take (i := 2) (v := .slice (some ⟨Bd, 0, none⟩) lzd.length cd) rfl (by kernel_rfl) (by kernel_rfl) (by kernel_rfl) (fun _ _ _ h => h) (Or.inl ⟨by rfl, ?_⟩) (by assumption) ?_
          · (intro w hSw; (try dsimp only at hSw); go_simp)
          simp only [Act.put]
          refine wpAnyH_take (i := 3) (v := .slice (some ⟨bd, 0, none⟩) ld.length vd) rfl (by kernel_rfl) (by kernel_rfl) (by kernel_rfl) (fun _ _ _ h => h) (Or.inl ⟨by rfl, ?_⟩) (by assumption) ?_
          · (intro w hSw; (try dsimp only at hSw); go_simp)
          simp only [Act.put]
          refine wpAnyH_take (i := 4) (v := .pointer (some ⟨bd, 0, none⟩)) rfl (by kernel_rfl) (by kernel_rfl) (by kernel_rfl) (fun _ _ _ h => h) (Or.inl ⟨by rfl, ?_⟩) (by assumption) ?_
          · (intro w hSw; (try dsimp only at hSw); go_simp; (try exact fun h0 => absurd h0 hnild))
          simp only [Act.put]
          refine wpAnyH_take (i := 5) (v := .slice (some ⟨Bd, 0, none⟩) lzd.length cd) rfl (by kernel_rfl) (by kernel_rfl) (by kernel_rfl) (fun _ _ _ h => h) (Or.inl ⟨by rfl, ?_⟩) (by assumption) ?_
          · (intro w hSw; (try dsimp only at hSw); go_simp)
          simp only [Act.put]
          refine wpAnyH_take (i := 7) (v := .int .i64 zd) rfl (by kernel_rfl) (by kernel_rfl) (by kernel_rfl) (fun _ _ _ h => h) (Or.inl ⟨by rfl, ?_⟩) (by assumption) ?_
          · (intro w hSw; (try dsimp only at hSw); go_simp)
          simp only [Act.put]
          refine wpAnyH_ready (rs := [6]) (by kernel_rfl) (by simp) ?_
          refine AllReadyH.cons rfl (fun K hK => ?_) AllReadyH.nil
          go_simp
          refine hK.out _ _ (by first | assumption | go_keep) (fun hHeld => ?_)
          clear hK K
          refine wpAnyH_ready (rs := [8]) (by kernel_rfl) (by simp) ?_
          refine AllReadyH.cons rfl (fun K hK => ?_) AllReadyH.nil
          go_simp
          go_at_call 16
          refine (HP2.out _ _ _ hCd hmd hxd).mono ?_
          rintro e wq ⟨rfl, hbq⟩
          have q0 := (hbq.cell (p := ⟨bd, 0, none⟩) hbld).trans hcelld
          refine hK.out _ _ (by exact q0) (fun hHeld => ?_)
          clear hK K
          refine wpAnyH_take (i := 9) (v := .tuple #[.int .i64 (e1 : Int), .int .i64 (f1 : Int), .bool true]) rfl (by kernel_rfl) (by kernel_rfl) (by kernel_rfl) (fun _ _ _ h => h) (Or.inl ⟨by rfl, ?_⟩) (by assumption) ?_
          · (intro w hSw; (try dsimp only at hSw); go_simp)
          simp only [Act.put]
          refine wpAnyH_take (i := 10) (v := .int .i64 (e1 : Int)) rfl (by kernel_rfl) (by kernel_rfl) (by kernel_rfl) (fun _ _ _ h => h) (Or.inl ⟨by rfl, ?_⟩) (by assumption) ?_
          · (intro w hSw; (try dsimp only at hSw); go_simp)
          simp only [Act.put]
          refine wpAnyH_take (i := 11) (v := .int .i64 (f1 : Int)) rfl (by kernel_rfl) (by kernel_rfl) (by kernel_rfl) (fun _ _ _ h => h) (Or.inl ⟨by rfl, ?_⟩) (by assumption) ?_
          · (intro w hSw; (try dsimp only at hSw); go_simp)
          simp only [Act.put]
          refine wpAnyH_take (i := 12) (v := .bool true) rfl (by kernel_rfl) (by kernel_rfl) (by kernel_rfl) (fun _ _ _ h => h) (Or.inl ⟨by rfl, ?_⟩) (by assumption) ?_
          · (intro w hSw; (try dsimp only at hSw); go_simp)
          simp only [Act.put]
          refine wpAnyH_ready (rs := [13]) (by kernel_rfl) (by simp) ?_
          refine AllReadyH.cons rfl (fun K hK => ?_) AllReadyH.nil
          go_simp
          refine hK.out _ _ (by first | assumption | go_keep) (fun hHeld => ?_)
          clear hK K
          refine wpAnyH_ready (rs := [14]) (by kernel_rfl) (by simp) ?_
          refine AllReadyH.cons rfl (fun K hK => ?_) AllReadyH.nil
          go_simp
          refine hK.out _ _ (by first | assumption | go_keep) (fun hHeld => ?_)
          clear hK K
          refine wpAnyH_ready (rs := [15]) (by kernel_rfl) (by simp) ?_
          refine AllReadyH.cons rfl (fun K hK => ?_) AllReadyH.nil
          go_simp
          refine hK.out _ _ (by first | assumption | go_keep) (fun hHeld => ?_)
          clear hK K
          refine wpAnyH_done (by kernel_rfl) ?_ _
          go_wp2_with fail
          go_meet
          exact ⟨rfl, rfl, rfl, Lib.hid hbq⟩
        case rest => as_aux_lemma =>
          obtain ⟨rfl, rfl, rfl, hbc⟩ := hcut
          obtain ⟨w14, hwb⟩ : ∃ w14, w14 = wc := ⟨_, rfl⟩
          subst hwb
          have hb14 := hbc.out
          clear hbc
          clear hcelld hCd hbld hmd hnd hxd h7d hlend
          have hz14 := hb14.size
          have hB14 := on_base hB13 (by omega) hb14
          have Id_14 := Lib.hid (Id_13.out.kept hb14 (Nat.le_refl _))
          clear hB13 Id_13 hb14
          refine Hid.out ?_
          refine Lib.hid ?_
          go_wp2_with fail
          go_meet
          exact Lib.hid hB14
    case rest => as_aux_lemma =>
      have hB15 := hcut.out
      clear hcut
      clear hB12 Id_12
      obtain ⟨w15, hwb⟩ : ∃ w15, w15 = wc := ⟨_, rfl⟩
      subst hwb
      clear hld hcd HXd
      refine Hid.out ?_
      refine Lib.hid ?_
      go_wp2_with (first | (go_at_call 18; refine (dser_any a n cap _ (HC.out.later hB15 (Nat.le_refl _)) hn).mono ?_; rintro e w16 ⟨⟨bs, vs, ls, zs, rfl, hls, hcs, hI⟩, hb16⟩; refine Hid.out ?_) | fail)
      have hz16 := hb16.size
      have hB16 := on_base hB15 (by omega) hb16
      clear hB15 hb16
      have Is_16 := Lib.hid hI
      clear hI
      obtain ⟨xs, ys, ks, hAs⟩ := tri_parts (sumA (fun i => hA (rw_ ls i) zs) ls.length)
      have HHs := Lib.hid (fun A c w (h : SCp w A ls) => series_any A c ls zs w h (by omega))
      have HSs := Lib.hid (fun A c w (h : SCp w A ls) => sseries_any A c ls zs w h (by omega))
      have HXs := Lib.hid (fun (e1 : ks = true) => ser_twice (hAs.trans (by rw [e1])))
      unfold SPost at HHs HSs
      rw [hAs] at HHs HSs
      unfold Gives3 ret3 at HHs HSs
      dsimp only at HHs HSs
      clear hAs
      refine Lib.hid ?_
      go_wp2_with (first | (go_at_call 19; refine (HHs.out _ _ _ Is_16.out.scp).mono ?_; rintro e w17 ⟨rfl, hb17⟩; refine Hid.out ?_) | fail)
      have hz17 := hb17.size
      have hB17 := on_base hB16 (by omega) hb17
      have Is_17 := Lib.hid (Is_16.out.kept hb17 (Nat.le_refl _))
      clear hB16 Is_16 hb17
      refine Lib.hid ?_
      go_wp2_with (first | (go_at_call 20; refine (HSs.out _ _ _ Is_17.out.scp).mono ?_; rintro e w18 ⟨rfl, hb18⟩; refine Hid.out ?_) | fail)
      have hz18 := hb18.size
      have hB18 := on_base hB17 (by omega) hb18
      have Is_18 := Lib.hid (Is_17.out.kept hb18 (Nat.le_refl _))
      clear hB17 Is_17 hb18
      clear HHs HSs
      cases ks with
      | false =>
        refine Lib.hid ?_
        go_wp2_with fail
        go_ret
        exact ⟨rfl, hB18⟩
      | true =>
        obtain ⟨h1s, n2, d2, e2, f2, q1, q2, q3, q4, q5, q6, q7⟩ := HXs.out rfl
        obtain ⟨V2, P2, m1, m2, m3⟩ := two_mul q3 q4 q5 q6 q7
        obtain ⟨lzs, hlzs⟩ : ∃ lz, rw_ ls 0 = lz := ⟨_, rfl⟩
        rw [hlzs] at q1 q2
        have HLs := Lib.hid hlzs
        clear hlzs
        have HP1 := Lib.hid (fun A c w h hm h1 h2 => hd_in q1 A c w h hm h1 h2)
        have HP2 := Lib.hid (fun B c w h h1 h2 => ser_two q2 B c w h h1 h2)
        clear HXs q1 q2 q3 q4 q5 q6 q7
        obtain ⟨Bs, cs, hcells, hCs, hbls, hms, hns, hxs, h7s⟩ := sdr_first Is_18.out h1s
        rw [HLs.out] at hcells hCs hms hns h7s
        have hlens : (0 : Int) < (ls.length : Int) := by omega
        refine Lib.hid ?_
        go_wp2_with (first | (go_at_call 14; refine (HP1.out _ _ _ hCs (by omega) hns hxs).mono ?_; rintro e w19 ⟨rfl, hb19⟩; refine Hid.out ?_) | fail)
        have hz19 := hb19.size
        have hB19 := on_base hB18 (by omega) hb19
        have Is_19 := Lib.hid (Is_18.out.kept hb19 (Nat.le_refl _))
        clear hB18 Is_18 hb19
        clear hcells hCs hbls hms hns hxs h7s hlens
        obtain ⟨Bs, cs, hcells, hCs, hbls, hms, hns, hxs, h7s⟩ := sdr_first Is_19.out h1s
        rw [HLs.out] at hcells hCs hms hns h7s
        have hlens : (0 : Int) < (ls.length : Int) := by omega
        refine Lib.hid ?_
        go_upto_region 36 with (fail)
        go_cut [46, 47, 48] (fun s0 s1 s2 wx => s0 = .int .i64 (e2 : Int) ∧ s1 = .int .i64 (f2 : Int) ∧ s2 = .bool true ∧ Hid (Below w19.heap.size w19 wx))
        case first => as_aux_lemma =>
          have hnils : ls ≠ [] := by
            intro h0
            simp [h0] at hlens
          refine wp_region_held_drew (S := fun w' => w'.cell? ⟨bs, 0, none⟩ = some (.slice (some ⟨Bs, 0, none⟩) lzs.length cs)) (by kernel_rfl) (by exact hcells) (fun hHeld => ?_)
          refine wpAnyH_take (i := 0) (v := .slice (some ⟨bs, 0, none⟩) ls.length vs) rfl (by kernel_rfl) (by kernel_rfl) (by kernel_rfl) (fun _ _ _ h => h) (Or.inl ⟨by rfl, ?_⟩) (by assumption) ?_
          · (intro w hSw; (try dsimp only at hSw); go_simp)
          simp only [Act.put, List.setIfInBounds_toArray]
          refine wpAnyH_take (i := 1) (v := .pointer (some ⟨bs, 0, none⟩)) rfl (by kernel_rfl) (by kernel_rfl) (by kernel_rfl) (fun _ _ _ h => h) (Or.inl ⟨by rfl, ?_⟩) (by assumption) ?_
          · (intro w hSw; (try dsimp only at hSw); go_simp; (try exact fun h0 => absurd h0 hnils))
          simp only [Act.put]
          refine wpAnyH_take (i := 2) (v := .slice (some ⟨Bs, 0, none⟩) lzs.length cs) rfl (by kernel_rfl) (by kernel_rfl) (by kernel_rfl) (fun _ _ _ h => h) (Or.inl ⟨by rfl, ?_⟩) (by assumption) ?_
          · (intro w hSw; (try dsimp only at hSw); go_simp)
          simp only [Act.put]
          refine wpAnyH_take (i := 3) (v := .slice (some ⟨bs, 0, none⟩) ls.length vs) rfl (by kernel_rfl) (by kernel_rfl) (by kernel_rfl) (fun _ _ _ h => h) (Or.inl ⟨by rfl, ?_⟩) (by assumption) ?_
          · (intro w hSw; (try dsimp only at hSw); go_simp)
          simp only [Act.put]
          refine wpAnyH_take (i := 4) (v := .pointer (some ⟨bs, 0, none⟩)) rfl (by kernel_rfl) (by kernel_rfl) (by kernel_rfl) (fun _ _ _ h => h) (Or.inl ⟨by rfl, ?_⟩) (by assumption) ?_
          · (intro w hSw; (try dsimp only at hSw); go_simp; (try exact fun h0 => absurd h0 hnils))
          simp only [Act.put]
          refine wpAnyH_take (i := 5) (v := .slice (some ⟨Bs, 0, none⟩) lzs.length cs) rfl (by kernel_rfl) (by kernel_rfl) (by kernel_rfl) (fun _ _ _ h => h) (Or.inl ⟨by rfl, ?_⟩) (by assumption) ?_
          · (intro w hSw; (try dsimp only at hSw); go_simp)
          simp only [Act.put]
          refine wpAnyH_take (i := 7) (v := .int .i64 zs) rfl (by kernel_rfl) (by kernel_rfl) (by kernel_rfl) (fun _ _ _ h => h) (Or.inl ⟨by rfl, ?_⟩) (by assumption) ?_
          · (intro w hSw; (try dsimp only at hSw); go_simp)
          simp only [Act.put]
          refine wpAnyH_ready (rs := [6]) (by kernel_rfl) (by simp) ?_
          refine AllReadyH.cons rfl (fun K hK => ?_) AllReadyH.nil
          go_simp
          refine hK.out _ _ (by first | assumption | go_keep) (fun hHeld => ?_)
          clear hK K
          refine wpAnyH_ready (rs := [8]) (by kernel_rfl) (by simp) ?_
          refine AllReadyH.cons rfl (fun K hK => ?_) AllReadyH.nil
          go_simp
          go_at_call 19
          refine (HP2.out _ _ _ hCs hms hxs).mono ?_
          rintro e wq ⟨rfl, hbq⟩
          have q0 := (hbq.cell (p := ⟨bs, 0, none⟩) hbls).trans hcells
          refine hK.out _ _ (by exact q0) (fun hHeld => ?_)
          clear hK K
          refine wpAnyH_take (i := 9) (v := .tuple #[.int .i64 (e2 : Int), .int .i64 (f2 : Int), .bool true]) rfl (by kernel_rfl) (by kernel_rfl) (by kernel_rfl) (fun _ _ _ h => h) (Or.inl ⟨by rfl, ?_⟩) (by assumption) ?_
          · (intro w hSw; (try dsimp only at hSw); go_simp)
          simp only [Act.put]
          refine wpAnyH_take (i := 10) (v := .int .i64 (e2 : Int)) rfl (by kernel_rfl) (by kernel_rfl) (by kernel_rfl) (fun _ _ _ h => h) (Or.inl ⟨by rfl, ?_⟩) (by assumption) ?_
          · (intro w hSw; (try dsimp only at hSw); go_simp)
          simp only [Act.put]
          refine wpAnyH_take (i := 11) (v := .int .i64 (f2 : Int)) rfl (by kernel_rfl) (by kernel_rfl) (by kernel_rfl) (fun _ _ _ h => h) (Or.inl ⟨by rfl, ?_⟩) (by assumption) ?_
          · (intro w hSw; (try dsimp only at hSw); go_simp)
          simp only [Act.put]
          refine wpAnyH_take (i := 12) (v := .bool true) rfl (by kernel_rfl) (by kernel_rfl) (by kernel_rfl) (fun _ _ _ h => h) (Or.inl ⟨by rfl, ?_⟩) (by assumption) ?_
          · (intro w hSw; (try dsimp only at hSw); go_simp)
          simp only [Act.put]
          refine wpAnyH_ready (rs := [13]) (by kernel_rfl) (by simp) ?_
          refine AllReadyH.cons rfl (fun K hK => ?_) AllReadyH.nil
          go_simp
          refine hK.out _ _ (by first | assumption | go_keep) (fun hHeld => ?_)
          clear hK K
          refine wpAnyH_ready (rs := [14]) (by kernel_rfl) (by simp) ?_
          refine AllReadyH.cons rfl (fun K hK => ?_) AllReadyH.nil
          go_simp
          refine hK.out _ _ (by first | assumption | go_keep) (fun hHeld => ?_)
          clear hK K
          refine wpAnyH_ready (rs := [15]) (by kernel_rfl) (by simp) ?_
          refine AllReadyH.cons rfl (fun K hK => ?_) AllReadyH.nil
          go_simp
          refine hK.out _ _ (by first | assumption | go_keep) (fun hHeld => ?_)
          clear hK K
          refine wpAnyH_done (by kernel_rfl) ?_ _
          go_wp2_with fail
          go_meet
          exact ⟨rfl, rfl, rfl, Lib.hid hbq⟩
        case rest => as_aux_lemma =>
          obtain ⟨rfl, rfl, rfl, hbc⟩ := hcut
          obtain ⟨w20, hwb⟩ : ∃ w20, w20 = wc := ⟨_, rfl⟩
          subst hwb
          have hb20 := hbc.out
          clear hbc
          clear hcells hCs hbls hms hns hxs h7s hlens
          have hz20 := hb20.size
          have hB20 := on_base hB19 (by omega) hb20
          have Is_20 := Lib.hid (Is_19.out.kept hb20 (Nat.le_refl _))
          clear hB19 Is_19 hb20
          refine Hid.out ?_
          refine Lib.hid ?_
          go_wp2_with fail
          go_ret
          exact ⟨by simp, hB20⟩
end Go.Proofs.Ytpldbakllegheab.S7
