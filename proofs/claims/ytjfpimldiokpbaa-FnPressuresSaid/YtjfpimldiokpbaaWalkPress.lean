/- The walk of the law FnPressures: contracts. Conditions: each theorem's own premises. -/
import Derived.Test.YtjfpimldiokpbaaZnV
import Derived.Test.YtjfpimldiokpbaaZnDr
import Derived.Test.YtjfpimldiokpbaaZnDrR
import Derived.Deep.DeepCutAuto
namespace Go.Proofs.Ytjfpimldiokpbaa.S12
open Go.RowKit Go.Sort P12

theorem cd_kept {a : Option Addr} {n : Nat} {w w' : World} (h : S1.Cd w.heap.size a n w) (hb : Below w.heap.size w w') : S1.Cd w'.heap.size a n w' := by
  rcases h with h | ⟨b, off, ha, hlt, hc⟩
  · exact .inl h
  · exact .inr ⟨b, off, ha, Nat.lt_of_lt_of_le hlt hb.size, fun j hj => by
      obtain ⟨v, hv, e⟩ := hc j hj
      exact ⟨v, hv, (hb.cell (p := ⟨b, off + j, none⟩) hlt).trans e⟩⟩
theorem su_has (l : List Int) (x y h : Int) {k : Nat} (hk : k < l.length) : decide ((k : Int) ∈ suL l x y h) = suB (l.getD k 0) x y h := by
  rw [Bool.eq_iff_iff, decide_eq_true_iff]
  constructor
  · intro hm
    obtain ⟨i, hi, e, hs⟩ := suF_mem.1 hm
    have : i = k := by omega
    rw [← this]; exact hs
  · intro hs
    exact suF_mem.2 ⟨k, hk, rfl, hs⟩
theorem rd_pack (z x y h : Int) : ∃ (v : Int) (ok : Bool), (∀ w, Calls Try.prog 34 #[.int .i64 z, rv x y, .int .i64 h] w (OneN w v ok)) ∧ (∀ w, Calls Try.prog 33 #[.int .i64 z, rv x y, .int .i64 h] w (OneN w v ok)) ∧ (ok = true → 1 ≤ x ∧ x ≤ y ∧ y ≤ 200 ∧ 0 ≤ z ∧ z ≤ 1000 ∧ 0 ≤ h ∧ h ≤ 2000 ∧ x ≤ h - z ∧ v = if h - z - y < 0 then 0 else h - z - y) := by
  refine ⟨_, _, rd_any z x y h, srd_any z x y h, fun hr => ?_⟩
  rw [if_pos hr]
  unfold rdB at hr
  rw [Bool.and_eq_true, Bool.and_eq_true, Bool.and_eq_true, decide_eq_true_iff] at hr
  obtain ⟨h1, h2, h3, h4⟩ := hr
  obtain ⟨a1, a2, a3⟩ := rlB_iff.1 h2
  obtain ⟨b1, b2⟩ := lvB_iff.1 h3
  unfold inR at h1
  obtain ⟨c1, c2⟩ := decide_eq_true_iff.1 h1
  exact ⟨a1, a2, a3, c1, c2, b1, b2, h4, rfl⟩
theorem press_pack (l : List Int) (h : Int) : ∃ (L : List Int) (ok : Bool), L.length ≤ 12 ∧ (∀ (A : Option Addr) (cap : Nat) (w : World), IAt w A l → l.length ≤ 1048576 → Calls Try.prog 30 #[.slice A l.length cap, .int .i64 h] w (GivesI w L ok)) ∧ (∀ (A : Option Addr) (cap : Nat) (w : World), IAt w A l → l.length ≤ 1048576 → Calls Try.prog 29 #[.slice A l.length cap, .int .i64 h] w (GivesA w L ok)) := by
  cases h1 : plB l with
  | false => exact ⟨[], false, by simp, fun A cap w hI hl => pr_no A cap l h w hI hl (by unfold prB; rw [h1]; rfl), fun A cap w hI hl => spr_no A cap l h w hI hl (.inl h1)⟩
  | true =>
    cases h2 : lvB h with
    | false => exact ⟨[], false, by simp, fun A cap w hI hl => pr_no A cap l h w hI hl (by unfold prB; rw [h2, Bool.and_false]), fun A cap w hI hl => spr_no A cap l h w hI hl (.inr h2)⟩
    | true =>
      have hq := plB_iff.1 h1
      exact ⟨prK l h l.length, true, by rw [prK_len]; exact hq.n, fun A cap w hI hl => pr_yes A cap l h w hI hl hq h2, fun A cap w hI hl => spr_yes A cap l h w hI hl hq h2⟩
theorem raise_pack (l : List Int) (m : Int) : ∃ (L : List Int) (ok : Bool), L.length ≤ 12 ∧ (∀ (A : Option Addr) (cap : Nat) (w : World), IAt w A l → l.length ≤ 1048576 → Calls Try.prog 36 #[.slice A l.length cap, .int .i64 m] w (GivesI w L ok)) ∧ (∀ (A : Option Addr) (cap : Nat) (w : World), IAt w A l → l.length ≤ 1048576 → Calls Try.prog 35 #[.slice A l.length cap, .int .i64 m] w (GivesA w L ok)) ∧ (ok = true → ∀ (A : Option Addr) (cap : Nat) (w : World), IAt w A L → L.length ≤ 1048576 → Calls Try.prog 36 #[.slice A L.length cap, .int .i64 (-m)] w (GivesI w l true)) ∧ (ok = true → -1000 ≤ m ∧ m ≤ 1000) := by
  have no : (plB l = false ∨ mtB m = false) → ∃ (L : List Int) (ok : Bool), L.length ≤ 12 ∧ (∀ (A : Option Addr) (cap : Nat) (w : World), IAt w A l → l.length ≤ 1048576 → Calls Try.prog 36 #[.slice A l.length cap, .int .i64 m] w (GivesI w L ok)) ∧ (∀ (A : Option Addr) (cap : Nat) (w : World), IAt w A l → l.length ≤ 1048576 → Calls Try.prog 35 #[.slice A l.length cap, .int .i64 m] w (GivesA w L ok)) ∧ (ok = true → ∀ (A : Option Addr) (cap : Nat) (w : World), IAt w A L → L.length ≤ 1048576 → Calls Try.prog 36 #[.slice A L.length cap, .int .i64 (-m)] w (GivesI w l true)) ∧ (ok = true → -1000 ≤ m ∧ m ≤ 1000) :=
    fun h => ⟨[], false, by simp, fun A cap w hI hl => rs_no A cap l m w hI hl h, fun A cap w hI hl => srs_no A cap l m w hI hl h, (fun e => absurd e (by decide)), (fun e => absurd e (by decide))⟩
  cases h1 : plB l with
  | false => exact no (.inl h1)
  | true =>
    cases h2 : mtB m with
    | false => exact no (.inr h2)
    | true =>
      have hq := plB_iff.1 h1
      cases h3 : plB (rsK l m l.length) with
      | false => exact ⟨[], false, by simp, fun A cap w hI hl => rs_false A cap l m w hI hl hq h2 h3, fun A cap w hI hl => srs_false A cap l m w hI hl hq h2 h3, (fun e => absurd e (by decide)), (fun e => absurd e (by decide))⟩
      | true =>
        have hm := mtB_iff.1 h2
        have e : rsK (rsK l m l.length) (-m) (rsK l m l.length).length = l := by rw [rsK_len, rs_back]
        refine ⟨rsK l m l.length, true, by rw [rsK_len]; exact hq.n, fun A cap w hI hl => rs_true A cap l m w hI hl hq h2 h3, fun A cap w hI hl => srs_true A cap l m w hI hl hq h2 h3, fun _ A cap w hI hl => ?_, fun _ => hm⟩
        have := rs_true A cap (rsK l m l.length) (-m) w hI hl (plB_iff.1 h3) (mtB_iff.2 ⟨by omega, by omega⟩) (by rw [e]; exact h1)
        rw [e] at this
        exact this
set_option maxHeartbeats 16000000 in
set_option maxRecDepth 100000 in
theorem walkPress (a : Option Addr) (n cap : Nat) (w : World) (hc : S1.Cd w.heap.size a n w) :
    Calls Try.prog 13 #[.slice a n cap] w fun e w' => e = .returned (.bool true) ∧ Below w.heap.size w w' := by
  by_cases hn : n ≤ 65536
  case neg =>
    have HV := Lib.hid (fun w => rbig_yes a n cap w (by omega))
    go_enter Try.func13, Try.ntmps13
    go_wp2_with (go_at_call 37; refine (HV.out _).mono ?_; rintro e w1 ⟨rfl, rfl⟩)
    go_ret
    exact ⟨rfl, Below.refl _ _⟩
  have HV := Lib.hid (fun w => rbig_no a n cap w hn)
  have HDR := Lib.hid (dsp_any a n cap w hc hn)
  have HD2 := Lib.hid (fun w' (hb : Below w.heap.size w w') => drd_any a n cap w' (cd_kept hc hb) hn)
  have HD3 := Lib.hid (fun w' (hb : Below w.heap.size w w') => drs_any a n cap w' (cd_kept hc hb) hn)
  have HD4 := Lib.hid (fun w' (hb : Below w.heap.size w w') => dpr_any a n cap w' (cd_kept hc hb) hn)
  go_enter Try.func13, Try.ntmps13
  go_wp2_with (first | (go_at_call 37; refine (HV.out _).mono ?_; rintro e wv ⟨rfl, hw⟩; replace hw := hw.symm; subst hw; refine Hid.out ?_) | fail)
  have hB0 := Below.refl w.heap.size w
  refine Lib.hid ?_
  go_wp2_with (first | (go_at_call 40; refine (HDR.out).mono ?_; rintro e w1 ⟨q, c, l, x, y, h, rfl, hl14, hq, hqlt, ha, hb1⟩; refine Hid.out ?_) | fail)
  have hz1 := hb1.size
  have hB1 := hB0.trans (hb1.mono hB0.size)
  clear hB0 hb1
  have I1_1 := Lib.hid ha
  clear ha HDR HV hq hqlt
  have hb1a := alloc_below w1 (rb 25 x y)
  have Qnt := Lib.hid (BT.new w1 25 x y)
  have hz1a := hb1a.size
  have hB1a := hB1.trans (hb1a.mono hB1.size)
  have I1_1a := Lib.hid (I1_1.out.kept hb1a (Nat.le_refl _))
  clear hB1 I1_1 hb1a
  have Qt_1a := Qnt
  clear Qnt
  cases hv : sqB l x y h with
  | false =>
    obtain ⟨ltt, bt0, bt1⟩ := Qt_1a.out
    refine Lib.hid ?_
    go_wp2_with (first | (go_at_call 19; refine (sp_no _ c l x y h _ I1_1a.out (by omega) hv).mono ?_; rintro e w2 ⟨ga, ca, rfl, hga, hoa, hb2⟩; refine Hid.out ?_) | fail)
    clear bt0 bt1 ltt
    have hz2 := hb2.size
    have hB2 := hB1a.trans (hb2.mono hB1a.size)
    have I1_2 := Lib.hid (I1_1a.out.kept hb2 (Nat.le_refl _))
    have Qt_2 := Lib.hid (Qt_1a.out.kept hb2)
    clear hB1a I1_1a Qt_1a hb2
    have Ia_2 := Lib.hid hoa.iat
    clear hoa hga
    obtain ⟨ltt, bt0, bt1⟩ := Qt_2.out
    refine Lib.hid ?_
    go_wp2_with (first | (go_at_call 17; refine (ssp_no _ c l x y h _ I1_2.out (by omega) hv).mono ?_; rintro e w3 ⟨gb, cb, rfl, hgb, hob, hb3⟩; refine Hid.out ?_) | fail)
    clear bt0 bt1 ltt
    have hz3 := hb3.size
    have hB3 := hB2.trans (hb3.mono hB2.size)
    have I1_3 := Lib.hid (I1_2.out.kept hb3 (Nat.le_refl _))
    have Qt_3 := Lib.hid (Qt_2.out.kept hb3)
    have Ia_3 := Lib.hid (Ia_2.out.kept hb3 (Nat.le_refl _))
    clear hB2 I1_2 Qt_2 Ia_2 hb3
    have Ib_3 := Lib.hid hob.iat
    clear hob hgb
    refine Lib.hid ?_
    go_wp2_with (first | (go_at_call 39; refine (rints_same _ _ ca cb [] _ Ia_3.out Ib_3.out (by simp)).mono ?_; rintro e w4 ⟨rfl, hb4⟩; refine Hid.out ?_) | fail)
    have hz4 := hb4.size
    have hB4 := hB3.trans (hb4.mono hB3.size)
    have I1_4 := Lib.hid (I1_3.out.kept hb4 (Nat.le_refl _))
    have Qt_4 := Lib.hid (Qt_3.out.kept hb4)
    have Ia_4 := Lib.hid (Ia_3.out.kept hb4 (Nat.le_refl _))
    have Ib_4 := Lib.hid (Ib_3.out.kept hb4 (Nat.le_refl _))
    clear hB3 I1_3 Qt_3 Ia_3 Ib_3 hb4
    clear Ia_4
    clear Ib_4
    clear Qt_4
    clear I1_4
    refine Lib.hid ?_
    go_wp2_with (first | (go_at_call 42; refine (HD2.out _ hB4).mono ?_; rintro e w5 ⟨z, x2, y2, z2, rfl, hb5⟩; refine Hid.out ?_) | fail)
    have hz5 := hb5.size
    have hB5 := hB4.trans (hb5.mono hB4.size)
    clear hB4 hb5
    have hb5a := alloc_below w5 (rb 25 x2 y2)
    have Qnu := Lib.hid (BT.new w5 25 x2 y2)
    have hz5a := hb5a.size
    have hB5a := hB5.trans (hb5a.mono hB5.size)
    clear hB5 hb5a
    have Qu_5a := Qnu
    clear Qnu
    obtain ⟨v9, RD, R1, R2, R3⟩ := rd_pack z x2 y2 z2
    obtain ⟨ltu, bu0, bu1⟩ := Qu_5a.out
    refine Lib.hid ?_
    go_wp2_with (first | (go_at_call 34; refine (R1 _).mono ?_; rintro e w6 ⟨rfl, hb6⟩; refine Hid.out ?_) | fail)
    clear bu0 bu1 ltu
    have hz6 := hb6.size
    have hB6 := hB5a.trans (hb6.mono hB5a.size)
    have Qu_6 := Lib.hid (Qu_5a.out.kept hb6)
    clear hB5a Qu_5a hb6
    obtain ⟨ltu, bu0, bu1⟩ := Qu_6.out
    refine Lib.hid ?_
    go_wp2_with (first | (go_at_call 33; refine (R2 _).mono ?_; rintro e w7 ⟨rfl, hb7⟩; refine Hid.out ?_) | fail)
    clear bu0 bu1 ltu
    have hz7 := hb7.size
    have hB7 := hB6.trans (hb7.mono hB6.size)
    have Qu_7 := Lib.hid (Qu_6.out.kept hb7)
    clear hB6 Qu_6 hb7
    obtain ⟨ltu, bu0, bu1⟩ := Qu_7.out
    clear R1 R2
    have HR3 := Lib.hid R3
    clear R3
    obtain ⟨D, hD⟩ : ∃ D, IntKind.i64.wrap (z2 - z) = D := ⟨_, rfl⟩
    obtain ⟨G, hG⟩ : ∃ G, IntKind.i64.wrap (D - v9) = G := ⟨_, rfl⟩
    have hvv : (v9 == v9) = true := by simp
    have hoo : (RD == RD) = true := by simp
    refine Lib.hid ?_
    go_upto_region 23 with (fail)
    go_cut [160] (fun s wx => s = .bool false ∧ Hid (Below w7.heap.size w7 wx))
    case first => as_aux_lemma =>
      cases RD with
      | false =>
        go_wp2_with fail
        go_meet
        exact ⟨rfl, Lib.hid (by first | exact Below.refl _ _ | exact (Below.refl _ _).drew | exact below_drewN (Below.refl _ _) _)⟩
      | true =>
        obtain ⟨r1, r2, r3, r4, r5, r6, r7, r8, r9⟩ := HR3.out rfl
        rw [IntWalk.i64_in _ (by omega)] at hD
        by_cases c : z2 - z - y2 < 0
        · rw [if_pos c] at r9
          rw [IntWalk.i64_in _ (by omega)] at hG
          have d1 : decide (G < x2) = false := decide_eq_false (by omega)
          have d2 : decide (y2 < G) = false := decide_eq_false (by omega)
          have d3 : decide (v9 < 0) = false := decide_eq_false (by omega)
          have d4 : decide (0 < v9) = false := decide_eq_false (by omega)
          clear hD hG r9 c HR3
          go_wp2_with fail
          go_meet
          exact ⟨rfl, Lib.hid (by first | exact Below.refl _ _ | exact (Below.refl _ _).drew | exact below_drewN (Below.refl _ _) _)⟩
        · rw [if_neg c] at r9
          rw [IntWalk.i64_in _ (by omega)] at hG
          have d1 : decide (G < x2) = false := decide_eq_false (by omega)
          have d2 : decide (y2 < G) = false := decide_eq_false (by omega)
          have d3 : decide (v9 < 0) = false := decide_eq_false (by omega)
          have d6 : (G == y2) = true := by rw [beq_iff_eq]; omega
          have d7 : (G != y2) = false := by unfold bne; rw [d6]; rfl
          by_cases c4 : 0 < v9
          · have d4 : decide (0 < v9) = true := decide_eq_true c4
            clear hD hG r9 c HR3 c4
            go_wp2_with fail
            go_meet
            exact ⟨rfl, Lib.hid (by first | exact Below.refl _ _ | exact (Below.refl _ _).drew | exact below_drewN (Below.refl _ _) _)⟩
          · have d4 : decide (0 < v9) = false := decide_eq_false c4
            clear hD hG r9 c HR3 c4
            go_wp2_with fail
            go_meet
            exact ⟨rfl, Lib.hid (by first | exact Below.refl _ _ | exact (Below.refl _ _).drew | exact below_drewN (Below.refl _ _) _)⟩
    case rest => as_aux_lemma =>
      obtain ⟨rfl, hbc⟩ := hcut
      obtain ⟨w8, hwb⟩ : ∃ w8, w8 = wc := ⟨_, rfl⟩
      subst hwb
      have hb8 := hbc.out
      clear hbc hvv hoo hD hG HR3
      clear bu0 bu1 ltu
      have hz8 := hb8.size
      have hB8 := hB7.trans (hb8.mono hB7.size)
      have Qu_8 := Lib.hid (Qu_7.out.kept hb8)
      clear hB7 Qu_7 hb8
      clear Qu_8
      refine Hid.out ?_
      refine Lib.hid ?_
      go_wp2_with (first | (go_at_call 43; refine (HD3.out _ hB8).mono ?_; rintro e w9 ⟨q3, c3, l3, m, rfl, hl3, hq3, hq3lt, ha3, hb9⟩; refine Hid.out ?_) | fail)
      have hz9 := hb9.size
      have hB9 := hB8.trans (hb9.mono hB8.size)
      clear hB8 hb9
      have I3_9 := Lib.hid ha3
      clear ha3 hq3 hq3lt
      obtain ⟨LR, OR, hLR, HR1, HR2, HR3, HR4⟩ := raise_pack l3 m
      cases OR with
        | false =>
        refine Lib.hid ?_
        go_wp2_with (first | (go_at_call 36; refine (HR1 _ c3 _ I3_9.out (by omega)).mono ?_; rintro e w10 ⟨ge, ce, rfl, hge, hoe, hb10⟩; refine Hid.out ?_) | fail)
        have hz10 := hb10.size
        have hB10 := hB9.trans (hb10.mono hB9.size)
        have I3_10 := Lib.hid (I3_9.out.kept hb10 (Nat.le_refl _))
        clear hB9 I3_9 hb10
        have Ie_10 := Lib.hid hoe.iat
        clear hoe hge
        refine Lib.hid ?_
        go_wp2_with (first | (go_at_call 35; refine (HR2 _ c3 _ I3_10.out (by omega)).mono ?_; rintro e w11 ⟨gf, of, cf, rfl, hgf, haf, hb11, hlf⟩; refine Hid.out ?_) | fail)
        have hz11 := hb11.size
        have hB11 := hB10.trans (hb11.mono hB10.size)
        have I3_11 := Lib.hid (I3_10.out.kept hb11 (Nat.le_refl _))
        have Ie_11 := Lib.hid (Ie_10.out.kept hb11 (Nat.le_refl _))
        clear hB10 I3_10 Ie_10 hb11
        have If_11 := Lib.hid haf
        clear haf hgf hlf
        refine Lib.hid ?_
        go_wp2_with (first | (go_at_call 39; refine (rints_same _ _ ce cf LR _ Ie_11.out If_11.out (by omega)).mono ?_; rintro e w12 ⟨rfl, hb12⟩; refine Hid.out ?_) | fail)
        have hz12 := hb12.size
        have hB12 := hB11.trans (hb12.mono hB11.size)
        have I3_12 := Lib.hid (I3_11.out.kept hb12 (Nat.le_refl _))
        have Ie_12 := Lib.hid (Ie_11.out.kept hb12 (Nat.le_refl _))
        have If_12 := Lib.hid (If_11.out.kept hb12 (Nat.le_refl _))
        clear hB11 I3_11 Ie_11 If_11 hb12
        clear If_12
        clear Ie_12
        clear I3_12
        refine Lib.hid ?_
        go_wp2_with (first | (go_at_call 44; refine (HD4.out _ hB12).mono ?_; rintro e w13 ⟨q4, c4, l4, h4, rfl, hl4, hq4, hq4lt, ha4, hb13⟩; refine Hid.out ?_) | fail)
        have hz13 := hb13.size
        have hB13 := hB12.trans (hb13.mono hB12.size)
        clear hB12 hb13
        have I4_13 := Lib.hid ha4
        clear ha4 hq4 hq4lt
        obtain ⟨LP, OP, hLP, HP1, HP2⟩ := press_pack l4 h4
        have hoo : (OP == OP) = true := by simp
        refine Lib.hid ?_
        go_wp2_with (first | (go_at_call 30; refine (HP1 _ c4 _ I4_13.out (by omega)).mono ?_; rintro e w14 ⟨gi, ci, rfl, hgi, hoi, hb14⟩; refine Hid.out ?_) | fail)
        have hz14 := hb14.size
        have hB14 := hB13.trans (hb14.mono hB13.size)
        have I4_14 := Lib.hid (I4_13.out.kept hb14 (Nat.le_refl _))
        clear hB13 I4_13 hb14
        have Ii_14 := Lib.hid hoi.iat
        clear hoi hgi
        refine Lib.hid ?_
        go_wp2_with (first | (go_at_call 29; refine (HP2 _ c4 _ I4_14.out (by omega)).mono ?_; rintro e w15 ⟨gj, oj, cj, rfl, hgj, haj, hb15, hlj⟩; refine Hid.out ?_) | fail)
        have hz15 := hb15.size
        have hB15 := hB14.trans (hb15.mono hB14.size)
        have I4_15 := Lib.hid (I4_14.out.kept hb15 (Nat.le_refl _))
        have Ii_15 := Lib.hid (Ii_14.out.kept hb15 (Nat.le_refl _))
        clear hB14 I4_14 Ii_14 hb15
        have Ij_15 := Lib.hid haj
        clear haj hgj hlj
        refine Lib.hid ?_
        go_wp2_with (first | (go_at_call 39; refine (rints_same _ _ ci cj LP _ Ii_15.out Ij_15.out (by omega)).mono ?_; rintro e w16 ⟨rfl, hb16⟩; refine Hid.out ?_) | fail)
        have hz16 := hb16.size
        have hB16 := hB15.trans (hb16.mono hB15.size)
        have I4_16 := Lib.hid (I4_15.out.kept hb16 (Nat.le_refl _))
        have Ii_16 := Lib.hid (Ii_15.out.kept hb16 (Nat.le_refl _))
        have Ij_16 := Lib.hid (Ij_15.out.kept hb16 (Nat.le_refl _))
        clear hB15 I4_15 Ii_15 Ij_15 hb16
        have HBB := Lib.hid hB16
        refine Lib.hid ?_
        go_wp2_with fail
        go_ret
        exact ⟨rfl, HBB.out⟩
        | true =>
        refine Lib.hid ?_
        go_wp2_with (first | (go_at_call 36; refine (HR1 _ c3 _ I3_9.out (by omega)).mono ?_; rintro e w10 ⟨ge, ce, rfl, hge, hoe, hb10⟩; refine Hid.out ?_) | fail)
        have hz10 := hb10.size
        have hB10 := hB9.trans (hb10.mono hB9.size)
        have I3_10 := Lib.hid (I3_9.out.kept hb10 (Nat.le_refl _))
        clear hB9 I3_9 hb10
        have Ie_10 := Lib.hid hoe.iat
        clear hoe hge
        refine Lib.hid ?_
        go_wp2_with (first | (go_at_call 35; refine (HR2 _ c3 _ I3_10.out (by omega)).mono ?_; rintro e w11 ⟨gf, of, cf, rfl, hgf, haf, hb11, hlf⟩; refine Hid.out ?_) | fail)
        have hz11 := hb11.size
        have hB11 := hB10.trans (hb11.mono hB10.size)
        have I3_11 := Lib.hid (I3_10.out.kept hb11 (Nat.le_refl _))
        have Ie_11 := Lib.hid (Ie_10.out.kept hb11 (Nat.le_refl _))
        clear hB10 I3_10 Ie_10 hb11
        have If_11 := Lib.hid haf
        clear haf hgf hlf
        refine Lib.hid ?_
        go_wp2_with (first | (go_at_call 39; refine (rints_same _ _ ce cf LR _ Ie_11.out If_11.out (by omega)).mono ?_; rintro e w12 ⟨rfl, hb12⟩; refine Hid.out ?_) | fail)
        have hz12 := hb12.size
        have hB12 := hB11.trans (hb12.mono hB11.size)
        have I3_12 := Lib.hid (I3_11.out.kept hb12 (Nat.le_refl _))
        have Ie_12 := Lib.hid (Ie_11.out.kept hb12 (Nat.le_refl _))
        have If_12 := Lib.hid (If_11.out.kept hb12 (Nat.le_refl _))
        clear hB11 I3_11 Ie_11 If_11 hb12
        clear If_12
        have hm9 : IntKind.i64.wrap (-m) = -m := IntWalk.i64_in _ (by have := HR4 (by first | rfl | trivial); omega)
        refine Lib.hid ?_
        go_wp2_with (first | (go_at_call 36; refine (HR3 (by first | rfl | trivial) _ ce _ Ie_12.out (by omega)).mono ?_; rintro e w13 ⟨gg, cg, rfl, hgg, hog, hb13⟩; refine Hid.out ?_) | fail)
        have hz13 := hb13.size
        have hB13 := hB12.trans (hb13.mono hB12.size)
        have I3_13 := Lib.hid (I3_12.out.kept hb13 (Nat.le_refl _))
        have Ie_13 := Lib.hid (Ie_12.out.kept hb13 (Nat.le_refl _))
        clear hB12 I3_12 Ie_12 hb13
        have Ig_13 := Lib.hid hog.iat
        clear hog hgg
        refine Lib.hid ?_
        go_wp2_with (first | (go_at_call 39; refine (rints_same _ _ cg c3 l3 _ Ig_13.out I3_13.out (by omega)).mono ?_; rintro e w14 ⟨rfl, hb14⟩; refine Hid.out ?_) | fail)
        have hz14 := hb14.size
        have hB14 := hB13.trans (hb14.mono hB13.size)
        have I3_14 := Lib.hid (I3_13.out.kept hb14 (Nat.le_refl _))
        have Ie_14 := Lib.hid (Ie_13.out.kept hb14 (Nat.le_refl _))
        have Ig_14 := Lib.hid (Ig_13.out.kept hb14 (Nat.le_refl _))
        clear hB13 I3_13 Ie_13 Ig_13 hb14
        clear Ig_14
        clear Ie_14
        clear I3_14
        refine Lib.hid ?_
        go_wp2_with (first | (go_at_call 44; refine (HD4.out _ hB14).mono ?_; rintro e w15 ⟨q4, c4, l4, h4, rfl, hl4, hq4, hq4lt, ha4, hb15⟩; refine Hid.out ?_) | fail)
        have hz15 := hb15.size
        have hB15 := hB14.trans (hb15.mono hB14.size)
        clear hB14 hb15
        have I4_15 := Lib.hid ha4
        clear ha4 hq4 hq4lt
        obtain ⟨LP, OP, hLP, HP1, HP2⟩ := press_pack l4 h4
        have hoo : (OP == OP) = true := by simp
        refine Lib.hid ?_
        go_wp2_with (first | (go_at_call 30; refine (HP1 _ c4 _ I4_15.out (by omega)).mono ?_; rintro e w16 ⟨gi, ci, rfl, hgi, hoi, hb16⟩; refine Hid.out ?_) | fail)
        have hz16 := hb16.size
        have hB16 := hB15.trans (hb16.mono hB15.size)
        have I4_16 := Lib.hid (I4_15.out.kept hb16 (Nat.le_refl _))
        clear hB15 I4_15 hb16
        have Ii_16 := Lib.hid hoi.iat
        clear hoi hgi
        refine Lib.hid ?_
        go_wp2_with (first | (go_at_call 29; refine (HP2 _ c4 _ I4_16.out (by omega)).mono ?_; rintro e w17 ⟨gj, oj, cj, rfl, hgj, haj, hb17, hlj⟩; refine Hid.out ?_) | fail)
        have hz17 := hb17.size
        have hB17 := hB16.trans (hb17.mono hB16.size)
        have I4_17 := Lib.hid (I4_16.out.kept hb17 (Nat.le_refl _))
        have Ii_17 := Lib.hid (Ii_16.out.kept hb17 (Nat.le_refl _))
        clear hB16 I4_16 Ii_16 hb17
        have Ij_17 := Lib.hid haj
        clear haj hgj hlj
        refine Lib.hid ?_
        go_wp2_with (first | (go_at_call 39; refine (rints_same _ _ ci cj LP _ Ii_17.out Ij_17.out (by omega)).mono ?_; rintro e w18 ⟨rfl, hb18⟩; refine Hid.out ?_) | fail)
        have hz18 := hb18.size
        have hB18 := hB17.trans (hb18.mono hB17.size)
        have I4_18 := Lib.hid (I4_17.out.kept hb18 (Nat.le_refl _))
        have Ii_18 := Lib.hid (Ii_17.out.kept hb18 (Nat.le_refl _))
        have Ij_18 := Lib.hid (Ij_17.out.kept hb18 (Nat.le_refl _))
        clear hB17 I4_17 Ii_17 Ij_17 hb18
        have HBB := Lib.hid hB18
        refine Lib.hid ?_
        go_wp2_with fail
        go_ret
        exact ⟨rfl, HBB.out⟩
  | true =>
    obtain ⟨hq, hh⟩ : ZAsk l x y ∧ lvB h = true := by unfold sqB at hv; rw [Bool.and_eq_true] at hv; exact ⟨askB_iff.1 hv.1, hv.2⟩
    have h12 := hq.n
    have hS12 : (suL l x y h).length ≤ l.length := suF_len l x y h l.length
    have HSM := Lib.hid (fun (k : Nat) (hk : k < l.length) => su_has l x y h hk)
    have HAT := Lib.hid (fun (k : Nat) (hk : k < l.length) => hq.toPl.at_ hk)
    have HQ := Lib.hid hq
    have HPA := Lib.hid (fun (k : Nat) (hk : k < l.length) => prK_at l h hk)
    have HPL := Lib.hid (prK_len l h l.length)
    obtain ⟨hh0, hh1⟩ := lvB_iff.1 hh
    obtain ⟨ltt, bt0, bt1⟩ := Qt_1a.out
    refine Lib.hid ?_
    go_wp2_with (first | (go_at_call 19; refine (sp_yes _ c l x y h _ I1_1a.out (by omega) HQ.out hh).mono ?_; rintro e w2 ⟨ga, ca, rfl, hga, hoa, hb2⟩; refine Hid.out ?_) | fail)
    clear bt0 bt1 ltt
    have hz2 := hb2.size
    have hB2 := hB1a.trans (hb2.mono hB1a.size)
    have I1_2 := Lib.hid (I1_1a.out.kept hb2 (Nat.le_refl _))
    have Qt_2 := Lib.hid (Qt_1a.out.kept hb2)
    clear hB1a I1_1a Qt_1a hb2
    have Ia_2 := Lib.hid hoa.iat
    clear hoa hga
    obtain ⟨ltt, bt0, bt1⟩ := Qt_2.out
    refine Lib.hid ?_
    go_wp2_with (first | (go_at_call 17; refine (ssp_yes _ c l x y h _ I1_2.out (by omega) HQ.out hh).mono ?_; rintro e w3 ⟨gb, cb, rfl, hgb, hob, hb3⟩; refine Hid.out ?_) | fail)
    clear bt0 bt1 ltt
    have hz3 := hb3.size
    have hB3 := hB2.trans (hb3.mono hB2.size)
    have I1_3 := Lib.hid (I1_2.out.kept hb3 (Nat.le_refl _))
    have Qt_3 := Lib.hid (Qt_2.out.kept hb3)
    have Ia_3 := Lib.hid (Ia_2.out.kept hb3 (Nat.le_refl _))
    clear hB2 I1_2 Qt_2 Ia_2 hb3
    have Ib_3 := Lib.hid hob.iat
    clear hob hgb
    refine Lib.hid ?_
    go_wp2_with (first | (go_at_call 39; refine (rints_same _ _ ca cb (suL l x y h) _ Ia_3.out Ib_3.out (by omega)).mono ?_; rintro e w4 ⟨rfl, hb4⟩; refine Hid.out ?_) | fail)
    have hz4 := hb4.size
    have hB4 := hB3.trans (hb4.mono hB3.size)
    have I1_4 := Lib.hid (I1_3.out.kept hb4 (Nat.le_refl _))
    have Qt_4 := Lib.hid (Qt_3.out.kept hb4)
    have Ia_4 := Lib.hid (Ia_3.out.kept hb4 (Nat.le_refl _))
    have Ib_4 := Lib.hid (Ib_3.out.kept hb4 (Nat.le_refl _))
    clear hB3 I1_3 Qt_3 Ia_3 Ib_3 hb4
    clear Ib_4
    refine Lib.hid ?_
    go_wp2_with (first | (go_at_call 30; refine (pr_yes _ c l h _ I1_4.out (by omega) HQ.out.toPl hh).mono ?_; rintro e w5 ⟨gd, cd, rfl, hgd, hod, hb5⟩; refine Hid.out ?_) | fail)
    have hz5 := hb5.size
    have hB5 := hB4.trans (hb5.mono hB4.size)
    have I1_5 := Lib.hid (I1_4.out.kept hb5 (Nat.le_refl _))
    have Qt_5 := Lib.hid (Qt_4.out.kept hb5)
    have Ia_5 := Lib.hid (Ia_4.out.kept hb5 (Nat.le_refl _))
    clear hB4 I1_4 Qt_4 Ia_4 hb5
    have Id_5 := Lib.hid hod.iat
    clear hod hgd
    generalize suL l x y h = S9 at *
    generalize prK l h l.length = P9 at *
    have hz14 : P9.length = l.length := HPL.out
    clear hq hv hh HQ
    rw [hz14]
    refine Lib.hid ?_
    go_wp2_with fail
    go_loopw [12] (fun i wr => ∃ (k d : Nat), k ≤ l.length ∧ i = .int .i64 (k : Int) ∧ wr = w5.drewN d) (fun i _ => l.length - (intOf i).toNat)
    case atStart => exact ⟨0, 0, Nat.zero_le _, rfl, rfl⟩
    case round =>
      obtain ⟨k, d, hk, rfl, rfl⟩ := hrel
      by_cases hlt : k < l.length
      · have hPk : k < P9.length := by omega
        obtain ⟨b2, o2, hA2, hb2, p2⟩ := Id_5.out.at_ hPk
        simp only [Option.some.injEq, Addr.mk.injEq, and_true] at hA2
        obtain ⟨rfl, rfl⟩ := hA2
        rw [Nat.zero_add, HPA.out k hlt] at p2
        obtain ⟨q9, q0, q1⟩ := Qt_5.out
        have HRH0 := fun dd => rhas_any _ ca S9 (k : Int) (w5.drewN (d + dd)) (Ia_5.out.kept (below_drewN (Below.refl w5.heap.size w5) (d + dd)) (Nat.le_refl _)) (by omega)
        rw [HSM.out k hlt] at HRH0
        have hk0 : (0 : Int) ≤ (k : Int) := by omega
        have hkn : (k : Int) < (l.length : Int) := by omega
        obtain ⟨v0, v1⟩ := HAT.out k hlt
        generalize l.getD k 0 = v at *
        obtain ⟨pv, hpv⟩ : ∃ pv, pv = h - v := ⟨_, rfl⟩
        rw [← hpv] at p2
        by_cases c1 : x ≤ pv
        · by_cases c2 : pv ≤ y
          · have hS : suB v x y h = true := suB_iff.2 ⟨by omega, by omega⟩
            rw [hS] at HRH0
            have HRH := Lib.hid (fun dd => (HRH0 dd).mono fun _ _ ⟨he, hm⟩ => (⟨he, dd, hm⟩ : _ ∧ ∃ m, _ = w5.drewN (d + m)))
            have d1 : decide (x ≤ pv) = true := decide_eq_true c1
            have d2 : decide (pv ≤ y) = true := decide_eq_true c2
            clear hS HRH0 c1 c2 hpv
            go_wp2_with fail
            go_quiet ((go_at_call 41; exact HRH.out _))
            go_wp2_with fail
            go_roundw
            case rel => exact ⟨k + 1, _, by omega, by go_num, rfl⟩
            case measure => simp [intOf]; omega
          · have hS : suB v x y h = false := suB_no.2 (fun hc9 => by omega)
            rw [hS] at HRH0
            have HRH := Lib.hid (fun dd => (HRH0 dd).mono fun _ _ ⟨he, hm⟩ => (⟨he, dd, hm⟩ : _ ∧ ∃ m, _ = w5.drewN (d + m)))
            have d1 : decide (x ≤ pv) = true := decide_eq_true c1
            have d2 : decide (pv ≤ y) = false := decide_eq_false c2
            clear hS HRH0 c1 c2 hpv
            go_wp2_with fail
            go_quiet ((go_at_call 41; exact HRH.out _))
            go_wp2_with fail
            go_roundw
            case rel => exact ⟨k + 1, _, by omega, by go_num, rfl⟩
            case measure => simp [intOf]; omega
        · have hS : suB v x y h = false := suB_no.2 (fun hc9 => by omega)
          rw [hS] at HRH0
          have HRH := Lib.hid (fun dd => (HRH0 dd).mono fun _ _ ⟨he, hm⟩ => (⟨he, dd, hm⟩ : _ ∧ ∃ m, _ = w5.drewN (d + m)))
          have d1 : decide (x ≤ pv) = false := decide_eq_false c1
          clear hS HRH0 c1 hpv
          go_wp2_with fail
          go_quiet ((go_at_call 41; exact HRH.out _))
          go_wp2_with fail
          go_roundw
          case rel => exact ⟨k + 1, _, by omega, by go_num, rfl⟩
          case measure => simp [intOf]; omega
      · have hb6 := below_drewN (Below.refl w5.heap.size w5) d
        obtain ⟨w6, hw6⟩ : ∃ wz, wz = w5.drewN d := ⟨_, rfl⟩
        rw [← hw6] at hb6 ⊢
        clear hw6 HSM HAT HPA HPL
        clear Ia_5
        clear Id_5
        have hz6 := hb6.size
        have hB6 := hB5.trans (hb6.mono hB5.size)
        have I1_6 := Lib.hid (I1_5.out.kept hb6 (Nat.le_refl _))
        have Qt_6 := Lib.hid (Qt_5.out.kept hb6)
        clear hB5 I1_5 Qt_5 hb6
        refine Hid.out ?_
        clear Qt_6
        clear I1_6
        refine Lib.hid ?_
        go_wp2_with (first | (go_at_call 42; refine (HD2.out _ hB6).mono ?_; rintro e w7 ⟨z, x2, y2, z2, rfl, hb7⟩; refine Hid.out ?_) | fail)
        have hz7 := hb7.size
        have hB7 := hB6.trans (hb7.mono hB6.size)
        clear hB6 hb7
        have hb7a := alloc_below w7 (rb 25 x2 y2)
        have Qnu := Lib.hid (BT.new w7 25 x2 y2)
        have hz7a := hb7a.size
        have hB7a := hB7.trans (hb7a.mono hB7.size)
        clear hB7 hb7a
        have Qu_7a := Qnu
        clear Qnu
        obtain ⟨v9, RD, R1, R2, R3⟩ := rd_pack z x2 y2 z2
        obtain ⟨ltu, bu0, bu1⟩ := Qu_7a.out
        refine Lib.hid ?_
        go_wp2_with (first | (go_at_call 34; refine (R1 _).mono ?_; rintro e w8 ⟨rfl, hb8⟩; refine Hid.out ?_) | fail)
        clear bu0 bu1 ltu
        have hz8 := hb8.size
        have hB8 := hB7a.trans (hb8.mono hB7a.size)
        have Qu_8 := Lib.hid (Qu_7a.out.kept hb8)
        clear hB7a Qu_7a hb8
        obtain ⟨ltu, bu0, bu1⟩ := Qu_8.out
        refine Lib.hid ?_
        go_wp2_with (first | (go_at_call 33; refine (R2 _).mono ?_; rintro e w9 ⟨rfl, hb9⟩; refine Hid.out ?_) | fail)
        clear bu0 bu1 ltu
        have hz9 := hb9.size
        have hB9 := hB8.trans (hb9.mono hB8.size)
        have Qu_9 := Lib.hid (Qu_8.out.kept hb9)
        clear hB8 Qu_8 hb9
        obtain ⟨ltu, bu0, bu1⟩ := Qu_9.out
        clear R1 R2
        have HR3 := Lib.hid R3
        clear R3
        obtain ⟨D, hD⟩ : ∃ D, IntKind.i64.wrap (z2 - z) = D := ⟨_, rfl⟩
        obtain ⟨G, hG⟩ : ∃ G, IntKind.i64.wrap (D - v9) = G := ⟨_, rfl⟩
        have hvv : (v9 == v9) = true := by simp
        have hoo : (RD == RD) = true := by simp
        refine Lib.hid ?_
        go_upto_region 23 with (fail)
        go_cut [160] (fun s wx => s = .bool false ∧ Hid (Below w9.heap.size w9 wx))
        case first => as_aux_lemma =>
          cases RD with
          | false =>
            go_wp2_with fail
            go_meet
            exact ⟨rfl, Lib.hid (by first | exact Below.refl _ _ | exact (Below.refl _ _).drew | exact below_drewN (Below.refl _ _) _)⟩
          | true =>
            obtain ⟨r1, r2, r3, r4, r5, r6, r7, r8, r9⟩ := HR3.out rfl
            rw [IntWalk.i64_in _ (by omega)] at hD
            by_cases c : z2 - z - y2 < 0
            · rw [if_pos c] at r9
              rw [IntWalk.i64_in _ (by omega)] at hG
              have d1 : decide (G < x2) = false := decide_eq_false (by omega)
              have d2 : decide (y2 < G) = false := decide_eq_false (by omega)
              have d3 : decide (v9 < 0) = false := decide_eq_false (by omega)
              have d4 : decide (0 < v9) = false := decide_eq_false (by omega)
              clear hD hG r9 c HR3
              go_wp2_with fail
              go_meet
              exact ⟨rfl, Lib.hid (by first | exact Below.refl _ _ | exact (Below.refl _ _).drew | exact below_drewN (Below.refl _ _) _)⟩
            · rw [if_neg c] at r9
              rw [IntWalk.i64_in _ (by omega)] at hG
              have d1 : decide (G < x2) = false := decide_eq_false (by omega)
              have d2 : decide (y2 < G) = false := decide_eq_false (by omega)
              have d3 : decide (v9 < 0) = false := decide_eq_false (by omega)
              have d6 : (G == y2) = true := by rw [beq_iff_eq]; omega
              have d7 : (G != y2) = false := by unfold bne; rw [d6]; rfl
              by_cases c4 : 0 < v9
              · have d4 : decide (0 < v9) = true := decide_eq_true c4
                clear hD hG r9 c HR3 c4
                go_wp2_with fail
                go_meet
                exact ⟨rfl, Lib.hid (by first | exact Below.refl _ _ | exact (Below.refl _ _).drew | exact below_drewN (Below.refl _ _) _)⟩
              · have d4 : decide (0 < v9) = false := decide_eq_false c4
                clear hD hG r9 c HR3 c4
                go_wp2_with fail
                go_meet
                exact ⟨rfl, Lib.hid (by first | exact Below.refl _ _ | exact (Below.refl _ _).drew | exact below_drewN (Below.refl _ _) _)⟩
        case rest => as_aux_lemma =>
          obtain ⟨rfl, hbc⟩ := hcut
          obtain ⟨w10, hwb⟩ : ∃ w10, w10 = wc := ⟨_, rfl⟩
          subst hwb
          have hb10 := hbc.out
          clear hbc hvv hoo hD hG HR3
          clear bu0 bu1 ltu
          have hz10 := hb10.size
          have hB10 := hB9.trans (hb10.mono hB9.size)
          have Qu_10 := Lib.hid (Qu_9.out.kept hb10)
          clear hB9 Qu_9 hb10
          clear Qu_10
          refine Hid.out ?_
          refine Lib.hid ?_
          go_wp2_with (first | (go_at_call 43; refine (HD3.out _ hB10).mono ?_; rintro e w11 ⟨q3, c3, l3, m, rfl, hl3, hq3, hq3lt, ha3, hb11⟩; refine Hid.out ?_) | fail)
          have hz11 := hb11.size
          have hB11 := hB10.trans (hb11.mono hB10.size)
          clear hB10 hb11
          have I3_11 := Lib.hid ha3
          clear ha3 hq3 hq3lt
          obtain ⟨LR, OR, hLR, HR1, HR2, HR3, HR4⟩ := raise_pack l3 m
          cases OR with
            | false =>
            refine Lib.hid ?_
            go_wp2_with (first | (go_at_call 36; refine (HR1 _ c3 _ I3_11.out (by omega)).mono ?_; rintro e w12 ⟨ge, ce, rfl, hge, hoe, hb12⟩; refine Hid.out ?_) | fail)
            have hz12 := hb12.size
            have hB12 := hB11.trans (hb12.mono hB11.size)
            have I3_12 := Lib.hid (I3_11.out.kept hb12 (Nat.le_refl _))
            clear hB11 I3_11 hb12
            have Ie_12 := Lib.hid hoe.iat
            clear hoe hge
            refine Lib.hid ?_
            go_wp2_with (first | (go_at_call 35; refine (HR2 _ c3 _ I3_12.out (by omega)).mono ?_; rintro e w13 ⟨gf, of, cf, rfl, hgf, haf, hb13, hlf⟩; refine Hid.out ?_) | fail)
            have hz13 := hb13.size
            have hB13 := hB12.trans (hb13.mono hB12.size)
            have I3_13 := Lib.hid (I3_12.out.kept hb13 (Nat.le_refl _))
            have Ie_13 := Lib.hid (Ie_12.out.kept hb13 (Nat.le_refl _))
            clear hB12 I3_12 Ie_12 hb13
            have If_13 := Lib.hid haf
            clear haf hgf hlf
            refine Lib.hid ?_
            go_wp2_with (first | (go_at_call 39; refine (rints_same _ _ ce cf LR _ Ie_13.out If_13.out (by omega)).mono ?_; rintro e w14 ⟨rfl, hb14⟩; refine Hid.out ?_) | fail)
            have hz14 := hb14.size
            have hB14 := hB13.trans (hb14.mono hB13.size)
            have I3_14 := Lib.hid (I3_13.out.kept hb14 (Nat.le_refl _))
            have Ie_14 := Lib.hid (Ie_13.out.kept hb14 (Nat.le_refl _))
            have If_14 := Lib.hid (If_13.out.kept hb14 (Nat.le_refl _))
            clear hB13 I3_13 Ie_13 If_13 hb14
            clear If_14
            clear Ie_14
            clear I3_14
            refine Lib.hid ?_
            go_wp2_with (first | (go_at_call 44; refine (HD4.out _ hB14).mono ?_; rintro e w15 ⟨q4, c4, l4, h4, rfl, hl4, hq4, hq4lt, ha4, hb15⟩; refine Hid.out ?_) | fail)
            have hz15 := hb15.size
            have hB15 := hB14.trans (hb15.mono hB14.size)
            clear hB14 hb15
            have I4_15 := Lib.hid ha4
            clear ha4 hq4 hq4lt
            obtain ⟨LP, OP, hLP, HP1, HP2⟩ := press_pack l4 h4
            have hoo : (OP == OP) = true := by simp
            refine Lib.hid ?_
            go_wp2_with (first | (go_at_call 30; refine (HP1 _ c4 _ I4_15.out (by omega)).mono ?_; rintro e w16 ⟨gi, ci, rfl, hgi, hoi, hb16⟩; refine Hid.out ?_) | fail)
            have hz16 := hb16.size
            have hB16 := hB15.trans (hb16.mono hB15.size)
            have I4_16 := Lib.hid (I4_15.out.kept hb16 (Nat.le_refl _))
            clear hB15 I4_15 hb16
            have Ii_16 := Lib.hid hoi.iat
            clear hoi hgi
            refine Lib.hid ?_
            go_wp2_with (first | (go_at_call 29; refine (HP2 _ c4 _ I4_16.out (by omega)).mono ?_; rintro e w17 ⟨gj, oj, cj, rfl, hgj, haj, hb17, hlj⟩; refine Hid.out ?_) | fail)
            have hz17 := hb17.size
            have hB17 := hB16.trans (hb17.mono hB16.size)
            have I4_17 := Lib.hid (I4_16.out.kept hb17 (Nat.le_refl _))
            have Ii_17 := Lib.hid (Ii_16.out.kept hb17 (Nat.le_refl _))
            clear hB16 I4_16 Ii_16 hb17
            have Ij_17 := Lib.hid haj
            clear haj hgj hlj
            refine Lib.hid ?_
            go_wp2_with (first | (go_at_call 39; refine (rints_same _ _ ci cj LP _ Ii_17.out Ij_17.out (by omega)).mono ?_; rintro e w18 ⟨rfl, hb18⟩; refine Hid.out ?_) | fail)
            have hz18 := hb18.size
            have hB18 := hB17.trans (hb18.mono hB17.size)
            have I4_18 := Lib.hid (I4_17.out.kept hb18 (Nat.le_refl _))
            have Ii_18 := Lib.hid (Ii_17.out.kept hb18 (Nat.le_refl _))
            have Ij_18 := Lib.hid (Ij_17.out.kept hb18 (Nat.le_refl _))
            clear hB17 I4_17 Ii_17 Ij_17 hb18
            have HBB := Lib.hid hB18
            refine Lib.hid ?_
            go_wp2_with fail
            go_ret
            exact ⟨rfl, HBB.out⟩
            | true =>
            refine Lib.hid ?_
            go_wp2_with (first | (go_at_call 36; refine (HR1 _ c3 _ I3_11.out (by omega)).mono ?_; rintro e w12 ⟨ge, ce, rfl, hge, hoe, hb12⟩; refine Hid.out ?_) | fail)
            have hz12 := hb12.size
            have hB12 := hB11.trans (hb12.mono hB11.size)
            have I3_12 := Lib.hid (I3_11.out.kept hb12 (Nat.le_refl _))
            clear hB11 I3_11 hb12
            have Ie_12 := Lib.hid hoe.iat
            clear hoe hge
            refine Lib.hid ?_
            go_wp2_with (first | (go_at_call 35; refine (HR2 _ c3 _ I3_12.out (by omega)).mono ?_; rintro e w13 ⟨gf, of, cf, rfl, hgf, haf, hb13, hlf⟩; refine Hid.out ?_) | fail)
            have hz13 := hb13.size
            have hB13 := hB12.trans (hb13.mono hB12.size)
            have I3_13 := Lib.hid (I3_12.out.kept hb13 (Nat.le_refl _))
            have Ie_13 := Lib.hid (Ie_12.out.kept hb13 (Nat.le_refl _))
            clear hB12 I3_12 Ie_12 hb13
            have If_13 := Lib.hid haf
            clear haf hgf hlf
            refine Lib.hid ?_
            go_wp2_with (first | (go_at_call 39; refine (rints_same _ _ ce cf LR _ Ie_13.out If_13.out (by omega)).mono ?_; rintro e w14 ⟨rfl, hb14⟩; refine Hid.out ?_) | fail)
            have hz14 := hb14.size
            have hB14 := hB13.trans (hb14.mono hB13.size)
            have I3_14 := Lib.hid (I3_13.out.kept hb14 (Nat.le_refl _))
            have Ie_14 := Lib.hid (Ie_13.out.kept hb14 (Nat.le_refl _))
            have If_14 := Lib.hid (If_13.out.kept hb14 (Nat.le_refl _))
            clear hB13 I3_13 Ie_13 If_13 hb14
            clear If_14
            have hm9 : IntKind.i64.wrap (-m) = -m := IntWalk.i64_in _ (by have := HR4 (by first | rfl | trivial); omega)
            refine Lib.hid ?_
            go_wp2_with (first | (go_at_call 36; refine (HR3 (by first | rfl | trivial) _ ce _ Ie_14.out (by omega)).mono ?_; rintro e w15 ⟨gg, cg, rfl, hgg, hog, hb15⟩; refine Hid.out ?_) | fail)
            have hz15 := hb15.size
            have hB15 := hB14.trans (hb15.mono hB14.size)
            have I3_15 := Lib.hid (I3_14.out.kept hb15 (Nat.le_refl _))
            have Ie_15 := Lib.hid (Ie_14.out.kept hb15 (Nat.le_refl _))
            clear hB14 I3_14 Ie_14 hb15
            have Ig_15 := Lib.hid hog.iat
            clear hog hgg
            refine Lib.hid ?_
            go_wp2_with (first | (go_at_call 39; refine (rints_same _ _ cg c3 l3 _ Ig_15.out I3_15.out (by omega)).mono ?_; rintro e w16 ⟨rfl, hb16⟩; refine Hid.out ?_) | fail)
            have hz16 := hb16.size
            have hB16 := hB15.trans (hb16.mono hB15.size)
            have I3_16 := Lib.hid (I3_15.out.kept hb16 (Nat.le_refl _))
            have Ie_16 := Lib.hid (Ie_15.out.kept hb16 (Nat.le_refl _))
            have Ig_16 := Lib.hid (Ig_15.out.kept hb16 (Nat.le_refl _))
            clear hB15 I3_15 Ie_15 Ig_15 hb16
            clear Ig_16
            clear Ie_16
            clear I3_16
            refine Lib.hid ?_
            go_wp2_with (first | (go_at_call 44; refine (HD4.out _ hB16).mono ?_; rintro e w17 ⟨q4, c4, l4, h4, rfl, hl4, hq4, hq4lt, ha4, hb17⟩; refine Hid.out ?_) | fail)
            have hz17 := hb17.size
            have hB17 := hB16.trans (hb17.mono hB16.size)
            clear hB16 hb17
            have I4_17 := Lib.hid ha4
            clear ha4 hq4 hq4lt
            obtain ⟨LP, OP, hLP, HP1, HP2⟩ := press_pack l4 h4
            have hoo : (OP == OP) = true := by simp
            refine Lib.hid ?_
            go_wp2_with (first | (go_at_call 30; refine (HP1 _ c4 _ I4_17.out (by omega)).mono ?_; rintro e w18 ⟨gi, ci, rfl, hgi, hoi, hb18⟩; refine Hid.out ?_) | fail)
            have hz18 := hb18.size
            have hB18 := hB17.trans (hb18.mono hB17.size)
            have I4_18 := Lib.hid (I4_17.out.kept hb18 (Nat.le_refl _))
            clear hB17 I4_17 hb18
            have Ii_18 := Lib.hid hoi.iat
            clear hoi hgi
            refine Lib.hid ?_
            go_wp2_with (first | (go_at_call 29; refine (HP2 _ c4 _ I4_18.out (by omega)).mono ?_; rintro e w19 ⟨gj, oj, cj, rfl, hgj, haj, hb19, hlj⟩; refine Hid.out ?_) | fail)
            have hz19 := hb19.size
            have hB19 := hB18.trans (hb19.mono hB18.size)
            have I4_19 := Lib.hid (I4_18.out.kept hb19 (Nat.le_refl _))
            have Ii_19 := Lib.hid (Ii_18.out.kept hb19 (Nat.le_refl _))
            clear hB18 I4_18 Ii_18 hb19
            have Ij_19 := Lib.hid haj
            clear haj hgj hlj
            refine Lib.hid ?_
            go_wp2_with (first | (go_at_call 39; refine (rints_same _ _ ci cj LP _ Ii_19.out Ij_19.out (by omega)).mono ?_; rintro e w20 ⟨rfl, hb20⟩; refine Hid.out ?_) | fail)
            have hz20 := hb20.size
            have hB20 := hB19.trans (hb20.mono hB19.size)
            have I4_20 := Lib.hid (I4_19.out.kept hb20 (Nat.le_refl _))
            have Ii_20 := Lib.hid (Ii_19.out.kept hb20 (Nat.le_refl _))
            have Ij_20 := Lib.hid (Ij_19.out.kept hb20 (Nat.le_refl _))
            clear hB19 I4_19 Ii_19 Ij_19 hb20
            have HBB := Lib.hid hB20
            refine Lib.hid ?_
            go_wp2_with fail
            go_ret
            exact ⟨rfl, HBB.out⟩
end Go.Proofs.Ytjfpimldiokpbaa.S12
