/- The walk of the law FnExactRaiseCurve: contracts. Conditions: each theorem's own premises. -/
import Derived.Test.YtmehhojnefoedaaCvRaiseS
import Derived.Deep.DeepCutAuto
namespace Go.Proofs.Ytmehhojnefoedaa.S7
open Go.RowKit P7

theorem own_farC {w w' : World} {B g n cap x : Nat} {xs : List Value} (h : w.ownsRow B 52 2 (.slice (some ⟨g, 0, none⟩) n cap) n xs) (hb : w.grownBy w' (some x)) (hg : g ≠ x) : w'.ownsRow B 52 2 (.slice (some ⟨g, 0, none⟩) n cap) n xs :=
  World.ownsRow.kept h hb (.inr (by simp [Value.ownBlock]; exact hg))
set_option maxHeartbeats 16000000 in
set_option maxRecDepth 100000 in
theorem walkRaiseCurve (A : Option Addr) (c : Nat) (l : List Cp) (x1 : Int) (w : World) (h : CAt w A l) (hm : l.length ≤ maxLen) (L0 : List Cp) (ok : Bool) (hL0 : L0.length ≤ 1000)
    (hs : ∀ (A : Option Addr) (c : Nat) (w : World), CAt w A l → l.length ≤ 1048576 → Calls Try.prog 34 #[.slice A l.length c, .int .i64 x1] w (GivesCA w L0 ok))
    (hi : ∀ (A : Option Addr) (c : Nat) (w : World), CAt w A l → l.length ≤ 1048576 → Calls Try.prog 35 #[.slice A l.length c, .int .i64 x1] w (GivesCI w L0 ok)) :
    Calls Try.prog 10 #[.slice A l.length c, .int .i64 x1] w fun e w' => e = .returned (.bool true) ∧ Below w.heap.size w w' := by
  have HS := Lib.hid hs
  have HI := Lib.hid hi
  have HA := Lib.hid h
  have HM := Lib.hid hm
  clear hs hi h hm
  have hB0 := Below.refl w.heap.size w
  go_enter Try.func10, Try.ntmps10
  refine Hid.out ?_
  refine Lib.hid ?_
  go_wp2_with (first | (go_at_call 14; refine (szcps_any A l.length c 1048576 _ HM.out (by omega) (by omega)).mono ?_; rintro e w1 ⟨⟨q, rfl, hq⟩, hb1⟩; refine Hid.out ?_) | fail)
  have hz1 := hb1.size
  have hB1 := on_base hB0 (Nat.le_refl _) hb1
  clear hb1
  by_cases hq0 : q < 0
  · refine Lib.hid ?_
    go_wp2
    go_ret
    exact ⟨rfl, hB1⟩
  have hlen : l.length ≤ 1048576 := by rcases hq with h | h; exact absurd h hq0; exact h.2.2
  clear hq
  refine Lib.hid ?_
  go_wp2_with (first | (go_at_call 16; refine (tocps_any A c l _ (HA.out.kept hB1 (Nat.le_refl _)) hlen).mono ?_; rintro e w2 ⟨⟨ga, rfl, hga, hOa⟩, hb2⟩; refine Hid.out ?_) | fail)
  have hz2 := hb2.size
  have hB2 := on_base hB1 (Nat.le_refl _) hb2
  clear hB1 hb2
  have hla := hOa.lt
  have Ta_2 := Lib.hid hOa.at_
  clear hOa
  refine Lib.hid ?_
  go_wp2_with (first | (go_at_call 34; refine (HS.out _ _ _ Ta_2.out hlen).mono ?_; rintro e w3 ⟨gS, cS, rfl, hgS, hS, hb3, hlS⟩; refine Hid.out ?_) | fail)
  have hz3 := hb3.size
  have hB3 := on_base hB2 (Nat.le_refl _) hb3
  have Ta_3 := Lib.hid (Ta_2.out.kept hb3 (Nat.le_refl _))
  clear hB2 Ta_2 hb3
  have TS_3 := Lib.hid hS
  clear hS
  clear Ta_3
  refine Lib.hid ?_
  go_wp2_with (first | (go_at_call 16; refine (tocps_any A c l _ (HA.out.kept hB3 (Nat.le_refl _)) hlen).mono ?_; rintro e w4 ⟨⟨gx, rfl, hgx, hOx⟩, hb4⟩; refine Hid.out ?_) | fail)
  have hz4 := hb4.size
  have hB4 := on_base hB3 (Nat.le_refl _) hb4
  have TS_4 := Lib.hid (TS_3.out.kept hb4 (Nat.le_refl _))
  clear hB3 TS_3 hb4
  have hlx := hOx.lt
  have Rx_4 := Lib.hid hOx
  clear hOx
  refine Lib.hid ?_
  go_wp2_with (first | (go_at_call 35; refine (HI.out _ _ _ Rx_4.out.at_ hlen).mono ?_; rintro e w5 ⟨gI, cI, rfl, hgI, hO, hb5⟩; refine Hid.out ?_) | fail)
  have hz5 := hb5.size
  have hB5 := on_base hB4 (Nat.le_refl _) hb5
  have TS_5 := Lib.hid (TS_4.out.kept hb5 (Nat.le_refl _))
  have Rx_5 := Lib.hid (Rx_4.out.kept hb5 (by omega))
  clear hB4 TS_4 Rx_4 hb5
  have hlI := (hO.lt gI rfl).2
  have OI_5 := Lib.hid hO
  clear hO
  refine Lib.hid ?_
  go_wp2_with (first | (go_at_call 18; refine (eqcps_same _ _ _ _ L0 _ (own_cat OI_5.out) TS_5.out (by omega)).mono ?_; rintro e w6 ⟨rfl, hb6⟩; refine Hid.out ?_) | fail)
  have hz6 := hb6.size
  have hB6 := on_base hB5 (Nat.le_refl _) hb6
  have TS_6 := Lib.hid (TS_5.out.kept hb6 (Nat.le_refl _))
  have Rx_6 := Lib.hid (Rx_5.out.kept hb6 (by omega))
  have OI_6 := Lib.hid (own_on OI_5.out hb6)
  clear hB5 TS_5 Rx_5 OI_5 hb6
  refine Lib.hid ?_
  go_wp2_with (first | (go_at_call 16; refine (tocps_any A c l _ (HA.out.kept hB6 (Nat.le_refl _)) hlen).mono ?_; rintro e w7 ⟨⟨gy, rfl, hgy, hOy⟩, hb7⟩; refine Hid.out ?_) | fail)
  have hz7 := hb7.size
  have hB7 := on_base hB6 (Nat.le_refl _) hb7
  have TS_7 := Lib.hid (TS_6.out.kept hb7 (Nat.le_refl _))
  have Rx_7 := Lib.hid (Rx_6.out.kept hb7 (by omega))
  have OI_7 := Lib.hid (own_on OI_6.out hb7)
  clear hB6 TS_6 Rx_6 OI_6 hb7
  have hly := hOy.lt
  have Ty_7 := Lib.hid hOy.at_
  clear hOy
  refine Lib.hid ?_
  go_wp2_with (first | (go_at_call 18; refine (eqcps_same _ _ _ _ l _ Rx_7.out.at_ Ty_7.out hlen).mono ?_; rintro e w8 ⟨rfl, hb8⟩; refine Hid.out ?_) | fail)
  have hz8 := hb8.size
  have hB8 := on_base hB7 (Nat.le_refl _) hb8
  have TS_8 := Lib.hid (TS_7.out.kept hb8 (Nat.le_refl _))
  have Rx_8 := Lib.hid (Rx_7.out.kept hb8 (by omega))
  have OI_8 := Lib.hid (own_on OI_7.out hb8)
  have Ty_8 := Lib.hid (Ty_7.out.kept hb8 (Nat.le_refl _))
  clear hB7 TS_7 Rx_7 OI_7 Ty_7 hb8
  clear Ty_8
  obtain ⟨xs, hxs, hox⟩ := crow_own Rx_8.out hlen
  have HOX := Lib.hid hox
  clear hox
  clear Rx_8
  refine Lib.hid ?_
  go_wp2_with (first | (go_at_call 36; refine (markc_any gx gx l.length 1 l.length xs hxs _ HOX.out hlen (by omega)).mono ?_; rintro e w9 ⟨rfl, _, hg9⟩; refine Hid.out ?_) | fail)
  have hz9 := hg9.size
  have hB9 := hB8.grown hg9 (by omega) (fun k hk => by simp at hk; omega)
  have TS_9 := Lib.hid (TS_8.out.far hg9 (by omega))
  have OI_9 := Lib.hid (own_farC OI_8.out hg9 (by omega))
  clear hB8 TS_8 OI_8 hg9
  refine Lib.hid ?_
  go_wp2_with (first | (go_at_call 18; refine (eqcps_same _ _ _ _ L0 _ (own_cat OI_9.out) TS_9.out (by omega)).mono ?_; rintro e w10 ⟨rfl, hb10⟩; refine Hid.out ?_) | fail)
  have hz10 := hb10.size
  have hB10 := on_base hB9 (Nat.le_refl _) hb10
  have TS_10 := Lib.hid (TS_9.out.kept hb10 (Nat.le_refl _))
  have OI_10 := Lib.hid (own_on OI_9.out hb10)
  clear hB9 TS_9 OI_9 hb10
  have HOI := OI_10
  clear OI_10
  refine Lib.hid ?_
  go_wp2_with (first | (go_at_call 36; refine (markc_any _ gI cI 1 L0.length (ccs L0) (ccs_len L0) _ HOI.out (by omega) (by omega)).mono ?_; rintro e w11 ⟨rfl, hoM, hg11⟩; refine Hid.out ?_) | fail)
  have hz11 := hg11.size
  have hB11 := hB10.grown hg11 (by omega) (fun k hk => by simp at hk; omega)
  have TS_11 := Lib.hid (TS_10.out.far hg11 (by omega))
  clear hB10 TS_10 hg11
  have MI_11 := Lib.hid (own_marks hoM)
  clear hoM
  refine Lib.hid ?_
  go_wp2_with (first | (go_at_call 37; refine (heldc_any gI cI 1 L0.length _ MI_11.out (by omega) (by omega)).mono ?_; rintro e w12 ⟨rfl, hb12⟩; refine Hid.out ?_) | fail)
  have hz12 := hb12.size
  have hB12 := on_base hB11 (Nat.le_refl _) hb12
  have TS_12 := Lib.hid (TS_11.out.kept hb12 (Nat.le_refl _))
  have MI_12 := Lib.hid (MI_11.out.kept hb12)
  clear hB11 TS_11 MI_11 hb12
  refine Lib.hid ?_
  go_wp2_with (first | (go_at_call 16; refine (tocps_any A c l _ (HA.out.kept hB12 (Nat.le_refl _)) hlen).mono ?_; rintro e w13 ⟨⟨gz, rfl, hgz, hOz⟩, hb13⟩; refine Hid.out ?_) | fail)
  have hz13 := hb13.size
  have hB13 := on_base hB12 (Nat.le_refl _) hb13
  have TS_13 := Lib.hid (TS_12.out.kept hb13 (Nat.le_refl _))
  have MI_13 := Lib.hid (MI_12.out.kept hb13)
  clear hB12 TS_12 MI_12 hb13
  have hlz := hOz.lt
  have Tz_13 := Lib.hid hOz.at_
  clear hOz
  refine Lib.hid ?_
  go_wp2_with (first | (go_at_call 35; refine (HI.out _ _ _ Tz_13.out hlen).mono ?_; rintro e w14 ⟨gJ, cJ, rfl, hgJ, hOJ, hb14⟩; refine Hid.out ?_) | fail)
  have hz14 := hb14.size
  have hB14 := on_base hB13 (Nat.le_refl _) hb14
  have TS_14 := Lib.hid (TS_13.out.kept hb14 (Nat.le_refl _))
  have MI_14 := Lib.hid (MI_13.out.kept hb14)
  have Tz_14 := Lib.hid (Tz_13.out.kept hb14 (Nat.le_refl _))
  clear hB13 TS_13 MI_13 Tz_13 hb14
  have OJ_14 := Lib.hid hOJ
  clear hOJ
  clear Tz_14
  refine Lib.hid ?_
  go_wp2_with (first | (go_at_call 18; refine (eqcps_same _ _ _ _ L0 _ (own_cat OJ_14.out) TS_14.out (by omega)).mono ?_; rintro e w15 ⟨rfl, hb15⟩; refine Hid.out ?_) | fail)
  have hz15 := hb15.size
  have hB15 := on_base hB14 (Nat.le_refl _) hb15
  have TS_15 := Lib.hid (TS_14.out.kept hb15 (Nat.le_refl _))
  have MI_15 := Lib.hid (MI_14.out.kept hb15)
  have OJ_15 := Lib.hid (own_on OJ_14.out hb15)
  clear hB14 TS_14 MI_14 OJ_14 hb15
  refine Lib.hid ?_
  go_wp2_with (first | (go_at_call 37; refine (heldc_any gI cI 1 L0.length _ MI_15.out (by omega) (by omega)).mono ?_; rintro e w16 ⟨rfl, hb16⟩; refine Hid.out ?_) | fail)
  have hz16 := hb16.size
  have hB16 := on_base hB15 (Nat.le_refl _) hb16
  have TS_16 := Lib.hid (TS_15.out.kept hb16 (Nat.le_refl _))
  have MI_16 := Lib.hid (MI_15.out.kept hb16)
  have OJ_16 := Lib.hid (own_on OJ_15.out hb16)
  clear hB15 TS_15 MI_15 OJ_15 hb16
  refine Lib.hid ?_
  go_wp2_with fail
  go_ret
  exact ⟨rfl, hB16⟩
theorem law_raise (A : Option Addr) (c : Nat) (l : List Cp) (h : Int) (w : World) (hA : CAt w A l) (hm : l.length ≤ maxLen) :
    Calls Try.prog 10 #[.slice A l.length c, .int .i64 h] w fun e w' => e = .returned (.bool true) ∧ Below w.heap.size w w' :=
  walkRaiseCurve A c l h w hA hm (rL l h) (rB l h) (Nat.le_trans (rL_len l h) (by omega)) (fun A c w hA hm => sraise_any A c l h w hA hm) (fun A c w hA hm => raise_any A c l h w hA hm)
end Go.Proofs.Ytmehhojnefoedaa.S7
