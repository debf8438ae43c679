/- The walk of the law FnExactSplitCost: contracts. Conditions: each theorem's own premises. -/
import Derived.Test.YtidlpoambmeiiaaTaLaw
import Derived.Deep.DeepCutAuto
import Derived.Deep.RegionLaw
import Derived.Deep.RegionHeld3
namespace Go.Proofs.Ytidlpoambmeiiaa.S14
open Go.RowKit P14

set_option maxHeartbeats 16000000 in
set_option maxRecDepth 100000 in
theorem walkSplitCost (t0 : Ta) (A0 : Option Addr) (c0 : Nat) (x1 : Int) (w : World) (hx0 : CAt w A0 t0.bs) (hm0 : t0.bs.length ≤ maxLen) (I0 : List Int) (hI0 : I0.length ≤ 1000) (sv0 : Bool)
    (hs : ∀ (A0 : Option Addr) (c0 : Nat) (w : World), TAt w t0 A0 → Calls Try.prog 32 #[tv t0 A0 c0, .int .i64 x1] w (GivesA w I0 sv0))
    (hi : ∀ (A0 : Option Addr) (c0 : Nat) (w : World), TAt w t0 A0 → Calls Try.prog 33 #[tv t0 A0 c0, .int .i64 x1] w (GivesI w I0 sv0)) :
    Calls Try.prog 10 #[tv t0 A0 c0, .int .i64 x1] w fun e w' => e = .returned (.bool true) ∧ Below w.heap.size w w' := by
  have HS := Lib.hid hs
  have HI := Lib.hid hi
  have HX0 := Lib.hid hx0
  have HM0 := Lib.hid hm0
  clear hs hi hx0 hm0
  go_enter Try.func10, Try.ntmps10
  refine Hid.out ?_
  have hB0 := Below.refl w.heap.size w
  have hb0b := alloc_below w (tb 24 t0 A0 c0)
  have Qn := B2.new w 24 t0 A0 c0
  have hzxa0 := new_lt w (tb 24 t0 A0 c0)
  replace Qn := Lib.hid Qn
  have hz0b : w.heap.size ≤ (w.alloc (tb 24 t0 A0 c0)).heap.size := hb0b.size
  have hB0b := hB0.trans (hb0b.mono hB0.size)
  clear hB0 hb0b
  have Qa0_0b := Qn
  clear Qn
  obtain ⟨ba0l, ba00, ba01, _⟩ := Qa0_0b.out
  refine Lib.hid ?_
  go_wp2_with (first | (go_at_call 15; refine (sztar_any t0 A0 c0 1048576 _ HM0.out (by omega) (by omega)).mono ?_; rintro e w1 ⟨⟨r0, rfl, hr0⟩, hb1⟩; refine Hid.out ?_) | fail)
  clear ba0l ba00 ba01
  have hz1 : (w.alloc (tb 24 t0 A0 c0)).heap.size ≤ w1.heap.size := hb1.size
  have hB1 := hB0b.trans (hb1.mono hB0b.size)
  have Qa0_1 := Lib.hid (Qa0_0b.out.kept hb1)
  clear hB0b Qa0_0b hb1
  by_cases hr01 : r0 < 0
  · refine Lib.hid ?_
    go_wp2
    go_ret
    exact ⟨rfl, hB1⟩
  have hr02 : 0 ≤ r0 ∧ r0 ≤ 1048576 ∧ t0.bs.length ≤ 1048576 := by rcases hr0 with h | h; exact absurd h hr01; exact h
  obtain ⟨hr03, hr04, hl0⟩ := hr02
  have HP0 : Hid (TAt w t0 A0) := Lib.hid ⟨HX0.out, hl0⟩
  clear hr0
  obtain ⟨ba0l, ba00, ba01, _⟩ := Qa0_1.out
  refine Lib.hid ?_
  go_wp2_with (first | (go_at_call 17; refine (totar_any t0 A0 c0 _ (HP0.out.kept hB1)).mono ?_; rintro e w2 ⟨⟨ga0, rfl, hga0, hOa0⟩, hb2⟩; refine Hid.out ?_) | fail)
  clear ba0l ba00 ba01
  have hz2 : w1.heap.size ≤ w2.heap.size := hb2.size
  have hB2 := hB1.trans (hb2.mono hB1.size)
  have Qa0_2 := Lib.hid (Qa0_1.out.kept hb2)
  clear hB1 Qa0_1 hb2
  have hla0 := hOa0.lt
  have Ca0_2 := Lib.hid hOa0
  clear hOa0
  obtain ⟨ba0l, ba00, ba01, _⟩ := Qa0_2.out
  refine Lib.hid ?_
  go_wp2_with (first | (go_at_call 32; refine (HS.out _ _ _ ⟨Ca0_2.out.at_, hl0⟩).mono ?_; rintro e w3 ⟨gS, oS, cS, rfl, hgS, hS, hb3, hlS⟩; refine Hid.out ?_) | fail)
  clear ba0l ba00 ba01
  have hz3 : w2.heap.size ≤ w3.heap.size := hb3.size
  have hB3 := hB2.trans (hb3.mono hB2.size)
  have Qa0_3 := Lib.hid (Qa0_2.out.kept hb3)
  have Ca0_3 := Lib.hid (CRow.kept Ca0_2.out hb3 Ca0_2.out.lt)
  clear hB2 Qa0_2 Ca0_2 hb3
  clear Ca0_3
  have Ls_3 := Lib.hid hS
  clear hS
  obtain ⟨ba0l, ba00, ba01, _⟩ := Qa0_3.out
  refine Lib.hid ?_
  go_wp2_with (first | (go_at_call 17; refine (totar_any t0 A0 c0 _ (HP0.out.kept hB3)).mono ?_; rintro e w4 ⟨⟨gx0, rfl, hgx0, hOx0⟩, hb4⟩; refine Hid.out ?_) | fail)
  clear ba0l ba00 ba01
  have hz4 : w3.heap.size ≤ w4.heap.size := hb4.size
  have hB4 := hB3.trans (hb4.mono hB3.size)
  have Qa0_4 := Lib.hid (Qa0_3.out.kept hb4)
  have Ls_4 := Lib.hid (Ls_3.out.low hb4 (by omega))
  clear hB3 Qa0_3 Ls_3 hb4
  have hlx0 := hOx0.lt
  have Cx0_4 := Lib.hid hOx0
  clear hOx0
  have hb4b := alloc_below w4 (tb 29 t0 (some ⟨gx0, 0, none⟩) t0.bs.length)
  have Qn := B2.new w4 29 t0 (some ⟨gx0, 0, none⟩) t0.bs.length
  have hzxx0 := new_lt w4 (tb 29 t0 (some ⟨gx0, 0, none⟩) t0.bs.length)
  replace Qn := Lib.hid Qn
  have hz4b : w4.heap.size ≤ (w4.alloc (tb 29 t0 (some ⟨gx0, 0, none⟩) t0.bs.length)).heap.size := hb4b.size
  have hB4b := hB4.trans (hb4b.mono hB4.size)
  have Qa0_4b := Lib.hid (Qa0_4.out.kept hb4b)
  have Ls_4b := Lib.hid (Ls_4.out.low hb4b (by omega))
  have Cx0_4b := Lib.hid (CRow.kept Cx0_4.out hb4b Cx0_4.out.lt)
  clear hB4 Qa0_4 Ls_4 Cx0_4 hb4b
  have Qx0_4b := Qn
  clear Qn
  obtain ⟨ba0l, ba00, ba01, _⟩ := Qa0_4b.out
  obtain ⟨bx0l, bx00, bx01, _⟩ := Qx0_4b.out
  refine Lib.hid ?_
  go_wp2_with (first | (go_at_call 33; refine (HI.out _ _ _ ⟨Cx0_4b.out.at_, hl0⟩).mono ?_; rintro e w5 ⟨gIp, cIp, rfl, hgIp, hOp, hb5⟩; refine Hid.out ?_) | fail)
  clear ba0l ba00 ba01 bx0l bx00 bx01
  have hz5 : (w4.alloc (tb 29 t0 (some ⟨gx0, 0, none⟩) t0.bs.length)).heap.size ≤ w5.heap.size := hb5.size
  have hB5 := hB4b.trans (hb5.mono hB4b.size)
  have Qa0_5 := Lib.hid (Qa0_4b.out.kept hb5)
  have Ls_5 := Lib.hid (Ls_4b.out.low hb5 (by omega))
  have Cx0_5 := Lib.hid (CRow.kept Cx0_4b.out hb5 Cx0_4b.out.lt)
  have Qx0_5 := Lib.hid (Qx0_4b.out.kept hb5)
  clear hB4b Qa0_4b Ls_4b Cx0_4b Qx0_4b hb5
  have hlIp := iown_lt' hOp
  have Ip_5 := Lib.hid hOp
  clear hOp
  obtain ⟨ba0l, ba00, ba01, _⟩ := Qa0_5.out
  obtain ⟨bx0l, bx00, bx01, _⟩ := Qx0_5.out
  refine Lib.hid ?_
  go_wp2_with (first | (go_at_call 34; refine (eqints_same _ _ _ _ I0 _ Ip_5.out.iat Ls_5.out (by omega)).mono ?_; rintro e w6 ⟨rfl, hb6⟩; refine Hid.out ?_) | fail)
  clear ba0l ba00 ba01 bx0l bx00 bx01
  have hz6 : w5.heap.size ≤ w6.heap.size := hb6.size
  have hB6 := hB5.trans (hb6.mono hB5.size)
  have Qa0_6 := Lib.hid (Qa0_5.out.kept hb6)
  have Ls_6 := Lib.hid (Ls_5.out.low hb6 (by omega))
  have Cx0_6 := Lib.hid (CRow.kept Cx0_5.out hb6 Cx0_5.out.lt)
  have Qx0_6 := Lib.hid (Qx0_5.out.kept hb6)
  have Ip_6 := Lib.hid (Ip_5.out.on hb6)
  clear hB5 Qa0_5 Ls_5 Cx0_5 Qx0_5 Ip_5 hb6
  obtain ⟨ba0l, ba00, ba01, _⟩ := Qa0_6.out
  obtain ⟨bx0l, bx00, bx01, _⟩ := Qx0_6.out
  refine Lib.hid ?_
  go_upto_region 10 with (fail)
  go_cut [49] (fun st wx => st = .bool false ∧ Hid (Below w6.heap.size w6 wx))
  case first =>
    have hA7 := Lib.hid (show TAt w6.drew t0 A0 from ⟨(HP0.out.kept hB6).x, hl0⟩)
    have hat7 := Lib.hid (show TAt w6.drew t0 (some ⟨gx0, 0, none⟩) from ⟨Cx0_6.out.at_, hl0⟩)
    go_region_with (first
      | (go_at_call 17; refine (totar_any t0 A0 c0 w6.drew hA7.out).mono ?_; rintro e wqa ⟨⟨gq1, rfl, hq1, hs1⟩, hbqa⟩; have HBqa := Lib.hid hbqa; have hatqa := Lib.hid (show TAt wqa t0 _ from ⟨hs1.at_, hl0⟩); have hatqb := Lib.hid (TAt.kept (w := w6.drew) hat7.out hbqa); have z9 := (Qx0_6.out.kept (show Below w6.heap.size w6 wqa from (Below.refl w6.heap.size w6).drew.trans hbqa)); obtain ⟨_, z0, z1, _⟩ := z9; clear hq1 hs1 hbqa)
      | (go_at_call 19; refine (eqtar_same t0 _ _ _ _ wqa hatqb.out hatqa.out).mono ?_; rintro e wqb ⟨rfl, hbqb⟩))
    all_goals
      go_wp2_with fail
      go_meet
      exact ⟨rfl, Lib.hid ((Below.refl w6.heap.size w6).drew.trans (HBqa.out.trans (hbqb.mono HBqa.out.size)))⟩
  case rest =>
    clear ba0l ba00 ba01 bx0l bx00 bx01
    obtain ⟨rfl, hbc⟩ := hcut
    obtain ⟨w7, hwb⟩ : ∃ w7, w7 = wc := ⟨_, rfl⟩
    subst hwb
    have hb7 := hbc.out
    clear hbc
    have hz7 : w6.heap.size ≤ w7.heap.size := hb7.size
    have hB7 := hB6.trans (hb7.mono hB6.size)
    have Qa0_7 := Lib.hid (Qa0_6.out.kept hb7)
    have Ls_7 := Lib.hid (Ls_6.out.low hb7 (by omega))
    have Cx0_7 := Lib.hid (CRow.kept Cx0_6.out hb7 Cx0_6.out.lt)
    have Qx0_7 := Lib.hid (Qx0_6.out.kept hb7)
    have Ip_7 := Lib.hid (Ip_6.out.on hb7)
    clear hB6 Qa0_6 Ls_6 Cx0_6 Qx0_6 Ip_6 hb7
    have HX9 := Lib.hid (crow_cown Cx0_7.out hl0)
    clear Cx0_7
    obtain ⟨ba0l, ba00, ba01, _⟩ := Qa0_7.out
    obtain ⟨bx0l, bx00, bx01, _⟩ := Qx0_7.out
    refine Lib.hid ?_
    go_wp2_with (first | (go_at_call 35; refine (marktar_i _ gx0 _ 1 (1) t0 _ HX9.out hl0 (by omega) (by omega)).mono ?_; rintro e w8 ⟨rfl, hM9, hg8⟩; refine Hid.out ?_) | fail)
    clear ba0l ba00 ba01 bx0l bx00 bx01
    have hz8 : w7.heap.size ≤ w8.heap.size := hg8.size
    have hB8 := hB7.grown hg8 (by omega) (fun k hk => by simp at hk; omega)
    have Qa0_8 := Lib.hid (Qa0_7.out.far hg8 (by omega))
    have Ls_8 := Lib.hid (Ls_7.out.far hg8 (by omega))
    have Qx0_8 := Lib.hid (Qx0_7.out.far hg8 (by omega))
    have Ip_8 := Lib.hid (Ip_7.out.far hg8 (by omega))
    clear hB7 Qa0_7 Ls_7 Qx0_7 Ip_7 hg8
    clear HX9 hM9
    clear Qx0_8
    have hk9 : ¬ ((1 : Int) + (t0.bs.length : Int) * 2 < 0) := by omega
    obtain ⟨ba0l, ba00, ba01, _⟩ := Qa0_8.out
    refine Lib.hid ?_
    go_wp2_with (first | (go_at_call 34; refine (eqints_same _ _ _ _ I0 _ Ip_8.out.iat Ls_8.out (by omega)).mono ?_; rintro e w9 ⟨rfl, hb9⟩; refine Hid.out ?_) | fail)
    clear ba0l ba00 ba01
    have hz9 : w8.heap.size ≤ w9.heap.size := hb9.size
    have hB9 := hB8.trans (hb9.mono hB8.size)
    have Qa0_9 := Lib.hid (Qa0_8.out.kept hb9)
    have Ls_9 := Lib.hid (Ls_8.out.low hb9 (by omega))
    have Ip_9 := Lib.hid (Ip_8.out.on hb9)
    clear hB8 Qa0_8 Ls_8 Ip_8 hb9
    have HOJ := Ip_9
    clear Ip_9
    obtain ⟨ba0l, ba00, ba01, _⟩ := Qa0_9.out
    refine Lib.hid ?_
    go_wp2_with (first | (go_at_call 36; refine (markints_i _ gIp cIp (1) _ I0 _ HOJ.out (by omega) (by omega) (by omega)).mono ?_; rintro e w10 ⟨rfl, hM, hg10⟩; refine Hid.out ?_) | fail)
    clear ba0l ba00 ba01
    have hz10 : w9.heap.size ≤ w10.heap.size := hg10.size
    have hB10 := hB9.grown hg10 (by omega) (fun k hk => by simp at hk; omega)
    have Qa0_10 := Lib.hid (Qa0_9.out.far hg10 (by omega))
    have Ls_10 := Lib.hid (Ls_9.out.far hg10 (by omega))
    clear hB9 Qa0_9 Ls_9 hg10
    have LK_10 := Lib.hid hM.iat_marks
    clear hM
    obtain ⟨ba0l, ba00, ba01, _⟩ := Qa0_10.out
    refine Lib.hid ?_
    go_wp2_with (first | (go_at_call 37; refine (heldints_i _ _ (1) I0.length _ _ LK_10.out (by omega) (by omega) (by omega)).mono ?_; rintro e w11 ⟨rfl, hb11⟩; refine Hid.out ?_) | fail)
    clear ba0l ba00 ba01
    have hz11 : w10.heap.size ≤ w11.heap.size := hb11.size
    have hB11 := hB10.trans (hb11.mono hB10.size)
    have Qa0_11 := Lib.hid (Qa0_10.out.kept hb11)
    have Ls_11 := Lib.hid (Ls_10.out.low hb11 (by omega))
    have LK_11 := Lib.hid (LK_10.out.low hb11 (by omega))
    clear hB10 Qa0_10 Ls_10 LK_10 hb11
    obtain ⟨ba0l, ba00, ba01, _⟩ := Qa0_11.out
    refine Lib.hid ?_
    go_wp2_with (first | (go_at_call 17; refine (totar_any t0 A0 c0 _ (HP0.out.kept hB11)).mono ?_; rintro e w12 ⟨⟨gv0, rfl, hgv0, hOv0⟩, hb12⟩; refine Hid.out ?_) | fail)
    clear ba0l ba00 ba01
    have hz12 : w11.heap.size ≤ w12.heap.size := hb12.size
    have hB12 := hB11.trans (hb12.mono hB11.size)
    have Qa0_12 := Lib.hid (Qa0_11.out.kept hb12)
    have Ls_12 := Lib.hid (Ls_11.out.low hb12 (by omega))
    have LK_12 := Lib.hid (LK_11.out.low hb12 (by omega))
    clear hB11 Qa0_11 Ls_11 LK_11 hb12
    have hlv0 := hOv0.lt
    have Cv0_12 := Lib.hid hOv0
    clear hOv0
    obtain ⟨ba0l, ba00, ba01, _⟩ := Qa0_12.out
    refine Lib.hid ?_
    go_wp2_with (first | (go_at_call 33; refine (HI.out _ _ _ ⟨Cv0_12.out.at_, hl0⟩).mono ?_; rintro e w13 ⟨gIh, cIh, rfl, hgIh, hOh, hb13⟩; refine Hid.out ?_) | fail)
    clear ba0l ba00 ba01
    have hz13 : w12.heap.size ≤ w13.heap.size := hb13.size
    have hB13 := hB12.trans (hb13.mono hB12.size)
    have Qa0_13 := Lib.hid (Qa0_12.out.kept hb13)
    have Ls_13 := Lib.hid (Ls_12.out.low hb13 (by omega))
    have LK_13 := Lib.hid (LK_12.out.low hb13 (by omega))
    have Cv0_13 := Lib.hid (CRow.kept Cv0_12.out hb13 Cv0_12.out.lt)
    clear hB12 Qa0_12 Ls_12 LK_12 Cv0_12 hb13
    have hlIh := iown_lt' hOh
    have Ih_13 := Lib.hid hOh
    clear hOh
    clear Cv0_13
    obtain ⟨ba0l, ba00, ba01, _⟩ := Qa0_13.out
    refine Lib.hid ?_
    go_wp2_with (first | (go_at_call 34; refine (eqints_same _ _ _ _ I0 _ Ih_13.out.iat Ls_13.out (by omega)).mono ?_; rintro e w14 ⟨rfl, hb14⟩; refine Hid.out ?_) | fail)
    clear ba0l ba00 ba01
    have hz14 : w13.heap.size ≤ w14.heap.size := hb14.size
    have hB14 := hB13.trans (hb14.mono hB13.size)
    have Qa0_14 := Lib.hid (Qa0_13.out.kept hb14)
    have Ls_14 := Lib.hid (Ls_13.out.low hb14 (by omega))
    have LK_14 := Lib.hid (LK_13.out.low hb14 (by omega))
    have Ih_14 := Lib.hid (Ih_13.out.on hb14)
    clear hB13 Qa0_13 Ls_13 LK_13 Ih_13 hb14
    obtain ⟨ba0l, ba00, ba01, _⟩ := Qa0_14.out
    refine Lib.hid ?_
    go_wp2_with (first | (go_at_call 37; refine (heldints_i _ _ (1) I0.length _ _ LK_14.out (by omega) (by omega) (by omega)).mono ?_; rintro e w15 ⟨rfl, hb15⟩; refine Hid.out ?_) | fail)
    clear ba0l ba00 ba01
    have hz15 : w14.heap.size ≤ w15.heap.size := hb15.size
    have hB15 := hB14.trans (hb15.mono hB14.size)
    have Qa0_15 := Lib.hid (Qa0_14.out.kept hb15)
    have Ls_15 := Lib.hid (Ls_14.out.low hb15 (by omega))
    have LK_15 := Lib.hid (LK_14.out.low hb15 (by omega))
    have Ih_15 := Lib.hid (Ih_14.out.on hb15)
    clear hB14 Qa0_14 Ls_14 LK_14 Ih_14 hb15
    refine Lib.hid ?_
    go_wp2_with fail
    go_ret
    exact ⟨rfl, hB15⟩
end Go.Proofs.Ytidlpoambmeiiaa.S14
