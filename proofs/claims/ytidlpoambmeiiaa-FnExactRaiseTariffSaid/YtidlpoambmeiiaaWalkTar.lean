/- The walk of the law FnExactRaiseTariff: contracts. Conditions: each theorem's own premises. -/
import Derived.Test.YtidlpoambmeiiaaTaGives
import Derived.Deep.DeepCutAuto
import Derived.Deep.RegionLaw
import Derived.Deep.RegionHeld3
namespace Go.Proofs.Ytidlpoambmeiiaa.S14
open Go.RowKit P14

set_option maxHeartbeats 16000000 in
set_option maxRecDepth 100000 in
theorem walkRaiseTariff (t0 : Ta) (A0 : Option Addr) (c0 : Nat) (x1 : Int) (w : World) (hx0 : CAt w A0 t0.bs) (hm0 : t0.bs.length ≤ maxLen) (R0 : Ta) (hR0 : R0.bs.length ≤ 1000) (sv0 : Bool)
    (hs : ∀ (A0 : Option Addr) (c0 : Nat) (w : World), TAt w t0 A0 → Calls Try.prog 38 #[tv t0 A0 c0, .int .i64 x1] w (GivesT w R0 sv0))
    (hi : ∀ (A0 : Option Addr) (c0 : Nat) (w : World), TAt w t0 A0 → Calls Try.prog 39 #[tv t0 A0 c0, .int .i64 x1] w (GivesT w R0 sv0)) :
    Calls Try.prog 11 #[tv t0 A0 c0, .int .i64 x1] w fun e w' => e = .returned (.bool true) ∧ Below w.heap.size w w' := by
  have HS := Lib.hid hs
  have HI := Lib.hid hi
  have HX0 := Lib.hid hx0
  have HM0 := Lib.hid hm0
  clear hs hi hx0 hm0
  go_enter Try.func11, Try.ntmps11
  refine Hid.out ?_
  have hB0 := Below.refl w.heap.size w
  have hb0b := alloc_below w (tb 24 t0 A0 c0)
  have Qn := B2.new w 24 t0 A0 c0
  have hzxa0 := new_lt w (tb 24 t0 A0 c0)
  replace Qn := Lib.hid Qn
  have hz0b : w.heap.size ≤ (w.alloc (tb 24 t0 A0 c0)).heap.size := hb0b.size
  have hB0b := hB0.trans (hb0b.mono hB0.size)
  clear hB0 hb0b
  have Qa0_0b := Qn
  clear Qn
  obtain ⟨ba0l, ba00, ba01, _⟩ := Qa0_0b.out
  refine Lib.hid ?_
  go_wp2_with (first | (go_at_call 15; refine (sztar_any t0 A0 c0 1048576 _ HM0.out (by omega) (by omega)).mono ?_; rintro e w1 ⟨⟨r0, rfl, hr0⟩, hb1⟩; refine Hid.out ?_) | fail)
  clear ba0l ba00 ba01
  have hz1 : (w.alloc (tb 24 t0 A0 c0)).heap.size ≤ w1.heap.size := hb1.size
  have hB1 := hB0b.trans (hb1.mono hB0b.size)
  have Qa0_1 := Lib.hid (Qa0_0b.out.kept hb1)
  clear hB0b Qa0_0b hb1
  by_cases hr01 : r0 < 0
  · refine Lib.hid ?_
    go_wp2
    go_ret
    exact ⟨rfl, hB1⟩
  have hr02 : 0 ≤ r0 ∧ r0 ≤ 1048576 ∧ t0.bs.length ≤ 1048576 := by rcases hr0 with h | h; exact absurd h hr01; exact h
  obtain ⟨hr03, hr04, hl0⟩ := hr02
  have HP0 : Hid (TAt w t0 A0) := Lib.hid ⟨HX0.out, hl0⟩
  clear hr0
  obtain ⟨ba0l, ba00, ba01, _⟩ := Qa0_1.out
  refine Lib.hid ?_
  go_wp2_with (first | (go_at_call 17; refine (totar_any t0 A0 c0 _ (HP0.out.kept hB1)).mono ?_; rintro e w2 ⟨⟨ga0, rfl, hga0, hOa0⟩, hb2⟩; refine Hid.out ?_) | fail)
  clear ba0l ba00 ba01
  have hz2 : w1.heap.size ≤ w2.heap.size := hb2.size
  have hB2 := hB1.trans (hb2.mono hB1.size)
  have Qa0_2 := Lib.hid (Qa0_1.out.kept hb2)
  clear hB1 Qa0_1 hb2
  have hla0 := hOa0.lt
  have Ca0_2 := Lib.hid hOa0
  clear hOa0
  obtain ⟨ba0l, ba00, ba01, _⟩ := Qa0_2.out
  refine Lib.hid ?_
  go_wp2_with (first | (go_at_call 38; refine (HS.out _ _ _ ⟨Ca0_2.out.at_, hl0⟩).mono ?_; rintro e w3 ⟨gS, cS, rfl, hgS, hS, hb3⟩; refine Hid.out ?_) | fail)
  clear ba0l ba00 ba01
  have hz3 : w2.heap.size ≤ w3.heap.size := hb3.size
  have hB3 := hB2.trans (hb3.mono hB2.size)
  have Qa0_3 := Lib.hid (Qa0_2.out.kept hb3)
  have Ca0_3 := Lib.hid (CRow.kept Ca0_2.out hb3 Ca0_2.out.lt)
  clear hB2 Qa0_2 Ca0_2 hb3
  clear Ca0_3
  have hlS := cown_lt hS
  have Os_3 := Lib.hid hS
  clear hS
  have hb3b := alloc_below w3 (tb 29 R0 (some ⟨gS, 0, none⟩) cS)
  have Qn := B2.new w3 29 R0 (some ⟨gS, 0, none⟩) cS
  have hzxw := new_lt w3 (tb 29 R0 (some ⟨gS, 0, none⟩) cS)
  replace Qn := Lib.hid Qn
  have hz3b : w3.heap.size ≤ (w3.alloc (tb 29 R0 (some ⟨gS, 0, none⟩) cS)).heap.size := hb3b.size
  have hB3b := hB3.trans (hb3b.mono hB3.size)
  have Qa0_3b := Lib.hid (Qa0_3.out.kept hb3b)
  have Os_3b := Lib.hid (COwn.on Os_3.out hb3b)
  clear hB3 Qa0_3 Os_3 hb3b
  have Qw_3b := Qn
  clear Qn
  obtain ⟨ba0l, ba00, ba01, _⟩ := Qa0_3b.out
  obtain ⟨bwl, bw0, bw1, _⟩ := Qw_3b.out
  refine Lib.hid ?_
  go_wp2_with (first | (go_at_call 17; refine (totar_any t0 A0 c0 _ (HP0.out.kept hB3b)).mono ?_; rintro e w4 ⟨⟨gx0, rfl, hgx0, hOx0⟩, hb4⟩; refine Hid.out ?_) | fail)
  clear ba0l ba00 ba01 bwl bw0 bw1
  have hz4 : (w3.alloc (tb 29 R0 (some ⟨gS, 0, none⟩) cS)).heap.size ≤ w4.heap.size := hb4.size
  have hB4 := hB3b.trans (hb4.mono hB3b.size)
  have Qa0_4 := Lib.hid (Qa0_3b.out.kept hb4)
  have Os_4 := Lib.hid (COwn.on Os_3b.out hb4)
  have Qw_4 := Lib.hid (Qw_3b.out.kept hb4)
  clear hB3b Qa0_3b Os_3b Qw_3b hb4
  have hlx0 := hOx0.lt
  have Cx0_4 := Lib.hid hOx0
  clear hOx0
  have hb4b := alloc_below w4 (tb 29 t0 (some ⟨gx0, 0, none⟩) t0.bs.length)
  have Qn := B2.new w4 29 t0 (some ⟨gx0, 0, none⟩) t0.bs.length
  have hzxx0 := new_lt w4 (tb 29 t0 (some ⟨gx0, 0, none⟩) t0.bs.length)
  replace Qn := Lib.hid Qn
  have hz4b : w4.heap.size ≤ (w4.alloc (tb 29 t0 (some ⟨gx0, 0, none⟩) t0.bs.length)).heap.size := hb4b.size
  have hB4b := hB4.trans (hb4b.mono hB4.size)
  have Qa0_4b := Lib.hid (Qa0_4.out.kept hb4b)
  have Os_4b := Lib.hid (COwn.on Os_4.out hb4b)
  have Qw_4b := Lib.hid (Qw_4.out.kept hb4b)
  have Cx0_4b := Lib.hid (CRow.kept Cx0_4.out hb4b Cx0_4.out.lt)
  clear hB4 Qa0_4 Os_4 Qw_4 Cx0_4 hb4b
  have Qx0_4b := Qn
  clear Qn
  obtain ⟨ba0l, ba00, ba01, _⟩ := Qa0_4b.out
  obtain ⟨bwl, bw0, bw1, _⟩ := Qw_4b.out
  obtain ⟨bx0l, bx00, bx01, _⟩ := Qx0_4b.out
  refine Lib.hid ?_
  go_wp2_with (first | (go_at_call 39; refine (HI.out _ _ _ ⟨Cx0_4b.out.at_, hl0⟩).mono ?_; rintro e w5 ⟨gIp, cIp, rfl, hgIp, hOp, hb5⟩; refine Hid.out ?_) | fail)
  clear ba0l ba00 ba01 bwl bw0 bw1 bx0l bx00 bx01
  have hz5 : (w4.alloc (tb 29 t0 (some ⟨gx0, 0, none⟩) t0.bs.length)).heap.size ≤ w5.heap.size := hb5.size
  have hB5 := hB4b.trans (hb5.mono hB4b.size)
  have Qa0_5 := Lib.hid (Qa0_4b.out.kept hb5)
  have Os_5 := Lib.hid (COwn.on Os_4b.out hb5)
  have Qw_5 := Lib.hid (Qw_4b.out.kept hb5)
  have Cx0_5 := Lib.hid (CRow.kept Cx0_4b.out hb5 Cx0_4b.out.lt)
  have Qx0_5 := Lib.hid (Qx0_4b.out.kept hb5)
  clear hB4b Qa0_4b Os_4b Qw_4b Cx0_4b Qx0_4b hb5
  have hlIp := cown_lt hOp
  have Op_5 := Lib.hid hOp
  clear hOp
  have hb5b := alloc_below w5 (tb 29 R0 (some ⟨gIp, 0, none⟩) cIp)
  have Qn := B2.new w5 29 R0 (some ⟨gIp, 0, none⟩) cIp
  have hzxp := new_lt w5 (tb 29 R0 (some ⟨gIp, 0, none⟩) cIp)
  replace Qn := Lib.hid Qn
  have hz5b : w5.heap.size ≤ (w5.alloc (tb 29 R0 (some ⟨gIp, 0, none⟩) cIp)).heap.size := hb5b.size
  have hB5b := hB5.trans (hb5b.mono hB5.size)
  have Qa0_5b := Lib.hid (Qa0_5.out.kept hb5b)
  have Os_5b := Lib.hid (COwn.on Os_5.out hb5b)
  have Qw_5b := Lib.hid (Qw_5.out.kept hb5b)
  have Cx0_5b := Lib.hid (CRow.kept Cx0_5.out hb5b Cx0_5.out.lt)
  have Qx0_5b := Lib.hid (Qx0_5.out.kept hb5b)
  have Op_5b := Lib.hid (COwn.on Op_5.out hb5b)
  clear hB5 Qa0_5 Os_5 Qw_5 Cx0_5 Qx0_5 Op_5 hb5b
  have Qp_5b := Qn
  clear Qn
  obtain ⟨ba0l, ba00, ba01, _⟩ := Qa0_5b.out
  obtain ⟨bwl, bw0, bw1, _⟩ := Qw_5b.out
  obtain ⟨bx0l, bx00, bx01, _⟩ := Qx0_5b.out
  obtain ⟨bpl, bp0, bp1, _⟩ := Qp_5b.out
  refine Lib.hid ?_
  go_wp2_with (first | (go_at_call 19; refine (eqtar_same R0 _ _ _ _ _ ⟨own_cat Op_5b.out, by omega⟩ ⟨own_cat Os_5b.out, by omega⟩).mono ?_; rintro e w6 ⟨rfl, hb6⟩; refine Hid.out ?_) | fail)
  clear ba0l ba00 ba01 bwl bw0 bw1 bx0l bx00 bx01 bpl bp0 bp1
  have hz6 : (w5.alloc (tb 29 R0 (some ⟨gIp, 0, none⟩) cIp)).heap.size ≤ w6.heap.size := hb6.size
  have hB6 := hB5b.trans (hb6.mono hB5b.size)
  have Qa0_6 := Lib.hid (Qa0_5b.out.kept hb6)
  have Os_6 := Lib.hid (COwn.on Os_5b.out hb6)
  have Qw_6 := Lib.hid (Qw_5b.out.kept hb6)
  have Cx0_6 := Lib.hid (CRow.kept Cx0_5b.out hb6 Cx0_5b.out.lt)
  have Qx0_6 := Lib.hid (Qx0_5b.out.kept hb6)
  have Op_6 := Lib.hid (COwn.on Op_5b.out hb6)
  have Qp_6 := Lib.hid (Qp_5b.out.kept hb6)
  clear hB5b Qa0_5b Os_5b Qw_5b Cx0_5b Qx0_5b Op_5b Qp_5b hb6
  obtain ⟨ba0l, ba00, ba01, _⟩ := Qa0_6.out
  obtain ⟨bwl, bw0, bw1, _⟩ := Qw_6.out
  obtain ⟨bx0l, bx00, bx01, _⟩ := Qx0_6.out
  obtain ⟨bpl, bp0, bp1, _⟩ := Qp_6.out
  refine Lib.hid ?_
  go_upto_region 10 with (fail)
  go_cut [49] (fun st wx => st = .bool false ∧ Hid (Below w6.heap.size w6 wx))
  case first =>
    have hA7 := Lib.hid (show TAt w6.drew t0 A0 from ⟨(HP0.out.kept hB6).x, hl0⟩)
    have hat7 := Lib.hid (show TAt w6.drew t0 (some ⟨gx0, 0, none⟩) from ⟨Cx0_6.out.at_, hl0⟩)
    go_region_with (first
      | (go_at_call 17; refine (totar_any t0 A0 c0 w6.drew hA7.out).mono ?_; rintro e wqa ⟨⟨gq1, rfl, hq1, hs1⟩, hbqa⟩; have HBqa := Lib.hid hbqa; have hatqa := Lib.hid (show TAt wqa t0 _ from ⟨hs1.at_, hl0⟩); have hatqb := Lib.hid (TAt.kept (w := w6.drew) hat7.out hbqa); have z9 := (Qx0_6.out.kept (show Below w6.heap.size w6 wqa from (Below.refl w6.heap.size w6).drew.trans hbqa)); obtain ⟨_, z0, z1, _⟩ := z9; clear hq1 hs1 hbqa)
      | (go_at_call 19; refine (eqtar_same t0 _ _ _ _ wqa hatqb.out hatqa.out).mono ?_; rintro e wqb ⟨rfl, hbqb⟩))
    all_goals
      go_wp2_with fail
      go_meet
      exact ⟨rfl, Lib.hid ((Below.refl w6.heap.size w6).drew.trans (HBqa.out.trans (hbqb.mono HBqa.out.size)))⟩
  case rest =>
    clear ba0l ba00 ba01 bwl bw0 bw1 bx0l bx00 bx01 bpl bp0 bp1
    obtain ⟨rfl, hbc⟩ := hcut
    obtain ⟨w7, hwb⟩ : ∃ w7, w7 = wc := ⟨_, rfl⟩
    subst hwb
    have hb7 := hbc.out
    clear hbc
    have hz7 : w6.heap.size ≤ w7.heap.size := hb7.size
    have hB7 := hB6.trans (hb7.mono hB6.size)
    have Qa0_7 := Lib.hid (Qa0_6.out.kept hb7)
    have Os_7 := Lib.hid (COwn.on Os_6.out hb7)
    have Qw_7 := Lib.hid (Qw_6.out.kept hb7)
    have Cx0_7 := Lib.hid (CRow.kept Cx0_6.out hb7 Cx0_6.out.lt)
    have Qx0_7 := Lib.hid (Qx0_6.out.kept hb7)
    have Op_7 := Lib.hid (COwn.on Op_6.out hb7)
    have Qp_7 := Lib.hid (Qp_6.out.kept hb7)
    clear hB6 Qa0_6 Os_6 Qw_6 Cx0_6 Qx0_6 Op_6 Qp_6 hb7
    have HX9 := Lib.hid (crow_cown Cx0_7.out hl0)
    clear Cx0_7
    obtain ⟨ba0l, ba00, ba01, _⟩ := Qa0_7.out
    obtain ⟨bwl, bw0, bw1, _⟩ := Qw_7.out
    obtain ⟨bx0l, bx00, bx01, _⟩ := Qx0_7.out
    obtain ⟨bpl, bp0, bp1, _⟩ := Qp_7.out
    refine Lib.hid ?_
    go_wp2_with (first | (go_at_call 35; refine (marktar_i _ gx0 _ 1 (1) t0 _ HX9.out hl0 (by omega) (by omega)).mono ?_; rintro e w8 ⟨rfl, hM9, hg8⟩; refine Hid.out ?_) | fail)
    clear ba0l ba00 ba01 bwl bw0 bw1 bx0l bx00 bx01 bpl bp0 bp1
    have hz8 : w7.heap.size ≤ w8.heap.size := hg8.size
    have hB8 := hB7.grown hg8 (by omega) (fun k hk => by simp at hk; omega)
    have Qa0_8 := Lib.hid (Qa0_7.out.far hg8 (by omega))
    have Os_8 := Lib.hid (COwn.far Os_7.out hg8 (by omega))
    have Qw_8 := Lib.hid (Qw_7.out.far hg8 (by omega))
    have Qx0_8 := Lib.hid (Qx0_7.out.far hg8 (by omega))
    have Op_8 := Lib.hid (COwn.far Op_7.out hg8 (by omega))
    have Qp_8 := Lib.hid (Qp_7.out.far hg8 (by omega))
    clear hB7 Qa0_7 Os_7 Qw_7 Qx0_7 Op_7 Qp_7 hg8
    clear HX9 hM9
    clear Qx0_8
    have hk9 : ¬ ((1 : Int) + (t0.bs.length : Int) * 2 < 0) := by omega
    obtain ⟨ba0l, ba00, ba01, _⟩ := Qa0_8.out
    obtain ⟨bwl, bw0, bw1, _⟩ := Qw_8.out
    obtain ⟨bpl, bp0, bp1, _⟩ := Qp_8.out
    refine Lib.hid ?_
    go_wp2_with (first | (go_at_call 19; refine (eqtar_same R0 _ _ _ _ _ ⟨own_cat Op_8.out, by omega⟩ ⟨own_cat Os_8.out, by omega⟩).mono ?_; rintro e w9 ⟨rfl, hb9⟩; refine Hid.out ?_) | fail)
    clear ba0l ba00 ba01 bwl bw0 bw1 bpl bp0 bp1
    have hz9 : w8.heap.size ≤ w9.heap.size := hb9.size
    have hB9 := hB8.trans (hb9.mono hB8.size)
    have Qa0_9 := Lib.hid (Qa0_8.out.kept hb9)
    have Os_9 := Lib.hid (COwn.on Os_8.out hb9)
    have Qw_9 := Lib.hid (Qw_8.out.kept hb9)
    have Op_9 := Lib.hid (COwn.on Op_8.out hb9)
    have Qp_9 := Lib.hid (Qp_8.out.kept hb9)
    clear hB8 Qa0_8 Os_8 Qw_8 Op_8 Qp_8 hb9
    have HOJ := Op_9
    clear Op_9
    obtain ⟨ba0l, ba00, ba01, _⟩ := Qa0_9.out
    obtain ⟨bwl, bw0, bw1, _⟩ := Qw_9.out
    obtain ⟨bpl, bp0, bp1, _⟩ := Qp_9.out
    refine Lib.hid ?_
    go_wp2_with (first | (go_at_call 35; refine (marktar_i _ gIp cIp 1 (1) R0 _ HOJ.out (by omega) (by omega) (by omega)).mono ?_; rintro e w10 ⟨rfl, hM, hg10⟩; refine Hid.out ?_) | fail)
    clear ba0l ba00 ba01 bwl bw0 bw1 bpl bp0 bp1
    have hz10 : w9.heap.size ≤ w10.heap.size := hg10.size
    have hB10 := hB9.grown hg10 (by omega) (fun k hk => by simp at hk; omega)
    have Qa0_10 := Lib.hid (Qa0_9.out.far hg10 (by omega))
    have Os_10 := Lib.hid (COwn.far Os_9.out hg10 (by omega))
    have Qw_10 := Lib.hid (Qw_9.out.far hg10 (by omega))
    have Qp_10 := Lib.hid (Qp_9.out.far hg10 (by omega))
    clear hB9 Qa0_9 Os_9 Qw_9 Qp_9 hg10
    have KK_10 := Lib.hid hM
    clear hM
    have hk8 : ¬ ((1 : Int) + (R0.bs.length : Int) * 2 < 0) := by omega
    obtain ⟨ba0l, ba00, ba01, _⟩ := Qa0_10.out
    obtain ⟨bwl, bw0, bw1, _⟩ := Qw_10.out
    obtain ⟨bpl, bp0, bp1, _⟩ := Qp_10.out
    refine Lib.hid ?_
    go_wp2_with (first | (go_at_call 40; refine (heldtar_i gIp cIp 1 (1) R0 _ KK_10.out (by omega) (by omega) (by omega)).mono ?_; rintro e w11 ⟨rfl, hb11⟩; refine Hid.out ?_) | fail)
    clear ba0l ba00 ba01 bwl bw0 bw1 bpl bp0 bp1
    have hz11 : w10.heap.size ≤ w11.heap.size := hb11.size
    have hB11 := hB10.trans (hb11.mono hB10.size)
    have Qa0_11 := Lib.hid (Qa0_10.out.kept hb11)
    have Os_11 := Lib.hid (COwn.on Os_10.out hb11)
    have Qw_11 := Lib.hid (Qw_10.out.kept hb11)
    have Qp_11 := Lib.hid (Qp_10.out.kept hb11)
    have KK_11 := Lib.hid (KK_10.out.kept hb11)
    clear hB10 Qa0_10 Os_10 Qw_10 Qp_10 KK_10 hb11
    obtain ⟨ba0l, ba00, ba01, _⟩ := Qa0_11.out
    obtain ⟨bwl, bw0, bw1, _⟩ := Qw_11.out
    obtain ⟨bpl, bp0, bp1, _⟩ := Qp_11.out
    refine Lib.hid ?_
    go_wp2_with (first | (go_at_call 17; refine (totar_any t0 A0 c0 _ (HP0.out.kept hB11)).mono ?_; rintro e w12 ⟨⟨gv0, rfl, hgv0, hOv0⟩, hb12⟩; refine Hid.out ?_) | fail)
    clear ba0l ba00 ba01 bwl bw0 bw1 bpl bp0 bp1
    have hz12 : w11.heap.size ≤ w12.heap.size := hb12.size
    have hB12 := hB11.trans (hb12.mono hB11.size)
    have Qa0_12 := Lib.hid (Qa0_11.out.kept hb12)
    have Os_12 := Lib.hid (COwn.on Os_11.out hb12)
    have Qw_12 := Lib.hid (Qw_11.out.kept hb12)
    have Qp_12 := Lib.hid (Qp_11.out.kept hb12)
    have KK_12 := Lib.hid (KK_11.out.kept hb12)
    clear hB11 Qa0_11 Os_11 Qw_11 Qp_11 KK_11 hb12
    have hlv0 := hOv0.lt
    have Cv0_12 := Lib.hid hOv0
    clear hOv0
    obtain ⟨ba0l, ba00, ba01, _⟩ := Qa0_12.out
    obtain ⟨bwl, bw0, bw1, _⟩ := Qw_12.out
    obtain ⟨bpl, bp0, bp1, _⟩ := Qp_12.out
    refine Lib.hid ?_
    go_wp2_with (first | (go_at_call 39; refine (HI.out _ _ _ ⟨Cv0_12.out.at_, hl0⟩).mono ?_; rintro e w13 ⟨gIh, cIh, rfl, hgIh, hOh, hb13⟩; refine Hid.out ?_) | fail)
    clear ba0l ba00 ba01 bwl bw0 bw1 bpl bp0 bp1
    have hz13 : w12.heap.size ≤ w13.heap.size := hb13.size
    have hB13 := hB12.trans (hb13.mono hB12.size)
    have Qa0_13 := Lib.hid (Qa0_12.out.kept hb13)
    have Os_13 := Lib.hid (COwn.on Os_12.out hb13)
    have Qw_13 := Lib.hid (Qw_12.out.kept hb13)
    have Qp_13 := Lib.hid (Qp_12.out.kept hb13)
    have KK_13 := Lib.hid (KK_12.out.kept hb13)
    have Cv0_13 := Lib.hid (CRow.kept Cv0_12.out hb13 Cv0_12.out.lt)
    clear hB12 Qa0_12 Os_12 Qw_12 Qp_12 KK_12 Cv0_12 hb13
    have hlIh := cown_lt hOh
    have Oh_13 := Lib.hid hOh
    clear hOh
    have hb13b := alloc_below w13 (tb 29 R0 (some ⟨gIh, 0, none⟩) cIh)
    have Qn := B2.new w13 29 R0 (some ⟨gIh, 0, none⟩) cIh
    have hzxh := new_lt w13 (tb 29 R0 (some ⟨gIh, 0, none⟩) cIh)
    replace Qn := Lib.hid Qn
    have hz13b : w13.heap.size ≤ (w13.alloc (tb 29 R0 (some ⟨gIh, 0, none⟩) cIh)).heap.size := hb13b.size
    have hB13b := hB13.trans (hb13b.mono hB13.size)
    have Qa0_13b := Lib.hid (Qa0_13.out.kept hb13b)
    have Os_13b := Lib.hid (COwn.on Os_13.out hb13b)
    have Qw_13b := Lib.hid (Qw_13.out.kept hb13b)
    have Qp_13b := Lib.hid (Qp_13.out.kept hb13b)
    have KK_13b := Lib.hid (KK_13.out.kept hb13b)
    have Cv0_13b := Lib.hid (CRow.kept Cv0_13.out hb13b Cv0_13.out.lt)
    have Oh_13b := Lib.hid (COwn.on Oh_13.out hb13b)
    clear hB13 Qa0_13 Os_13 Qw_13 Qp_13 KK_13 Cv0_13 Oh_13 hb13b
    have Qh_13b := Qn
    clear Qn
    clear Cv0_13b
    obtain ⟨ba0l, ba00, ba01, _⟩ := Qa0_13b.out
    obtain ⟨bwl, bw0, bw1, _⟩ := Qw_13b.out
    obtain ⟨bpl, bp0, bp1, _⟩ := Qp_13b.out
    obtain ⟨bhl, bh0, bh1, _⟩ := Qh_13b.out
    refine Lib.hid ?_
    go_wp2_with (first | (go_at_call 19; refine (eqtar_same R0 _ _ _ _ _ ⟨own_cat Oh_13b.out, by omega⟩ ⟨own_cat Os_13b.out, by omega⟩).mono ?_; rintro e w14 ⟨rfl, hb14⟩; refine Hid.out ?_) | fail)
    clear ba0l ba00 ba01 bwl bw0 bw1 bpl bp0 bp1 bhl bh0 bh1
    have hz14 : (w13.alloc (tb 29 R0 (some ⟨gIh, 0, none⟩) cIh)).heap.size ≤ w14.heap.size := hb14.size
    have hB14 := hB13b.trans (hb14.mono hB13b.size)
    have Qa0_14 := Lib.hid (Qa0_13b.out.kept hb14)
    have Os_14 := Lib.hid (COwn.on Os_13b.out hb14)
    have Qw_14 := Lib.hid (Qw_13b.out.kept hb14)
    have Qp_14 := Lib.hid (Qp_13b.out.kept hb14)
    have KK_14 := Lib.hid (KK_13b.out.kept hb14)
    have Oh_14 := Lib.hid (COwn.on Oh_13b.out hb14)
    have Qh_14 := Lib.hid (Qh_13b.out.kept hb14)
    clear hB13b Qa0_13b Os_13b Qw_13b Qp_13b KK_13b Oh_13b Qh_13b hb14
    obtain ⟨ba0l, ba00, ba01, _⟩ := Qa0_14.out
    obtain ⟨bwl, bw0, bw1, _⟩ := Qw_14.out
    obtain ⟨bpl, bp0, bp1, _⟩ := Qp_14.out
    obtain ⟨bhl, bh0, bh1, _⟩ := Qh_14.out
    refine Lib.hid ?_
    go_wp2_with (first | (go_at_call 40; refine (heldtar_i gIp cIp 1 (1) R0 _ KK_14.out (by omega) (by omega) (by omega)).mono ?_; rintro e w15 ⟨rfl, hb15⟩; refine Hid.out ?_) | fail)
    clear ba0l ba00 ba01 bwl bw0 bw1 bpl bp0 bp1 bhl bh0 bh1
    have hz15 : w14.heap.size ≤ w15.heap.size := hb15.size
    have hB15 := hB14.trans (hb15.mono hB14.size)
    have Qa0_15 := Lib.hid (Qa0_14.out.kept hb15)
    have Os_15 := Lib.hid (COwn.on Os_14.out hb15)
    have Qw_15 := Lib.hid (Qw_14.out.kept hb15)
    have Qp_15 := Lib.hid (Qp_14.out.kept hb15)
    have KK_15 := Lib.hid (KK_14.out.kept hb15)
    have Oh_15 := Lib.hid (COwn.on Oh_14.out hb15)
    have Qh_15 := Lib.hid (Qh_14.out.kept hb15)
    clear hB14 Qa0_14 Os_14 Qw_14 Qp_14 KK_14 Oh_14 Qh_14 hb15
    refine Lib.hid ?_
    go_wp2_with fail
    go_ret
    exact ⟨rfl, hB15⟩
end Go.Proofs.Ytidlpoambmeiiaa.S14
