/- The walk of the law FnStarts: contracts. Conditions: each theorem's own premises. -/
import Derived.Test.YtikppgbipdflbaaDoorTkDrR
import Derived.Test.YtikppgbipdflbaaDoorTkStB
import Derived.Test.YtikppgbipdflbaaDoorTkV
import Derived.Deep.DeepCutAuto
namespace Go.Proofs.YtikppgbipdflbaaDoor.S11
open Go.RowKit Go.Sort P11

set_option maxHeartbeats 40000000 in
set_option maxRecDepth 100000 in
theorem walkStarts (a : Option Addr) (n cap : Nat) (w : World) (hc : S1.Cd w.heap.size a n w) (hE0 : ∃ ea, Er w (noV ea)) (hT : Et w) :
    Calls Tryd.prog 6 #[.slice a n cap] w fun e w' => e = .returned (.bool true) ∧ Below w.heap.size w w' := by
  obtain ⟨ea, hE⟩ := hE0
  by_cases hn : n ≤ 65536
  case neg =>
    have HV := Lib.hid (fun w => vbig_yes a n cap w (by omega))
    go_enter Tryd.func6, Tryd.ntmps6
    go_wp2_with (go_at_call 14; refine (HV.out _).mono ?_; rintro e w1 ⟨rfl, rfl⟩)
    go_ret
    exact ⟨rfl, Below.refl _ _⟩
  have HV := Lib.hid (fun w => vbig_no a n cap w hn)
  have HDR := Lib.hid (dls_any a n cap w hc hn)
  go_enter Tryd.func6, Tryd.ntmps6
  go_wp2_with (first | (go_at_call 14; refine (HV.out _).mono ?_; rintro e wv ⟨rfl, hw⟩; replace hw := hw.symm; subst hw; refine Hid.out ?_) | fail)
  have hB0 := Below.refl w.heap.size w
  refine Lib.hid ?_
  go_wp2_with (first | (go_at_call 28; refine (HDR.out).mono ?_; rintro e w1 ⟨L, x, y, q1, c1, l1, q2, c2, l2, rfl, hl1, hl2, hq1, hq2, ha1, ha2, hb1⟩; refine Hid.out ?_) | fail)
  have hz1 := hb1.size
  have hB1 := hB0.trans (hb1.mono hB0.size)
  clear hB0 hb1
  have I1_1 := Lib.hid ha1
  have I2_1 := Lib.hid ha2
  clear ha1 ha2 HDR HV hq1 hq2
  have hb1a := alloc_below w1 (tb 27 L x y)
  have Qnt := Lib.hid (BT.new w1 27 L x y)
  have hz1a := hb1a.size
  have hB1a := hB1.trans (hb1a.mono hB1.size)
  have I1_1a := Lib.hid (I1_1.out.kept hb1a (Nat.le_refl _))
  have I2_1a := Lib.hid (I2_1.out.kept hb1a (Nat.le_refl _))
  clear hB1 I1_1 I2_1 hb1a
  have Qt_1a := Qnt
  clear Qnt
  cases hls : lsO L x y l1 l2 with
  | none =>
      obtain ⟨ltt, bt0, bt1, bt2⟩ := Qt_1a.out
      refine Lib.hid ?_
      go_wp2_with (first | (go_at_call 10; refine (ils_none L x y _ c1 l1 _ c2 l2 ea _ (hE.kept hB1a) I1_1a.out (by omega) I2_1a.out (by omega) hls).mono ?_; rintro e w2 ⟨rfl, hb2⟩; refine Hid.out ?_) | fail)
      clear bt0 bt1 bt2 ltt
      have hz2 := hb2.size
      have hB2 := hB1a.trans (hb2.mono hB1a.size)
      have I1_2 := Lib.hid (I1_1a.out.kept hb2 (Nat.le_refl _))
      have I2_2 := Lib.hid (I2_1a.out.kept hb2 (Nat.le_refl _))
      have Qt_2 := Lib.hid (Qt_1a.out.kept hb2)
      clear hB1a I1_1a I2_1a Qt_1a hb2
      obtain ⟨ltt, bt0, bt1, bt2⟩ := Qt_2.out
      refine Lib.hid ?_
      go_wp2_with (first | (go_at_call 7; refine (sls_none L x y _ c1 l1 _ c2 l2 _ I1_2.out (by omega) I2_2.out (by omega) hls).mono ?_; rintro e w3 ⟨rfl, hb3⟩; refine Hid.out ?_) | fail)
      clear bt0 bt1 bt2 ltt
      have hz3 := hb3.size
      have hB3 := hB2.trans (hb3.mono hB2.size)
      have I1_3 := Lib.hid (I1_2.out.kept hb3 (Nat.le_refl _))
      have I2_3 := Lib.hid (I2_2.out.kept hb3 (Nat.le_refl _))
      have Qt_3 := Lib.hid (Qt_2.out.kept hb3)
      clear hB2 I1_2 I2_2 Qt_2 hb3
      clear hls
      cases hst : stO L x y l1 l2 with
      | none =>
          obtain ⟨ltt, bt0, bt1, bt2⟩ := Qt_3.out
          refine Lib.hid ?_
          go_wp2_with (first | (go_at_call 29; refine (ist_none L x y _ c1 l1 _ c2 l2 _ I1_3.out (by omega) I2_3.out (by omega) hst).mono ?_; rintro e w4 ⟨rfl, hb4⟩; refine Hid.out ?_) | fail)
          clear bt0 bt1 bt2 ltt
          have hz4 := hb4.size
          have hB4 := hB3.trans (hb4.mono hB3.size)
          have I1_4 := Lib.hid (I1_3.out.kept hb4 (Nat.le_refl _))
          have I2_4 := Lib.hid (I2_3.out.kept hb4 (Nat.le_refl _))
          have Qt_4 := Lib.hid (Qt_3.out.kept hb4)
          clear hB3 I1_3 I2_3 Qt_3 hb4
          obtain ⟨ltt, bt0, bt1, bt2⟩ := Qt_4.out
          refine Lib.hid ?_
          go_wp2_with (first | (go_at_call 30; refine (sst_none L x y _ c1 l1 _ c2 l2 _ I1_4.out (by omega) I2_4.out (by omega) hst).mono ?_; rintro e w5 ⟨rfl, hb5⟩; refine Hid.out ?_) | fail)
          clear bt0 bt1 bt2 ltt
          have hz5 := hb5.size
          have hB5 := hB4.trans (hb5.mono hB4.size)
          have I1_5 := Lib.hid (I1_4.out.kept hb5 (Nat.le_refl _))
          have I2_5 := Lib.hid (I2_4.out.kept hb5 (Nat.le_refl _))
          have Qt_5 := Lib.hid (Qt_4.out.kept hb5)
          clear hB4 I1_4 I2_4 Qt_4 hb5
          clear hst
          have hcl := hc.later hB5 (Nat.le_refl _)
          have HDS := Lib.hid (drep_any a n cap w5 hcl hn)
          clear hcl
          refine Lib.hid ?_
          go_wp2_with (first | (go_at_call 31; refine (HDS.out).mono ?_; rintro e w6 ⟨L3, x3, y3, q3, c3, l3, q4, c4, l4, d3, rfl, hl3, hl4, hq3, hq4, ha3, ha4, hb6⟩; refine Hid.out ?_) | fail)
          have hz6 := hb6.size
          have hB6 := hB5.trans (hb6.mono hB5.size)
          clear hB5 hb6
          have Ir1_6 := Lib.hid ha3
          have Ir2_6 := Lib.hid ha4
          clear ha3 ha4 HDS hq3 hq4
          have hb6a := alloc_below w6 (tb 27 L3 x3 y3)
          have Qns := Lib.hid (BT.new w6 27 L3 x3 y3)
          have hz6a := hb6a.size
          have hB6a := hB6.trans (hb6a.mono hB6.size)
          have Ir1_6a := Lib.hid (Ir1_6.out.kept hb6a (Nat.le_refl _))
          have Ir2_6a := Lib.hid (Ir2_6.out.kept hb6a (Nat.le_refl _))
          clear hB6 Ir1_6 Ir2_6 hb6a
          have Qs_6a := Qns
          clear Qns
          obtain ⟨zL, zx, zy, zb, HRI, HRS⟩ : ∃ (zL zx zy : Int) (zb : Bool), Hid (∀ w', IAt w' (some ⟨q3, 0, none⟩) l3 → IAt w' (some ⟨q4, 0, none⟩) l4 → Calls Tryd.prog 22 #[tv L3 x3 y3, .slice (some ⟨q3, 0, none⟩) l3.length c3, .slice (some ⟨q4, 0, none⟩) l4.length c4, .int .i64 d3] w' fun e w'' => e = .returned (.tuple #[tv zL zx zy, .bool zb]) ∧ Below w'.heap.size w' w'') ∧ Hid (∀ w', IAt w' (some ⟨q3, 0, none⟩) l3 → IAt w' (some ⟨q4, 0, none⟩) l4 → Calls Tryd.prog 32 #[tv L3 x3 y3, .slice (some ⟨q3, 0, none⟩) l3.length c3, .slice (some ⟨q4, 0, none⟩) l4.length c4, .int .i64 d3] w' fun e w'' => e = .returned (.tuple #[tv zL zx zy, .bool zb]) ∧ Below w'.heap.size w' w'') := by
            cases h : repB L3 x3 y3 l3 l4 d3 with
            | false => exact ⟨0, 0, 0, false, Lib.hid (fun w' h1 h2 => rep_no L3 x3 y3 _ c3 l3 _ c4 l4 d3 w' h1 (by omega) h2 (by omega) h), Lib.hid (fun w' h1 h2 => srep_no L3 x3 y3 _ c3 l3 _ c4 l4 d3 w' h1 (by omega) h2 (by omega) h)⟩
            | true =>
              unfold repB at h
              rw [Bool.and_eq_true, decide_eq_true_iff] at h
              obtain ⟨h1, h2, h3⟩ := h
              exact ⟨_, _, _, true, Lib.hid (fun w' g1 g2 => rep_yes L3 x3 y3 _ c3 l3 _ c4 l4 d3 w' g1 (by omega) g2 (by omega) (dayB_iff.1 h1) h2 h3), Lib.hid (fun w' g1 g2 => srep_yes L3 x3 y3 _ c3 l3 _ c4 l4 d3 w' g1 (by omega) g2 (by omega) (dayB_iff.1 h1) h2 h3)⟩
          obtain ⟨lts, bs0, bs1, bs2⟩ := Qs_6a.out
          refine Lib.hid ?_
          go_wp2_with (first | (go_at_call 22; refine (HRI.out _ Ir1_6a.out Ir2_6a.out).mono ?_; rintro e w7 ⟨rfl, hb7⟩; refine Hid.out ?_) | fail)
          clear bs0 bs1 bs2 lts
          have hz7 := hb7.size
          have hB7 := hB6a.trans (hb7.mono hB6a.size)
          have Ir1_7 := Lib.hid (Ir1_6a.out.kept hb7 (Nat.le_refl _))
          have Ir2_7 := Lib.hid (Ir2_6a.out.kept hb7 (Nat.le_refl _))
          have Qs_7 := Lib.hid (Qs_6a.out.kept hb7)
          clear hB6a Ir1_6a Ir2_6a Qs_6a hb7
          have hb7a := alloc_below w7 (tb 27 zL zx zy)
          have Qnu := Lib.hid (BT.new w7 27 zL zx zy)
          have hz7a := hb7a.size
          have hB7a := hB7.trans (hb7a.mono hB7.size)
          have Ir1_7a := Lib.hid (Ir1_7.out.kept hb7a (Nat.le_refl _))
          have Ir2_7a := Lib.hid (Ir2_7.out.kept hb7a (Nat.le_refl _))
          have Qs_7a := Lib.hid (Qs_7.out.kept hb7a)
          clear hB7 Ir1_7 Ir2_7 Qs_7 hb7a
          have Qu_7a := Qnu
          clear Qnu
          obtain ⟨lts, bs0, bs1, bs2⟩ := Qs_7a.out
          refine Lib.hid ?_
          go_wp2_with (first | (go_at_call 32; refine (HRS.out _ Ir1_7a.out Ir2_7a.out).mono ?_; rintro e w8 ⟨rfl, hb8⟩; refine Hid.out ?_) | fail)
          clear bs0 bs1 bs2 lts
          have hz8 := hb8.size
          have hB8 := hB7a.trans (hb8.mono hB7a.size)
          have Ir1_8 := Lib.hid (Ir1_7a.out.kept hb8 (Nat.le_refl _))
          have Ir2_8 := Lib.hid (Ir2_7a.out.kept hb8 (Nat.le_refl _))
          have Qs_8 := Lib.hid (Qs_7a.out.kept hb8)
          have Qu_8 := Lib.hid (Qu_7a.out.kept hb8)
          clear hB7a Ir1_7a Ir2_7a Qs_7a Qu_7a hb8
          have hb8a := alloc_below w8 (tb 27 zL zx zy)
          have Qnv := Lib.hid (BT.new w8 27 zL zx zy)
          have hz8a := hb8a.size
          have hB8a := hB8.trans (hb8a.mono hB8.size)
          have Ir1_8a := Lib.hid (Ir1_8.out.kept hb8a (Nat.le_refl _))
          have Ir2_8a := Lib.hid (Ir2_8.out.kept hb8a (Nat.le_refl _))
          have Qs_8a := Lib.hid (Qs_8.out.kept hb8a)
          have Qu_8a := Lib.hid (Qu_8.out.kept hb8a)
          clear hB8 Ir1_8 Ir2_8 Qs_8 Qu_8 hb8a
          have Qv_8a := Qnv
          clear Qnv
          clear Ir1_8a
          clear Ir2_8a
          clear Qs_8a
          clear HRI HRS
          have hcl := hc.later hB8a (Nat.le_refl _)
          have HDS := Lib.hid (dfm_any a n cap (w8.alloc (tb 27 zL zx zy)) hcl hn)
          clear hcl
          obtain ⟨ltu, bu0, bu1, bu2⟩ := Qu_8a.out
          obtain ⟨ltv, bv0, bv1, bv2⟩ := Qv_8a.out
          refine Lib.hid ?_
          go_wp2_with (first | (go_at_call 33; refine (HDS.out).mono ?_; rintro e w9 ⟨L5, x5, y5, q5, c5, l5, q6, c6, l6, rfl, hl5, hl6, hq5, hq6, ha5, ha6, hb9⟩; refine Hid.out ?_) | fail)
          clear bu0 bu1 bu2 bv0 bv1 bv2 ltu ltv
          have hz9 := hb9.size
          have hB9 := hB8a.trans (hb9.mono hB8a.size)
          have Qu_9 := Lib.hid (Qu_8a.out.kept hb9)
          have Qv_9 := Lib.hid (Qv_8a.out.kept hb9)
          clear hB8a Qu_8a Qv_8a hb9
          have If1_9 := Lib.hid ha5
          have If2_9 := Lib.hid ha6
          clear ha5 ha6 HDS hq5 hq6
          clear Qu_9
          clear Qv_9
          have hb9a := alloc_below w9 (tb 27 L5 x5 y5)
          have Qnf := Lib.hid (BT.new w9 27 L5 x5 y5)
          have hz9a := hb9a.size
          have hB9a := hB9.trans (hb9a.mono hB9.size)
          have If1_9a := Lib.hid (If1_9.out.kept hb9a (Nat.le_refl _))
          have If2_9a := Lib.hid (If2_9.out.kept hb9a (Nat.le_refl _))
          clear hB9 If1_9 If2_9 hb9a
          have Qf_9a := Qnf
          clear Qnf
          obtain ⟨ltf, bf0, bf1, bf2⟩ := Qf_9a.out
          refine Lib.hid ?_
          go_wp2_with (first | (go_at_call 13; refine (ifm_any L5 x5 y5 _ c5 l5 _ c6 l6 ea _ (hE.kept hB9a) (hT.kept hB9a) If1_9a.out (by omega) If2_9a.out (by omega)).mono ?_; rintro e w10 ⟨rfl, hb10⟩; refine Hid.out ?_) | fail)
          clear bf0 bf1 bf2 ltf
          have hz10 := hb10.size
          have hB10 := hB9a.trans (hb10.mono hB9a.size)
          have If1_10 := Lib.hid (If1_9a.out.kept hb10 (Nat.le_refl _))
          have If2_10 := Lib.hid (If2_9a.out.kept hb10 (Nat.le_refl _))
          have Qf_10 := Lib.hid (Qf_9a.out.kept hb10)
          clear hB9a If1_9a If2_9a Qf_9a hb10
          obtain ⟨ltf, bf0, bf1, bf2⟩ := Qf_10.out
          refine Lib.hid ?_
          go_wp2_with (first | (go_at_call 12; refine (sfm_any L5 x5 y5 _ c5 l5 _ c6 l6 _ If1_10.out (by omega) If2_10.out (by omega)).mono ?_; rintro e w11 ⟨rfl, hb11⟩; refine Hid.out ?_) | fail)
          clear bf0 bf1 bf2 ltf
          have hz11 := hb11.size
          have hB11 := hB10.trans (hb11.mono hB10.size)
          have If1_11 := Lib.hid (If1_10.out.kept hb11 (Nat.le_refl _))
          have If2_11 := Lib.hid (If2_10.out.kept hb11 (Nat.le_refl _))
          have Qf_11 := Lib.hid (Qf_10.out.kept hb11)
          clear hB10 If1_10 If2_10 Qf_10 hb11
          generalize ((fmO L5 x5 y5 l5 l6).getD 0 : Nat) = hv at *
          generalize (fmO L5 x5 y5 l5 l6).isSome = hs at *
          have HBB := Lib.hid hB11
          refine Lib.hid ?_
          go_wp2_with fail
          go_ret
          exact ⟨rfl, HBB.out⟩
      | some st =>
          obtain ⟨ltt, bt0, bt1, bt2⟩ := Qt_3.out
          refine Lib.hid ?_
          go_wp2_with (first | (go_at_call 29; refine (ist_some L x y _ c1 l1 _ c2 l2 _ st I1_3.out (by omega) I2_3.out (by omega) hst).mono ?_; rintro e w4 ⟨rfl, hb4⟩; refine Hid.out ?_) | fail)
          clear bt0 bt1 bt2 ltt
          have hz4 := hb4.size
          have hB4 := hB3.trans (hb4.mono hB3.size)
          have I1_4 := Lib.hid (I1_3.out.kept hb4 (Nat.le_refl _))
          have I2_4 := Lib.hid (I2_3.out.kept hb4 (Nat.le_refl _))
          have Qt_4 := Lib.hid (Qt_3.out.kept hb4)
          clear hB3 I1_3 I2_3 Qt_3 hb4
          obtain ⟨ltt, bt0, bt1, bt2⟩ := Qt_4.out
          refine Lib.hid ?_
          go_wp2_with (first | (go_at_call 30; refine (sst_some L x y _ c1 l1 _ c2 l2 _ st I1_4.out (by omega) I2_4.out (by omega) hst).mono ?_; rintro e w5 ⟨rfl, hb5⟩; refine Hid.out ?_) | fail)
          clear bt0 bt1 bt2 ltt
          have hz5 := hb5.size
          have hB5 := hB4.trans (hb5.mono hB4.size)
          have I1_5 := Lib.hid (I1_4.out.kept hb5 (Nat.le_refl _))
          have I2_5 := Lib.hid (I2_4.out.kept hb5 (Nat.le_refl _))
          have Qt_5 := Lib.hid (Qt_4.out.kept hb5)
          clear hB4 I1_4 I2_4 Qt_4 hb5
          obtain ⟨hD1, hDs, hr7⟩ := stO_is hst
          have HR7 := fun (w' : World) (h1 : IAt w' (some ⟨q1, 0, none⟩) l1) (h2 : IAt w' (some ⟨q2, 0, none⟩) l2) => rep_yes st x y _ c1 l1 _ c2 l2 7 w' h1 (by omega) h2 (by omega) hDs (by omega) (by omega)
          rw [show ((7 : Int)).toNat = 7 from rfl, hr7] at HR7
          have HR7h := Lib.hid HR7
          clear HR7 hr7 hDs hD1
          obtain ⟨ltt, bt0, bt1, bt2⟩ := Qt_5.out
          refine Lib.hid ?_
          go_wp2_with (first | (go_at_call 22; refine (HR7h.out _ I1_5.out I2_5.out).mono ?_; rintro e w6 ⟨rfl, hb6⟩; refine Hid.out ?_) | fail)
          clear bt0 bt1 bt2 ltt
          have hz6 := hb6.size
          have hB6 := hB5.trans (hb6.mono hB5.size)
          have I1_6 := Lib.hid (I1_5.out.kept hb6 (Nat.le_refl _))
          have I2_6 := Lib.hid (I2_5.out.kept hb6 (Nat.le_refl _))
          have Qt_6 := Lib.hid (Qt_5.out.kept hb6)
          clear hB5 I1_5 I2_5 Qt_5 hb6
          have hb6a := alloc_below w6 (tb 27 st x y)
          have Qnw := Lib.hid (BT.new w6 27 st x y)
          have hz6a := hb6a.size
          have hB6a := hB6.trans (hb6a.mono hB6.size)
          have I1_6a := Lib.hid (I1_6.out.kept hb6a (Nat.le_refl _))
          have I2_6a := Lib.hid (I2_6.out.kept hb6a (Nat.le_refl _))
          have Qt_6a := Lib.hid (Qt_6.out.kept hb6a)
          clear hB6 I1_6 I2_6 Qt_6 hb6a
          have Qw_6a := Qnw
          clear Qnw
          have Qkeep := Qw_6a
          obtain ⟨ltw, bw0, bw1, bw2⟩ := Qw_6a.out
          clear hst HR7h
          have hcl := hc.later hB6a (Nat.le_refl _)
          have HDS := Lib.hid (drep_any a n cap (w6.alloc (tb 27 st x y)) hcl hn)
          clear hcl
          refine Lib.hid ?_
          go_wp2_with (first | (go_at_call 31; refine (HDS.out).mono ?_; rintro e w7 ⟨L3, x3, y3, q3, c3, l3, q4, c4, l4, d3, rfl, hl3, hl4, hq3, hq4, ha3, ha4, hb7⟩; refine Hid.out ?_) | fail)
          have hz7 := hb7.size
          have hB7 := hB6a.trans (hb7.mono hB6a.size)
          clear hB6a hb7
          have Ir1_7 := Lib.hid ha3
          have Ir2_7 := Lib.hid ha4
          clear ha3 ha4 HDS hq3 hq4
          have hb7a := alloc_below w7 (tb 27 L3 x3 y3)
          have Qns := Lib.hid (BT.new w7 27 L3 x3 y3)
          have hz7a := hb7a.size
          have hB7a := hB7.trans (hb7a.mono hB7.size)
          have Ir1_7a := Lib.hid (Ir1_7.out.kept hb7a (Nat.le_refl _))
          have Ir2_7a := Lib.hid (Ir2_7.out.kept hb7a (Nat.le_refl _))
          clear hB7 Ir1_7 Ir2_7 hb7a
          have Qs_7a := Qns
          clear Qns
          obtain ⟨zL, zx, zy, zb, HRI, HRS⟩ : ∃ (zL zx zy : Int) (zb : Bool), Hid (∀ w', IAt w' (some ⟨q3, 0, none⟩) l3 → IAt w' (some ⟨q4, 0, none⟩) l4 → Calls Tryd.prog 22 #[tv L3 x3 y3, .slice (some ⟨q3, 0, none⟩) l3.length c3, .slice (some ⟨q4, 0, none⟩) l4.length c4, .int .i64 d3] w' fun e w'' => e = .returned (.tuple #[tv zL zx zy, .bool zb]) ∧ Below w'.heap.size w' w'') ∧ Hid (∀ w', IAt w' (some ⟨q3, 0, none⟩) l3 → IAt w' (some ⟨q4, 0, none⟩) l4 → Calls Tryd.prog 32 #[tv L3 x3 y3, .slice (some ⟨q3, 0, none⟩) l3.length c3, .slice (some ⟨q4, 0, none⟩) l4.length c4, .int .i64 d3] w' fun e w'' => e = .returned (.tuple #[tv zL zx zy, .bool zb]) ∧ Below w'.heap.size w' w'') := by
            cases h : repB L3 x3 y3 l3 l4 d3 with
            | false => exact ⟨0, 0, 0, false, Lib.hid (fun w' h1 h2 => rep_no L3 x3 y3 _ c3 l3 _ c4 l4 d3 w' h1 (by omega) h2 (by omega) h), Lib.hid (fun w' h1 h2 => srep_no L3 x3 y3 _ c3 l3 _ c4 l4 d3 w' h1 (by omega) h2 (by omega) h)⟩
            | true =>
              unfold repB at h
              rw [Bool.and_eq_true, decide_eq_true_iff] at h
              obtain ⟨h1, h2, h3⟩ := h
              exact ⟨_, _, _, true, Lib.hid (fun w' g1 g2 => rep_yes L3 x3 y3 _ c3 l3 _ c4 l4 d3 w' g1 (by omega) g2 (by omega) (dayB_iff.1 h1) h2 h3), Lib.hid (fun w' g1 g2 => srep_yes L3 x3 y3 _ c3 l3 _ c4 l4 d3 w' g1 (by omega) g2 (by omega) (dayB_iff.1 h1) h2 h3)⟩
          obtain ⟨lts, bs0, bs1, bs2⟩ := Qs_7a.out
          refine Lib.hid ?_
          go_wp2_with (first | (go_at_call 22; refine (HRI.out _ Ir1_7a.out Ir2_7a.out).mono ?_; rintro e w8 ⟨rfl, hb8⟩; refine Hid.out ?_) | fail)
          clear bs0 bs1 bs2 lts
          have hz8 := hb8.size
          have hB8 := hB7a.trans (hb8.mono hB7a.size)
          have Ir1_8 := Lib.hid (Ir1_7a.out.kept hb8 (Nat.le_refl _))
          have Ir2_8 := Lib.hid (Ir2_7a.out.kept hb8 (Nat.le_refl _))
          have Qs_8 := Lib.hid (Qs_7a.out.kept hb8)
          clear hB7a Ir1_7a Ir2_7a Qs_7a hb8
          have hb8a := alloc_below w8 (tb 27 zL zx zy)
          have Qnu := Lib.hid (BT.new w8 27 zL zx zy)
          have hz8a := hb8a.size
          have hB8a := hB8.trans (hb8a.mono hB8.size)
          have Ir1_8a := Lib.hid (Ir1_8.out.kept hb8a (Nat.le_refl _))
          have Ir2_8a := Lib.hid (Ir2_8.out.kept hb8a (Nat.le_refl _))
          have Qs_8a := Lib.hid (Qs_8.out.kept hb8a)
          clear hB8 Ir1_8 Ir2_8 Qs_8 hb8a
          have Qu_8a := Qnu
          clear Qnu
          obtain ⟨lts, bs0, bs1, bs2⟩ := Qs_8a.out
          refine Lib.hid ?_
          go_wp2_with (first | (go_at_call 32; refine (HRS.out _ Ir1_8a.out Ir2_8a.out).mono ?_; rintro e w9 ⟨rfl, hb9⟩; refine Hid.out ?_) | fail)
          clear bs0 bs1 bs2 lts
          have hz9 := hb9.size
          have hB9 := hB8a.trans (hb9.mono hB8a.size)
          have Ir1_9 := Lib.hid (Ir1_8a.out.kept hb9 (Nat.le_refl _))
          have Ir2_9 := Lib.hid (Ir2_8a.out.kept hb9 (Nat.le_refl _))
          have Qs_9 := Lib.hid (Qs_8a.out.kept hb9)
          have Qu_9 := Lib.hid (Qu_8a.out.kept hb9)
          clear hB8a Ir1_8a Ir2_8a Qs_8a Qu_8a hb9
          have hb9a := alloc_below w9 (tb 27 zL zx zy)
          have Qnv := Lib.hid (BT.new w9 27 zL zx zy)
          have hz9a := hb9a.size
          have hB9a := hB9.trans (hb9a.mono hB9.size)
          have Ir1_9a := Lib.hid (Ir1_9.out.kept hb9a (Nat.le_refl _))
          have Ir2_9a := Lib.hid (Ir2_9.out.kept hb9a (Nat.le_refl _))
          have Qs_9a := Lib.hid (Qs_9.out.kept hb9a)
          have Qu_9a := Lib.hid (Qu_9.out.kept hb9a)
          clear hB9 Ir1_9 Ir2_9 Qs_9 Qu_9 hb9a
          have Qv_9a := Qnv
          clear Qnv
          clear Ir1_9a
          clear Ir2_9a
          clear Qs_9a
          clear HRI HRS
          have hcl := hc.later hB9a (Nat.le_refl _)
          have HDS := Lib.hid (dfm_any a n cap (w9.alloc (tb 27 zL zx zy)) hcl hn)
          clear hcl
          obtain ⟨ltu, bu0, bu1, bu2⟩ := Qu_9a.out
          obtain ⟨ltv, bv0, bv1, bv2⟩ := Qv_9a.out
          refine Lib.hid ?_
          go_wp2_with (first | (go_at_call 33; refine (HDS.out).mono ?_; rintro e w10 ⟨L5, x5, y5, q5, c5, l5, q6, c6, l6, rfl, hl5, hl6, hq5, hq6, ha5, ha6, hb10⟩; refine Hid.out ?_) | fail)
          clear bu0 bu1 bu2 bv0 bv1 bv2 ltu ltv
          have hz10 := hb10.size
          have hB10 := hB9a.trans (hb10.mono hB9a.size)
          have Qu_10 := Lib.hid (Qu_9a.out.kept hb10)
          have Qv_10 := Lib.hid (Qv_9a.out.kept hb10)
          clear hB9a Qu_9a Qv_9a hb10
          have If1_10 := Lib.hid ha5
          have If2_10 := Lib.hid ha6
          clear ha5 ha6 HDS hq5 hq6
          clear Qu_10
          clear Qv_10
          have hb10a := alloc_below w10 (tb 27 L5 x5 y5)
          have Qnf := Lib.hid (BT.new w10 27 L5 x5 y5)
          have hz10a := hb10a.size
          have hB10a := hB10.trans (hb10a.mono hB10.size)
          have If1_10a := Lib.hid (If1_10.out.kept hb10a (Nat.le_refl _))
          have If2_10a := Lib.hid (If2_10.out.kept hb10a (Nat.le_refl _))
          clear hB10 If1_10 If2_10 hb10a
          have Qf_10a := Qnf
          clear Qnf
          obtain ⟨ltf, bf0, bf1, bf2⟩ := Qf_10a.out
          refine Lib.hid ?_
          go_wp2_with (first | (go_at_call 13; refine (ifm_any L5 x5 y5 _ c5 l5 _ c6 l6 ea _ (hE.kept hB10a) (hT.kept hB10a) If1_10a.out (by omega) If2_10a.out (by omega)).mono ?_; rintro e w11 ⟨rfl, hb11⟩; refine Hid.out ?_) | fail)
          clear bf0 bf1 bf2 ltf
          have hz11 := hb11.size
          have hB11 := hB10a.trans (hb11.mono hB10a.size)
          have If1_11 := Lib.hid (If1_10a.out.kept hb11 (Nat.le_refl _))
          have If2_11 := Lib.hid (If2_10a.out.kept hb11 (Nat.le_refl _))
          have Qf_11 := Lib.hid (Qf_10a.out.kept hb11)
          clear hB10a If1_10a If2_10a Qf_10a hb11
          obtain ⟨ltf, bf0, bf1, bf2⟩ := Qf_11.out
          refine Lib.hid ?_
          go_wp2_with (first | (go_at_call 12; refine (sfm_any L5 x5 y5 _ c5 l5 _ c6 l6 _ If1_11.out (by omega) If2_11.out (by omega)).mono ?_; rintro e w12 ⟨rfl, hb12⟩; refine Hid.out ?_) | fail)
          clear bf0 bf1 bf2 ltf
          have hz12 := hb12.size
          have hB12 := hB11.trans (hb12.mono hB11.size)
          have If1_12 := Lib.hid (If1_11.out.kept hb12 (Nat.le_refl _))
          have If2_12 := Lib.hid (If2_11.out.kept hb12 (Nat.le_refl _))
          have Qf_12 := Lib.hid (Qf_11.out.kept hb12)
          clear hB11 If1_11 If2_11 Qf_11 hb12
          generalize ((fmO L5 x5 y5 l5 l6).getD 0 : Nat) = hv at *
          generalize (fmO L5 x5 y5 l5 l6).isSome = hs at *
          have HBB := Lib.hid hB12
          refine Lib.hid ?_
          go_wp2_with fail
          go_ret
          exact ⟨rfl, HBB.out⟩
  | some lv =>
      obtain ⟨ltt, bt0, bt1, bt2⟩ := Qt_1a.out
      refine Lib.hid ?_
      go_wp2_with (first | (go_at_call 10; refine (ils_some L x y _ c1 l1 _ c2 l2 ea _ lv (hE.kept hB1a) I1_1a.out (by omega) I2_1a.out (by omega) hls).mono ?_; rintro e w2 ⟨rfl, hb2⟩; refine Hid.out ?_) | fail)
      clear bt0 bt1 bt2 ltt
      have hz2 := hb2.size
      have hB2 := hB1a.trans (hb2.mono hB1a.size)
      have I1_2 := Lib.hid (I1_1a.out.kept hb2 (Nat.le_refl _))
      have I2_2 := Lib.hid (I2_1a.out.kept hb2 (Nat.le_refl _))
      have Qt_2 := Lib.hid (Qt_1a.out.kept hb2)
      clear hB1a I1_1a I2_1a Qt_1a hb2
      obtain ⟨ltt, bt0, bt1, bt2⟩ := Qt_2.out
      refine Lib.hid ?_
      go_wp2_with (first | (go_at_call 7; refine (sls_some L x y _ c1 l1 _ c2 l2 _ lv I1_2.out (by omega) I2_2.out (by omega) hls).mono ?_; rintro e w3 ⟨rfl, hb3⟩; refine Hid.out ?_) | fail)
      clear bt0 bt1 bt2 ltt
      have hz3 := hb3.size
      have hB3 := hB2.trans (hb3.mono hB2.size)
      have I1_3 := Lib.hid (I1_2.out.kept hb3 (Nat.le_refl _))
      have I2_3 := Lib.hid (I2_2.out.kept hb3 (Nat.le_refl _))
      have Qt_3 := Lib.hid (Qt_2.out.kept hb3)
      clear hB2 I1_2 I2_2 Qt_2 hb3
      obtain ⟨hD, hDl, hxl, hm0, hlow⟩ := lsO_is hls
      have hlen := hD.n1
      have hlb := tkB_iff.1 hDl.tk
      obtain ⟨lb0, lb1, lb2, lb3⟩ := hlb
      have HRL := fun (w' : World) (h1 : IAt w' (some ⟨q1, 0, none⟩) l1) (h2 : IAt w' (some ⟨q2, 0, none⟩) l2) => run_yes lv x y _ c1 l1 _ c2 l2 w' h1 (by omega) h2 (by omega) hDl
      rw [hm0] at HRL
      have HRLh := Lib.hid HRL
      clear HRL hm0 hls
      obtain ⟨ltt, bt0, bt1, bt2⟩ := Qt_3.out
      refine Lib.hid ?_
      go_wp2_with (first | (go_at_call 16; refine (HRLh.out _ I1_3.out I2_3.out).mono ?_; rintro e w4 ⟨gA, kA, rfl, hgA, hoA, hb4⟩; refine Hid.out ?_) | fail)
      clear bt0 bt1 bt2 ltt
      have hz4 := hb4.size
      have hB4 := hB3.trans (hb4.mono hB3.size)
      have I1_4 := Lib.hid (I1_3.out.kept hb4 (Nat.le_refl _))
      have I2_4 := Lib.hid (I2_3.out.kept hb4 (Nat.le_refl _))
      have Qt_4 := Lib.hid (Qt_3.out.kept hb4)
      clear hB3 I1_3 I2_3 Qt_3 hb4
      clear hoA hgA HRLh hDl
      by_cases hgt : x < lv
      · have dgt : decide (x < lv) = true := decide_eq_true hgt
        obtain ⟨hDm, hmn⟩ := hlow hgt
        have hmb := hDm.miS (Nat.le_refl _)
        have HRM := Lib.hid (fun (w' : World) (h1 : IAt w' (some ⟨q1, 0, none⟩) l1) (h2 : IAt w' (some ⟨q2, 0, none⟩) l2) => run_yes (lv - 1) x y _ c1 l1 _ c2 l2 w' h1 (by omega) h2 (by omega) hDm)
        have hmne : (misS x y l1 l2 (lv - 1) == 0) = false := by simp [hmn]
        clear hlow hmb hmn hDm hgt
        obtain ⟨ltt, bt0, bt1, bt2⟩ := Qt_4.out
        refine Lib.hid ?_
        go_wp2_with (first | (go_at_call 16; refine (HRM.out _ I1_4.out I2_4.out).mono ?_; rintro e w5 ⟨gB, kB, rfl, hgB, hoB, hb5⟩; refine Hid.out ?_) | fail)
        clear bt0 bt1 bt2 ltt
        have hz5 := hb5.size
        have hB5 := hB4.trans (hb5.mono hB4.size)
        have I1_5 := Lib.hid (I1_4.out.kept hb5 (Nat.le_refl _))
        have I2_5 := Lib.hid (I2_4.out.kept hb5 (Nat.le_refl _))
        have Qt_5 := Lib.hid (Qt_4.out.kept hb5)
        clear hB4 I1_4 I2_4 Qt_4 hb5
        clear hoB hgB HRM dgt
        generalize misS x y l1 l2 (lv - 1) = mm at *
        cases hst : stO L x y l1 l2 with
        | none =>
            obtain ⟨ltt, bt0, bt1, bt2⟩ := Qt_5.out
            refine Lib.hid ?_
            go_wp2_with (first | (go_at_call 29; refine (ist_none L x y _ c1 l1 _ c2 l2 _ I1_5.out (by omega) I2_5.out (by omega) hst).mono ?_; rintro e w6 ⟨rfl, hb6⟩; refine Hid.out ?_) | fail)
            clear bt0 bt1 bt2 ltt
            have hz6 := hb6.size
            have hB6 := hB5.trans (hb6.mono hB5.size)
            have I1_6 := Lib.hid (I1_5.out.kept hb6 (Nat.le_refl _))
            have I2_6 := Lib.hid (I2_5.out.kept hb6 (Nat.le_refl _))
            have Qt_6 := Lib.hid (Qt_5.out.kept hb6)
            clear hB5 I1_5 I2_5 Qt_5 hb6
            obtain ⟨ltt, bt0, bt1, bt2⟩ := Qt_6.out
            refine Lib.hid ?_
            go_wp2_with (first | (go_at_call 30; refine (sst_none L x y _ c1 l1 _ c2 l2 _ I1_6.out (by omega) I2_6.out (by omega) hst).mono ?_; rintro e w7 ⟨rfl, hb7⟩; refine Hid.out ?_) | fail)
            clear bt0 bt1 bt2 ltt
            have hz7 := hb7.size
            have hB7 := hB6.trans (hb7.mono hB6.size)
            have I1_7 := Lib.hid (I1_6.out.kept hb7 (Nat.le_refl _))
            have I2_7 := Lib.hid (I2_6.out.kept hb7 (Nat.le_refl _))
            have Qt_7 := Lib.hid (Qt_6.out.kept hb7)
            clear hB6 I1_6 I2_6 Qt_6 hb7
            clear hst
            have hcl := hc.later hB7 (Nat.le_refl _)
            have HDS := Lib.hid (drep_any a n cap w7 hcl hn)
            clear hcl
            refine Lib.hid ?_
            go_wp2_with (first | (go_at_call 31; refine (HDS.out).mono ?_; rintro e w8 ⟨L3, x3, y3, q3, c3, l3, q4, c4, l4, d3, rfl, hl3, hl4, hq3, hq4, ha3, ha4, hb8⟩; refine Hid.out ?_) | fail)
            have hz8 := hb8.size
            have hB8 := hB7.trans (hb8.mono hB7.size)
            clear hB7 hb8
            have Ir1_8 := Lib.hid ha3
            have Ir2_8 := Lib.hid ha4
            clear ha3 ha4 HDS hq3 hq4
            have hb8a := alloc_below w8 (tb 27 L3 x3 y3)
            have Qns := Lib.hid (BT.new w8 27 L3 x3 y3)
            have hz8a := hb8a.size
            have hB8a := hB8.trans (hb8a.mono hB8.size)
            have Ir1_8a := Lib.hid (Ir1_8.out.kept hb8a (Nat.le_refl _))
            have Ir2_8a := Lib.hid (Ir2_8.out.kept hb8a (Nat.le_refl _))
            clear hB8 Ir1_8 Ir2_8 hb8a
            have Qs_8a := Qns
            clear Qns
            obtain ⟨zL, zx, zy, zb, HRI, HRS⟩ : ∃ (zL zx zy : Int) (zb : Bool), Hid (∀ w', IAt w' (some ⟨q3, 0, none⟩) l3 → IAt w' (some ⟨q4, 0, none⟩) l4 → Calls Tryd.prog 22 #[tv L3 x3 y3, .slice (some ⟨q3, 0, none⟩) l3.length c3, .slice (some ⟨q4, 0, none⟩) l4.length c4, .int .i64 d3] w' fun e w'' => e = .returned (.tuple #[tv zL zx zy, .bool zb]) ∧ Below w'.heap.size w' w'') ∧ Hid (∀ w', IAt w' (some ⟨q3, 0, none⟩) l3 → IAt w' (some ⟨q4, 0, none⟩) l4 → Calls Tryd.prog 32 #[tv L3 x3 y3, .slice (some ⟨q3, 0, none⟩) l3.length c3, .slice (some ⟨q4, 0, none⟩) l4.length c4, .int .i64 d3] w' fun e w'' => e = .returned (.tuple #[tv zL zx zy, .bool zb]) ∧ Below w'.heap.size w' w'') := by
              cases h : repB L3 x3 y3 l3 l4 d3 with
              | false => exact ⟨0, 0, 0, false, Lib.hid (fun w' h1 h2 => rep_no L3 x3 y3 _ c3 l3 _ c4 l4 d3 w' h1 (by omega) h2 (by omega) h), Lib.hid (fun w' h1 h2 => srep_no L3 x3 y3 _ c3 l3 _ c4 l4 d3 w' h1 (by omega) h2 (by omega) h)⟩
              | true =>
                unfold repB at h
                rw [Bool.and_eq_true, decide_eq_true_iff] at h
                obtain ⟨h1, h2, h3⟩ := h
                exact ⟨_, _, _, true, Lib.hid (fun w' g1 g2 => rep_yes L3 x3 y3 _ c3 l3 _ c4 l4 d3 w' g1 (by omega) g2 (by omega) (dayB_iff.1 h1) h2 h3), Lib.hid (fun w' g1 g2 => srep_yes L3 x3 y3 _ c3 l3 _ c4 l4 d3 w' g1 (by omega) g2 (by omega) (dayB_iff.1 h1) h2 h3)⟩
            obtain ⟨lts, bs0, bs1, bs2⟩ := Qs_8a.out
            refine Lib.hid ?_
            go_wp2_with (first | (go_at_call 22; refine (HRI.out _ Ir1_8a.out Ir2_8a.out).mono ?_; rintro e w9 ⟨rfl, hb9⟩; refine Hid.out ?_) | fail)
            clear bs0 bs1 bs2 lts
            have hz9 := hb9.size
            have hB9 := hB8a.trans (hb9.mono hB8a.size)
            have Ir1_9 := Lib.hid (Ir1_8a.out.kept hb9 (Nat.le_refl _))
            have Ir2_9 := Lib.hid (Ir2_8a.out.kept hb9 (Nat.le_refl _))
            have Qs_9 := Lib.hid (Qs_8a.out.kept hb9)
            clear hB8a Ir1_8a Ir2_8a Qs_8a hb9
            have hb9a := alloc_below w9 (tb 27 zL zx zy)
            have Qnu := Lib.hid (BT.new w9 27 zL zx zy)
            have hz9a := hb9a.size
            have hB9a := hB9.trans (hb9a.mono hB9.size)
            have Ir1_9a := Lib.hid (Ir1_9.out.kept hb9a (Nat.le_refl _))
            have Ir2_9a := Lib.hid (Ir2_9.out.kept hb9a (Nat.le_refl _))
            have Qs_9a := Lib.hid (Qs_9.out.kept hb9a)
            clear hB9 Ir1_9 Ir2_9 Qs_9 hb9a
            have Qu_9a := Qnu
            clear Qnu
            obtain ⟨lts, bs0, bs1, bs2⟩ := Qs_9a.out
            refine Lib.hid ?_
            go_wp2_with (first | (go_at_call 32; refine (HRS.out _ Ir1_9a.out Ir2_9a.out).mono ?_; rintro e w10 ⟨rfl, hb10⟩; refine Hid.out ?_) | fail)
            clear bs0 bs1 bs2 lts
            have hz10 := hb10.size
            have hB10 := hB9a.trans (hb10.mono hB9a.size)
            have Ir1_10 := Lib.hid (Ir1_9a.out.kept hb10 (Nat.le_refl _))
            have Ir2_10 := Lib.hid (Ir2_9a.out.kept hb10 (Nat.le_refl _))
            have Qs_10 := Lib.hid (Qs_9a.out.kept hb10)
            have Qu_10 := Lib.hid (Qu_9a.out.kept hb10)
            clear hB9a Ir1_9a Ir2_9a Qs_9a Qu_9a hb10
            have hb10a := alloc_below w10 (tb 27 zL zx zy)
            have Qnv := Lib.hid (BT.new w10 27 zL zx zy)
            have hz10a := hb10a.size
            have hB10a := hB10.trans (hb10a.mono hB10.size)
            have Ir1_10a := Lib.hid (Ir1_10.out.kept hb10a (Nat.le_refl _))
            have Ir2_10a := Lib.hid (Ir2_10.out.kept hb10a (Nat.le_refl _))
            have Qs_10a := Lib.hid (Qs_10.out.kept hb10a)
            have Qu_10a := Lib.hid (Qu_10.out.kept hb10a)
            clear hB10 Ir1_10 Ir2_10 Qs_10 Qu_10 hb10a
            have Qv_10a := Qnv
            clear Qnv
            clear Ir1_10a
            clear Ir2_10a
            clear Qs_10a
            clear HRI HRS
            have hcl := hc.later hB10a (Nat.le_refl _)
            have HDS := Lib.hid (dfm_any a n cap (w10.alloc (tb 27 zL zx zy)) hcl hn)
            clear hcl
            obtain ⟨ltu, bu0, bu1, bu2⟩ := Qu_10a.out
            obtain ⟨ltv, bv0, bv1, bv2⟩ := Qv_10a.out
            refine Lib.hid ?_
            go_wp2_with (first | (go_at_call 33; refine (HDS.out).mono ?_; rintro e w11 ⟨L5, x5, y5, q5, c5, l5, q6, c6, l6, rfl, hl5, hl6, hq5, hq6, ha5, ha6, hb11⟩; refine Hid.out ?_) | fail)
            clear bu0 bu1 bu2 bv0 bv1 bv2 ltu ltv
            have hz11 := hb11.size
            have hB11 := hB10a.trans (hb11.mono hB10a.size)
            have Qu_11 := Lib.hid (Qu_10a.out.kept hb11)
            have Qv_11 := Lib.hid (Qv_10a.out.kept hb11)
            clear hB10a Qu_10a Qv_10a hb11
            have If1_11 := Lib.hid ha5
            have If2_11 := Lib.hid ha6
            clear ha5 ha6 HDS hq5 hq6
            clear Qu_11
            clear Qv_11
            have hb11a := alloc_below w11 (tb 27 L5 x5 y5)
            have Qnf := Lib.hid (BT.new w11 27 L5 x5 y5)
            have hz11a := hb11a.size
            have hB11a := hB11.trans (hb11a.mono hB11.size)
            have If1_11a := Lib.hid (If1_11.out.kept hb11a (Nat.le_refl _))
            have If2_11a := Lib.hid (If2_11.out.kept hb11a (Nat.le_refl _))
            clear hB11 If1_11 If2_11 hb11a
            have Qf_11a := Qnf
            clear Qnf
            obtain ⟨ltf, bf0, bf1, bf2⟩ := Qf_11a.out
            refine Lib.hid ?_
            go_wp2_with (first | (go_at_call 13; refine (ifm_any L5 x5 y5 _ c5 l5 _ c6 l6 ea _ (hE.kept hB11a) (hT.kept hB11a) If1_11a.out (by omega) If2_11a.out (by omega)).mono ?_; rintro e w12 ⟨rfl, hb12⟩; refine Hid.out ?_) | fail)
            clear bf0 bf1 bf2 ltf
            have hz12 := hb12.size
            have hB12 := hB11a.trans (hb12.mono hB11a.size)
            have If1_12 := Lib.hid (If1_11a.out.kept hb12 (Nat.le_refl _))
            have If2_12 := Lib.hid (If2_11a.out.kept hb12 (Nat.le_refl _))
            have Qf_12 := Lib.hid (Qf_11a.out.kept hb12)
            clear hB11a If1_11a If2_11a Qf_11a hb12
            obtain ⟨ltf, bf0, bf1, bf2⟩ := Qf_12.out
            refine Lib.hid ?_
            go_wp2_with (first | (go_at_call 12; refine (sfm_any L5 x5 y5 _ c5 l5 _ c6 l6 _ If1_12.out (by omega) If2_12.out (by omega)).mono ?_; rintro e w13 ⟨rfl, hb13⟩; refine Hid.out ?_) | fail)
            clear bf0 bf1 bf2 ltf
            have hz13 := hb13.size
            have hB13 := hB12.trans (hb13.mono hB12.size)
            have If1_13 := Lib.hid (If1_12.out.kept hb13 (Nat.le_refl _))
            have If2_13 := Lib.hid (If2_12.out.kept hb13 (Nat.le_refl _))
            have Qf_13 := Lib.hid (Qf_12.out.kept hb13)
            clear hB12 If1_12 If2_12 Qf_12 hb13
            generalize ((fmO L5 x5 y5 l5 l6).getD 0 : Nat) = hv at *
            generalize (fmO L5 x5 y5 l5 l6).isSome = hs at *
            have HBB := Lib.hid hB13
            refine Lib.hid ?_
            go_wp2_with fail
            go_ret
            exact ⟨rfl, HBB.out⟩
        | some st =>
            obtain ⟨ltt, bt0, bt1, bt2⟩ := Qt_5.out
            refine Lib.hid ?_
            go_wp2_with (first | (go_at_call 29; refine (ist_some L x y _ c1 l1 _ c2 l2 _ st I1_5.out (by omega) I2_5.out (by omega) hst).mono ?_; rintro e w6 ⟨rfl, hb6⟩; refine Hid.out ?_) | fail)
            clear bt0 bt1 bt2 ltt
            have hz6 := hb6.size
            have hB6 := hB5.trans (hb6.mono hB5.size)
            have I1_6 := Lib.hid (I1_5.out.kept hb6 (Nat.le_refl _))
            have I2_6 := Lib.hid (I2_5.out.kept hb6 (Nat.le_refl _))
            have Qt_6 := Lib.hid (Qt_5.out.kept hb6)
            clear hB5 I1_5 I2_5 Qt_5 hb6
            obtain ⟨ltt, bt0, bt1, bt2⟩ := Qt_6.out
            refine Lib.hid ?_
            go_wp2_with (first | (go_at_call 30; refine (sst_some L x y _ c1 l1 _ c2 l2 _ st I1_6.out (by omega) I2_6.out (by omega) hst).mono ?_; rintro e w7 ⟨rfl, hb7⟩; refine Hid.out ?_) | fail)
            clear bt0 bt1 bt2 ltt
            have hz7 := hb7.size
            have hB7 := hB6.trans (hb7.mono hB6.size)
            have I1_7 := Lib.hid (I1_6.out.kept hb7 (Nat.le_refl _))
            have I2_7 := Lib.hid (I2_6.out.kept hb7 (Nat.le_refl _))
            have Qt_7 := Lib.hid (Qt_6.out.kept hb7)
            clear hB6 I1_6 I2_6 Qt_6 hb7
            obtain ⟨hD1, hDs, hr7⟩ := stO_is hst
            have HR7 := fun (w' : World) (h1 : IAt w' (some ⟨q1, 0, none⟩) l1) (h2 : IAt w' (some ⟨q2, 0, none⟩) l2) => rep_yes st x y _ c1 l1 _ c2 l2 7 w' h1 (by omega) h2 (by omega) hDs (by omega) (by omega)
            rw [show ((7 : Int)).toNat = 7 from rfl, hr7] at HR7
            have HR7h := Lib.hid HR7
            clear HR7 hr7 hDs hD1
            obtain ⟨ltt, bt0, bt1, bt2⟩ := Qt_7.out
            refine Lib.hid ?_
            go_wp2_with (first | (go_at_call 22; refine (HR7h.out _ I1_7.out I2_7.out).mono ?_; rintro e w8 ⟨rfl, hb8⟩; refine Hid.out ?_) | fail)
            clear bt0 bt1 bt2 ltt
            have hz8 := hb8.size
            have hB8 := hB7.trans (hb8.mono hB7.size)
            have I1_8 := Lib.hid (I1_7.out.kept hb8 (Nat.le_refl _))
            have I2_8 := Lib.hid (I2_7.out.kept hb8 (Nat.le_refl _))
            have Qt_8 := Lib.hid (Qt_7.out.kept hb8)
            clear hB7 I1_7 I2_7 Qt_7 hb8
            have hb8a := alloc_below w8 (tb 27 st x y)
            have Qnw := Lib.hid (BT.new w8 27 st x y)
            have hz8a := hb8a.size
            have hB8a := hB8.trans (hb8a.mono hB8.size)
            have I1_8a := Lib.hid (I1_8.out.kept hb8a (Nat.le_refl _))
            have I2_8a := Lib.hid (I2_8.out.kept hb8a (Nat.le_refl _))
            have Qt_8a := Lib.hid (Qt_8.out.kept hb8a)
            clear hB8 I1_8 I2_8 Qt_8 hb8a
            have Qw_8a := Qnw
            clear Qnw
            have Qkeep := Qw_8a
            obtain ⟨ltw, bw0, bw1, bw2⟩ := Qw_8a.out
            clear hst HR7h
            have hcl := hc.later hB8a (Nat.le_refl _)
            have HDS := Lib.hid (drep_any a n cap (w8.alloc (tb 27 st x y)) hcl hn)
            clear hcl
            refine Lib.hid ?_
            go_wp2_with (first | (go_at_call 31; refine (HDS.out).mono ?_; rintro e w9 ⟨L3, x3, y3, q3, c3, l3, q4, c4, l4, d3, rfl, hl3, hl4, hq3, hq4, ha3, ha4, hb9⟩; refine Hid.out ?_) | fail)
            have hz9 := hb9.size
            have hB9 := hB8a.trans (hb9.mono hB8a.size)
            clear hB8a hb9
            have Ir1_9 := Lib.hid ha3
            have Ir2_9 := Lib.hid ha4
            clear ha3 ha4 HDS hq3 hq4
            have hb9a := alloc_below w9 (tb 27 L3 x3 y3)
            have Qns := Lib.hid (BT.new w9 27 L3 x3 y3)
            have hz9a := hb9a.size
            have hB9a := hB9.trans (hb9a.mono hB9.size)
            have Ir1_9a := Lib.hid (Ir1_9.out.kept hb9a (Nat.le_refl _))
            have Ir2_9a := Lib.hid (Ir2_9.out.kept hb9a (Nat.le_refl _))
            clear hB9 Ir1_9 Ir2_9 hb9a
            have Qs_9a := Qns
            clear Qns
            obtain ⟨zL, zx, zy, zb, HRI, HRS⟩ : ∃ (zL zx zy : Int) (zb : Bool), Hid (∀ w', IAt w' (some ⟨q3, 0, none⟩) l3 → IAt w' (some ⟨q4, 0, none⟩) l4 → Calls Tryd.prog 22 #[tv L3 x3 y3, .slice (some ⟨q3, 0, none⟩) l3.length c3, .slice (some ⟨q4, 0, none⟩) l4.length c4, .int .i64 d3] w' fun e w'' => e = .returned (.tuple #[tv zL zx zy, .bool zb]) ∧ Below w'.heap.size w' w'') ∧ Hid (∀ w', IAt w' (some ⟨q3, 0, none⟩) l3 → IAt w' (some ⟨q4, 0, none⟩) l4 → Calls Tryd.prog 32 #[tv L3 x3 y3, .slice (some ⟨q3, 0, none⟩) l3.length c3, .slice (some ⟨q4, 0, none⟩) l4.length c4, .int .i64 d3] w' fun e w'' => e = .returned (.tuple #[tv zL zx zy, .bool zb]) ∧ Below w'.heap.size w' w'') := by
              cases h : repB L3 x3 y3 l3 l4 d3 with
              | false => exact ⟨0, 0, 0, false, Lib.hid (fun w' h1 h2 => rep_no L3 x3 y3 _ c3 l3 _ c4 l4 d3 w' h1 (by omega) h2 (by omega) h), Lib.hid (fun w' h1 h2 => srep_no L3 x3 y3 _ c3 l3 _ c4 l4 d3 w' h1 (by omega) h2 (by omega) h)⟩
              | true =>
                unfold repB at h
                rw [Bool.and_eq_true, decide_eq_true_iff] at h
                obtain ⟨h1, h2, h3⟩ := h
                exact ⟨_, _, _, true, Lib.hid (fun w' g1 g2 => rep_yes L3 x3 y3 _ c3 l3 _ c4 l4 d3 w' g1 (by omega) g2 (by omega) (dayB_iff.1 h1) h2 h3), Lib.hid (fun w' g1 g2 => srep_yes L3 x3 y3 _ c3 l3 _ c4 l4 d3 w' g1 (by omega) g2 (by omega) (dayB_iff.1 h1) h2 h3)⟩
            obtain ⟨lts, bs0, bs1, bs2⟩ := Qs_9a.out
            refine Lib.hid ?_
            go_wp2_with (first | (go_at_call 22; refine (HRI.out _ Ir1_9a.out Ir2_9a.out).mono ?_; rintro e w10 ⟨rfl, hb10⟩; refine Hid.out ?_) | fail)
            clear bs0 bs1 bs2 lts
            have hz10 := hb10.size
            have hB10 := hB9a.trans (hb10.mono hB9a.size)
            have Ir1_10 := Lib.hid (Ir1_9a.out.kept hb10 (Nat.le_refl _))
            have Ir2_10 := Lib.hid (Ir2_9a.out.kept hb10 (Nat.le_refl _))
            have Qs_10 := Lib.hid (Qs_9a.out.kept hb10)
            clear hB9a Ir1_9a Ir2_9a Qs_9a hb10
            have hb10a := alloc_below w10 (tb 27 zL zx zy)
            have Qnu := Lib.hid (BT.new w10 27 zL zx zy)
            have hz10a := hb10a.size
            have hB10a := hB10.trans (hb10a.mono hB10.size)
            have Ir1_10a := Lib.hid (Ir1_10.out.kept hb10a (Nat.le_refl _))
            have Ir2_10a := Lib.hid (Ir2_10.out.kept hb10a (Nat.le_refl _))
            have Qs_10a := Lib.hid (Qs_10.out.kept hb10a)
            clear hB10 Ir1_10 Ir2_10 Qs_10 hb10a
            have Qu_10a := Qnu
            clear Qnu
            obtain ⟨lts, bs0, bs1, bs2⟩ := Qs_10a.out
            refine Lib.hid ?_
            go_wp2_with (first | (go_at_call 32; refine (HRS.out _ Ir1_10a.out Ir2_10a.out).mono ?_; rintro e w11 ⟨rfl, hb11⟩; refine Hid.out ?_) | fail)
            clear bs0 bs1 bs2 lts
            have hz11 := hb11.size
            have hB11 := hB10a.trans (hb11.mono hB10a.size)
            have Ir1_11 := Lib.hid (Ir1_10a.out.kept hb11 (Nat.le_refl _))
            have Ir2_11 := Lib.hid (Ir2_10a.out.kept hb11 (Nat.le_refl _))
            have Qs_11 := Lib.hid (Qs_10a.out.kept hb11)
            have Qu_11 := Lib.hid (Qu_10a.out.kept hb11)
            clear hB10a Ir1_10a Ir2_10a Qs_10a Qu_10a hb11
            have hb11a := alloc_below w11 (tb 27 zL zx zy)
            have Qnv := Lib.hid (BT.new w11 27 zL zx zy)
            have hz11a := hb11a.size
            have hB11a := hB11.trans (hb11a.mono hB11.size)
            have Ir1_11a := Lib.hid (Ir1_11.out.kept hb11a (Nat.le_refl _))
            have Ir2_11a := Lib.hid (Ir2_11.out.kept hb11a (Nat.le_refl _))
            have Qs_11a := Lib.hid (Qs_11.out.kept hb11a)
            have Qu_11a := Lib.hid (Qu_11.out.kept hb11a)
            clear hB11 Ir1_11 Ir2_11 Qs_11 Qu_11 hb11a
            have Qv_11a := Qnv
            clear Qnv
            clear Ir1_11a
            clear Ir2_11a
            clear Qs_11a
            clear HRI HRS
            have hcl := hc.later hB11a (Nat.le_refl _)
            have HDS := Lib.hid (dfm_any a n cap (w11.alloc (tb 27 zL zx zy)) hcl hn)
            clear hcl
            obtain ⟨ltu, bu0, bu1, bu2⟩ := Qu_11a.out
            obtain ⟨ltv, bv0, bv1, bv2⟩ := Qv_11a.out
            refine Lib.hid ?_
            go_wp2_with (first | (go_at_call 33; refine (HDS.out).mono ?_; rintro e w12 ⟨L5, x5, y5, q5, c5, l5, q6, c6, l6, rfl, hl5, hl6, hq5, hq6, ha5, ha6, hb12⟩; refine Hid.out ?_) | fail)
            clear bu0 bu1 bu2 bv0 bv1 bv2 ltu ltv
            have hz12 := hb12.size
            have hB12 := hB11a.trans (hb12.mono hB11a.size)
            have Qu_12 := Lib.hid (Qu_11a.out.kept hb12)
            have Qv_12 := Lib.hid (Qv_11a.out.kept hb12)
            clear hB11a Qu_11a Qv_11a hb12
            have If1_12 := Lib.hid ha5
            have If2_12 := Lib.hid ha6
            clear ha5 ha6 HDS hq5 hq6
            clear Qu_12
            clear Qv_12
            have hb12a := alloc_below w12 (tb 27 L5 x5 y5)
            have Qnf := Lib.hid (BT.new w12 27 L5 x5 y5)
            have hz12a := hb12a.size
            have hB12a := hB12.trans (hb12a.mono hB12.size)
            have If1_12a := Lib.hid (If1_12.out.kept hb12a (Nat.le_refl _))
            have If2_12a := Lib.hid (If2_12.out.kept hb12a (Nat.le_refl _))
            clear hB12 If1_12 If2_12 hb12a
            have Qf_12a := Qnf
            clear Qnf
            obtain ⟨ltf, bf0, bf1, bf2⟩ := Qf_12a.out
            refine Lib.hid ?_
            go_wp2_with (first | (go_at_call 13; refine (ifm_any L5 x5 y5 _ c5 l5 _ c6 l6 ea _ (hE.kept hB12a) (hT.kept hB12a) If1_12a.out (by omega) If2_12a.out (by omega)).mono ?_; rintro e w13 ⟨rfl, hb13⟩; refine Hid.out ?_) | fail)
            clear bf0 bf1 bf2 ltf
            have hz13 := hb13.size
            have hB13 := hB12a.trans (hb13.mono hB12a.size)
            have If1_13 := Lib.hid (If1_12a.out.kept hb13 (Nat.le_refl _))
            have If2_13 := Lib.hid (If2_12a.out.kept hb13 (Nat.le_refl _))
            have Qf_13 := Lib.hid (Qf_12a.out.kept hb13)
            clear hB12a If1_12a If2_12a Qf_12a hb13
            obtain ⟨ltf, bf0, bf1, bf2⟩ := Qf_13.out
            refine Lib.hid ?_
            go_wp2_with (first | (go_at_call 12; refine (sfm_any L5 x5 y5 _ c5 l5 _ c6 l6 _ If1_13.out (by omega) If2_13.out (by omega)).mono ?_; rintro e w14 ⟨rfl, hb14⟩; refine Hid.out ?_) | fail)
            clear bf0 bf1 bf2 ltf
            have hz14 := hb14.size
            have hB14 := hB13.trans (hb14.mono hB13.size)
            have If1_14 := Lib.hid (If1_13.out.kept hb14 (Nat.le_refl _))
            have If2_14 := Lib.hid (If2_13.out.kept hb14 (Nat.le_refl _))
            have Qf_14 := Lib.hid (Qf_13.out.kept hb14)
            clear hB13 If1_13 If2_13 Qf_13 hb14
            generalize ((fmO L5 x5 y5 l5 l6).getD 0 : Nat) = hv at *
            generalize (fmO L5 x5 y5 l5 l6).isSome = hs at *
            have HBB := Lib.hid hB14
            refine Lib.hid ?_
            go_wp2_with fail
            go_ret
            exact ⟨rfl, HBB.out⟩
      · have dgt : decide (x < lv) = false := decide_eq_false hgt
        clear hlow hgt
        cases hst : stO L x y l1 l2 with
        | none =>
            obtain ⟨ltt, bt0, bt1, bt2⟩ := Qt_4.out
            refine Lib.hid ?_
            go_wp2_with (first | (go_at_call 29; refine (ist_none L x y _ c1 l1 _ c2 l2 _ I1_4.out (by omega) I2_4.out (by omega) hst).mono ?_; rintro e w5 ⟨rfl, hb5⟩; refine Hid.out ?_) | fail)
            clear bt0 bt1 bt2 ltt
            have hz5 := hb5.size
            have hB5 := hB4.trans (hb5.mono hB4.size)
            have I1_5 := Lib.hid (I1_4.out.kept hb5 (Nat.le_refl _))
            have I2_5 := Lib.hid (I2_4.out.kept hb5 (Nat.le_refl _))
            have Qt_5 := Lib.hid (Qt_4.out.kept hb5)
            clear hB4 I1_4 I2_4 Qt_4 hb5
            obtain ⟨ltt, bt0, bt1, bt2⟩ := Qt_5.out
            refine Lib.hid ?_
            go_wp2_with (first | (go_at_call 30; refine (sst_none L x y _ c1 l1 _ c2 l2 _ I1_5.out (by omega) I2_5.out (by omega) hst).mono ?_; rintro e w6 ⟨rfl, hb6⟩; refine Hid.out ?_) | fail)
            clear bt0 bt1 bt2 ltt
            have hz6 := hb6.size
            have hB6 := hB5.trans (hb6.mono hB5.size)
            have I1_6 := Lib.hid (I1_5.out.kept hb6 (Nat.le_refl _))
            have I2_6 := Lib.hid (I2_5.out.kept hb6 (Nat.le_refl _))
            have Qt_6 := Lib.hid (Qt_5.out.kept hb6)
            clear hB5 I1_5 I2_5 Qt_5 hb6
            clear hst
            have hcl := hc.later hB6 (Nat.le_refl _)
            have HDS := Lib.hid (drep_any a n cap w6 hcl hn)
            clear hcl
            refine Lib.hid ?_
            go_wp2_with (first | (go_at_call 31; refine (HDS.out).mono ?_; rintro e w7 ⟨L3, x3, y3, q3, c3, l3, q4, c4, l4, d3, rfl, hl3, hl4, hq3, hq4, ha3, ha4, hb7⟩; refine Hid.out ?_) | fail)
            have hz7 := hb7.size
            have hB7 := hB6.trans (hb7.mono hB6.size)
            clear hB6 hb7
            have Ir1_7 := Lib.hid ha3
            have Ir2_7 := Lib.hid ha4
            clear ha3 ha4 HDS hq3 hq4
            have hb7a := alloc_below w7 (tb 27 L3 x3 y3)
            have Qns := Lib.hid (BT.new w7 27 L3 x3 y3)
            have hz7a := hb7a.size
            have hB7a := hB7.trans (hb7a.mono hB7.size)
            have Ir1_7a := Lib.hid (Ir1_7.out.kept hb7a (Nat.le_refl _))
            have Ir2_7a := Lib.hid (Ir2_7.out.kept hb7a (Nat.le_refl _))
            clear hB7 Ir1_7 Ir2_7 hb7a
            have Qs_7a := Qns
            clear Qns
            obtain ⟨zL, zx, zy, zb, HRI, HRS⟩ : ∃ (zL zx zy : Int) (zb : Bool), Hid (∀ w', IAt w' (some ⟨q3, 0, none⟩) l3 → IAt w' (some ⟨q4, 0, none⟩) l4 → Calls Tryd.prog 22 #[tv L3 x3 y3, .slice (some ⟨q3, 0, none⟩) l3.length c3, .slice (some ⟨q4, 0, none⟩) l4.length c4, .int .i64 d3] w' fun e w'' => e = .returned (.tuple #[tv zL zx zy, .bool zb]) ∧ Below w'.heap.size w' w'') ∧ Hid (∀ w', IAt w' (some ⟨q3, 0, none⟩) l3 → IAt w' (some ⟨q4, 0, none⟩) l4 → Calls Tryd.prog 32 #[tv L3 x3 y3, .slice (some ⟨q3, 0, none⟩) l3.length c3, .slice (some ⟨q4, 0, none⟩) l4.length c4, .int .i64 d3] w' fun e w'' => e = .returned (.tuple #[tv zL zx zy, .bool zb]) ∧ Below w'.heap.size w' w'') := by
              cases h : repB L3 x3 y3 l3 l4 d3 with
              | false => exact ⟨0, 0, 0, false, Lib.hid (fun w' h1 h2 => rep_no L3 x3 y3 _ c3 l3 _ c4 l4 d3 w' h1 (by omega) h2 (by omega) h), Lib.hid (fun w' h1 h2 => srep_no L3 x3 y3 _ c3 l3 _ c4 l4 d3 w' h1 (by omega) h2 (by omega) h)⟩
              | true =>
                unfold repB at h
                rw [Bool.and_eq_true, decide_eq_true_iff] at h
                obtain ⟨h1, h2, h3⟩ := h
                exact ⟨_, _, _, true, Lib.hid (fun w' g1 g2 => rep_yes L3 x3 y3 _ c3 l3 _ c4 l4 d3 w' g1 (by omega) g2 (by omega) (dayB_iff.1 h1) h2 h3), Lib.hid (fun w' g1 g2 => srep_yes L3 x3 y3 _ c3 l3 _ c4 l4 d3 w' g1 (by omega) g2 (by omega) (dayB_iff.1 h1) h2 h3)⟩
            obtain ⟨lts, bs0, bs1, bs2⟩ := Qs_7a.out
            refine Lib.hid ?_
            go_wp2_with (first | (go_at_call 22; refine (HRI.out _ Ir1_7a.out Ir2_7a.out).mono ?_; rintro e w8 ⟨rfl, hb8⟩; refine Hid.out ?_) | fail)
            clear bs0 bs1 bs2 lts
            have hz8 := hb8.size
            have hB8 := hB7a.trans (hb8.mono hB7a.size)
            have Ir1_8 := Lib.hid (Ir1_7a.out.kept hb8 (Nat.le_refl _))
            have Ir2_8 := Lib.hid (Ir2_7a.out.kept hb8 (Nat.le_refl _))
            have Qs_8 := Lib.hid (Qs_7a.out.kept hb8)
            clear hB7a Ir1_7a Ir2_7a Qs_7a hb8
            have hb8a := alloc_below w8 (tb 27 zL zx zy)
            have Qnu := Lib.hid (BT.new w8 27 zL zx zy)
            have hz8a := hb8a.size
            have hB8a := hB8.trans (hb8a.mono hB8.size)
            have Ir1_8a := Lib.hid (Ir1_8.out.kept hb8a (Nat.le_refl _))
            have Ir2_8a := Lib.hid (Ir2_8.out.kept hb8a (Nat.le_refl _))
            have Qs_8a := Lib.hid (Qs_8.out.kept hb8a)
            clear hB8 Ir1_8 Ir2_8 Qs_8 hb8a
            have Qu_8a := Qnu
            clear Qnu
            obtain ⟨lts, bs0, bs1, bs2⟩ := Qs_8a.out
            refine Lib.hid ?_
            go_wp2_with (first | (go_at_call 32; refine (HRS.out _ Ir1_8a.out Ir2_8a.out).mono ?_; rintro e w9 ⟨rfl, hb9⟩; refine Hid.out ?_) | fail)
            clear bs0 bs1 bs2 lts
            have hz9 := hb9.size
            have hB9 := hB8a.trans (hb9.mono hB8a.size)
            have Ir1_9 := Lib.hid (Ir1_8a.out.kept hb9 (Nat.le_refl _))
            have Ir2_9 := Lib.hid (Ir2_8a.out.kept hb9 (Nat.le_refl _))
            have Qs_9 := Lib.hid (Qs_8a.out.kept hb9)
            have Qu_9 := Lib.hid (Qu_8a.out.kept hb9)
            clear hB8a Ir1_8a Ir2_8a Qs_8a Qu_8a hb9
            have hb9a := alloc_below w9 (tb 27 zL zx zy)
            have Qnv := Lib.hid (BT.new w9 27 zL zx zy)
            have hz9a := hb9a.size
            have hB9a := hB9.trans (hb9a.mono hB9.size)
            have Ir1_9a := Lib.hid (Ir1_9.out.kept hb9a (Nat.le_refl _))
            have Ir2_9a := Lib.hid (Ir2_9.out.kept hb9a (Nat.le_refl _))
            have Qs_9a := Lib.hid (Qs_9.out.kept hb9a)
            have Qu_9a := Lib.hid (Qu_9.out.kept hb9a)
            clear hB9 Ir1_9 Ir2_9 Qs_9 Qu_9 hb9a
            have Qv_9a := Qnv
            clear Qnv
            clear Ir1_9a
            clear Ir2_9a
            clear Qs_9a
            clear HRI HRS
            have hcl := hc.later hB9a (Nat.le_refl _)
            have HDS := Lib.hid (dfm_any a n cap (w9.alloc (tb 27 zL zx zy)) hcl hn)
            clear hcl
            obtain ⟨ltu, bu0, bu1, bu2⟩ := Qu_9a.out
            obtain ⟨ltv, bv0, bv1, bv2⟩ := Qv_9a.out
            refine Lib.hid ?_
            go_wp2_with (first | (go_at_call 33; refine (HDS.out).mono ?_; rintro e w10 ⟨L5, x5, y5, q5, c5, l5, q6, c6, l6, rfl, hl5, hl6, hq5, hq6, ha5, ha6, hb10⟩; refine Hid.out ?_) | fail)
            clear bu0 bu1 bu2 bv0 bv1 bv2 ltu ltv
            have hz10 := hb10.size
            have hB10 := hB9a.trans (hb10.mono hB9a.size)
            have Qu_10 := Lib.hid (Qu_9a.out.kept hb10)
            have Qv_10 := Lib.hid (Qv_9a.out.kept hb10)
            clear hB9a Qu_9a Qv_9a hb10
            have If1_10 := Lib.hid ha5
            have If2_10 := Lib.hid ha6
            clear ha5 ha6 HDS hq5 hq6
            clear Qu_10
            clear Qv_10
            have hb10a := alloc_below w10 (tb 27 L5 x5 y5)
            have Qnf := Lib.hid (BT.new w10 27 L5 x5 y5)
            have hz10a := hb10a.size
            have hB10a := hB10.trans (hb10a.mono hB10.size)
            have If1_10a := Lib.hid (If1_10.out.kept hb10a (Nat.le_refl _))
            have If2_10a := Lib.hid (If2_10.out.kept hb10a (Nat.le_refl _))
            clear hB10 If1_10 If2_10 hb10a
            have Qf_10a := Qnf
            clear Qnf
            obtain ⟨ltf, bf0, bf1, bf2⟩ := Qf_10a.out
            refine Lib.hid ?_
            go_wp2_with (first | (go_at_call 13; refine (ifm_any L5 x5 y5 _ c5 l5 _ c6 l6 ea _ (hE.kept hB10a) (hT.kept hB10a) If1_10a.out (by omega) If2_10a.out (by omega)).mono ?_; rintro e w11 ⟨rfl, hb11⟩; refine Hid.out ?_) | fail)
            clear bf0 bf1 bf2 ltf
            have hz11 := hb11.size
            have hB11 := hB10a.trans (hb11.mono hB10a.size)
            have If1_11 := Lib.hid (If1_10a.out.kept hb11 (Nat.le_refl _))
            have If2_11 := Lib.hid (If2_10a.out.kept hb11 (Nat.le_refl _))
            have Qf_11 := Lib.hid (Qf_10a.out.kept hb11)
            clear hB10a If1_10a If2_10a Qf_10a hb11
            obtain ⟨ltf, bf0, bf1, bf2⟩ := Qf_11.out
            refine Lib.hid ?_
            go_wp2_with (first | (go_at_call 12; refine (sfm_any L5 x5 y5 _ c5 l5 _ c6 l6 _ If1_11.out (by omega) If2_11.out (by omega)).mono ?_; rintro e w12 ⟨rfl, hb12⟩; refine Hid.out ?_) | fail)
            clear bf0 bf1 bf2 ltf
            have hz12 := hb12.size
            have hB12 := hB11.trans (hb12.mono hB11.size)
            have If1_12 := Lib.hid (If1_11.out.kept hb12 (Nat.le_refl _))
            have If2_12 := Lib.hid (If2_11.out.kept hb12 (Nat.le_refl _))
            have Qf_12 := Lib.hid (Qf_11.out.kept hb12)
            clear hB11 If1_11 If2_11 Qf_11 hb12
            generalize ((fmO L5 x5 y5 l5 l6).getD 0 : Nat) = hv at *
            generalize (fmO L5 x5 y5 l5 l6).isSome = hs at *
            have HBB := Lib.hid hB12
            refine Lib.hid ?_
            go_wp2_with fail
            go_ret
            exact ⟨rfl, HBB.out⟩
        | some st =>
            obtain ⟨ltt, bt0, bt1, bt2⟩ := Qt_4.out
            refine Lib.hid ?_
            go_wp2_with (first | (go_at_call 29; refine (ist_some L x y _ c1 l1 _ c2 l2 _ st I1_4.out (by omega) I2_4.out (by omega) hst).mono ?_; rintro e w5 ⟨rfl, hb5⟩; refine Hid.out ?_) | fail)
            clear bt0 bt1 bt2 ltt
            have hz5 := hb5.size
            have hB5 := hB4.trans (hb5.mono hB4.size)
            have I1_5 := Lib.hid (I1_4.out.kept hb5 (Nat.le_refl _))
            have I2_5 := Lib.hid (I2_4.out.kept hb5 (Nat.le_refl _))
            have Qt_5 := Lib.hid (Qt_4.out.kept hb5)
            clear hB4 I1_4 I2_4 Qt_4 hb5
            obtain ⟨ltt, bt0, bt1, bt2⟩ := Qt_5.out
            refine Lib.hid ?_
            go_wp2_with (first | (go_at_call 30; refine (sst_some L x y _ c1 l1 _ c2 l2 _ st I1_5.out (by omega) I2_5.out (by omega) hst).mono ?_; rintro e w6 ⟨rfl, hb6⟩; refine Hid.out ?_) | fail)
            clear bt0 bt1 bt2 ltt
            have hz6 := hb6.size
            have hB6 := hB5.trans (hb6.mono hB5.size)
            have I1_6 := Lib.hid (I1_5.out.kept hb6 (Nat.le_refl _))
            have I2_6 := Lib.hid (I2_5.out.kept hb6 (Nat.le_refl _))
            have Qt_6 := Lib.hid (Qt_5.out.kept hb6)
            clear hB5 I1_5 I2_5 Qt_5 hb6
            obtain ⟨hD1, hDs, hr7⟩ := stO_is hst
            have HR7 := fun (w' : World) (h1 : IAt w' (some ⟨q1, 0, none⟩) l1) (h2 : IAt w' (some ⟨q2, 0, none⟩) l2) => rep_yes st x y _ c1 l1 _ c2 l2 7 w' h1 (by omega) h2 (by omega) hDs (by omega) (by omega)
            rw [show ((7 : Int)).toNat = 7 from rfl, hr7] at HR7
            have HR7h := Lib.hid HR7
            clear HR7 hr7 hDs hD1
            obtain ⟨ltt, bt0, bt1, bt2⟩ := Qt_6.out
            refine Lib.hid ?_
            go_wp2_with (first | (go_at_call 22; refine (HR7h.out _ I1_6.out I2_6.out).mono ?_; rintro e w7 ⟨rfl, hb7⟩; refine Hid.out ?_) | fail)
            clear bt0 bt1 bt2 ltt
            have hz7 := hb7.size
            have hB7 := hB6.trans (hb7.mono hB6.size)
            have I1_7 := Lib.hid (I1_6.out.kept hb7 (Nat.le_refl _))
            have I2_7 := Lib.hid (I2_6.out.kept hb7 (Nat.le_refl _))
            have Qt_7 := Lib.hid (Qt_6.out.kept hb7)
            clear hB6 I1_6 I2_6 Qt_6 hb7
            have hb7a := alloc_below w7 (tb 27 st x y)
            have Qnw := Lib.hid (BT.new w7 27 st x y)
            have hz7a := hb7a.size
            have hB7a := hB7.trans (hb7a.mono hB7.size)
            have I1_7a := Lib.hid (I1_7.out.kept hb7a (Nat.le_refl _))
            have I2_7a := Lib.hid (I2_7.out.kept hb7a (Nat.le_refl _))
            have Qt_7a := Lib.hid (Qt_7.out.kept hb7a)
            clear hB7 I1_7 I2_7 Qt_7 hb7a
            have Qw_7a := Qnw
            clear Qnw
            have Qkeep := Qw_7a
            obtain ⟨ltw, bw0, bw1, bw2⟩ := Qw_7a.out
            clear hst HR7h
            have hcl := hc.later hB7a (Nat.le_refl _)
            have HDS := Lib.hid (drep_any a n cap (w7.alloc (tb 27 st x y)) hcl hn)
            clear hcl
            refine Lib.hid ?_
            go_wp2_with (first | (go_at_call 31; refine (HDS.out).mono ?_; rintro e w8 ⟨L3, x3, y3, q3, c3, l3, q4, c4, l4, d3, rfl, hl3, hl4, hq3, hq4, ha3, ha4, hb8⟩; refine Hid.out ?_) | fail)
            have hz8 := hb8.size
            have hB8 := hB7a.trans (hb8.mono hB7a.size)
            clear hB7a hb8
            have Ir1_8 := Lib.hid ha3
            have Ir2_8 := Lib.hid ha4
            clear ha3 ha4 HDS hq3 hq4
            have hb8a := alloc_below w8 (tb 27 L3 x3 y3)
            have Qns := Lib.hid (BT.new w8 27 L3 x3 y3)
            have hz8a := hb8a.size
            have hB8a := hB8.trans (hb8a.mono hB8.size)
            have Ir1_8a := Lib.hid (Ir1_8.out.kept hb8a (Nat.le_refl _))
            have Ir2_8a := Lib.hid (Ir2_8.out.kept hb8a (Nat.le_refl _))
            clear hB8 Ir1_8 Ir2_8 hb8a
            have Qs_8a := Qns
            clear Qns
            obtain ⟨zL, zx, zy, zb, HRI, HRS⟩ : ∃ (zL zx zy : Int) (zb : Bool), Hid (∀ w', IAt w' (some ⟨q3, 0, none⟩) l3 → IAt w' (some ⟨q4, 0, none⟩) l4 → Calls Tryd.prog 22 #[tv L3 x3 y3, .slice (some ⟨q3, 0, none⟩) l3.length c3, .slice (some ⟨q4, 0, none⟩) l4.length c4, .int .i64 d3] w' fun e w'' => e = .returned (.tuple #[tv zL zx zy, .bool zb]) ∧ Below w'.heap.size w' w'') ∧ Hid (∀ w', IAt w' (some ⟨q3, 0, none⟩) l3 → IAt w' (some ⟨q4, 0, none⟩) l4 → Calls Tryd.prog 32 #[tv L3 x3 y3, .slice (some ⟨q3, 0, none⟩) l3.length c3, .slice (some ⟨q4, 0, none⟩) l4.length c4, .int .i64 d3] w' fun e w'' => e = .returned (.tuple #[tv zL zx zy, .bool zb]) ∧ Below w'.heap.size w' w'') := by
              cases h : repB L3 x3 y3 l3 l4 d3 with
              | false => exact ⟨0, 0, 0, false, Lib.hid (fun w' h1 h2 => rep_no L3 x3 y3 _ c3 l3 _ c4 l4 d3 w' h1 (by omega) h2 (by omega) h), Lib.hid (fun w' h1 h2 => srep_no L3 x3 y3 _ c3 l3 _ c4 l4 d3 w' h1 (by omega) h2 (by omega) h)⟩
              | true =>
                unfold repB at h
                rw [Bool.and_eq_true, decide_eq_true_iff] at h
                obtain ⟨h1, h2, h3⟩ := h
                exact ⟨_, _, _, true, Lib.hid (fun w' g1 g2 => rep_yes L3 x3 y3 _ c3 l3 _ c4 l4 d3 w' g1 (by omega) g2 (by omega) (dayB_iff.1 h1) h2 h3), Lib.hid (fun w' g1 g2 => srep_yes L3 x3 y3 _ c3 l3 _ c4 l4 d3 w' g1 (by omega) g2 (by omega) (dayB_iff.1 h1) h2 h3)⟩
            obtain ⟨lts, bs0, bs1, bs2⟩ := Qs_8a.out
            refine Lib.hid ?_
            go_wp2_with (first | (go_at_call 22; refine (HRI.out _ Ir1_8a.out Ir2_8a.out).mono ?_; rintro e w9 ⟨rfl, hb9⟩; refine Hid.out ?_) | fail)
            clear bs0 bs1 bs2 lts
            have hz9 := hb9.size
            have hB9 := hB8a.trans (hb9.mono hB8a.size)
            have Ir1_9 := Lib.hid (Ir1_8a.out.kept hb9 (Nat.le_refl _))
            have Ir2_9 := Lib.hid (Ir2_8a.out.kept hb9 (Nat.le_refl _))
            have Qs_9 := Lib.hid (Qs_8a.out.kept hb9)
            clear hB8a Ir1_8a Ir2_8a Qs_8a hb9
            have hb9a := alloc_below w9 (tb 27 zL zx zy)
            have Qnu := Lib.hid (BT.new w9 27 zL zx zy)
            have hz9a := hb9a.size
            have hB9a := hB9.trans (hb9a.mono hB9.size)
            have Ir1_9a := Lib.hid (Ir1_9.out.kept hb9a (Nat.le_refl _))
            have Ir2_9a := Lib.hid (Ir2_9.out.kept hb9a (Nat.le_refl _))
            have Qs_9a := Lib.hid (Qs_9.out.kept hb9a)
            clear hB9 Ir1_9 Ir2_9 Qs_9 hb9a
            have Qu_9a := Qnu
            clear Qnu
            obtain ⟨lts, bs0, bs1, bs2⟩ := Qs_9a.out
            refine Lib.hid ?_
            go_wp2_with (first | (go_at_call 32; refine (HRS.out _ Ir1_9a.out Ir2_9a.out).mono ?_; rintro e w10 ⟨rfl, hb10⟩; refine Hid.out ?_) | fail)
            clear bs0 bs1 bs2 lts
            have hz10 := hb10.size
            have hB10 := hB9a.trans (hb10.mono hB9a.size)
            have Ir1_10 := Lib.hid (Ir1_9a.out.kept hb10 (Nat.le_refl _))
            have Ir2_10 := Lib.hid (Ir2_9a.out.kept hb10 (Nat.le_refl _))
            have Qs_10 := Lib.hid (Qs_9a.out.kept hb10)
            have Qu_10 := Lib.hid (Qu_9a.out.kept hb10)
            clear hB9a Ir1_9a Ir2_9a Qs_9a Qu_9a hb10
            have hb10a := alloc_below w10 (tb 27 zL zx zy)
            have Qnv := Lib.hid (BT.new w10 27 zL zx zy)
            have hz10a := hb10a.size
            have hB10a := hB10.trans (hb10a.mono hB10.size)
            have Ir1_10a := Lib.hid (Ir1_10.out.kept hb10a (Nat.le_refl _))
            have Ir2_10a := Lib.hid (Ir2_10.out.kept hb10a (Nat.le_refl _))
            have Qs_10a := Lib.hid (Qs_10.out.kept hb10a)
            have Qu_10a := Lib.hid (Qu_10.out.kept hb10a)
            clear hB10 Ir1_10 Ir2_10 Qs_10 Qu_10 hb10a
            have Qv_10a := Qnv
            clear Qnv
            clear Ir1_10a
            clear Ir2_10a
            clear Qs_10a
            clear HRI HRS
            have hcl := hc.later hB10a (Nat.le_refl _)
            have HDS := Lib.hid (dfm_any a n cap (w10.alloc (tb 27 zL zx zy)) hcl hn)
            clear hcl
            obtain ⟨ltu, bu0, bu1, bu2⟩ := Qu_10a.out
            obtain ⟨ltv, bv0, bv1, bv2⟩ := Qv_10a.out
            refine Lib.hid ?_
            go_wp2_with (first | (go_at_call 33; refine (HDS.out).mono ?_; rintro e w11 ⟨L5, x5, y5, q5, c5, l5, q6, c6, l6, rfl, hl5, hl6, hq5, hq6, ha5, ha6, hb11⟩; refine Hid.out ?_) | fail)
            clear bu0 bu1 bu2 bv0 bv1 bv2 ltu ltv
            have hz11 := hb11.size
            have hB11 := hB10a.trans (hb11.mono hB10a.size)
            have Qu_11 := Lib.hid (Qu_10a.out.kept hb11)
            have Qv_11 := Lib.hid (Qv_10a.out.kept hb11)
            clear hB10a Qu_10a Qv_10a hb11
            have If1_11 := Lib.hid ha5
            have If2_11 := Lib.hid ha6
            clear ha5 ha6 HDS hq5 hq6
            clear Qu_11
            clear Qv_11
            have hb11a := alloc_below w11 (tb 27 L5 x5 y5)
            have Qnf := Lib.hid (BT.new w11 27 L5 x5 y5)
            have hz11a := hb11a.size
            have hB11a := hB11.trans (hb11a.mono hB11.size)
            have If1_11a := Lib.hid (If1_11.out.kept hb11a (Nat.le_refl _))
            have If2_11a := Lib.hid (If2_11.out.kept hb11a (Nat.le_refl _))
            clear hB11 If1_11 If2_11 hb11a
            have Qf_11a := Qnf
            clear Qnf
            obtain ⟨ltf, bf0, bf1, bf2⟩ := Qf_11a.out
            refine Lib.hid ?_
            go_wp2_with (first | (go_at_call 13; refine (ifm_any L5 x5 y5 _ c5 l5 _ c6 l6 ea _ (hE.kept hB11a) (hT.kept hB11a) If1_11a.out (by omega) If2_11a.out (by omega)).mono ?_; rintro e w12 ⟨rfl, hb12⟩; refine Hid.out ?_) | fail)
            clear bf0 bf1 bf2 ltf
            have hz12 := hb12.size
            have hB12 := hB11a.trans (hb12.mono hB11a.size)
            have If1_12 := Lib.hid (If1_11a.out.kept hb12 (Nat.le_refl _))
            have If2_12 := Lib.hid (If2_11a.out.kept hb12 (Nat.le_refl _))
            have Qf_12 := Lib.hid (Qf_11a.out.kept hb12)
            clear hB11a If1_11a If2_11a Qf_11a hb12
            obtain ⟨ltf, bf0, bf1, bf2⟩ := Qf_12.out
            refine Lib.hid ?_
            go_wp2_with (first | (go_at_call 12; refine (sfm_any L5 x5 y5 _ c5 l5 _ c6 l6 _ If1_12.out (by omega) If2_12.out (by omega)).mono ?_; rintro e w13 ⟨rfl, hb13⟩; refine Hid.out ?_) | fail)
            clear bf0 bf1 bf2 ltf
            have hz13 := hb13.size
            have hB13 := hB12.trans (hb13.mono hB12.size)
            have If1_13 := Lib.hid (If1_12.out.kept hb13 (Nat.le_refl _))
            have If2_13 := Lib.hid (If2_12.out.kept hb13 (Nat.le_refl _))
            have Qf_13 := Lib.hid (Qf_12.out.kept hb13)
            clear hB12 If1_12 If2_12 Qf_12 hb13
            generalize ((fmO L5 x5 y5 l5 l6).getD 0 : Nat) = hv at *
            generalize (fmO L5 x5 y5 l5 l6).isSome = hs at *
            have HBB := Lib.hid hB13
            refine Lib.hid ?_
            go_wp2_with fail
            go_ret
            exact ⟨rfl, HBB.out⟩
end Go.Proofs.YtikppgbipdflbaaDoor.S11
