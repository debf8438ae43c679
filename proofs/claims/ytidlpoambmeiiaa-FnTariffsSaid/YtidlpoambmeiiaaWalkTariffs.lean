/- The walk of the law FnTariffs: contracts. Conditions: each theorem's own premises. -/
import Derived.Test.YtidlpoambmeiiaaTaPack2
import Derived.Test.YtidlpoambmeiiaaTaDd
import Derived.Deep.DeepCutAuto
import Derived.BigQuiet
namespace Go.Proofs.Ytidlpoambmeiiaa.S14
open Go.RowKit P14

set_option maxHeartbeats 8000000 in
set_option maxRecDepth 100000 in
theorem walkTariffs (a : Option Addr) (n cap : Nat) (w : World) (hc : S1.Cd w.heap.size a n w) :
    Calls Try.prog 13 #[.slice a n cap] w fun e w' => e = .returned (.bool true) ∧ Below w.heap.size w w' := by
  have HC := Lib.hid hc
  clear hc
  by_cases hbig : 65536 < n
  · have H := Lib.hid (fun w => rbig_yes a n cap w hbig)
    go_enter Try.func13, Try.ntmps13
    go_wp2_with (go_at_call 43; refine (H.out _).mono ?_; rintro e w1 ⟨rfl, rfl⟩)
    go_ret
    exact ⟨rfl, Below.refl _ _⟩
  have hn : n ≤ 65536 := by omega
  have HR := Lib.hid (fun w => rbig_below a n cap w hn)
  clear hbig
  go_enter Try.func13, Try.ntmps13
  have hB0 := Below.refl w.heap.size w
  refine Hid.out ?_
  refine Lib.hid ?_
  go_wp2_with (first | (go_at_call 43; refine (HR.out _).mono ?_; rintro e w1 ⟨rfl, hb1⟩; refine Hid.out ?_) | fail)
  have hz1 : w.heap.size ≤ w1.heap.size := hb1.size
  have hB1 := hB0.trans (hb1.mono hB0.size)
  clear hB0 hb1
  refine Lib.hid ?_
  go_wp2_with (first | (go_at_call 44; refine (dcost_any a n cap _ (HC.out.later hB1 (Nat.le_refl _)) hn).mono ?_; rintro e w2 ⟨t1, A1, c1, z1, rfl, hI, hb2⟩; refine Hid.out ?_) | fail)
  have hz2 : w1.heap.size ≤ w2.heap.size := hb2.size
  have hB2 := hB1.trans (hb2.mono hB1.size)
  clear hB1 hb2
  have Ip_2 := Lib.hid hI
  clear hI
  have hb2b := alloc_below w2 (tb 29 t1 A1 c1)
  have Qn := B2.new w2 29 t1 A1 c1
  replace Qn := Lib.hid Qn
  have hz2b : w2.heap.size ≤ (w2.alloc (tb 29 t1 A1 c1)).heap.size := hb2b.size
  have hB2b := hB2.trans (hb2b.mono hB2.size)
  have Ip_2b := Lib.hid (Ip_2.out.kept hb2b)
  clear hB2 hb2b Ip_2
  have Qp_2b := Qn
  clear Qn
  obtain ⟨C1, k1, N1, f1, L1, R1, g1, X1, o1, H1, H2, H3, H4, H5, H6, H7, H8, H9, HX, hL, HQ, HK⟩ := cost_pack t1 z1
  obtain ⟨bpl, bp0, bp1, _⟩ := Qp_2b.out
  refine Lib.hid ?_
  go_wp2_with (first | (go_at_call 21; refine (H1.out _ _ _ Ip_2b.out).mono ?_; rintro e w3 ⟨rfl, hb3⟩; refine Hid.out ?_) | fail)
  clear bpl bp0 bp1
  have hz3 : (w2.alloc (tb 29 t1 A1 c1)).heap.size ≤ w3.heap.size := hb3.size
  have hB3 := hB2b.trans (hb3.mono hB2b.size)
  have Ip_3 := Lib.hid (Ip_2b.out.kept hb3)
  have Qp_3 := Lib.hid (Qp_2b.out.kept hb3)
  clear hB2b hb3 Ip_2b Qp_2b
  obtain ⟨bpl, bp0, bp1, _⟩ := Qp_3.out
  refine Lib.hid ?_
  go_wp2_with (first | (go_at_call 20; refine (H2.out _ _ _ Ip_3.out).mono ?_; rintro e w4 ⟨rfl, hb4⟩; refine Hid.out ?_) | fail)
  clear bpl bp0 bp1
  have hz4 : w3.heap.size ≤ w4.heap.size := hb4.size
  have hB4 := hB3.trans (hb4.mono hB3.size)
  have Ip_4 := Lib.hid (Ip_3.out.kept hb4)
  have Qp_4 := Lib.hid (Qp_3.out.kept hb4)
  clear hB3 hb4 Ip_3 Qp_3
  obtain ⟨bpl, bp0, bp1, _⟩ := Qp_4.out
  refine Lib.hid ?_
  go_wp2_with (first | (go_at_call 23; refine (H3.out _ _ _ Ip_4.out).mono ?_; rintro e w5 ⟨rfl, hb5⟩; refine Hid.out ?_) | fail)
  clear bpl bp0 bp1
  have hz5 : w4.heap.size ≤ w5.heap.size := hb5.size
  have hB5 := hB4.trans (hb5.mono hB4.size)
  have Ip_5 := Lib.hid (Ip_4.out.kept hb5)
  have Qp_5 := Lib.hid (Qp_4.out.kept hb5)
  clear hB4 hb5 Ip_4 Qp_4
  obtain ⟨bpl, bp0, bp1, _⟩ := Qp_5.out
  refine Lib.hid ?_
  go_wp2_with (first | (go_at_call 22; refine (H4.out _ _ _ Ip_5.out).mono ?_; rintro e w6 ⟨rfl, hb6⟩; refine Hid.out ?_) | fail)
  clear bpl bp0 bp1
  have hz6 : w5.heap.size ≤ w6.heap.size := hb6.size
  have hB6 := hB5.trans (hb6.mono hB5.size)
  have Ip_6 := Lib.hid (Ip_5.out.kept hb6)
  have Qp_6 := Lib.hid (Qp_5.out.kept hb6)
  clear hB5 hb6 Ip_5 Qp_5
  clear H1 H2 H3 H4
  obtain ⟨bpl, bp0, bp1, _⟩ := Qp_6.out
  refine Lib.hid ?_
  go_wp2_with (first | (go_at_call 33; refine (H5.out _ _ _ Ip_6.out).mono ?_; rintro e w7 ⟨A2, c2, rfl, hI, hb7⟩; refine Hid.out ?_) | fail)
  clear bpl bp0 bp1
  have hz7 : w6.heap.size ≤ w7.heap.size := hb7.size
  have hB7 := hB6.trans (hb7.mono hB6.size)
  have Ip_7 := Lib.hid (Ip_6.out.kept hb7)
  have Qp_7 := Lib.hid (Qp_6.out.kept hb7)
  clear hB6 hb7 Ip_6 Qp_6
  have Ja_7 := Lib.hid hI
  clear hI
  obtain ⟨bpl, bp0, bp1, _⟩ := Qp_7.out
  refine Lib.hid ?_
  go_wp2_with (first | (go_at_call 32; refine (H6.out _ _ _ Ip_7.out).mono ?_; rintro e w8 ⟨A3, c3, rfl, hI, hb8⟩; refine Hid.out ?_) | fail)
  clear bpl bp0 bp1
  have hz8 : w7.heap.size ≤ w8.heap.size := hb8.size
  have hB8 := hB7.trans (hb8.mono hB7.size)
  have Ip_8 := Lib.hid (Ip_7.out.kept hb8)
  have Qp_8 := Lib.hid (Qp_7.out.kept hb8)
  have Ja_8 := Lib.hid (Ja_7.out.kept hb8 (Nat.le_refl _))
  clear hB7 hb8 Ip_7 Qp_7 Ja_7
  have Jb_8 := Lib.hid hI
  clear hI
  clear H5 H6
  obtain ⟨bpl, bp0, bp1, _⟩ := Qp_8.out
  refine Lib.hid ?_
  go_wp2_with (first | (go_at_call 45; refine (rints_same _ _ _ _ L1 _ Ja_8.out Jb_8.out (by omega)).mono ?_; rintro e w9 ⟨rfl, hb9⟩; refine Hid.out ?_) | fail)
  clear bpl bp0 bp1
  have hz9 : w8.heap.size ≤ w9.heap.size := hb9.size
  have hB9 := hB8.trans (hb9.mono hB8.size)
  have Ip_9 := Lib.hid (Ip_8.out.kept hb9)
  have Qp_9 := Lib.hid (Qp_8.out.kept hb9)
  have Ja_9 := Lib.hid (Ja_8.out.kept hb9 (Nat.le_refl _))
  have Jb_9 := Lib.hid (Jb_8.out.kept hb9 (Nat.le_refl _))
  clear hB8 hb9 Ip_8 Qp_8 Ja_8 Jb_8
  clear Jb_9
  obtain ⟨bpl, bp0, bp1, _⟩ := Qp_9.out
  refine Lib.hid ?_
  go_wp2_with (first | (go_at_call 42; refine (H7.out _ _ _ Ip_9.out).mono ?_; rintro e w10 ⟨A4, c4, rfl, hI, hb10⟩; refine Hid.out ?_) | fail)
  clear bpl bp0 bp1
  have hz10 : w9.heap.size ≤ w10.heap.size := hb10.size
  have hB10 := hB9.trans (hb10.mono hB9.size)
  have Ip_10 := Lib.hid (Ip_9.out.kept hb10)
  have Qp_10 := Lib.hid (Qp_9.out.kept hb10)
  have Ja_10 := Lib.hid (Ja_9.out.kept hb10 (Nat.le_refl _))
  clear hB9 hb10 Ip_9 Qp_9 Ja_9
  have Iu_10 := Lib.hid hI
  clear hI
  have hb10b := alloc_below w10 (tb 29 R1 A4 c4)
  have Qn := B2.new w10 29 R1 A4 c4
  replace Qn := Lib.hid Qn
  have hz10b : w10.heap.size ≤ (w10.alloc (tb 29 R1 A4 c4)).heap.size := hb10b.size
  have hB10b := hB10.trans (hb10b.mono hB10.size)
  have Ip_10b := Lib.hid (Ip_10.out.kept hb10b)
  have Qp_10b := Lib.hid (Qp_10.out.kept hb10b)
  have Ja_10b := Lib.hid (Ja_10.out.kept hb10b (Nat.le_refl _))
  have Iu_10b := Lib.hid (Iu_10.out.kept hb10b)
  clear hB10 hb10b Ip_10 Qp_10 Ja_10 Iu_10
  have Qu_10b := Qn
  clear Qn
  obtain ⟨bpl, bp0, bp1, _⟩ := Qp_10b.out
  obtain ⟨bul, bu0, bu1, _⟩ := Qu_10b.out
  refine Lib.hid ?_
  go_wp2_with (first | (go_at_call 41; refine (H8.out _ _ _ Ip_10b.out).mono ?_; rintro e w11 ⟨A5, c5, rfl, hI, hb11⟩; refine Hid.out ?_) | fail)
  clear bpl bp0 bp1 bul bu0 bu1
  have hz11 : (w10.alloc (tb 29 R1 A4 c4)).heap.size ≤ w11.heap.size := hb11.size
  have hB11 := hB10b.trans (hb11.mono hB10b.size)
  have Ip_11 := Lib.hid (Ip_10b.out.kept hb11)
  have Qp_11 := Lib.hid (Qp_10b.out.kept hb11)
  have Ja_11 := Lib.hid (Ja_10b.out.kept hb11 (Nat.le_refl _))
  have Iu_11 := Lib.hid (Iu_10b.out.kept hb11)
  have Qu_11 := Lib.hid (Qu_10b.out.kept hb11)
  clear hB10b hb11 Ip_10b Qp_10b Ja_10b Iu_10b Qu_10b
  have Iv_11 := Lib.hid hI
  clear hI
  have hb11b := alloc_below w11 (tb 29 R1 A5 c5)
  have Qn := B2.new w11 29 R1 A5 c5
  replace Qn := Lib.hid Qn
  have hz11b : w11.heap.size ≤ (w11.alloc (tb 29 R1 A5 c5)).heap.size := hb11b.size
  have hB11b := hB11.trans (hb11b.mono hB11.size)
  have Ip_11b := Lib.hid (Ip_11.out.kept hb11b)
  have Qp_11b := Lib.hid (Qp_11.out.kept hb11b)
  have Ja_11b := Lib.hid (Ja_11.out.kept hb11b (Nat.le_refl _))
  have Iu_11b := Lib.hid (Iu_11.out.kept hb11b)
  have Qu_11b := Lib.hid (Qu_11.out.kept hb11b)
  have Iv_11b := Lib.hid (Iv_11.out.kept hb11b)
  clear hB11 hb11b Ip_11 Qp_11 Ja_11 Iu_11 Qu_11 Iv_11
  have Qv_11b := Qn
  clear Qn
  clear H7 H8
  obtain ⟨bpl, bp0, bp1, _⟩ := Qp_11b.out
  obtain ⟨bul, bu0, bu1, _⟩ := Qu_11b.out
  obtain ⟨bvl, bv0, bv1, _⟩ := Qv_11b.out
  refine Lib.hid ?_
  go_wp2_with (first | (go_at_call 46; refine (rtariffs_same R1 _ _ _ _ _ Iu_11b.out Iv_11b.out).mono ?_; rintro e w12 ⟨rfl, hb12⟩; refine Hid.out ?_) | fail)
  clear bpl bp0 bp1 bul bu0 bu1 bvl bv0 bv1
  have hz12 : (w11.alloc (tb 29 R1 A5 c5)).heap.size ≤ w12.heap.size := hb12.size
  have hB12 := hB11b.trans (hb12.mono hB11b.size)
  have Ip_12 := Lib.hid (Ip_11b.out.kept hb12)
  have Qp_12 := Lib.hid (Qp_11b.out.kept hb12)
  have Ja_12 := Lib.hid (Ja_11b.out.kept hb12 (Nat.le_refl _))
  have Iu_12 := Lib.hid (Iu_11b.out.kept hb12)
  have Qu_12 := Lib.hid (Qu_11b.out.kept hb12)
  have Iv_12 := Lib.hid (Iv_11b.out.kept hb12)
  have Qv_12 := Lib.hid (Qv_11b.out.kept hb12)
  clear hB11b hb12 Ip_11b Qp_11b Ja_11b Iu_11b Qu_11b Iv_11b Qv_11b
  obtain ⟨bpl, bp0, bp1, _⟩ := Qp_12.out
  obtain ⟨bul, bu0, bu1, _⟩ := Qu_12.out
  obtain ⟨bvl, bv0, bv1, _⟩ := Qv_12.out
  refine Lib.hid ?_
  go_wp2_with (first | (go_at_call 18; refine (H9.out _ _ _ Ip_12.out).mono ?_; rintro e w13 ⟨rfl, hb13⟩; refine Hid.out ?_) | fail)
  clear bpl bp0 bp1 bul bu0 bu1 bvl bv0 bv1
  have hz13 : w12.heap.size ≤ w13.heap.size := hb13.size
  have hB13 := hB12.trans (hb13.mono hB12.size)
  have Ip_13 := Lib.hid (Ip_12.out.kept hb13)
  have Qp_13 := Lib.hid (Qp_12.out.kept hb13)
  have Ja_13 := Lib.hid (Ja_12.out.kept hb13 (Nat.le_refl _))
  have Iu_13 := Lib.hid (Iu_12.out.kept hb13)
  have Qu_13 := Lib.hid (Qu_12.out.kept hb13)
  have Iv_13 := Lib.hid (Iv_12.out.kept hb13)
  have Qv_13 := Lib.hid (Qv_12.out.kept hb13)
  clear hB12 hb13 Ip_12 Qp_12 Ja_12 Iu_12 Qu_12 Iv_12 Qv_12
  clear Iv_13
  clear Qv_13
  clear H9
  obtain ⟨bpl, bp0, bp1, _⟩ := Qp_13.out
  obtain ⟨bul, bu0, bu1, _⟩ := Qu_13.out
  refine Lib.hid ?_
  go_upto_if 134 with (fail)
  clear bpl bp0 bp1 bul bu0 bu1
  go_cut [] (fun wx => Hid (Below w13.heap.size w13 wx))
  case first => as_aux_lemma =>
    have hK13 := Below.refl w13.heap.size w13
    cases k1 with
    | false =>
      go_wp2_with fail
      go_meet
      exact Lib.hid hK13
    | true =>
      obtain ⟨HY1, HY2, hfee, hpos, ⟨hv0, hv9⟩, hst⟩ := HK.out rfl
      have HY3 := Lib.hid HY1
      have HY4 := Lib.hid HY2
      have HST := Lib.hid hst
      clear HK HY1 HY2 hst
      have hw1 : IntKind.i64.wrap (z1 + 1) = z1 + 1 := IntWalk.i64_in _ (by omega)
      refine Hid.out ?_
      obtain ⟨bpl, bp0, bp1, _⟩ := Qp_13.out
      obtain ⟨bul, bu0, bu1, _⟩ := Qu_13.out
      refine Lib.hid ?_
      go_wp2_with (first | (go_at_call 21; refine (HY3.out _ _ _ Iu_13.out).mono ?_; rintro e w14 ⟨rfl, hb14⟩; refine Hid.out ?_) | fail)
      clear bpl bp0 bp1 bul bu0 bu1
      have hz14 : w13.heap.size ≤ w14.heap.size := hb14.size
      have hB14 := hB13.trans (hb14.mono hB13.size)
      have hK14 := hK13.trans (hb14.mono hK13.size)
      have Ip_14 := Lib.hid (Ip_13.out.kept hb14)
      have Qp_14 := Lib.hid (Qp_13.out.kept hb14)
      have Ja_14 := Lib.hid (Ja_13.out.kept hb14 (Nat.le_refl _))
      have Iu_14 := Lib.hid (Iu_13.out.kept hb14)
      have Qu_14 := Lib.hid (Qu_13.out.kept hb14)
      clear hB13 hb14 hK13 Ip_13 Qp_13 Ja_13 Iu_13 Qu_13
      clear HY3
      obtain ⟨bs, os, hA, hbl, hs0⟩ := Ja_14.out.at_ hpos
      have HJ := Lib.hid (fun n => Ja_14.out.kept (below_drewN (Below.refl w14.heap.size w14) n) (Nat.le_refl _))
      subst hA
      rw [hfee, Nat.add_zero] at hs0
      have hposi : (0 : Int) < (L1.length : Int) := by omega
      obtain ⟨bpl, bp0, bp1, _⟩ := Qp_14.out
      obtain ⟨bul, bu0, bu1, _⟩ := Qu_14.out
      refine Lib.hid ?_
      go_upto_region 22 with (fail)
      clear bpl bp0 bp1 bul bu0 bu1
      go_cut [161] (fun st wx => st = .bool false ∧ Hid (Below w14.heap.size w14 wx))
      case first => as_aux_lemma =>
        have hK14 := Below.refl w14.heap.size w14
        obtain ⟨bpl, bp0, bp1, _⟩ := Qp_14.out
        obtain ⟨bul, bu0, bu1, _⟩ := Qu_14.out
        go_quiet ((go_at_call 47; exact Calls.quiet_of_same (HY4.out _ _ _ (HJ.out _))))
        go_wp2_with fail
        go_meet
        exact ⟨rfl, Lib.hid (below_drewN (Below.refl _ _) _)⟩
      case rest => as_aux_lemma =>
        obtain ⟨rfl, hbc⟩ := hcut
        obtain ⟨w15, hwb⟩ : ∃ w15, w15 = wc := ⟨_, rfl⟩
        subst hwb
        have hb15 := hbc.out
        clear hbc
        have hz15 : w14.heap.size ≤ w15.heap.size := hb15.size
        have hB15 := hB14.trans (hb15.mono hB14.size)
        have hK15 := hK14.trans (hb15.mono hK14.size)
        have Ip_15 := Lib.hid (Ip_14.out.kept hb15)
        have Qp_15 := Lib.hid (Qp_14.out.kept hb15)
        have Ja_15 := Lib.hid (Ja_14.out.kept hb15 (Nat.le_refl _))
        have Iu_15 := Lib.hid (Iu_14.out.kept hb15)
        have Qu_15 := Lib.hid (Qu_14.out.kept hb15)
        clear hB14 hb15 hK14 Ip_14 Qp_14 Ja_14 Iu_14 Qu_14
        refine Hid.out ?_
        clear hs0 hbl HJ HY4 hposi
        obtain ⟨bpl, bp0, bp1, _⟩ := Qp_15.out
        obtain ⟨bul, bu0, bu1, _⟩ := Qu_15.out
        refine Lib.hid ?_
        go_wp2_with (first | (go_at_call 21; refine (HX.out _ _ _ Ip_15.out).mono ?_; rintro e w16 ⟨rfl, hb16⟩; refine Hid.out ?_) | fail)
        clear bpl bp0 bp1 bul bu0 bu1
        have hz16 : w15.heap.size ≤ w16.heap.size := hb16.size
        have hB16 := hB15.trans (hb16.mono hB15.size)
        have hK16 := hK15.trans (hb16.mono hK15.size)
        have Ip_16 := Lib.hid (Ip_15.out.kept hb16)
        have Qp_16 := Lib.hid (Qp_15.out.kept hb16)
        have Ja_16 := Lib.hid (Ja_15.out.kept hb16 (Nat.le_refl _))
        have Iu_16 := Lib.hid (Iu_15.out.kept hb16)
        have Qu_16 := Lib.hid (Qu_15.out.kept hb16)
        clear hB15 hb16 hK15 Ip_15 Qp_15 Ja_15 Iu_15 Qu_15
        cases f1 with
        | false =>
          refine Lib.hid ?_
          obtain ⟨bpl, bp0, bp1, _⟩ := Qp_16.out
          obtain ⟨bul, bu0, bu1, _⟩ := Qu_16.out
          go_wp2_with fail
          go_meet
          exact Lib.hid hK16
        | true =>
          obtain ⟨ho, hw2⟩ := HST.out rfl
          subst ho
          refine Lib.hid ?_
          obtain ⟨bpl, bp0, bp1, _⟩ := Qp_16.out
          obtain ⟨bul, bu0, bu1, _⟩ := Qu_16.out
          go_wp2_with fail
          go_meet
          exact Lib.hid hK16
  case rest => as_aux_lemma =>
    have hbc := hcut
    clear hcut
    obtain ⟨w17, hwb⟩ : ∃ w17, w17 = wc := ⟨_, rfl⟩
    subst hwb
    have hb17 := hbc.out
    clear hbc
    have hz17 : w13.heap.size ≤ w17.heap.size := hb17.size
    have hB17 := hB13.trans (hb17.mono hB13.size)
    have Ip_17 := Lib.hid (Ip_13.out.kept hb17)
    have Qp_17 := Lib.hid (Qp_13.out.kept hb17)
    have Ja_17 := Lib.hid (Ja_13.out.kept hb17 (Nat.le_refl _))
    have Iu_17 := Lib.hid (Iu_13.out.kept hb17)
    have Qu_17 := Lib.hid (Qu_13.out.kept hb17)
    clear hB13 hb17 Ip_13 Qp_13 Ja_13 Iu_13 Qu_13
    refine Hid.out ?_
    clear HK HX hL
    clear Ja_17
    clear Iu_17
    clear Qu_17
    obtain ⟨M1, D1, m1, HM1, HM2, HM3⟩ := mean_pack t1 z1 C1 HQ.out
    obtain ⟨bpl, bp0, bp1, _⟩ := Qp_17.out
    refine Lib.hid ?_
    go_wp2_with (first | (go_at_call 27; refine (HM1.out _ _ _ Ip_17.out).mono ?_; rintro e w18 ⟨rfl, hb18⟩; refine Hid.out ?_) | fail)
    clear bpl bp0 bp1
    have hz18 : w17.heap.size ≤ w18.heap.size := hb18.size
    have hB18 := hB17.trans (hb18.mono hB17.size)
    have Ip_18 := Lib.hid (Ip_17.out.kept hb18)
    have Qp_18 := Lib.hid (Qp_17.out.kept hb18)
    clear hB17 hb18 Ip_17 Qp_17
    obtain ⟨bpl, bp0, bp1, _⟩ := Qp_18.out
    refine Lib.hid ?_
    go_wp2_with (first | (go_at_call 26; refine (HM2.out _ _ _ Ip_18.out).mono ?_; rintro e w19 ⟨rfl, hb19⟩; refine Hid.out ?_) | fail)
    clear bpl bp0 bp1
    have hz19 : w18.heap.size ≤ w19.heap.size := hb19.size
    have hB19 := hB18.trans (hb19.mono hB18.size)
    have Ip_19 := Lib.hid (Ip_18.out.kept hb19)
    have Qp_19 := Lib.hid (Qp_18.out.kept hb19)
    clear hB18 hb19 Ip_18 Qp_18
    clear HM1 HM2
    obtain ⟨bpl, bp0, bp1, _⟩ := Qp_19.out
    refine Lib.hid ?_
    go_upto_region 29 with (fail)
    clear bpl bp0 bp1
    go_cut [219] (fun st wx => st = .bool false ∧ Hid (Below w19.heap.size w19 wx))
    case first => as_aux_lemma =>
      have hK19 := Below.refl w19.heap.size w19
      cases m1 with
      | false =>
        go_wp2_with fail
        go_meet
        exact ⟨rfl, Lib.hid hK19⟩
      | true =>
        obtain ⟨Z, hz1, hz2⟩ := HM3.out rfl
        go_wp2_with fail
        go_meet
        exact ⟨rfl, Lib.hid hK19⟩
    case rest => as_aux_lemma =>
      obtain ⟨rfl, hbc⟩ := hcut
      obtain ⟨w20, hwb⟩ : ∃ w20, w20 = wc := ⟨_, rfl⟩
      subst hwb
      have hb20 := hbc.out
      clear hbc
      have hz20 : w19.heap.size ≤ w20.heap.size := hb20.size
      have hB20 := hB19.trans (hb20.mono hB19.size)
      have Ip_20 := Lib.hid (Ip_19.out.kept hb20)
      have Qp_20 := Lib.hid (Qp_19.out.kept hb20)
      clear hB19 hb20 Ip_19 Qp_19
      refine Hid.out ?_
      clear HM3 HQ
      clear Ip_20
      clear Qp_20
      refine Lib.hid ?_
      go_wp2_with (first | (go_at_call 48; refine (dprog_any a n cap _ (HC.out.later hB20 (Nat.le_refl _)) hn).mono ?_; rintro e w21 ⟨t5, A6, c6, rfl, hf, hl, hb21⟩; refine Hid.out ?_) | fail)
      have hz21 : w20.heap.size ≤ w21.heap.size := hb21.size
      have hB21 := hB20.trans (hb21.mono hB20.size)
      clear hB20 hb21
      have hI : TAt w21 t5 A6 := ⟨TFr.at_ hf, by omega⟩
      clear hf hl
      have Iq_21 := Lib.hid hI
      clear hI
      have hb21b := alloc_below w21 (tb 29 t5 A6 c6)
      have Qn := B2.new w21 29 t5 A6 c6
      replace Qn := Lib.hid Qn
      have hz21b : w21.heap.size ≤ (w21.alloc (tb 29 t5 A6 c6)).heap.size := hb21b.size
      have hB21b := hB21.trans (hb21b.mono hB21.size)
      have Iq_21b := Lib.hid (Iq_21.out.kept hb21b)
      clear hB21 hb21b Iq_21
      have Qq_21b := Qn
      clear Qn
      obtain ⟨y5, g5, HP1, HP2⟩ := prog_pack t5
      obtain ⟨bql, bq0, bq1, _⟩ := Qq_21b.out
      refine Lib.hid ?_
      go_wp2_with (first | (go_at_call 29; refine (HP1.out _ _ _ Iq_21b.out).mono ?_; rintro e w22 ⟨rfl, hb22⟩; refine Hid.out ?_) | fail)
      clear bql bq0 bq1
      have hz22 : (w21.alloc (tb 29 t5 A6 c6)).heap.size ≤ w22.heap.size := hb22.size
      have hB22 := hB21b.trans (hb22.mono hB21b.size)
      have Iq_22 := Lib.hid (Iq_21b.out.kept hb22)
      have Qq_22 := Lib.hid (Qq_21b.out.kept hb22)
      clear hB21b hb22 Iq_21b Qq_21b
      obtain ⟨bql, bq0, bq1, _⟩ := Qq_22.out
      refine Lib.hid ?_
      go_wp2_with (first | (go_at_call 28; refine (HP2.out _ _ _ Iq_22.out).mono ?_; rintro e w23 ⟨rfl, hb23⟩; refine Hid.out ?_) | fail)
      clear bql bq0 bq1
      have hz23 : w22.heap.size ≤ w23.heap.size := hb23.size
      have hB23 := hB22.trans (hb23.mono hB22.size)
      have Iq_23 := Lib.hid (Iq_22.out.kept hb23)
      have Qq_23 := Lib.hid (Qq_22.out.kept hb23)
      clear hB22 hb23 Iq_22 Qq_22
      refine Lib.hid ?_
      cases y5 <;> cases g5
      all_goals
        go_wp2_with fail
        go_ret
        exact ⟨rfl, hB23⟩
end Go.Proofs.Ytidlpoambmeiiaa.S14
