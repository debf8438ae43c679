/- The walk of the law FnCheaper: contracts. Conditions: each theorem's own premises. -/
import Derived.Test.YtidlpoambmeiiaaTaPack
import Derived.Test.YtidlpoambmeiiaaTaDd
import Derived.Deep.DeepCutAuto
namespace Go.Proofs.Ytidlpoambmeiiaa.S14
open Go.RowKit P14
theorem w64 (x : Int) (h : -9000000000000000000 ≤ x ∧ x ≤ 9000000000000000000) : IntKind.i64.wrap x = x := IntWalk.i64_in _ (by omega)

set_option maxHeartbeats 4000000 in
set_option maxRecDepth 100000 in
theorem walkCheaper (a : Option Addr) (n cap : Nat) (w : World) (hc : S1.Cd w.heap.size a n w) :
    Calls Try.prog 14 #[.slice a n cap] w fun e w' => e = .returned (.bool true) ∧ Below w.heap.size w w' := by
  have HC := Lib.hid hc
  clear hc
  by_cases hbig : 65536 < n
  · have H := Lib.hid (fun w => rbig_yes a n cap w hbig)
    go_enter Try.func14, Try.ntmps14
    go_wp2_with (go_at_call 43; refine (H.out _).mono ?_; rintro e w1 ⟨rfl, rfl⟩)
    go_ret
    exact ⟨rfl, Below.refl _ _⟩
  have hn : n ≤ 65536 := by omega
  have HR := Lib.hid (fun w => rbig_below a n cap w hn)
  clear hbig
  go_enter Try.func14, Try.ntmps14
  have hB0 := Below.refl w.heap.size w
  refine Hid.out ?_
  refine Lib.hid ?_
  go_wp2_with (first | (go_at_call 43; refine (HR.out _).mono ?_; rintro e w1 ⟨rfl, hb1⟩; refine Hid.out ?_) | fail)
  have hz1 : w.heap.size ≤ w1.heap.size := hb1.size
  have hB1 := hB0.trans (hb1.mono hB0.size)
  clear hB0 hb1
  refine Lib.hid ?_
  go_wp2_with (first | (go_at_call 49; refine (dvol_any a n cap _ (HC.out.later hB1 (Nat.le_refl _)) hn).mono ?_; rintro e w2 ⟨t1, A1, c1, z1, rfl, hI, hb2⟩; refine Hid.out ?_) | fail)
  have hz2 : w1.heap.size ≤ w2.heap.size := hb2.size
  have hB2 := hB1.trans (hb2.mono hB1.size)
  clear hB1 hb2
  have Ip_2 := Lib.hid hI
  clear hI
  have hb2b := alloc_below w2 (tb 29 t1 A1 c1)
  have Qn := B2.new w2 29 t1 A1 c1
  replace Qn := Lib.hid Qn
  have hz2b : w2.heap.size ≤ (w2.alloc (tb 29 t1 A1 c1)).heap.size := hb2b.size
  have hB2b := hB2.trans (hb2b.mono hB2.size)
  have Ip_2b := Lib.hid (Ip_2.out.kept hb2b)
  clear hB2 hb2b Ip_2
  have Qp_2b := Qn
  clear Qn
  obtain ⟨v1, k1, C1, D1, o1, HI1, HS1, HX1⟩ := vol_pack t1 z1
  obtain ⟨bpl, bp0, bp1, _⟩ := Qp_2b.out
  refine Lib.hid ?_
  go_wp2_with (first | (go_at_call 25; refine (HI1.out _ _ _ Ip_2b.out).mono ?_; rintro e w3 ⟨rfl, hb3⟩; refine Hid.out ?_) | fail)
  clear bpl bp0 bp1
  have hz3 : (w2.alloc (tb 29 t1 A1 c1)).heap.size ≤ w3.heap.size := hb3.size
  have hB3 := hB2b.trans (hb3.mono hB2b.size)
  have Ip_3 := Lib.hid (Ip_2b.out.kept hb3)
  have Qp_3 := Lib.hid (Qp_2b.out.kept hb3)
  clear hB2b hb3 Ip_2b Qp_2b
  obtain ⟨bpl, bp0, bp1, _⟩ := Qp_3.out
  refine Lib.hid ?_
  go_wp2_with (first | (go_at_call 24; refine (HS1.out _ _ _ Ip_3.out).mono ?_; rintro e w4 ⟨rfl, hb4⟩; refine Hid.out ?_) | fail)
  clear bpl bp0 bp1
  have hz4 : w3.heap.size ≤ w4.heap.size := hb4.size
  have hB4 := hB3.trans (hb4.mono hB3.size)
  have Ip_4 := Lib.hid (Ip_3.out.kept hb4)
  have Qp_4 := Lib.hid (Qp_3.out.kept hb4)
  clear hB3 hb4 Ip_3 Qp_3
  clear HI1 HS1
  obtain ⟨bpl, bp0, bp1, _⟩ := Qp_4.out
  refine Lib.hid ?_
  go_upto_if 60 with (fail)
  clear bpl bp0 bp1
  go_cut [] (fun wx => Hid (Below w.heap.size w wx))
  case first => as_aux_lemma =>
    cases k1 with
    | false =>
      go_wp2_with fail
      go_meet
      exact Lib.hid hB4
    | true =>
      obtain ⟨HY1, HY2, hle, hlt, hv0, hv9⟩ := HX1.out rfl
      have HY3 := Lib.hid HY1
      have HY4 := Lib.hid HY2
      have HLT := Lib.hid hlt
      clear HX1 HY1 HY2 hlt
      have hle2 : ¬ z1 < C1 := by omega
      have hw1 : IntKind.i64.wrap (v1 + 1) = v1 + 1 := w64 _ (by omega)
      refine Hid.out ?_
      obtain ⟨bpl, bp0, bp1, _⟩ := Qp_4.out
      refine Lib.hid ?_
      go_wp2_with (first | (go_at_call 21; refine (HY3.out _ _ _ Ip_4.out).mono ?_; rintro e w5 ⟨rfl, hb5⟩; refine Hid.out ?_) | fail)
      clear bpl bp0 bp1
      have hz5 : w4.heap.size ≤ w5.heap.size := hb5.size
      have hB5 := hB4.trans (hb5.mono hB4.size)
      have Ip_5 := Lib.hid (Ip_4.out.kept hb5)
      have Qp_5 := Lib.hid (Qp_4.out.kept hb5)
      clear hB4 hb5 Ip_4 Qp_4
      obtain ⟨bpl, bp0, bp1, _⟩ := Qp_5.out
      refine Lib.hid ?_
      go_wp2_with (first | (go_at_call 21; refine (HY4.out _ _ _ Ip_5.out).mono ?_; rintro e w6 ⟨rfl, hb6⟩; refine Hid.out ?_) | fail)
      clear bpl bp0 bp1
      have hz6 : w5.heap.size ≤ w6.heap.size := hb6.size
      have hB6 := hB5.trans (hb6.mono hB5.size)
      have Ip_6 := Lib.hid (Ip_5.out.kept hb6)
      have Qp_6 := Lib.hid (Qp_5.out.kept hb6)
      clear hB5 hb6 Ip_5 Qp_5
      cases o1 with
      | false =>
        refine Lib.hid ?_
        obtain ⟨bpl, bp0, bp1, _⟩ := Qp_6.out
        go_wp2_with fail
        go_meet
        exact Lib.hid hB6
      | true =>
        have hlt := HLT.out rfl
        have hlt2 : ¬ D1 ≤ z1 := by omega
        refine Lib.hid ?_
        obtain ⟨bpl, bp0, bp1, _⟩ := Qp_6.out
        go_wp2_with fail
        go_meet
        exact Lib.hid hB6
  case rest => as_aux_lemma =>
    have hB7 := hcut.out
    clear hcut
    clear hB4 Ip_4 Qp_4
    obtain ⟨w7, hwb⟩ : ∃ w7, w7 = wc := ⟨_, rfl⟩
    subst hwb
    clear HX1
    refine Hid.out ?_
    refine Lib.hid ?_
    go_wp2_with (first | (go_at_call 50; refine (dcheap_any a n cap _ (HC.out.later hB7 (Nat.le_refl _)) hn).mono ?_; rintro e w8 ⟨t2, A2, c2, t3, A3, c3, rfl, hI, hI2, hb8⟩; refine Hid.out ?_) | fail)
    have hz8 : w7.heap.size ≤ w8.heap.size := hb8.size
    have hB8 := hB7.trans (hb8.mono hB7.size)
    clear hB7 hb8
    have Iq_8 := Lib.hid hI
    clear hI
    have Ir_8 := Lib.hid hI2
    clear hI2
    have hb8b := alloc_below w8 (tb 29 t2 A2 c2)
    have Qn := B2.new w8 29 t2 A2 c2
    replace Qn := Lib.hid Qn
    have hz8b : w8.heap.size ≤ (w8.alloc (tb 29 t2 A2 c2)).heap.size := hb8b.size
    have hB8b := hB8.trans (hb8b.mono hB8.size)
    have Iq_8b := Lib.hid (Iq_8.out.kept hb8b)
    have Ir_8b := Lib.hid (Ir_8.out.kept hb8b)
    clear hB8 hb8b Iq_8 Ir_8
    have Qq_8b := Qn
    clear Qn
    have hb8bb := alloc_below (w8.alloc (tb 29 t2 A2 c2)) (tb 29 t3 A3 c3)
    have Qn := B2.new (w8.alloc (tb 29 t2 A2 c2)) 29 t3 A3 c3
    rw [alloc_size] at Qn
    replace Qn := Lib.hid Qn
    have hz8bb : (w8.alloc (tb 29 t2 A2 c2)).heap.size ≤ ((w8.alloc (tb 29 t2 A2 c2)).alloc (tb 29 t3 A3 c3)).heap.size := hb8bb.size
    have hB8bb := hB8b.trans (hb8bb.mono hB8b.size)
    have Iq_8bb := Lib.hid (Iq_8b.out.kept hb8bb)
    have Ir_8bb := Lib.hid (Ir_8b.out.kept hb8bb)
    have Qq_8bb := Lib.hid (Qq_8b.out.kept hb8bb)
    clear hB8b hb8bb Iq_8b Ir_8b Qq_8b
    have Qr_8bb := Qn
    clear Qn
    obtain ⟨n2, k2, X2, Y2, U2, V2, HI2, HS2, HX2⟩ := cheap_pack t2 t3
    obtain ⟨bql, bq0, bq1, _⟩ := Qq_8bb.out
    obtain ⟨brl, br0, br1, _⟩ := Qr_8bb.out
    refine Lib.hid ?_
    go_wp2_with (first | (go_at_call 31; refine (HI2.out _ _ _ _ _ Iq_8bb.out Ir_8bb.out).mono ?_; rintro e w9 ⟨rfl, hb9⟩; refine Hid.out ?_) | fail)
    clear bql bq0 bq1 brl br0 br1
    have hz9 : ((w8.alloc (tb 29 t2 A2 c2)).alloc (tb 29 t3 A3 c3)).heap.size ≤ w9.heap.size := hb9.size
    have hB9 := hB8bb.trans (hb9.mono hB8bb.size)
    have Iq_9 := Lib.hid (Iq_8bb.out.kept hb9)
    have Ir_9 := Lib.hid (Ir_8bb.out.kept hb9)
    have Qq_9 := Lib.hid (Qq_8bb.out.kept hb9)
    have Qr_9 := Lib.hid (Qr_8bb.out.kept hb9)
    clear hB8bb hb9 Iq_8bb Ir_8bb Qq_8bb Qr_8bb
    obtain ⟨bql, bq0, bq1, _⟩ := Qq_9.out
    obtain ⟨brl, br0, br1, _⟩ := Qr_9.out
    refine Lib.hid ?_
    go_wp2_with (first | (go_at_call 30; refine (HS2.out _ _ _ _ _ Iq_9.out Ir_9.out).mono ?_; rintro e w10 ⟨rfl, hb10⟩; refine Hid.out ?_) | fail)
    clear bql bq0 bq1 brl br0 br1
    have hz10 : w9.heap.size ≤ w10.heap.size := hb10.size
    have hB10 := hB9.trans (hb10.mono hB9.size)
    have Iq_10 := Lib.hid (Iq_9.out.kept hb10)
    have Ir_10 := Lib.hid (Ir_9.out.kept hb10)
    have Qq_10 := Lib.hid (Qq_9.out.kept hb10)
    have Qr_10 := Lib.hid (Qr_9.out.kept hb10)
    clear hB9 hb10 Iq_9 Ir_9 Qq_9 Qr_9
    clear HI2 HS2
    obtain ⟨bql, bq0, bq1, _⟩ := Qq_10.out
    obtain ⟨brl, br0, br1, _⟩ := Qr_10.out
    refine Lib.hid ?_
    go_upto_if 112 with (fail)
    clear bql bq0 bq1 brl br0 br1
    go_cut [] (fun wx => Hid (Below w.heap.size w wx))
    case first => as_aux_lemma =>
      cases k2 with
      | false =>
        go_wp2_with fail
        go_meet
        exact Lib.hid hB10
      | true =>
        obtain ⟨HY1, HY2, hle, hn0, hn9, hx⟩ := HX2.out rfl
        have HY3 := Lib.hid HY1
        have HY4 := Lib.hid HY2
        have HX := Lib.hid hx
        clear HX2 HY1 HY2 hx
        have hle2 : ¬ X2 ≤ Y2 := by omega
        refine Hid.out ?_
        obtain ⟨bql, bq0, bq1, _⟩ := Qq_10.out
        obtain ⟨brl, br0, br1, _⟩ := Qr_10.out
        refine Lib.hid ?_
        go_wp2_with (first | (go_at_call 21; refine (HY3.out _ _ _ Iq_10.out).mono ?_; rintro e w11 ⟨rfl, hb11⟩; refine Hid.out ?_) | fail)
        clear bql bq0 bq1 brl br0 br1
        have hz11 : w10.heap.size ≤ w11.heap.size := hb11.size
        have hB11 := hB10.trans (hb11.mono hB10.size)
        have Iq_11 := Lib.hid (Iq_10.out.kept hb11)
        have Ir_11 := Lib.hid (Ir_10.out.kept hb11)
        have Qq_11 := Lib.hid (Qq_10.out.kept hb11)
        have Qr_11 := Lib.hid (Qr_10.out.kept hb11)
        clear hB10 hb11 Iq_10 Ir_10 Qq_10 Qr_10
        obtain ⟨bql, bq0, bq1, _⟩ := Qq_11.out
        obtain ⟨brl, br0, br1, _⟩ := Qr_11.out
        refine Lib.hid ?_
        go_wp2_with (first | (go_at_call 21; refine (HY4.out _ _ _ Ir_11.out).mono ?_; rintro e w12 ⟨rfl, hb12⟩; refine Hid.out ?_) | fail)
        clear bql bq0 bq1 brl br0 br1
        have hz12 : w11.heap.size ≤ w12.heap.size := hb12.size
        have hB12 := hB11.trans (hb12.mono hB11.size)
        have Iq_12 := Lib.hid (Iq_11.out.kept hb12)
        have Ir_12 := Lib.hid (Ir_11.out.kept hb12)
        have Qq_12 := Lib.hid (Qq_11.out.kept hb12)
        have Qr_12 := Lib.hid (Qr_11.out.kept hb12)
        clear hB11 hb12 Iq_11 Ir_11 Qq_11 Qr_11
        clear HY3 HY4
        by_cases h0 : 0 < n2
        case neg =>
          clear HX
          refine Lib.hid ?_
          obtain ⟨bql, bq0, bq1, _⟩ := Qq_12.out
          obtain ⟨brl, br0, br1, _⟩ := Qr_12.out
          go_wp2_with fail
          go_meet
          exact Lib.hid hB12
        case pos =>
          obtain ⟨HY1, HY2, hu⟩ := HX.out h0
          have HY3 := Lib.hid HY1
          have HY4 := Lib.hid HY2
          clear HX HY1 HY2
          have hu2 : ¬ V2 < U2 := by omega
          have hw1 : IntKind.i64.wrap (n2 - 1) = n2 - 1 := w64 _ (by omega)
          obtain ⟨bql, bq0, bq1, _⟩ := Qq_12.out
          obtain ⟨brl, br0, br1, _⟩ := Qr_12.out
          refine Lib.hid ?_
          go_wp2_with (first | (go_at_call 21; refine (HY3.out _ _ _ Iq_12.out).mono ?_; rintro e w13 ⟨rfl, hb13⟩; refine Hid.out ?_) | fail)
          clear bql bq0 bq1 brl br0 br1
          have hz13 : w12.heap.size ≤ w13.heap.size := hb13.size
          have hB13 := hB12.trans (hb13.mono hB12.size)
          have Iq_13 := Lib.hid (Iq_12.out.kept hb13)
          have Ir_13 := Lib.hid (Ir_12.out.kept hb13)
          have Qq_13 := Lib.hid (Qq_12.out.kept hb13)
          have Qr_13 := Lib.hid (Qr_12.out.kept hb13)
          clear hB12 hb13 Iq_12 Ir_12 Qq_12 Qr_12
          obtain ⟨bql, bq0, bq1, _⟩ := Qq_13.out
          obtain ⟨brl, br0, br1, _⟩ := Qr_13.out
          refine Lib.hid ?_
          go_wp2_with (first | (go_at_call 21; refine (HY4.out _ _ _ Ir_13.out).mono ?_; rintro e w14 ⟨rfl, hb14⟩; refine Hid.out ?_) | fail)
          clear bql bq0 bq1 brl br0 br1
          have hz14 : w13.heap.size ≤ w14.heap.size := hb14.size
          have hB14 := hB13.trans (hb14.mono hB13.size)
          have Iq_14 := Lib.hid (Iq_13.out.kept hb14)
          have Ir_14 := Lib.hid (Ir_13.out.kept hb14)
          have Qq_14 := Lib.hid (Qq_13.out.kept hb14)
          have Qr_14 := Lib.hid (Qr_13.out.kept hb14)
          clear hB13 hb14 Iq_13 Ir_13 Qq_13 Qr_13
          refine Lib.hid ?_
          obtain ⟨bql, bq0, bq1, _⟩ := Qq_14.out
          obtain ⟨brl, br0, br1, _⟩ := Qr_14.out
          go_wp2_with fail
          go_meet
          exact Lib.hid hB14
    case rest => as_aux_lemma =>
      have hB15 := hcut.out
      clear hcut
      clear hB10 Iq_10 Ir_10 Qq_10 Qr_10
      obtain ⟨w15, hwb⟩ : ∃ w15, w15 = wc := ⟨_, rfl⟩
      subst hwb
      clear HX2
      refine Hid.out ?_
      refine Lib.hid ?_
      go_wp2_with (first | (go_at_call 51; refine (draise_any a n cap _ (HC.out.later hB15 (Nat.le_refl _)) hn).mono ?_; rintro e w16 ⟨t4, A4, c4, z4, rfl, hI, hb16⟩; refine Hid.out ?_) | fail)
      have hz16 : w15.heap.size ≤ w16.heap.size := hb16.size
      have hB16 := hB15.trans (hb16.mono hB15.size)
      clear hB15 hb16
      have Is_16 := Lib.hid hI
      clear hI
      have hb16b := alloc_below w16 (tb 29 t4 A4 c4)
      have Qn := B2.new w16 29 t4 A4 c4
      replace Qn := Lib.hid Qn
      have hz16b : w16.heap.size ≤ (w16.alloc (tb 29 t4 A4 c4)).heap.size := hb16b.size
      have hB16b := hB16.trans (hb16b.mono hB16.size)
      have Is_16b := Lib.hid (Is_16.out.kept hb16b)
      clear hB16 hb16b Is_16
      have Qs_16b := Qn
      clear Qn
      obtain ⟨R4, k4, HI4, HS4, HX4⟩ := raise_pack t4 z4
      obtain ⟨bsl, bs0, bs1, _⟩ := Qs_16b.out
      refine Lib.hid ?_
      go_wp2_with (first | (go_at_call 39; refine (HI4.out _ _ _ Is_16b.out).mono ?_; rintro e w17 ⟨A5, c5, rfl, hI, hb17⟩; refine Hid.out ?_) | fail)
      clear bsl bs0 bs1
      have hz17 : (w16.alloc (tb 29 t4 A4 c4)).heap.size ≤ w17.heap.size := hb17.size
      have hB17 := hB16b.trans (hb17.mono hB16b.size)
      have Is_17 := Lib.hid (Is_16b.out.kept hb17)
      have Qs_17 := Lib.hid (Qs_16b.out.kept hb17)
      clear hB16b hb17 Is_16b Qs_16b
      have Iu_17 := Lib.hid hI
      clear hI
      have hb17b := alloc_below w17 (tb 29 R4 A5 c5)
      have Qn := B2.new w17 29 R4 A5 c5
      replace Qn := Lib.hid Qn
      have hz17b : w17.heap.size ≤ (w17.alloc (tb 29 R4 A5 c5)).heap.size := hb17b.size
      have hB17b := hB17.trans (hb17b.mono hB17.size)
      have Is_17b := Lib.hid (Is_17.out.kept hb17b)
      have Qs_17b := Lib.hid (Qs_17.out.kept hb17b)
      have Iu_17b := Lib.hid (Iu_17.out.kept hb17b)
      clear hB17 hb17b Is_17 Qs_17 Iu_17
      have Qu_17b := Qn
      clear Qn
      obtain ⟨bsl, bs0, bs1, _⟩ := Qs_17b.out
      obtain ⟨bul, bu0, bu1, _⟩ := Qu_17b.out
      refine Lib.hid ?_
      go_wp2_with (first | (go_at_call 38; refine (HS4.out _ _ _ Is_17b.out).mono ?_; rintro e w18 ⟨A6, c6, rfl, hI, hb18⟩; refine Hid.out ?_) | fail)
      clear bsl bs0 bs1 bul bu0 bu1
      have hz18 : (w17.alloc (tb 29 R4 A5 c5)).heap.size ≤ w18.heap.size := hb18.size
      have hB18 := hB17b.trans (hb18.mono hB17b.size)
      have Is_18 := Lib.hid (Is_17b.out.kept hb18)
      have Qs_18 := Lib.hid (Qs_17b.out.kept hb18)
      have Iu_18 := Lib.hid (Iu_17b.out.kept hb18)
      have Qu_18 := Lib.hid (Qu_17b.out.kept hb18)
      clear hB17b hb18 Is_17b Qs_17b Iu_17b Qu_17b
      have Iv_18 := Lib.hid hI
      clear hI
      have hb18b := alloc_below w18 (tb 29 R4 A6 c6)
      have Qn := B2.new w18 29 R4 A6 c6
      replace Qn := Lib.hid Qn
      have hz18b : w18.heap.size ≤ (w18.alloc (tb 29 R4 A6 c6)).heap.size := hb18b.size
      have hB18b := hB18.trans (hb18b.mono hB18.size)
      have Is_18b := Lib.hid (Is_18.out.kept hb18b)
      have Qs_18b := Lib.hid (Qs_18.out.kept hb18b)
      have Iu_18b := Lib.hid (Iu_18.out.kept hb18b)
      have Qu_18b := Lib.hid (Qu_18.out.kept hb18b)
      have Iv_18b := Lib.hid (Iv_18.out.kept hb18b)
      clear hB18 hb18b Is_18 Qs_18 Iu_18 Qu_18 Iv_18
      have Qv_18b := Qn
      clear Qn
      clear HI4 HS4
      cases k4 with
      | false =>
        obtain ⟨bsl, bs0, bs1, _⟩ := Qs_18b.out
        obtain ⟨bul, bu0, bu1, _⟩ := Qu_18b.out
        obtain ⟨bvl, bv0, bv1, _⟩ := Qv_18b.out
        refine Lib.hid ?_
        go_wp2_with (first | (go_at_call 46; refine (rtariffs_same R4 _ _ _ _ _ Iu_18b.out Iv_18b.out).mono ?_; rintro e w19 ⟨rfl, hb19⟩; refine Hid.out ?_) | fail)
        clear bsl bs0 bs1 bul bu0 bu1 bvl bv0 bv1
        have hz19 : (w18.alloc (tb 29 R4 A6 c6)).heap.size ≤ w19.heap.size := hb19.size
        have hB19 := hB18b.trans (hb19.mono hB18b.size)
        have Is_19 := Lib.hid (Is_18b.out.kept hb19)
        have Qs_19 := Lib.hid (Qs_18b.out.kept hb19)
        have Iu_19 := Lib.hid (Iu_18b.out.kept hb19)
        have Qu_19 := Lib.hid (Qu_18b.out.kept hb19)
        have Iv_19 := Lib.hid (Iv_18b.out.kept hb19)
        have Qv_19 := Lib.hid (Qv_18b.out.kept hb19)
        clear hB18b hb19 Is_18b Qs_18b Iu_18b Qu_18b Iv_18b Qv_18b
        refine Lib.hid ?_
        go_wp2_with fail
        go_ret
        exact ⟨rfl, hB19⟩
      | true =>
        have HV := Lib.hid (HX4.out rfl)
        clear HX4
        obtain ⟨bsl, bs0, bs1, _⟩ := Qs_18b.out
        obtain ⟨bul, bu0, bu1, _⟩ := Qu_18b.out
        obtain ⟨bvl, bv0, bv1, _⟩ := Qv_18b.out
        refine Lib.hid ?_
        go_wp2_with (first | (go_at_call 46; refine (rtariffs_same R4 _ _ _ _ _ Iu_18b.out Iv_18b.out).mono ?_; rintro e w20 ⟨rfl, hb20⟩; refine Hid.out ?_) | fail)
        clear bsl bs0 bs1 bul bu0 bu1 bvl bv0 bv1
        have hz20 : (w18.alloc (tb 29 R4 A6 c6)).heap.size ≤ w20.heap.size := hb20.size
        have hB20 := hB18b.trans (hb20.mono hB18b.size)
        have Is_20 := Lib.hid (Is_18b.out.kept hb20)
        have Qs_20 := Lib.hid (Qs_18b.out.kept hb20)
        have Iu_20 := Lib.hid (Iu_18b.out.kept hb20)
        have Qu_20 := Lib.hid (Qu_18b.out.kept hb20)
        have Iv_20 := Lib.hid (Iv_18b.out.kept hb20)
        have Qv_20 := Lib.hid (Qv_18b.out.kept hb20)
        clear hB18b hb20 Is_18b Qs_18b Iu_18b Qu_18b Iv_18b Qv_18b
        obtain ⟨bsl, bs0, bs1, _⟩ := Qs_20.out
        obtain ⟨bul, bu0, bu1, _⟩ := Qu_20.out
        obtain ⟨bvl, bv0, bv1, _⟩ := Qv_20.out
        refine Lib.hid ?_
        go_wp2_with (first | (go_at_call 18; refine (HV.out _ _ _ Iu_20.out).mono ?_; rintro e w21 ⟨rfl, hb21⟩; refine Hid.out ?_) | fail)
        clear bsl bs0 bs1 bul bu0 bu1 bvl bv0 bv1
        have hz21 : w20.heap.size ≤ w21.heap.size := hb21.size
        have hB21 := hB20.trans (hb21.mono hB20.size)
        have Is_21 := Lib.hid (Is_20.out.kept hb21)
        have Qs_21 := Lib.hid (Qs_20.out.kept hb21)
        have Iu_21 := Lib.hid (Iu_20.out.kept hb21)
        have Qu_21 := Lib.hid (Qu_20.out.kept hb21)
        have Iv_21 := Lib.hid (Iv_20.out.kept hb21)
        have Qv_21 := Lib.hid (Qv_20.out.kept hb21)
        clear hB20 hb21 Is_20 Qs_20 Iu_20 Qu_20 Iv_20 Qv_20
        refine Lib.hid ?_
        go_wp2_with fail
        go_ret
        exact ⟨rfl, hB21⟩
end Go.Proofs.Ytidlpoambmeiiaa.S14
