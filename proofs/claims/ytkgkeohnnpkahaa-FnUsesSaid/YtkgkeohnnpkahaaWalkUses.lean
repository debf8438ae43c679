/- The walk of the law FnUses: contracts. Conditions: each theorem's own premises. -/
import Derived.Test.YtkgkeohnnpkahaaPfPack2
import Derived.Test.YtkgkeohnnpkahaaPfDv
import Derived.Test.YtkgkeohnnpkahaaPfDm
import Derived.Deep.DeepCutAuto
namespace Go.Proofs.Ytkgkeohnnpkahaa.S6
open Go.RowKit P6

theorem prod_in {a b A B : Int} (h0 : 0 ≤ a) (h9 : a ≤ A) (s0 : 0 ≤ b) (s9 : b ≤ B) : 0 ≤ a * b ∧ a * b ≤ A * B := by
  refine ⟨Int.mul_nonneg h0 s0, ?_⟩
  exact Int.le_trans (Int.mul_le_mul_of_nonneg_right h9 s0) (Int.mul_le_mul_of_nonneg_left s9 (Int.le_trans h0 h9))
set_option maxHeartbeats 16000000 in
set_option maxRecDepth 100000 in
theorem walkUses (a : Option Addr) (n cap : Nat) (w : World) (hc : S1.Cd w.heap.size a n w) :
    Calls Try.prog 4 #[.slice a n cap] w fun e w' => e = .returned (.bool true) ∧ Below w.heap.size w w' := by
  have HC := Lib.hid hc
  clear hc
  by_cases hbig : 65536 < n
  · have H := Lib.hid (fun w => rbig_yes a n cap w hbig)
    go_enter Try.func4, Try.ntmps4
    go_wp2_with (go_at_call 15; refine (H.out _).mono ?_; rintro e w1 ⟨rfl, rfl⟩)
    go_ret
    exact ⟨rfl, Below.refl _ _⟩
  have hn : n ≤ 65536 := by omega
  have HR := Lib.hid (fun w => rbig_below a n cap w hn)
  clear hbig
  go_enter Try.func4, Try.ntmps4
  have hB0 := Below.refl w.heap.size w
  refine Hid.out ?_
  refine Lib.hid ?_
  go_wp2_with (first | (go_at_call 15; refine (HR.out _).mono ?_; rintro e w1 ⟨rfl, hb1⟩; refine Hid.out ?_) | fail)
  have hz1 := hb1.size
  have hB1 := on_base hB0 (by omega) hb1
  clear hB0 hb1
  refine Lib.hid ?_
  go_wp2_with (first | (go_at_call 31; refine (dvol_any a n cap _ (HC.out.later hB1 (Nat.le_refl _)) hn).mono ?_; rintro e w2 ⟨⟨b1, o1, c1, l1, y0, y1, y2, rfl, hl1, hI⟩, hb2⟩; refine Hid.out ?_) | fail)
  have hz2 := hb2.size
  have hB2 := on_base hB1 (by omega) hb2
  clear hB1 hb2
  have Ip_2 := Lib.hid hI
  clear hI
  obtain ⟨f1, s1, k1, HS1, HT1, HF1⟩ := vol_pack l1 y0 y1 y2 (by omega)
  have hb2a := alloc_below w2 (.cells #[.slice (some ⟨b1, o1, none⟩) l1.length c1] 26)
  have hz2a := alloc_size w2 (.cells #[.slice (some ⟨b1, o1, none⟩) l1.length c1] 26)
  have hz2a : w2.heap.size < (w2.alloc (.cells #[.slice (some ⟨b1, o1, none⟩) l1.length c1] 26)).heap.size := by omega
  have hB2a := on_base hB2 (by omega) hb2a
  have Ip_2a := Lib.hid (Ip_2.out.kept hb2a (Nat.le_refl _))
  refine Lib.hid ?_
  go_wp2_with (first | (go_at_call 32; refine (HS1.out _ _ _ Ip_2a.out).mono ?_; rintro e w3 ⟨rfl, hb3⟩; refine Hid.out ?_) | fail)
  replace hb3 : Below (w2.alloc (.cells #[.slice (some ⟨b1, o1, none⟩) l1.length c1] 26)).heap.size (w2.alloc (.cells #[.slice (some ⟨b1, o1, none⟩) l1.length c1] 26)) w3 := hb3
  have Cp_3 := (hb3.cell (p := ⟨w2.heap.size, 0, none⟩) (by dsimp only; omega)).trans (box_at (w := w2))
  have hz3 := hb3.size
  have hB3 := on_base hB2a (by omega) hb3
  have Ip_3 := Lib.hid (Ip_2a.out.kept hb3 (Nat.le_refl _))
  clear hB2a Ip_2a hb3
  clear hB2 Ip_2 hb2a
  refine Lib.hid ?_
  go_wp2_with (first | (go_at_call 33; refine (HT1.out _ _ _ Ip_3.out).mono ?_; rintro e w4 ⟨rfl, hb4⟩; refine Hid.out ?_) | fail)
  have hz4 := hb4.size
  have hB4 := on_base hB3 (by omega) hb4
  have Ip_4 := Lib.hid (Ip_3.out.kept hb4 (Nat.le_refl _))
  have Cp_4 := (hb4.cell (p := ⟨w2.heap.size, 0, none⟩) (by dsimp only; omega)).trans Cp_3
  clear hB3 Ip_3 Cp_3 hb4
  refine Lib.hid ?_
  go_upto_if 86 with (fail)
  go_cut [] (fun wx => Hid (Below w.heap.size w wx))
  case first =>
    cases k1 with
    | false =>
      go_wp2_with fail
      go_meet
      exact Lib.hid hB4
    | true =>
      obtain ⟨B, X, Y, q0, q1, q2, hB_, hX, hY, hg1, hf1, hs1⟩ := HF1.out rfl
      subst q0 q1 q2
      have hm := tmod_nat (X + Y) 24
      rw [Int.natCast_add, show ((24 : Nat) : Int) = 24 from rfl] at hm
      have hMl : (X + Y) % 24 < 24 := Nat.mod_lt _ (by omega)
      have hmw : IntKind.i64.wrap ((X : Int) + (Y : Int)) = (X : Int) + (Y : Int) := IntWalk.i64_in _ (by omega)
      obtain ⟨YY, hYY⟩ : ∃ YY : Nat, 24 - (Y : Int) = (YY : Int) := ⟨24 - Y, by omega⟩
      have hYe : 24 - Y = YY := by omega
      have hYw : IntKind.i64.wrap (24 - (Y : Int)) = (YY : Int) := by rw [hYY]; exact IntWalk.i64_in _ (by omega)
      have hpa := vol_parts hg1 B X Y hX hY
      have t1 := low_le (volN l1 B X Y) 100
      have t2 := low_le (volN l1 B ((X + Y) % 24) (24 - Y)) 100
      have t3 := lowD_pos (volN l1 B X Y) 100 (by omega)
      have t4 := lowD_pos (volN l1 B ((X + Y) % 24) (24 - Y)) 100 (by omega)
      have t5 := (vol_fit (b := B) hg1 X Y hB_ hY).1
      have t6 := (vol_fit (b := B) hg1 ((X + Y) % 24) (24 - Y) hB_ (by omega)).1
      have HV24 := Lib.hid (fun A c w (h : IAt w A l1) => vol_yes A c l1 B X 24 w h hg1 hB_ hX (Nat.le_refl _))
      rw [vol_day hg1 B X hX, (low_day B).1, (low_day B).2] at HV24
      have HV2 := Lib.hid (fun A c w (h : IAt w A l1) => vol_yes A c l1 B ((X + Y) % 24) (24 - Y) w h hg1 hB_ hMl (by omega))
      rw [hYe] at HV2 hpa t2 t4 t6
      rw [← hf1, ← hs1] at hpa
      rw [← hf1] at t1
      rw [← hs1] at t1 t3
      clear hf1 hs1 hYe HF1 HS1 HT1
      generalize lowN (volN l1 B ((X + Y) % 24) YY) 100 = f2 at *
      generalize lowD (volN l1 B ((X + Y) % 24) YY) 100 = s2 at *
      generalize volN l1 B ((X + Y) % 24) YY = v2 at *
      generalize volN l1 B X Y = v1 at *
      generalize (X + Y) % 24 = M at *
      have hM9 : IntKind.i64.wrap (M : Int) = (M : Int) := IntWalk.i64_in _ (by omega)
      have p0 : IntKind.i64.wrap (1440 * (B : Int)) = 1440 * (B : Int) := IntWalk.i64_in _ (by omega)
      have u1 := prod_in t1.1 (show f1 ≤ 600000000000 by omega) (Int.le_of_lt t4) (show s2 ≤ 100 by omega)
      have u2 := prod_in t2.1 (show f2 ≤ 600000000000 by omega) (Int.le_of_lt t3) (show s1 ≤ 100 by omega)
      have u3 := prod_in (show 0 ≤ 1440 * (B : Int) by omega) (show 1440 * (B : Int) ≤ 600000000000 by omega) (Int.le_of_lt t3) (show s1 ≤ 100 by omega)
      have u4 := prod_in u3.1 u3.2 (Int.le_of_lt t4) (show s2 ≤ 100 by omega)
      have p1 : IntKind.i64.wrap (f1 * s2) = f1 * s2 := IntWalk.i64_in _ (by omega)
      have p2 : IntKind.i64.wrap (f2 * s1) = f2 * s1 := IntWalk.i64_in _ (by omega)
      have p3 : IntKind.i64.wrap (f1 * s2 + f2 * s1) = f1 * s2 + f2 * s1 := IntWalk.i64_in _ (by omega)
      have p4 : IntKind.i64.wrap (1440 * (B : Int) * s1) = 1440 * (B : Int) * s1 := IntWalk.i64_in _ (by omega)
      have p5 : IntKind.i64.wrap (1440 * (B : Int) * s1 * s2) = 1440 * (B : Int) * s1 * s2 := IntWalk.i64_in _ (by omega)
      clear t1 t2 t3 t4 t5 t6 u1 u2 u3 u4 hg1
      refine Hid.out ?_
      refine Lib.hid ?_
      go_wp2_with (first | (go_at_call 32; refine (HV24.out _ _ _ Ip_4.out).mono ?_; rintro e w5 ⟨rfl, hb5⟩; refine Hid.out ?_) | fail)
      have hz5 := hb5.size
      have hB5 := on_base hB4 (by omega) hb5
      have Ip_5 := Lib.hid (Ip_4.out.kept hb5 (Nat.le_refl _))
      have Cp_5 := (hb5.cell (p := ⟨w2.heap.size, 0, none⟩) (by dsimp only; omega)).trans Cp_4
      clear hB4 Ip_4 Cp_4 hb5
      refine Lib.hid ?_
      go_wp2_with (first | (go_at_call 32; refine (HV2.out _ _ _ Ip_5.out).mono ?_; rintro e w6 ⟨rfl, hb6⟩; refine Hid.out ?_) | fail)
      have hz6 := hb6.size
      have hB6 := on_base hB5 (by omega) hb6
      have Ip_6 := Lib.hid (Ip_5.out.kept hb6 (Nat.le_refl _))
      have Cp_6 := (hb6.cell (p := ⟨w2.heap.size, 0, none⟩) (by dsimp only; omega)).trans Cp_5
      clear hB5 Ip_5 Cp_5 hb6
      refine Lib.hid ?_
      go_wp2_with fail
      go_meet
      exact Lib.hid hB6
  case rest =>
    have hB7 := hcut.out
    clear hcut
    clear hB4 Ip_4 Cp_4
    obtain ⟨w7, hwb⟩ : ∃ w7, w7 = wc := ⟨_, rfl⟩
    subst hwb
    clear HS1 HT1 HF1 hl1
    refine Hid.out ?_
    refine Lib.hid ?_
    go_wp2_with (first | (go_at_call 34; refine (dsto_any a n cap _ (HC.out.later hB7 (Nat.le_refl _)) hn).mono ?_; rintro e w8 ⟨⟨b2, o2, c2, l2, z2, rfl, hl2, hI⟩, hb8⟩; refine Hid.out ?_) | fail)
    have hz8 := hb8.size
    have hB8 := on_base hB7 (by omega) hb8
    clear hB7 hb8
    have Ip_8 := Lib.hid hI
    clear hI
    obtain ⟨f2, s2, k2, HS2, HT2, HF2⟩ := sto_pack l2 z2 (by omega)
    have hb8a := alloc_below w8 (.cells #[.slice (some ⟨b2, o2, none⟩) l2.length c2] 26)
    have hz8a := alloc_size w8 (.cells #[.slice (some ⟨b2, o2, none⟩) l2.length c2] 26)
    have hz8a : w8.heap.size < (w8.alloc (.cells #[.slice (some ⟨b2, o2, none⟩) l2.length c2] 26)).heap.size := by omega
    have hB8a := on_base hB8 (by omega) hb8a
    have Ip_8a := Lib.hid (Ip_8.out.kept hb8a (Nat.le_refl _))
    refine Lib.hid ?_
    go_wp2_with (first | (go_at_call 35; refine (HS2.out _ _ _ Ip_8a.out).mono ?_; rintro e w9 ⟨rfl, hb9⟩; refine Hid.out ?_) | fail)
    replace hb9 : Below (w8.alloc (.cells #[.slice (some ⟨b2, o2, none⟩) l2.length c2] 26)).heap.size (w8.alloc (.cells #[.slice (some ⟨b2, o2, none⟩) l2.length c2] 26)) w9 := hb9
    have Cp_9 := (hb9.cell (p := ⟨w8.heap.size, 0, none⟩) (by dsimp only; omega)).trans (box_at (w := w8))
    have hz9 := hb9.size
    have hB9 := on_base hB8a (by omega) hb9
    have Ip_9 := Lib.hid (Ip_8a.out.kept hb9 (Nat.le_refl _))
    clear hB8a Ip_8a hb9
    clear hB8 Ip_8 hb8a
    refine Lib.hid ?_
    go_wp2_with (first | (go_at_call 36; refine (HT2.out _ _ _ Ip_9.out).mono ?_; rintro e w10 ⟨rfl, hb10⟩; refine Hid.out ?_) | fail)
    have hz10 := hb10.size
    have hB10 := on_base hB9 (by omega) hb10
    have Ip_10 := Lib.hid (Ip_9.out.kept hb10 (Nat.le_refl _))
    have Cp_10 := (hb10.cell (p := ⟨w8.heap.size, 0, none⟩) (by dsimp only; omega)).trans Cp_9
    clear hB9 Ip_9 Cp_9 hb10
    clear Ip_10
    clear Cp_10
    refine Lib.hid ?_
    go_upto_if 171 with (fail)
    go_cut [] (fun wx => Hid (Below w.heap.size w wx))
    case first =>
      cases k2 with
      | false =>
        go_wp2_with fail
        go_meet
        exact Lib.hid hB10
      | true =>
        obtain ⟨hx0, B, q0, hB_⟩ := HF2.out rfl
        subst q0
        have HFl := Lib.hid (fun w => flat_any w)
        have HSf := Lib.hid (fun A c w (h : IAt w A flatL) => sto_flat_any A c B hB_ w h)
        generalize lowD 0 100 = d0 at *
        clear HF2 HS2 HT2
        refine Hid.out ?_
        refine Lib.hid ?_
        go_wp2_with (first | (go_at_call 30; refine (HFl.out _).mono ?_; rintro e w11 ⟨gf, cf, rfl, _, hI, hb11⟩; refine Hid.out ?_) | fail)
        have hz11 := hb11.size
        have hB11 := on_base hB10 (by omega) hb11
        clear hB10 hb11
        have If_11 := Lib.hid hI.iat
        clear hI
        refine Lib.hid ?_
        go_wp2_with (first | (go_at_call 35; refine (HSf.out _ _ _ If_11.out).mono ?_; rintro e w12 ⟨rfl, hb12⟩; refine Hid.out ?_) | fail)
        have hz12 := hb12.size
        have hB12 := on_base hB11 (by omega) hb12
        have If_12 := Lib.hid (If_11.out.kept hb12 (Nat.le_refl _))
        clear hB11 If_11 hb12
        refine Lib.hid ?_
        go_wp2_with fail
        go_meet
        exact Lib.hid hB12
    case rest =>
      have hB13 := hcut.out
      clear hcut
      clear hB10
      obtain ⟨w13, hwb⟩ : ∃ w13, w13 = wc := ⟨_, rfl⟩
      subst hwb
      clear HS2 HT2 HF2 hl2
      refine Hid.out ?_
      refine Lib.hid ?_
      go_wp2_with (first | (go_at_call 37; refine (dmix_any a n cap _ (HC.out.later hB13 (Nat.le_refl _)) hn).mono ?_; rintro e w14 ⟨⟨b3, o3, c3, l3, b4, o4, c4, l4, z3, rfl, hl3, hl4, hI, hJ⟩, hb14⟩; refine Hid.out ?_) | fail)
      have hz14 := hb14.size
      have hB14 := on_base hB13 (by omega) hb14
      clear hB13 hb14
      have Ip_14 := Lib.hid hI
      clear hI
      have Ir_14 := Lib.hid hJ
      clear hJ
      obtain ⟨L3, k3, HS3, HT3, hL3, HF3⟩ := mix_pack l3 l4 z3 (by omega) (by omega)
      have hb14a := two_below w14 (.cells #[.slice (some ⟨b3, o3, none⟩) l3.length c3] 26) (.cells #[.slice (some ⟨b4, o4, none⟩) l4.length c4] 26)
      have hz14a : w14.heap.size + 2 ≤ ((w14.alloc (.cells #[.slice (some ⟨b3, o3, none⟩) l3.length c3] 26)).alloc (.cells #[.slice (some ⟨b4, o4, none⟩) l4.length c4] 26)).heap.size := by simp
      have hB14a := on_base hB14 (by omega) hb14a
      have Ip_14a := Lib.hid (Ip_14.out.kept hb14a (Nat.le_refl _))
      have Ir_14a := Lib.hid (Ir_14.out.kept hb14a (Nat.le_refl _))
      refine Lib.hid ?_
      go_wp2_with (first | (go_at_call 38; refine (HS3.out _ _ _ _ _ Ip_14a.out Ir_14a.out).mono ?_; rintro e w15 ⟨Aq, cq, rfl, hI, hb15⟩; refine Hid.out ?_) | fail)
      replace hb15 : Below ((w14.alloc (.cells #[.slice (some ⟨b3, o3, none⟩) l3.length c3] 26)).alloc (.cells #[.slice (some ⟨b4, o4, none⟩) l4.length c4] 26)).heap.size ((w14.alloc (.cells #[.slice (some ⟨b3, o3, none⟩) l3.length c3] 26)).alloc (.cells #[.slice (some ⟨b4, o4, none⟩) l4.length c4] 26)) w15 := hb15
      obtain ⟨_, Cp_15, Cr_15, _, hzz15⟩ := two_cells hb15
      have hz15 := hb15.size
      have hB15 := on_base hB14a (by omega) hb15
      have Ip_15 := Lib.hid (Ip_14a.out.kept hb15 (Nat.le_refl _))
      have Ir_15 := Lib.hid (Ir_14a.out.kept hb15 (Nat.le_refl _))
      clear hB14a Ip_14a Ir_14a hb15
      clear hB14 hb14a Ip_14 Ir_14
      have Iq_15 := Lib.hid hI
      clear hI
      refine Lib.hid ?_
      go_wp2_with (first | (go_at_call 39; refine (HT3.out _ _ _ _ _ Ip_15.out Ir_15.out).mono ?_; rintro e w16 ⟨At, ct, rfl, hI, hb16⟩; refine Hid.out ?_) | fail)
      have hz16 := hb16.size
      have hB16 := on_base hB15 (by omega) hb16
      have Ip_16 := Lib.hid (Ip_15.out.kept hb16 (Nat.le_refl _))
      have Ir_16 := Lib.hid (Ir_15.out.kept hb16 (Nat.le_refl _))
      have Cp_16 := (hb16.cell (p := ⟨w14.heap.size, 0, none⟩) (by dsimp only; omega)).trans Cp_15
      have Cr_16 := (hb16.cell (p := ⟨w14.heap.size + 1, 0, none⟩) (by dsimp only; omega)).trans Cr_15
      have Iq_16 := Lib.hid (Iq_15.out.kept hb16 (Nat.le_refl _))
      clear hB15 Ip_15 Ir_15 Cp_15 Cr_15 Iq_15 hb16
      have It_16 := Lib.hid hI
      clear hI
      refine Lib.hid ?_
      go_wp2_with (first | (go_at_call 19; refine (rints_same _ _ _ _ L3 _ Iq_16.out It_16.out (by omega)).mono ?_; rintro e w17 ⟨rfl, hb17⟩; refine Hid.out ?_) | fail)
      have hz17 := hb17.size
      have hB17 := on_base hB16 (by omega) hb17
      have Ip_17 := Lib.hid (Ip_16.out.kept hb17 (Nat.le_refl _))
      have Ir_17 := Lib.hid (Ir_16.out.kept hb17 (Nat.le_refl _))
      have Cp_17 := (hb17.cell (p := ⟨w14.heap.size, 0, none⟩) (by dsimp only; omega)).trans Cp_16
      have Cr_17 := (hb17.cell (p := ⟨w14.heap.size + 1, 0, none⟩) (by dsimp only; omega)).trans Cr_16
      have Iq_17 := Lib.hid (Iq_16.out.kept hb17 (Nat.le_refl _))
      have It_17 := Lib.hid (It_16.out.kept hb17 (Nat.le_refl _))
      clear hB16 Ip_16 Ir_16 Cp_16 Cr_16 Iq_16 It_16 hb17
      clear It_17
      clear Ip_17
      clear Cp_17
      clear Ir_17
      clear Cr_17
      refine Lib.hid ?_
      go_upto_region 27 with (fail)
      go_cut [223] (fun t wx => t = .bool false ∧ Hid (Below w.heap.size w wx))
      case first =>
        cases k3 with
        | false =>
          go_wp2_with fail
          go_meet
          exact ⟨rfl, Lib.hid hB17⟩
        | true =>
          obtain ⟨hl, hbd, hsm⟩ := HF3.out rfl
          have HSu := Lib.hid (fun A c w (h : IAt w A L3) => rsum_any A c L3.length L3 w h rfl hl hbd)
          rw [hsm] at HSu
          clear HF3 HS3 HT3 hl hbd hsm
          refine Hid.out ?_
          refine Lib.hid ?_
          go_wp2_with (first | (go_at_call 40; refine (HSu.out _ _ _ Iq_17.out).mono ?_; rintro e w18 ⟨rfl, hb18⟩; refine Hid.out ?_) | fail)
          have hz18 := hb18.size
          have hB18 := on_base hB17 (by omega) hb18
          have Iq_18 := Lib.hid (Iq_17.out.kept hb18 (Nat.le_refl _))
          clear hB17 Iq_17 hb18
          refine Lib.hid ?_
          go_wp2_with fail
          go_meet
          exact ⟨rfl, Lib.hid hB18⟩
      case rest =>
        obtain ⟨rfl, hcut⟩ := hcut
        have hB19 := hcut.out
        clear hcut
        clear hB17 Iq_17
        obtain ⟨w19, hwb⟩ : ∃ w19, w19 = wc := ⟨_, rfl⟩
        subst hwb
        clear HS3 HT3 HF3 hL3 hl3 hl4
        refine Hid.out ?_
        refine Lib.hid ?_
        go_wp2_with (first | (go_at_call 41; refine (duse_any a n cap _ (HC.out.later hB19 (Nat.le_refl _)) hn).mono ?_; rintro e w20 ⟨⟨b5, o5, c5, l5, z5, z6, rfl, hl5, hI⟩, hb20⟩; refine Hid.out ?_) | fail)
        have hz20 := hb20.size
        have hB20 := on_base hB19 (by omega) hb20
        clear hB19 hb20
        have Ip_20 := Lib.hid hI
        clear hI
        obtain ⟨f5, s5, k5, HS5, HT5⟩ := use_pack l5 z5 z6 (by omega)
        have hb20a := alloc_below w20 (.cells #[.slice (some ⟨b5, o5, none⟩) l5.length c5] 26)
        have hz20a := alloc_size w20 (.cells #[.slice (some ⟨b5, o5, none⟩) l5.length c5] 26)
        have hz20a : w20.heap.size < (w20.alloc (.cells #[.slice (some ⟨b5, o5, none⟩) l5.length c5] 26)).heap.size := by omega
        have hB20a := on_base hB20 (by omega) hb20a
        have Ip_20a := Lib.hid (Ip_20.out.kept hb20a (Nat.le_refl _))
        refine Lib.hid ?_
        go_wp2_with (first | (go_at_call 42; refine (HS5.out _ _ _ Ip_20a.out).mono ?_; rintro e w21 ⟨rfl, hb21⟩; refine Hid.out ?_) | fail)
        replace hb21 : Below (w20.alloc (.cells #[.slice (some ⟨b5, o5, none⟩) l5.length c5] 26)).heap.size (w20.alloc (.cells #[.slice (some ⟨b5, o5, none⟩) l5.length c5] 26)) w21 := hb21
        have Cp_21 := (hb21.cell (p := ⟨w20.heap.size, 0, none⟩) (by dsimp only; omega)).trans (box_at (w := w20))
        have hz21 := hb21.size
        have hB21 := on_base hB20a (by omega) hb21
        have Ip_21 := Lib.hid (Ip_20a.out.kept hb21 (Nat.le_refl _))
        clear hB20a Ip_20a hb21
        clear hB20 Ip_20 hb20a
        refine Lib.hid ?_
        go_wp2_with (first | (go_at_call 43; refine (HT5.out _ _ _ Ip_21.out).mono ?_; rintro e w22 ⟨rfl, hb22⟩; refine Hid.out ?_) | fail)
        have hz22 := hb22.size
        have hB22 := on_base hB21 (by omega) hb22
        have Ip_22 := Lib.hid (Ip_21.out.kept hb22 (Nat.le_refl _))
        have Cp_22 := (hb22.cell (p := ⟨w20.heap.size, 0, none⟩) (by dsimp only; omega)).trans Cp_21
        clear hB21 Ip_21 Cp_21 hb22
        refine Lib.hid ?_
        go_wp2_with fail
        go_ret
        exact ⟨by simp, hB22⟩
end Go.Proofs.Ytkgkeohnnpkahaa.S6
