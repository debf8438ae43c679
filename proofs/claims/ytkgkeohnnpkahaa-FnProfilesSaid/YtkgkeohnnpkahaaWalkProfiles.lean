/- The walk of the law FnProfiles: contracts. Conditions: each theorem's own premises. -/
import Derived.Test.YtkgkeohnnpkahaaPfPack
import Derived.Deep.DeepCutAuto
namespace Go.Proofs.Ytkgkeohnnpkahaa.S6
open Go.RowKit P6

set_option maxHeartbeats 16000000 in
set_option maxRecDepth 100000 in
theorem walkProfiles (a : Option Addr) (n cap : Nat) (w : World) (hc : S1.Cd w.heap.size a n w) :
    Calls Try.prog 3 #[.slice a n cap] w fun e w' => e = .returned (.bool true) ∧ Below w.heap.size w w' := by
  have HC := Lib.hid hc
  clear hc
  by_cases hbig : 65536 < n
  · have H := Lib.hid (fun w => rbig_yes a n cap w hbig)
    go_enter Try.func3, Try.ntmps3
    go_wp2_with (go_at_call 15; refine (H.out _).mono ?_; rintro e w1 ⟨rfl, rfl⟩)
    go_ret
    exact ⟨rfl, Below.refl _ _⟩
  have hn : n ≤ 65536 := by omega
  have HR := Lib.hid (fun w => rbig_below a n cap w hn)
  clear hbig
  go_enter Try.func3, Try.ntmps3
  have hB0 := Below.refl w.heap.size w
  refine Hid.out ?_
  refine Lib.hid ?_
  go_wp2_with (first | (go_at_call 15; refine (HR.out _).mono ?_; rintro e w1 ⟨rfl, hb1⟩; refine Hid.out ?_) | fail)
  have hz1 := hb1.size
  have hB1 := on_base hB0 (by omega) hb1
  clear hB0 hb1
  refine Lib.hid ?_
  go_wp2_with (first | (go_at_call 16; refine (dshift_any a n cap _ (HC.out.later hB1 (Nat.le_refl _)) hn).mono ?_; rintro e w2 ⟨⟨b1, o1, c1, l1, z1, rfl, hl1, hI⟩, hb2⟩; refine Hid.out ?_) | fail)
  have hz2 := hb2.size
  have hB2 := on_base hB1 (by omega) hb2
  clear hB1 hb2
  have Ip_2 := Lib.hid hI
  clear hI
  obtain ⟨L1, k1, HS1, HT1, hL1, HF1⟩ := shift_pack l1 z1 (by omega)
  have hb2a := alloc_below w2 (.cells #[.slice (some ⟨b1, o1, none⟩) l1.length c1] 26)
  have hz2a := alloc_size w2 (.cells #[.slice (some ⟨b1, o1, none⟩) l1.length c1] 26)
  have hz2a : w2.heap.size < (w2.alloc (.cells #[.slice (some ⟨b1, o1, none⟩) l1.length c1] 26)).heap.size := by omega
  have hB2a := on_base hB2 (by omega) hb2a
  have Ip_2a := Lib.hid (Ip_2.out.kept hb2a (Nat.le_refl _))
  refine Lib.hid ?_
  go_wp2_with (first | (go_at_call 17; refine (HS1.out _ _ _ Ip_2a.out).mono ?_; rintro e w3 ⟨Aq, cq, rfl, hI, hb3⟩; refine Hid.out ?_) | fail)
  replace hb3 : Below (w2.alloc (.cells #[.slice (some ⟨b1, o1, none⟩) l1.length c1] 26)).heap.size (w2.alloc (.cells #[.slice (some ⟨b1, o1, none⟩) l1.length c1] 26)) w3 := hb3
  have Cp_3 := (hb3.cell (p := ⟨w2.heap.size, 0, none⟩) (by dsimp only; omega)).trans (box_at (w := w2))
  have hz3 := hb3.size
  have hB3 := on_base hB2a (by omega) hb3
  have Ip_3 := Lib.hid (Ip_2a.out.kept hb3 (Nat.le_refl _))
  clear hB2a Ip_2a hb3
  clear hB2 Ip_2 hb2a
  have Iq_3 := Lib.hid hI
  clear hI
  have hb3a := alloc_below w3 (.cells #[.slice Aq L1.length cq] 26)
  have hz3a := alloc_size w3 (.cells #[.slice Aq L1.length cq] 26)
  have hz3a : w3.heap.size < (w3.alloc (.cells #[.slice Aq L1.length cq] 26)).heap.size := by omega
  have hB3a := on_base hB3 (by omega) hb3a
  have Ip_3a := Lib.hid (Ip_3.out.kept hb3a (Nat.le_refl _))
  have Cp_3a := Lib.hid ((hb3a.cell (p := ⟨w2.heap.size, 0, none⟩) (by dsimp only; omega)).trans Cp_3)
  have Iq_3a := Lib.hid (Iq_3.out.kept hb3a (Nat.le_refl _))
  have hqp : w2.heap.size < w3.heap.size := by omega
  refine Lib.hid ?_
  go_wp2_with (first | (go_at_call 18; refine (HT1.out _ _ _ Ip_3a.out).mono ?_; rintro e w4 ⟨At, ct, rfl, hI, hb4⟩; refine Hid.out ?_) | fail)
  replace hb4 : Below (w3.alloc (.cells #[.slice Aq L1.length cq] 26)).heap.size (w3.alloc (.cells #[.slice Aq L1.length cq] 26)) w4 := hb4
  have Cq_4 := (hb4.cell (p := ⟨w3.heap.size, 0, none⟩) (by dsimp only; omega)).trans (box_at (w := w3))
  have hz4 := hb4.size
  have hB4 := on_base hB3a (by omega) hb4
  have Ip_4 := Lib.hid (Ip_3a.out.kept hb4 (Nat.le_refl _))
  have Cp_4 := (hb4.cell (p := ⟨w2.heap.size, 0, none⟩) (by dsimp only; omega)).trans Cp_3a.out
  have Iq_4 := Lib.hid (Iq_3a.out.kept hb4 (Nat.le_refl _))
  clear hB3a Ip_3a Cp_3a Iq_3a hb4
  clear hB3 Ip_3 Cp_3 Iq_3 hqp hb3a
  have It_4 := Lib.hid hI
  clear hI
  have hb4a := alloc_below w4 (.cells #[.slice At L1.length ct] 26)
  have hz4a := alloc_size w4 (.cells #[.slice At L1.length ct] 26)
  have hz4a : w4.heap.size < (w4.alloc (.cells #[.slice At L1.length ct] 26)).heap.size := by omega
  have hB4a := on_base hB4 (by omega) hb4a
  have Ip_4a := Lib.hid (Ip_4.out.kept hb4a (Nat.le_refl _))
  have Cp_4a := Lib.hid ((hb4a.cell (p := ⟨w2.heap.size, 0, none⟩) (by dsimp only; omega)).trans Cp_4)
  have Iq_4a := Lib.hid (Iq_4.out.kept hb4a (Nat.le_refl _))
  have Cq_4a := Lib.hid ((hb4a.cell (p := ⟨w3.heap.size, 0, none⟩) (by dsimp only; omega)).trans Cq_4)
  have It_4a := Lib.hid (It_4.out.kept hb4a (Nat.le_refl _))
  have hqp : w2.heap.size < w4.heap.size := by omega
  have hqq : w3.heap.size < w4.heap.size := by omega
  refine Lib.hid ?_
  go_wp2_with (first | (go_at_call 19; refine (rints_same _ _ _ _ L1 _ Iq_4a.out It_4a.out (by omega)).mono ?_; rintro e w5 ⟨rfl, hb5⟩; refine Hid.out ?_) | fail)
  replace hb5 : Below (w4.alloc (.cells #[.slice At L1.length ct] 26)).heap.size (w4.alloc (.cells #[.slice At L1.length ct] 26)) w5 := hb5
  have Ct_5 := (hb5.cell (p := ⟨w4.heap.size, 0, none⟩) (by dsimp only; omega)).trans (box_at (w := w4))
  have hz5 := hb5.size
  have hB5 := on_base hB4a (by omega) hb5
  have Ip_5 := Lib.hid (Ip_4a.out.kept hb5 (Nat.le_refl _))
  have Cp_5 := (hb5.cell (p := ⟨w2.heap.size, 0, none⟩) (by dsimp only; omega)).trans Cp_4a.out
  have Iq_5 := Lib.hid (Iq_4a.out.kept hb5 (Nat.le_refl _))
  have Cq_5 := (hb5.cell (p := ⟨w3.heap.size, 0, none⟩) (by dsimp only; omega)).trans Cq_4a.out
  have It_5 := Lib.hid (It_4a.out.kept hb5 (Nat.le_refl _))
  clear hB4a Ip_4a Cp_4a Iq_4a Cq_4a It_4a hb5
  clear hB4 Ip_4 Cp_4 Iq_4 Cq_4 It_4 hqp hqq hb4a
  clear It_5
  clear Ct_5
  refine Lib.hid ?_
  go_upto_if 71 with (fail)
  go_cut [] (fun wx => Hid (Below w.heap.size w wx))
  case first =>
    cases k1 with
    | false =>
      go_wp2_with fail
      go_meet
      exact Lib.hid hB5
    | true =>
      obtain ⟨Z, hz1, hZ, hg1, hLZ⟩ := HF1.out rfl
      subst hz1
      have hm := tmod_nat (24 - Z) 24
      rw [show ((24 - Z : Nat) : Int) = 24 - (Z : Int) by omega, show ((24 : Nat) : Int) = 24 from rfl] at hm
      have hmw : IntKind.i64.wrap (24 - (Z : Int)) = 24 - (Z : Int) := IntWalk.i64_in _ (by omega)
      have hG1 : Gd L1 := by rw [hLZ]; exact shL_gd hg1 Z hZ
      have hbk : shL L1 ((24 - Z) % 24) = l1 := by rw [hLZ]; exact shL_back hg1 Z hZ
      have hpe : at0 L1 (pk L1 24) = at0 l1 (pk l1 24) := by rw [hLZ]; exact shL_peak Z hZ
      have HB1 := Lib.hid (fun A c w (h : IAt w A L1) => shf_yes A c L1 ((24 - Z) % 24) w h hG1 (Nat.mod_lt _ (by omega)))
      rw [hbk] at HB1
      have HP1 := Lib.hid (fun A c w (h : IAt w A l1) => peak_yes A c l1 w h hg1)
      have HP2 := Lib.hid (fun A c w (h : IAt w A L1) => peak_yes A c L1 w h hG1)
      rw [hpe] at HP2
      have HV1 := Lib.hid (fun A c w (h : IAt w A L1) => valid_v (gd_mk hG1) A c w h (by rw [hG1.1]; omega))
      generalize at0 l1 (pk l1 24) = P at *
      have hMl : (24 - Z) % 24 < 24 := Nat.mod_lt _ (by omega)
      generalize (24 - Z) % 24 = M at *
      have hM9 : IntKind.i64.wrap (M : Int) = (M : Int) := IntWalk.i64_in _ (by omega)
      clear HF1 hg1 hLZ hG1 hbk hpe HS1 HT1
      refine Hid.out ?_
      refine Lib.hid ?_
      go_wp2_with (first | (go_at_call 17; refine (HB1.out _ _ _ Iq_5.out).mono ?_; rintro e w6 ⟨gb, cb, rfl, _, hI, hb6⟩; refine Hid.out ?_) | fail)
      have hz6 := hb6.size
      have hB6 := on_base hB5 (by omega) hb6
      have Ip_6 := Lib.hid (Ip_5.out.kept hb6 (Nat.le_refl _))
      have Cp_6 := (hb6.cell (p := ⟨w2.heap.size, 0, none⟩) (by dsimp only; omega)).trans Cp_5
      have Iq_6 := Lib.hid (Iq_5.out.kept hb6 (Nat.le_refl _))
      have Cq_6 := (hb6.cell (p := ⟨w3.heap.size, 0, none⟩) (by dsimp only; omega)).trans Cq_5
      clear hB5 Ip_5 Cp_5 Iq_5 Cq_5 hb6
      have Ib_6 := Lib.hid hI.iat
      clear hI
      have hb6a := alloc_below w6 (.cells #[.slice (some ⟨gb, 0, none⟩) l1.length cb] 26)
      have hz6a := alloc_size w6 (.cells #[.slice (some ⟨gb, 0, none⟩) l1.length cb] 26)
      have hz6a : w6.heap.size < (w6.alloc (.cells #[.slice (some ⟨gb, 0, none⟩) l1.length cb] 26)).heap.size := by omega
      have hB6a := on_base hB6 (by omega) hb6a
      have Ip_6a := Lib.hid (Ip_6.out.kept hb6a (Nat.le_refl _))
      have Cp_6a := Lib.hid ((hb6a.cell (p := ⟨w2.heap.size, 0, none⟩) (by dsimp only; omega)).trans Cp_6)
      have Iq_6a := Lib.hid (Iq_6.out.kept hb6a (Nat.le_refl _))
      have Cq_6a := Lib.hid ((hb6a.cell (p := ⟨w3.heap.size, 0, none⟩) (by dsimp only; omega)).trans Cq_6)
      have Ib_6a := Lib.hid (Ib_6.out.kept hb6a (Nat.le_refl _))
      have hqp : w2.heap.size < w6.heap.size := by omega
      have hqq : w3.heap.size < w6.heap.size := by omega
      refine Lib.hid ?_
      go_wp2_with (first | (go_at_call 20; refine (HP1.out _ _ _ Ip_6a.out).mono ?_; rintro e w7 ⟨rfl, hb7⟩; refine Hid.out ?_) | fail)
      replace hb7 : Below (w6.alloc (.cells #[.slice (some ⟨gb, 0, none⟩) l1.length cb] 26)).heap.size (w6.alloc (.cells #[.slice (some ⟨gb, 0, none⟩) l1.length cb] 26)) w7 := hb7
      have Cb_7 := (hb7.cell (p := ⟨w6.heap.size, 0, none⟩) (by dsimp only; omega)).trans (box_at (w := w6))
      have hz7 := hb7.size
      have hB7 := on_base hB6a (by omega) hb7
      have Ip_7 := Lib.hid (Ip_6a.out.kept hb7 (Nat.le_refl _))
      have Cp_7 := (hb7.cell (p := ⟨w2.heap.size, 0, none⟩) (by dsimp only; omega)).trans Cp_6a.out
      have Iq_7 := Lib.hid (Iq_6a.out.kept hb7 (Nat.le_refl _))
      have Cq_7 := (hb7.cell (p := ⟨w3.heap.size, 0, none⟩) (by dsimp only; omega)).trans Cq_6a.out
      have Ib_7 := Lib.hid (Ib_6a.out.kept hb7 (Nat.le_refl _))
      clear hB6a Ip_6a Cp_6a Iq_6a Cq_6a Ib_6a hb7
      clear hB6 Ip_6 Cp_6 Iq_6 Cq_6 Ib_6 hqp hqq hb6a
      refine Lib.hid ?_
      go_wp2_with (first | (go_at_call 20; refine (HP2.out _ _ _ Iq_7.out).mono ?_; rintro e w8 ⟨rfl, hb8⟩; refine Hid.out ?_) | fail)
      have hz8 := hb8.size
      have hB8 := on_base hB7 (by omega) hb8
      have Ip_8 := Lib.hid (Ip_7.out.kept hb8 (Nat.le_refl _))
      have Cp_8 := (hb8.cell (p := ⟨w2.heap.size, 0, none⟩) (by dsimp only; omega)).trans Cp_7
      have Iq_8 := Lib.hid (Iq_7.out.kept hb8 (Nat.le_refl _))
      have Cq_8 := (hb8.cell (p := ⟨w3.heap.size, 0, none⟩) (by dsimp only; omega)).trans Cq_7
      have Ib_8 := Lib.hid (Ib_7.out.kept hb8 (Nat.le_refl _))
      have Cb_8 := (hb8.cell (p := ⟨w6.heap.size, 0, none⟩) (by dsimp only; omega)).trans Cb_7
      clear hB7 Ip_7 Cp_7 Iq_7 Cq_7 Ib_7 Cb_7 hb8
      refine Lib.hid ?_
      go_wp2_with (first | (go_at_call 19; refine (rints_same _ _ _ _ l1 _ Ib_8.out Ip_8.out (by omega)).mono ?_; rintro e w9 ⟨rfl, hb9⟩; refine Hid.out ?_) | fail)
      have hz9 := hb9.size
      have hB9 := on_base hB8 (by omega) hb9
      have Ip_9 := Lib.hid (Ip_8.out.kept hb9 (Nat.le_refl _))
      have Cp_9 := (hb9.cell (p := ⟨w2.heap.size, 0, none⟩) (by dsimp only; omega)).trans Cp_8
      have Iq_9 := Lib.hid (Iq_8.out.kept hb9 (Nat.le_refl _))
      have Cq_9 := (hb9.cell (p := ⟨w3.heap.size, 0, none⟩) (by dsimp only; omega)).trans Cq_8
      have Ib_9 := Lib.hid (Ib_8.out.kept hb9 (Nat.le_refl _))
      have Cb_9 := (hb9.cell (p := ⟨w6.heap.size, 0, none⟩) (by dsimp only; omega)).trans Cb_8
      clear hB8 Ip_8 Cp_8 Iq_8 Cq_8 Ib_8 Cb_8 hb9
      refine Lib.hid ?_
      go_wp2_with (first | (go_at_call 21; refine (HV1.out _ _ _ Iq_9.out).mono ?_; rintro e w10 ⟨rfl, hb10⟩; refine Hid.out ?_) | fail)
      have hz10 := hb10.size
      have hB10 := on_base hB9 (by omega) hb10
      have Ip_10 := Lib.hid (Ip_9.out.kept hb10 (Nat.le_refl _))
      have Cp_10 := (hb10.cell (p := ⟨w2.heap.size, 0, none⟩) (by dsimp only; omega)).trans Cp_9
      have Iq_10 := Lib.hid (Iq_9.out.kept hb10 (Nat.le_refl _))
      have Cq_10 := (hb10.cell (p := ⟨w3.heap.size, 0, none⟩) (by dsimp only; omega)).trans Cq_9
      have Ib_10 := Lib.hid (Ib_9.out.kept hb10 (Nat.le_refl _))
      have Cb_10 := (hb10.cell (p := ⟨w6.heap.size, 0, none⟩) (by dsimp only; omega)).trans Cb_9
      clear hB9 Ip_9 Cp_9 Iq_9 Cq_9 Ib_9 Cb_9 hb10
      refine Lib.hid ?_
      go_wp2_with fail
      go_meet
      exact Lib.hid hB10
  case rest =>
    have hB11 := hcut.out
    clear hcut
    clear hB5 Ip_5 Cp_5 Iq_5 Cq_5
    obtain ⟨w11, hwb⟩ : ∃ w11, w11 = wc := ⟨_, rfl⟩
    subst hwb
    clear HS1 HT1 HF1 hL1 hl1
    refine Hid.out ?_
    refine Lib.hid ?_
    go_wp2_with (first | (go_at_call 22; refine (dflat_any a n cap _ (HC.out.later hB11 (Nat.le_refl _)) hn).mono ?_; rintro e w12 ⟨⟨b2, o2, c2, l2, z2, rfl, hl2, hI⟩, hb12⟩; refine Hid.out ?_) | fail)
    have hz12 := hb12.size
    have hB12 := on_base hB11 (by omega) hb12
    clear hB11 hb12
    have Ip_12 := Lib.hid hI
    clear hI
    obtain ⟨L2, k2, HS2, HT2, hL2, HF2⟩ := flat_pack l2 z2 (by omega)
    have hb12a := alloc_below w12 (.cells #[.slice (some ⟨b2, o2, none⟩) l2.length c2] 26)
    have hz12a := alloc_size w12 (.cells #[.slice (some ⟨b2, o2, none⟩) l2.length c2] 26)
    have hz12a : w12.heap.size < (w12.alloc (.cells #[.slice (some ⟨b2, o2, none⟩) l2.length c2] 26)).heap.size := by omega
    have hB12a := on_base hB12 (by omega) hb12a
    have Ip_12a := Lib.hid (Ip_12.out.kept hb12a (Nat.le_refl _))
    refine Lib.hid ?_
    go_wp2_with (first | (go_at_call 23; refine (HS2.out _ _ _ Ip_12a.out).mono ?_; rintro e w13 ⟨Aq, cq, rfl, hI, hb13⟩; refine Hid.out ?_) | fail)
    replace hb13 : Below (w12.alloc (.cells #[.slice (some ⟨b2, o2, none⟩) l2.length c2] 26)).heap.size (w12.alloc (.cells #[.slice (some ⟨b2, o2, none⟩) l2.length c2] 26)) w13 := hb13
    have Cp_13 := (hb13.cell (p := ⟨w12.heap.size, 0, none⟩) (by dsimp only; omega)).trans (box_at (w := w12))
    have hz13 := hb13.size
    have hB13 := on_base hB12a (by omega) hb13
    have Ip_13 := Lib.hid (Ip_12a.out.kept hb13 (Nat.le_refl _))
    clear hB12a Ip_12a hb13
    clear hB12 Ip_12 hb12a
    have Iq_13 := Lib.hid hI
    clear hI
    have hb13a := alloc_below w13 (.cells #[.slice Aq L2.length cq] 26)
    have hz13a := alloc_size w13 (.cells #[.slice Aq L2.length cq] 26)
    have hz13a : w13.heap.size < (w13.alloc (.cells #[.slice Aq L2.length cq] 26)).heap.size := by omega
    have hB13a := on_base hB13 (by omega) hb13a
    have Ip_13a := Lib.hid (Ip_13.out.kept hb13a (Nat.le_refl _))
    have Cp_13a := Lib.hid ((hb13a.cell (p := ⟨w12.heap.size, 0, none⟩) (by dsimp only; omega)).trans Cp_13)
    have Iq_13a := Lib.hid (Iq_13.out.kept hb13a (Nat.le_refl _))
    have hqp : w12.heap.size < w13.heap.size := by omega
    refine Lib.hid ?_
    go_wp2_with (first | (go_at_call 24; refine (HT2.out _ _ _ Ip_13a.out).mono ?_; rintro e w14 ⟨At, ct, rfl, hI, hb14⟩; refine Hid.out ?_) | fail)
    replace hb14 : Below (w13.alloc (.cells #[.slice Aq L2.length cq] 26)).heap.size (w13.alloc (.cells #[.slice Aq L2.length cq] 26)) w14 := hb14
    have Cq_14 := (hb14.cell (p := ⟨w13.heap.size, 0, none⟩) (by dsimp only; omega)).trans (box_at (w := w13))
    have hz14 := hb14.size
    have hB14 := on_base hB13a (by omega) hb14
    have Ip_14 := Lib.hid (Ip_13a.out.kept hb14 (Nat.le_refl _))
    have Cp_14 := (hb14.cell (p := ⟨w12.heap.size, 0, none⟩) (by dsimp only; omega)).trans Cp_13a.out
    have Iq_14 := Lib.hid (Iq_13a.out.kept hb14 (Nat.le_refl _))
    clear hB13a Ip_13a Cp_13a Iq_13a hb14
    clear hB13 Ip_13 Cp_13 Iq_13 hqp hb13a
    have It_14 := Lib.hid hI
    clear hI
    have hb14a := alloc_below w14 (.cells #[.slice At L2.length ct] 26)
    have hz14a := alloc_size w14 (.cells #[.slice At L2.length ct] 26)
    have hz14a : w14.heap.size < (w14.alloc (.cells #[.slice At L2.length ct] 26)).heap.size := by omega
    have hB14a := on_base hB14 (by omega) hb14a
    have Ip_14a := Lib.hid (Ip_14.out.kept hb14a (Nat.le_refl _))
    have Cp_14a := Lib.hid ((hb14a.cell (p := ⟨w12.heap.size, 0, none⟩) (by dsimp only; omega)).trans Cp_14)
    have Iq_14a := Lib.hid (Iq_14.out.kept hb14a (Nat.le_refl _))
    have Cq_14a := Lib.hid ((hb14a.cell (p := ⟨w13.heap.size, 0, none⟩) (by dsimp only; omega)).trans Cq_14)
    have It_14a := Lib.hid (It_14.out.kept hb14a (Nat.le_refl _))
    have hqp : w12.heap.size < w14.heap.size := by omega
    have hqq : w13.heap.size < w14.heap.size := by omega
    refine Lib.hid ?_
    go_wp2_with (first | (go_at_call 19; refine (rints_same _ _ _ _ L2 _ Iq_14a.out It_14a.out hL2).mono ?_; rintro e w15 ⟨rfl, hb15⟩; refine Hid.out ?_) | fail)
    replace hb15 : Below (w14.alloc (.cells #[.slice At L2.length ct] 26)).heap.size (w14.alloc (.cells #[.slice At L2.length ct] 26)) w15 := hb15
    have Ct_15 := (hb15.cell (p := ⟨w14.heap.size, 0, none⟩) (by dsimp only; omega)).trans (box_at (w := w14))
    have hz15 := hb15.size
    have hB15 := on_base hB14a (by omega) hb15
    have Ip_15 := Lib.hid (Ip_14a.out.kept hb15 (Nat.le_refl _))
    have Cp_15 := (hb15.cell (p := ⟨w12.heap.size, 0, none⟩) (by dsimp only; omega)).trans Cp_14a.out
    have Iq_15 := Lib.hid (Iq_14a.out.kept hb15 (Nat.le_refl _))
    have Cq_15 := (hb15.cell (p := ⟨w13.heap.size, 0, none⟩) (by dsimp only; omega)).trans Cq_14a.out
    have It_15 := Lib.hid (It_14a.out.kept hb15 (Nat.le_refl _))
    clear hB14a Ip_14a Cp_14a Iq_14a Cq_14a It_14a hb15
    clear hB14 Ip_14 Cp_14 Iq_14 Cq_14 It_14 hqp hqq hb14a
    clear It_15
    clear Ct_15
    clear Ip_15
    clear Cp_15
    refine Lib.hid ?_
    go_upto_if 148 with (fail)
    go_cut [] (fun wx => Hid (Below w.heap.size w wx))
    case first =>
      cases k2 with
      | false =>
        go_wp2_with fail
        go_meet
        exact Lib.hid hB15
      | true =>
        obtain ⟨hG2, hle⟩ := HF2.out rfl
        have HP1 := Lib.hid (fun A c w (h : IAt w A L2) => peak_yes A c L2 w h hG2)
        generalize at0 L2 (pk L2 24) = P at *
        clear HF2 hG2 HS2 HT2
        refine Hid.out ?_
        refine Lib.hid ?_
        go_wp2_with (first | (go_at_call 20; refine (HP1.out _ _ _ Iq_15.out).mono ?_; rintro e w16 ⟨rfl, hb16⟩; refine Hid.out ?_) | fail)
        have hz16 := hb16.size
        have hB16 := on_base hB15 (by omega) hb16
        have Iq_16 := Lib.hid (Iq_15.out.kept hb16 (Nat.le_refl _))
        have Cq_16 := (hb16.cell (p := ⟨w13.heap.size, 0, none⟩) (by dsimp only; omega)).trans Cq_15
        clear hB15 Iq_15 Cq_15 hb16
        refine Lib.hid ?_
        go_wp2_with fail
        go_meet
        exact Lib.hid hB16
    case rest =>
      have hB17 := hcut.out
      clear hcut
      clear hB15 Iq_15 Cq_15
      obtain ⟨w17, hwb⟩ : ∃ w17, w17 = wc := ⟨_, rfl⟩
      subst hwb
      clear HS2 HT2 HF2 hL2 hl2
      refine Hid.out ?_
      refine Lib.hid ?_
      go_wp2_with (first | (go_at_call 25; refine (dqui_any a n cap _ (HC.out.later hB17 (Nat.le_refl _)) hn).mono ?_; rintro e w18 ⟨⟨b3, o3, c3, l3, z3, rfl, hl3, hI⟩, hb18⟩; refine Hid.out ?_) | fail)
      have hz18 := hb18.size
      have hB18 := on_base hB17 (by omega) hb18
      clear hB17 hb18
      have Ip_18 := Lib.hid hI
      clear hI
      obtain ⟨f3, s3, k3, HS3, HT3, HF3⟩ := qui_pack l3 z3 (by omega)
      have hb18a := alloc_below w18 (.cells #[.slice (some ⟨b3, o3, none⟩) l3.length c3] 26)
      have hz18a := alloc_size w18 (.cells #[.slice (some ⟨b3, o3, none⟩) l3.length c3] 26)
      have hz18a : w18.heap.size < (w18.alloc (.cells #[.slice (some ⟨b3, o3, none⟩) l3.length c3] 26)).heap.size := by omega
      have hB18a := on_base hB18 (by omega) hb18a
      have Ip_18a := Lib.hid (Ip_18.out.kept hb18a (Nat.le_refl _))
      refine Lib.hid ?_
      go_wp2_with (first | (go_at_call 26; refine (HS3.out _ _ _ Ip_18a.out).mono ?_; rintro e w19 ⟨rfl, hb19⟩; refine Hid.out ?_) | fail)
      replace hb19 : Below (w18.alloc (.cells #[.slice (some ⟨b3, o3, none⟩) l3.length c3] 26)).heap.size (w18.alloc (.cells #[.slice (some ⟨b3, o3, none⟩) l3.length c3] 26)) w19 := hb19
      have Cp_19 := (hb19.cell (p := ⟨w18.heap.size, 0, none⟩) (by dsimp only; omega)).trans (box_at (w := w18))
      have hz19 := hb19.size
      have hB19 := on_base hB18a (by omega) hb19
      have Ip_19 := Lib.hid (Ip_18a.out.kept hb19 (Nat.le_refl _))
      clear hB18a Ip_18a hb19
      clear hB18 Ip_18 hb18a
      refine Lib.hid ?_
      go_wp2_with (first | (go_at_call 27; refine (HT3.out _ _ _ Ip_19.out).mono ?_; rintro e w20 ⟨rfl, hb20⟩; refine Hid.out ?_) | fail)
      have hz20 := hb20.size
      have hB20 := on_base hB19 (by omega) hb20
      have Ip_20 := Lib.hid (Ip_19.out.kept hb20 (Nat.le_refl _))
      have Cp_20 := (hb20.cell (p := ⟨w18.heap.size, 0, none⟩) (by dsimp only; omega)).trans Cp_19
      clear hB19 Ip_19 Cp_19 hb20
      clear Ip_20
      clear Cp_20
      refine Lib.hid ?_
      go_upto_region 26 with (fail)
      go_cut [202] (fun t wx => t = .bool false ∧ Hid (Below w.heap.size w wx))
      case first =>
        cases k3 with
        | false =>
          go_wp2_with fail
          go_meet
          exact ⟨rfl, Lib.hid hB20⟩
        | true =>
          obtain ⟨q1, q2, q3⟩ := HF3.out rfl
          have q4 : ¬ 100 * z3 < s3 := by omega
          have q5 : IntKind.i64.wrap (100 * z3) = 100 * z3 := IntWalk.i64_in _ (by omega)
          go_wp2_with fail
          go_meet
          exact ⟨rfl, Lib.hid hB20⟩
      case rest =>
        obtain ⟨rfl, hcut⟩ := hcut
        have hB21 := hcut.out
        clear hcut
        clear hB20
        obtain ⟨w21, hwb⟩ : ∃ w21, w21 = wc := ⟨_, rfl⟩
        subst hwb
        clear HS3 HT3 HF3 hl3
        refine Hid.out ?_
        refine Lib.hid ?_
        go_wp2_with (first | (go_at_call 28; refine (dpeak_any a n cap _ (HC.out.later hB21 (Nat.le_refl _)) hn).mono ?_; rintro e w22 ⟨⟨b4, o4, c4, l4, rfl, _, hl4, hI⟩, hb22⟩; refine Hid.out ?_) | fail)
        have hz22 := hb22.size
        have hB22 := on_base hB21 (by omega) hb22
        clear hB21 hb22
        have Ip_22 := Lib.hid hI
        clear hI
        obtain ⟨f4, s4, k4, HS4, HT4, HF4⟩ := peak_pack l4 (by omega)
        have hb22a := alloc_below w22 (.cells #[.slice (some ⟨b4, o4, none⟩) l4.length c4] 26)
        have hz22a := alloc_size w22 (.cells #[.slice (some ⟨b4, o4, none⟩) l4.length c4] 26)
        have hz22a : w22.heap.size < (w22.alloc (.cells #[.slice (some ⟨b4, o4, none⟩) l4.length c4] 26)).heap.size := by omega
        have hB22a := on_base hB22 (by omega) hb22a
        have Ip_22a := Lib.hid (Ip_22.out.kept hb22a (Nat.le_refl _))
        refine Lib.hid ?_
        go_wp2_with (first | (go_at_call 20; refine (HS4.out _ _ _ Ip_22a.out).mono ?_; rintro e w23 ⟨rfl, hb23⟩; refine Hid.out ?_) | fail)
        replace hb23 : Below (w22.alloc (.cells #[.slice (some ⟨b4, o4, none⟩) l4.length c4] 26)).heap.size (w22.alloc (.cells #[.slice (some ⟨b4, o4, none⟩) l4.length c4] 26)) w23 := hb23
        have Cp_23 := (hb23.cell (p := ⟨w22.heap.size, 0, none⟩) (by dsimp only; omega)).trans (box_at (w := w22))
        have hz23 := hb23.size
        have hB23 := on_base hB22a (by omega) hb23
        have Ip_23 := Lib.hid (Ip_22a.out.kept hb23 (Nat.le_refl _))
        clear hB22a Ip_22a hb23
        clear hB22 Ip_22 hb22a
        refine Lib.hid ?_
        go_wp2_with (first | (go_at_call 29; refine (HT4.out _ _ _ Ip_23.out).mono ?_; rintro e w24 ⟨rfl, hb24⟩; refine Hid.out ?_) | fail)
        have hz24 := hb24.size
        have hB24 := on_base hB23 (by omega) hb24
        have Ip_24 := Lib.hid (Ip_23.out.kept hb24 (Nat.le_refl _))
        have Cp_24 := (hb24.cell (p := ⟨w22.heap.size, 0, none⟩) (by dsimp only; omega)).trans Cp_23
        clear hB23 Ip_23 Cp_23 hb24
        clear Ip_24
        clear Cp_24
        have HFl := Lib.hid (fun w => flat_any w)
        have HVf := Lib.hid (fun A c w (h : IAt w A flatL) => valid_v (gd_mk flat_gd) A c w h (by simp))
        have hk : k4 = false ∨ (k4 = true ∧ 100 ≤ s4) := by
          cases k4 with
          | false => exact .inl rfl
          | true => exact .inr ⟨rfl, HF4.out rfl⟩
        rcases hk with rfl | ⟨rfl, hs4⟩
        · skip
          refine Lib.hid ?_
          go_wp2_with (first | (go_at_call 30; refine (HFl.out _).mono ?_; rintro e w25 ⟨gf, cf, rfl, _, hI, hb25⟩; refine Hid.out ?_) | fail)
          have hz25 := hb25.size
          have hB25 := on_base hB24 (by omega) hb25
          clear hB24 hb25
          have If_25 := Lib.hid hI.iat
          clear hI
          refine Lib.hid ?_
          go_wp2_with (first | (go_at_call 21; refine (HVf.out _ _ _ If_25.out).mono ?_; rintro e w26 ⟨rfl, hb26⟩; refine Hid.out ?_) | fail)
          have hz26 := hb26.size
          have hB26 := on_base hB25 (by omega) hb26
          have If_26 := Lib.hid (If_25.out.kept hb26 (Nat.le_refl _))
          clear hB25 If_25 hb26
          refine Lib.hid ?_
          go_wp2_with fail
          go_ret
          exact ⟨rfl, hB26⟩
        · skip
          refine Lib.hid ?_
          go_wp2_with (first | (go_at_call 30; refine (HFl.out _).mono ?_; rintro e w25 ⟨gf, cf, rfl, _, hI, hb25⟩; refine Hid.out ?_) | fail)
          have hz25 := hb25.size
          have hB25 := on_base hB24 (by omega) hb25
          clear hB24 hb25
          have If_25 := Lib.hid hI.iat
          clear hI
          refine Lib.hid ?_
          go_wp2_with (first | (go_at_call 21; refine (HVf.out _ _ _ If_25.out).mono ?_; rintro e w26 ⟨rfl, hb26⟩; refine Hid.out ?_) | fail)
          have hz26 := hb26.size
          have hB26 := on_base hB25 (by omega) hb26
          have If_26 := Lib.hid (If_25.out.kept hb26 (Nat.le_refl _))
          clear hB25 If_25 hb26
          refine Lib.hid ?_
          go_wp2_with fail
          go_ret
          exact ⟨rfl, hB26⟩
end Go.Proofs.Ytkgkeohnnpkahaa.S6
