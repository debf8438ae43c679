/- The law FnExactLoopOf holds of the program: for every network LoopOf answers as its model, writes into no argument, and its answers own their memory. Condition: the argument is laid out as the row says. -/
import Derived.Test.YtgjogjmfpbinfaaRgKit
import Derived.Deep.DeepCutAuto
import Derived.Test.YtgjogjmfpbinfaaKL
import Derived.Test.YtgjogjmfpbinfaaRows
import Derived.Test.YtgjogjmfpbinfaaOpenOne
import Derived.WalkKit
import Derived.ProofKit
import Derived.OpenShut
import Derived.ChangeOld
import Derived.Below
namespace Go.Proofs.Ytgjogjmfpbinfaa.S2
open Go.RowKit P2

set_option maxHeartbeats 16000000 in
set_option maxRecDepth 100000 in
theorem walkLoopOf (n : Int) (A : Option Addr) (cap : Nat) (ps : List Pp) (w : World) (h : PAt w A ps) (hm : ps.length ≤ maxLen) (I0 : List Int) (hI0 : I0.length ≤ 1000) (I1 : List Int) (hI1 : I1.length ≤ 1000) (sv0 : Bool)
    (hs : ∀ (A : Option Addr) (cap : Nat) (w : World), PAt w A ps → ps.length ≤ 1048576 → ps.length = cap → Calls Try.prog 24 #[nv n A ps.length cap] w (GivesAA w I0 I1 sv0))
    (hi : ∀ (A : Option Addr) (cap : Nat) (w : World), PAt w A ps → ps.length ≤ 1048576 → ps.length = cap → Calls Try.prog 25 #[nv n A ps.length cap] w (GivesII w I0 I1 sv0)) :
    Calls Try.prog 4 #[nv n A ps.length cap] w fun e w' => e = .returned (.bool true) ∧ Below w.heap.size w w' := by
  have HA := Lib.hid h
  have HM := Lib.hid hm
  have HS := Lib.hid hs
  have HI := Lib.hid hi
  clear h hm hs hi
  go_enter Try.func4, Try.ntmps4
  go_wp2_with (go_at_call 19; refine (sznet_le n A ps.length cap _ HM.out).mono ?_; rintro e w1 ⟨⟨r, rfl, hr⟩, hb1⟩; refine Hid.out ?_)
  have hB1 : Below (w.heap.size + 1) (w.alloc (.cells #[.int .i64 n, .slice A ps.length cap] 24)) w1 := by simpa using hb1
  clear hb1
  obtain ⟨b0, b1⟩ := box2 hB1
  have hz1 : w.heap.size < w1.heap.size := box_lt hB1
  by_cases hr0 : r < 0
  · refine Lib.hid ?_
    go_wp2
    go_ret
    exact ⟨rfl, below_box hB1⟩
  have hlen : ps.length ≤ 1048576 := by rcases hr with h | h; exact absurd h hr0; exact h.2.2
  clear hr
  refine Lib.hid ?_
  go_wp2_with (first | (go_at_call 21; refine (tonet_any n A cap ps _ (HA.out.kept (below_box hB1) (Nat.le_refl _)) hlen).mono ?_; rintro e w2 ⟨⟨ga, rfl, hga, hrowa⟩, hb2⟩; refine Hid.out ?_) | fail)
  have hz2 := hb2.size
  have hB2 := on_call hB1 hb2
  clear b0 b1
  obtain ⟨b0, b1⟩ := box2 hB2
  clear hB1 hb2
  have hla := hrowa.lt
  have Ta_2 := Lib.hid hrowa.at_
  clear hrowa
  refine Lib.hid ?_
  go_wp2_with (first | (go_at_call 24; refine (HS.out _ _ _ Ta_2.out hlen rfl).mono ?_; rintro e w3 ⟨gSi, oSi, cSi, gSj, oSj, cSj, rfl, hgSi, hgSj, hSi, hSj, hb3, hlSi, hlSj⟩; refine Hid.out ?_) | fail)
  have hz3 := hb3.size
  have hB3 := on_call hB2 hb3
  have Ta_3 := Lib.hid (Ta_2.out.kept hb3 (Nat.le_refl _))
  clear b0 b1
  obtain ⟨b0, b1⟩ := box2 hB3
  clear hB2 Ta_2 hb3
  have Lsi_3 := Lib.hid hSi
  clear hSi
  have Lsj_3 := Lib.hid hSj
  clear hSj
  clear Ta_3
  refine Lib.hid ?_
  go_wp2_with (first | (go_at_call 21; refine (tonet_any n A cap ps _ (HA.out.kept (below_box hB3) (Nat.le_refl _)) hlen).mono ?_; rintro e w4 ⟨⟨gx, rfl, hgx, hrowx⟩, hb4⟩; refine Hid.out ?_) | fail)
  have hz4 := hb4.size
  have hB4 := on_call hB3 hb4
  have Lsi_4 := Lib.hid (Lsi_3.out.low hb4 (by omega))
  have Lsj_4 := Lib.hid (Lsj_3.out.low hb4 (by omega))
  clear b0 b1
  obtain ⟨b0, b1⟩ := box2 hB4
  clear hB3 Lsi_3 Lsj_3 hb4
  have hlx := hrowx.lt
  have Rx_4 := Lib.hid hrowx
  clear hrowx
  have hb4a := alloc_below w4 (.cells #[.int .i64 n, .slice (some ⟨gx, 0, none⟩) ps.length ps.length] 30)
  have hz4a : w4.heap.size < (w4.alloc (.cells #[.int .i64 n, .slice (some ⟨gx, 0, none⟩) ps.length ps.length] 30)).heap.size := by simp
  have hB4a := on_call hB4 hb4a
  have Lsi_4a := Lib.hid (Lsi_4.out.low hb4a (by omega))
  have Lsj_4a := Lib.hid (Lsj_4.out.low hb4a (by omega))
  have Rx_4a := Lib.hid (Rx_4.out.kept hb4a (by omega))
  have hqn : w.heap.size < w4.heap.size := by omega
  refine Lib.hid ?_
  go_wp2_with (first | (go_at_call 25; refine (HI.out _ _ _ Rx_4a.out.at_ hlen rfl).mono ?_; rintro e w5 ⟨gIpi, cIpi, gIpj, cIpj, rfl, hgIpi, hgIpj, hgnep, hOpi, hOpj, hb5⟩; refine Hid.out ?_) | fail)
  replace hb5 : Below (w4.alloc (.cells #[.int .i64 n, .slice (some ⟨gx, 0, none⟩) ps.length ps.length] 30)).heap.size (w4.alloc (.cells #[.int .i64 n, .slice (some ⟨gx, 0, none⟩) ps.length ps.length] 30)) w5 := hb5
  have Bx0_5 := (hb5.cell (p := ⟨w4.heap.size, 0, none⟩) (by dsimp only; omega)).trans (boxA0 (w := w4))
  have Bx1_5 := (hb5.cell (p := ⟨w4.heap.size, 1, none⟩) (by dsimp only; omega)).trans (boxA1 (w := w4))
  have hz5 := hb5.size
  have hB5 := on_call hB4a hb5
  have Lsi_5 := Lib.hid (Lsi_4a.out.low hb5 (by omega))
  have Lsj_5 := Lib.hid (Lsj_4a.out.low hb5 (by omega))
  have Rx_5 := Lib.hid (Rx_4a.out.kept hb5 (by omega))
  clear b0 b1
  obtain ⟨b0, b1⟩ := box2 hB5
  clear hB4a Lsi_4a Lsj_4a Rx_4a hb5
  clear hB4 Lsi_4 Lsj_4 Rx_4 hqn hb4a
  have hlIpi := iown_lt' hOpi
  have Jpi_5 := Lib.hid hOpi
  clear hOpi
  have hlIpj := iown_lt' hOpj
  have Jpj_5 := Lib.hid hOpj
  clear hOpj
  refine Lib.hid ?_
  go_wp2_with (first | (go_at_call 26; refine (eqints_same _ _ _ _ I0 _ Jpi_5.out.iat Lsi_5.out (by omega)).mono ?_; rintro e w6 ⟨rfl, hb6⟩; refine Hid.out ?_) | fail)
  have hz6 := hb6.size
  have hB6 := on_call hB5 hb6
  have Lsi_6 := Lib.hid (Lsi_5.out.low hb6 (by omega))
  have Lsj_6 := Lib.hid (Lsj_5.out.low hb6 (by omega))
  have Rx_6 := Lib.hid (Rx_5.out.kept hb6 (by omega))
  have Bx0_6 := (hb6.cell (p := ⟨w4.heap.size, 0, none⟩) (by dsimp only; omega)).trans Bx0_5
  have Bx1_6 := (hb6.cell (p := ⟨w4.heap.size, 1, none⟩) (by dsimp only; omega)).trans Bx1_5
  have Jpi_6 := Lib.hid (Jpi_5.out.on hb6)
  have Jpj_6 := Lib.hid (Jpj_5.out.on hb6)
  clear b0 b1
  obtain ⟨b0, b1⟩ := box2 hB6
  clear hB5 Lsi_5 Lsj_5 Rx_5 Bx0_5 Bx1_5 Jpi_5 Jpj_5 hb6
  refine Lib.hid ?_
  go_wp2_with (first | (go_at_call 26; refine (eqints_same _ _ _ _ I1 _ Jpj_6.out.iat Lsj_6.out (by omega)).mono ?_; rintro e w7 ⟨rfl, hb7⟩; refine Hid.out ?_) | fail)
  have hz7 := hb7.size
  have hB7 := on_call hB6 hb7
  have Lsi_7 := Lib.hid (Lsi_6.out.low hb7 (by omega))
  have Lsj_7 := Lib.hid (Lsj_6.out.low hb7 (by omega))
  have Rx_7 := Lib.hid (Rx_6.out.kept hb7 (by omega))
  have Bx0_7 := (hb7.cell (p := ⟨w4.heap.size, 0, none⟩) (by dsimp only; omega)).trans Bx0_6
  have Bx1_7 := (hb7.cell (p := ⟨w4.heap.size, 1, none⟩) (by dsimp only; omega)).trans Bx1_6
  have Jpi_7 := Lib.hid (Jpi_6.out.on hb7)
  have Jpj_7 := Lib.hid (Jpj_6.out.on hb7)
  clear b0 b1
  obtain ⟨b0, b1⟩ := box2 hB7
  clear hB6 Lsi_6 Lsj_6 Rx_6 Bx0_6 Bx1_6 Jpi_6 Jpj_6 hb7
  refine Lib.hid ?_
  go_upto_region 10 with (fail)
  go_cut [56] (fun st wx => st = .bool false ∧ Hid (Below w7.heap.size w7 wx))
  case first =>
    have hA7 := Lib.hid (HA.out.kept (below_box hB7) (Nat.le_refl _))
    have hat7 := Lib.hid Rx_7.out.at_
    have hx4 : w4.heap.size < w7.heap.size := by omega
    go_region_with (first
      | (go_at_call 21; refine (tonet_any n A cap ps w7.drew hA7.out hlen).mono ?_; rintro e wqa ⟨⟨gqa, rfl, hgqa, hrowqa⟩, hbqa⟩; have HBqa := Lib.hid hbqa; have hatqa := Lib.hid hrowqa.at_; have hatqb := Lib.hid (PAt.kept (w := w7.drew) hat7.out hbqa (Nat.le_refl _)); have z0 := (hbqa.cell (p := ⟨w4.heap.size, 0, none⟩) hx4).trans Bx0_7; have z1 := (hbqa.cell (p := ⟨w4.heap.size, 1, none⟩) hx4).trans Bx1_7; clear hgqa hrowqa hbqa)
      | (go_at_call 23; refine (eqnet_same n _ _ _ _ ps wqa hatqb.out hatqa.out hlen).mono ?_; rintro e wqb ⟨rfl, hbqb⟩))
    all_goals
      go_wp2_with fail
      go_meet
      exact ⟨rfl, Lib.hid ((Below.refl w7.heap.size w7).drew.trans (HBqa.out.trans (hbqb.mono HBqa.out.size)))⟩
  case rest =>
    obtain ⟨rfl, hbc⟩ := hcut
    obtain ⟨w8, hwb⟩ : ∃ w8, w8 = wc := ⟨_, rfl⟩
    subst hwb
    have hb8 := hbc.out
    clear hbc
    have hz8 := hb8.size
    have hB8 := on_call hB7 hb8
    have Lsi_8 := Lib.hid (Lsi_7.out.low hb8 (by omega))
    have Lsj_8 := Lib.hid (Lsj_7.out.low hb8 (by omega))
    have Rx_8 := Lib.hid (Rx_7.out.kept hb8 (by omega))
    have Bx0_8 := (hb8.cell (p := ⟨w4.heap.size, 0, none⟩) (by dsimp only; omega)).trans Bx0_7
    have Bx1_8 := (hb8.cell (p := ⟨w4.heap.size, 1, none⟩) (by dsimp only; omega)).trans Bx1_7
    have Jpi_8 := Lib.hid (Jpi_7.out.on hb8)
    have Jpj_8 := Lib.hid (Jpj_7.out.on hb8)
    clear b0 b1
    obtain ⟨b0, b1⟩ := box2 hB8
    clear hB7 Lsi_7 Lsj_7 Rx_7 Bx0_7 Bx1_7 Jpi_7 Jpj_7 hb8
    have HRX := Rx_8
    clear Rx_8
    refine Lib.hid ?_
    go_wp2_with (first | (go_at_call 27; refine (marknetk_any n gx 1 ps _ HRX.out hlen (by omega)).mono ?_; rintro e w9 ⟨rfl, hg9⟩; refine Hid.out ?_) | fail)
    have hz9 := hg9.size
    have hB9 := hB8.grown hg9 (by omega) (fun k hk => by simp at hk; omega)
    have Lsi_9 := Lib.hid (Lsi_8.out.far hg9 (by omega))
    have Lsj_9 := Lib.hid (Lsj_8.out.far hg9 (by omega))
    have Bx0_9 := (hg9.cell_far ⟨w4.heap.size, 0, none⟩ (by dsimp only; omega) (by simp; omega)).trans Bx0_8
    have Bx1_9 := (hg9.cell_far ⟨w4.heap.size, 1, none⟩ (by dsimp only; omega) (by simp; omega)).trans Bx1_8
    have Jpi_9 := Lib.hid (Jpi_8.out.far hg9 (by omega))
    have Jpj_9 := Lib.hid (Jpj_8.out.far hg9 (by omega))
    clear b0 b1
    obtain ⟨b0, b1⟩ := box2 hB9
    clear hB8 Lsi_8 Lsj_8 Bx0_8 Bx1_8 Jpi_8 Jpj_8 hg9
    clear Bx0_9 Bx1_9
    refine Lib.hid ?_
    go_wp2_with (first | (go_at_call 26; refine (eqints_same _ _ _ _ I0 _ Jpi_9.out.iat Lsi_9.out (by omega)).mono ?_; rintro e w10 ⟨rfl, hb10⟩; refine Hid.out ?_) | fail)
    have hz10 := hb10.size
    have hB10 := on_call hB9 hb10
    have Lsi_10 := Lib.hid (Lsi_9.out.low hb10 (by omega))
    have Lsj_10 := Lib.hid (Lsj_9.out.low hb10 (by omega))
    have Jpi_10 := Lib.hid (Jpi_9.out.on hb10)
    have Jpj_10 := Lib.hid (Jpj_9.out.on hb10)
    clear b0 b1
    obtain ⟨b0, b1⟩ := box2 hB10
    clear hB9 Lsi_9 Lsj_9 Jpi_9 Jpj_9 hb10
    refine Lib.hid ?_
    go_wp2_with (first | (go_at_call 26; refine (eqints_same _ _ _ _ I1 _ Jpj_10.out.iat Lsj_10.out (by omega)).mono ?_; rintro e w11 ⟨rfl, hb11⟩; refine Hid.out ?_) | fail)
    have hz11 := hb11.size
    have hB11 := on_call hB10 hb11
    have Lsi_11 := Lib.hid (Lsi_10.out.low hb11 (by omega))
    have Lsj_11 := Lib.hid (Lsj_10.out.low hb11 (by omega))
    have Jpi_11 := Lib.hid (Jpi_10.out.on hb11)
    have Jpj_11 := Lib.hid (Jpj_10.out.on hb11)
    clear b0 b1
    obtain ⟨b0, b1⟩ := box2 hB11
    clear hB10 Lsi_10 Lsj_10 Jpi_10 Jpj_10 hb11
    have HOJi := Jpi_11
    clear Jpi_11
    refine Lib.hid ?_
    go_wp2_with (first | (go_at_call 28; refine (markints_i _ gIpi cIpi (1) _ I0 _ HOJi.out (by omega) (by omega) (by omega)).mono ?_; rintro e w12 ⟨rfl, hM, hg12⟩; refine Hid.out ?_) | fail)
    have hz12 := hg12.size
    have hB12 := hB11.grown hg12 (by omega) (fun k hk => by simp at hk; omega)
    have Lsi_12 := Lib.hid (Lsi_11.out.far hg12 (by omega))
    have Lsj_12 := Lib.hid (Lsj_11.out.far hg12 (by omega))
    have Jpj_12 := Lib.hid (Jpj_11.out.far hg12 (by omega))
    clear b0 b1
    obtain ⟨b0, b1⟩ := box2 hB12
    clear hB11 Lsi_11 Lsj_11 Jpj_11 hg12
    have Ki_12 := Lib.hid hM.iat_marks
    clear hM
    have HOJj := Jpj_12
    clear Jpj_12
    refine Lib.hid ?_
    go_wp2_with (first | (go_at_call 28; refine (markints_i _ gIpj cIpj (1 + I0.length) _ I1 _ HOJj.out (by omega) (by omega) (by omega)).mono ?_; rintro e w13 ⟨rfl, hM, hg13⟩; refine Hid.out ?_) | fail)
    have hz13 := hg13.size
    have hB13 := hB12.grown hg13 (by omega) (fun k hk => by simp at hk; omega)
    have Lsi_13 := Lib.hid (Lsi_12.out.far hg13 (by omega))
    have Lsj_13 := Lib.hid (Lsj_12.out.far hg13 (by omega))
    have Ki_13 := Lib.hid (Ki_12.out.far hg13 (by omega))
    clear b0 b1
    obtain ⟨b0, b1⟩ := box2 hB13
    clear hB12 Lsi_12 Lsj_12 Ki_12 hg13
    have Kj_13 := Lib.hid hM.iat_marks
    clear hM
    refine Lib.hid ?_
    go_wp2_with (first | (go_at_call 29; refine (heldints_i _ _ (1) I0.length _ _ Ki_13.out (by omega) (by omega) (by omega)).mono ?_; rintro e w14 ⟨rfl, hb14⟩; refine Hid.out ?_) | fail)
    have hz14 := hb14.size
    have hB14 := on_call hB13 hb14
    have Lsi_14 := Lib.hid (Lsi_13.out.low hb14 (by omega))
    have Lsj_14 := Lib.hid (Lsj_13.out.low hb14 (by omega))
    have Ki_14 := Lib.hid (Ki_13.out.low hb14 (by omega))
    have Kj_14 := Lib.hid (Kj_13.out.low hb14 (by omega))
    clear b0 b1
    obtain ⟨b0, b1⟩ := box2 hB14
    clear hB13 Lsi_13 Lsj_13 Ki_13 Kj_13 hb14
    refine Lib.hid ?_
    go_wp2_with (first | (go_at_call 29; refine (heldints_i _ _ (1 + I0.length) I1.length _ _ Kj_14.out (by omega) (by omega) (by omega)).mono ?_; rintro e w15 ⟨rfl, hb15⟩; refine Hid.out ?_) | fail)
    have hz15 := hb15.size
    have hB15 := on_call hB14 hb15
    have Lsi_15 := Lib.hid (Lsi_14.out.low hb15 (by omega))
    have Lsj_15 := Lib.hid (Lsj_14.out.low hb15 (by omega))
    have Ki_15 := Lib.hid (Ki_14.out.low hb15 (by omega))
    have Kj_15 := Lib.hid (Kj_14.out.low hb15 (by omega))
    clear b0 b1
    obtain ⟨b0, b1⟩ := box2 hB15
    clear hB14 Lsi_14 Lsj_14 Ki_14 Kj_14 hb15
    refine Lib.hid ?_
    go_wp2_with (first | (go_at_call 21; refine (tonet_any n A cap ps _ (HA.out.kept (below_box hB15) (Nat.le_refl _)) hlen).mono ?_; rintro e w16 ⟨⟨gy, rfl, hgy, hrowy⟩, hb16⟩; refine Hid.out ?_) | fail)
    have hz16 := hb16.size
    have hB16 := on_call hB15 hb16
    have Lsi_16 := Lib.hid (Lsi_15.out.low hb16 (by omega))
    have Lsj_16 := Lib.hid (Lsj_15.out.low hb16 (by omega))
    have Ki_16 := Lib.hid (Ki_15.out.low hb16 (by omega))
    have Kj_16 := Lib.hid (Kj_15.out.low hb16 (by omega))
    clear b0 b1
    obtain ⟨b0, b1⟩ := box2 hB16
    clear hB15 Lsi_15 Lsj_15 Ki_15 Kj_15 hb16
    have hly := hrowy.lt
    have Ty_16 := Lib.hid hrowy.at_
    clear hrowy
    refine Lib.hid ?_
    go_wp2_with (first | (go_at_call 25; refine (HI.out _ _ _ Ty_16.out hlen rfl).mono ?_; rintro e w17 ⟨gIhi, cIhi, gIhj, cIhj, rfl, hgIhi, hgIhj, hgneh, hOhi, hOhj, hb17⟩; refine Hid.out ?_) | fail)
    have hz17 := hb17.size
    have hB17 := on_call hB16 hb17
    have Lsi_17 := Lib.hid (Lsi_16.out.low hb17 (by omega))
    have Lsj_17 := Lib.hid (Lsj_16.out.low hb17 (by omega))
    have Ki_17 := Lib.hid (Ki_16.out.low hb17 (by omega))
    have Kj_17 := Lib.hid (Kj_16.out.low hb17 (by omega))
    have Ty_17 := Lib.hid (Ty_16.out.kept hb17 (Nat.le_refl _))
    clear b0 b1
    obtain ⟨b0, b1⟩ := box2 hB17
    clear hB16 Lsi_16 Lsj_16 Ki_16 Kj_16 Ty_16 hb17
    have hlIhi := iown_lt' hOhi
    have Jhi_17 := Lib.hid hOhi
    clear hOhi
    have hlIhj := iown_lt' hOhj
    have Jhj_17 := Lib.hid hOhj
    clear hOhj
    clear Ty_17
    refine Lib.hid ?_
    go_wp2_with (first | (go_at_call 26; refine (eqints_same _ _ _ _ I0 _ Jhi_17.out.iat Lsi_17.out (by omega)).mono ?_; rintro e w18 ⟨rfl, hb18⟩; refine Hid.out ?_) | fail)
    have hz18 := hb18.size
    have hB18 := on_call hB17 hb18
    have Lsi_18 := Lib.hid (Lsi_17.out.low hb18 (by omega))
    have Lsj_18 := Lib.hid (Lsj_17.out.low hb18 (by omega))
    have Ki_18 := Lib.hid (Ki_17.out.low hb18 (by omega))
    have Kj_18 := Lib.hid (Kj_17.out.low hb18 (by omega))
    have Jhi_18 := Lib.hid (Jhi_17.out.on hb18)
    have Jhj_18 := Lib.hid (Jhj_17.out.on hb18)
    clear b0 b1
    obtain ⟨b0, b1⟩ := box2 hB18
    clear hB17 Lsi_17 Lsj_17 Ki_17 Kj_17 Jhi_17 Jhj_17 hb18
    refine Lib.hid ?_
    go_wp2_with (first | (go_at_call 26; refine (eqints_same _ _ _ _ I1 _ Jhj_18.out.iat Lsj_18.out (by omega)).mono ?_; rintro e w19 ⟨rfl, hb19⟩; refine Hid.out ?_) | fail)
    have hz19 := hb19.size
    have hB19 := on_call hB18 hb19
    have Lsi_19 := Lib.hid (Lsi_18.out.low hb19 (by omega))
    have Lsj_19 := Lib.hid (Lsj_18.out.low hb19 (by omega))
    have Ki_19 := Lib.hid (Ki_18.out.low hb19 (by omega))
    have Kj_19 := Lib.hid (Kj_18.out.low hb19 (by omega))
    have Jhi_19 := Lib.hid (Jhi_18.out.on hb19)
    have Jhj_19 := Lib.hid (Jhj_18.out.on hb19)
    clear b0 b1
    obtain ⟨b0, b1⟩ := box2 hB19
    clear hB18 Lsi_18 Lsj_18 Ki_18 Kj_18 Jhi_18 Jhj_18 hb19
    refine Lib.hid ?_
    go_wp2_with (first | (go_at_call 29; refine (heldints_i _ _ (1) I0.length _ _ Ki_19.out (by omega) (by omega) (by omega)).mono ?_; rintro e w20 ⟨rfl, hb20⟩; refine Hid.out ?_) | fail)
    have hz20 := hb20.size
    have hB20 := on_call hB19 hb20
    have Lsi_20 := Lib.hid (Lsi_19.out.low hb20 (by omega))
    have Lsj_20 := Lib.hid (Lsj_19.out.low hb20 (by omega))
    have Ki_20 := Lib.hid (Ki_19.out.low hb20 (by omega))
    have Kj_20 := Lib.hid (Kj_19.out.low hb20 (by omega))
    have Jhi_20 := Lib.hid (Jhi_19.out.on hb20)
    have Jhj_20 := Lib.hid (Jhj_19.out.on hb20)
    clear b0 b1
    obtain ⟨b0, b1⟩ := box2 hB20
    clear hB19 Lsi_19 Lsj_19 Ki_19 Kj_19 Jhi_19 Jhj_19 hb20
    refine Lib.hid ?_
    go_wp2_with (first | (go_at_call 29; refine (heldints_i _ _ (1 + I0.length) I1.length _ _ Kj_20.out (by omega) (by omega) (by omega)).mono ?_; rintro e w21 ⟨rfl, hb21⟩; refine Hid.out ?_) | fail)
    have hz21 := hb21.size
    have hB21 := on_call hB20 hb21
    have Lsi_21 := Lib.hid (Lsi_20.out.low hb21 (by omega))
    have Lsj_21 := Lib.hid (Lsj_20.out.low hb21 (by omega))
    have Ki_21 := Lib.hid (Ki_20.out.low hb21 (by omega))
    have Kj_21 := Lib.hid (Kj_20.out.low hb21 (by omega))
    have Jhi_21 := Lib.hid (Jhi_20.out.on hb21)
    have Jhj_21 := Lib.hid (Jhj_20.out.on hb21)
    clear b0 b1
    obtain ⟨b0, b1⟩ := box2 hB21
    clear hB20 Lsi_20 Lsj_20 Ki_20 Kj_20 Jhi_20 Jhj_20 hb21
    refine Lib.hid ?_
    go_wp2_with fail
    go_ret
    exact ⟨rfl, (below_box hB21)⟩
end Go.Proofs.Ytgjogjmfpbinfaa.S2

namespace Go.Proofs.Ytgjogjmfpbinfaa.S2
open Go.RowKit P2
theorem law_lpo (n : Int) (A : Option Addr) (cap : Nat) (ps : List Pp) (w : World) (h : PAt w A ps) (hm : ps.length ≤ maxLen) :
    Calls Try.prog 4 #[nv n A ps.length cap] w fun e w' => e = .returned (.bool true) ∧ Below w.heap.size w w' := by
  cases hv : goodB n ps with
  | false => exact walkLoopOf n A cap ps w h hm [] (by simp) [] (by simp) false (fun A c w h hl _ => slpo_no1 n A c ps w h (by unfold maxLen; omega) hv) (fun A c w h hl _ => lpo_no n A c ps w fun w' hb => sga_no1 n A c ps w' (h.kept hb (Nat.le_refl _)) (by unfold maxLen; omega) hv)
  | true =>
    have hg := good_of hv
    obtain ⟨N, rfl⟩ := good_nat hg
    have hpl := hg.2.2.1
    cases hr : ringB N ps with
    | false => exact walkLoopOf N A cap ps w h hm [] (by simp) [] (by simp) false (fun A c w h hl _ => slpo_no2 N A c ps w h (by unfold maxLen; omega) hv hr) (fun A c w h hl _ => lpo_no N A c ps w fun w' hb => sga_no2 N A c ps w' (h.kept hb (Nat.le_refl _)) (by unfold maxLen; omega) hv (by omega) hr)
    | true => exact walkLoopOf N A cap ps w h hm (loI ps (sgL N ps) ps.length) (by have := loI_len ps (sgL N ps) ps.length; omega) (loS (sgL N ps) ps.length) (by have := loS_len (sgL N ps) ps.length; omega) true (fun A c w h hl he => slpo_yes N A c ps w h (by unfold maxLen; omega) (by omega) hv hr) (fun A c w h hl he => lpo_yes N A c ps (sgL N ps) (sgL_len N ps) hpl w h fun w' hb => sga_yes N A c ps w' (h.kept hb (Nat.le_refl _)) (by unfold maxLen; omega) hv (by omega) hr)
end Go.Proofs.Ytgjogjmfpbinfaa.S2

namespace Go.Proofs.Ytgjogjmfpbinfaa.fnExactLoopOf
open Go.ChangeShapes Go.WideShapes Go.ChangeAt Go.RowKit P2 S2
set_option linter.unusedVariables false

theorem own : ownKnob Try.prog.godebug = none := by kernel_rfl
theorem laidOut : laidOutB Try.prog = true := by kernel_rfl

set_option maxRecDepth 100000 in
theorem lifted (os : Os) (started : os.Started) (H : Type) (enc : TypeId × Value → H) :
    ReturnsInHanded {} Try.checked os 4 .any (Rows.fnExactLoopOfSpec.pre6 enc Try.prog Try.f4 Rows.fnExactLoopOfRow.domain false) (Rows.fnExactLoopOfSpec.post enc Try.prog Try.f4 false true false false) := by
  refine returnsInHanded_of_change (C := Try.checked) own started (by kernel_rfl) Try.func4
    (ChangeSpec.witness6 (enc := enc) (C := Try.checked) false ⟨#[], #[.agg #[.int .i64 0, .slice none 0 0]], []⟩ 8 (by kernel_rfl) (by kernel_rfl) (by kernel_rfl) (by kernel_rfl)) ?_
  intro W base args ds gs before hval0 hW hcnd _
  have hval : ∀ (j : Nat) t v, Try.f4.params[j]? = some t → args[j]? = some v → Value.okWide Try.prog W .any base t v := hval0
  have hW' := hW
  obtain ⟨p, q, hA0, hV, rfl, hfz, hnd⟩ := hW
  have hA : DataW.TrodAll enc Try.prog W 0 (fun _ => true) true Try.f4.params.toList args.toList ds p := hA0
  rw [Try.params4] at hA hval
  obtain ⟨v0, d0, rfl, rfl, h0⟩ := trodAll_one hA
  obtain ⟨rfl, rfl⟩ := trodVars_none hV
  have k0 := h0
  have lt0 : ∀ x ∈ p, x.block < W.heap.size := by obtain ⟨m, hm⟩ := k0; exact DataW.trod_lt m _ _ _ hm
  obtain ⟨n0, A0, cap0, ps0, rfl, at0, mx0⟩ := net_open (hval 0 24 v0 rfl rfl) h0
  clear hA0 hval0
  refine (law_lpo n0 A0 cap0 ps0 W at0 mx0).mono fun e W' ⟨he, bel⟩ => ?_
  subst he
  exact ⟨_, rfl, _, _, _, [], _, [], hW', trodAll_mk1 (shut_bool Try.underlying4 _), trodAll_mk1 (Below.trod laidOut (by kernel_rfl) (of_decide_eq_true (by kernel_rfl)) k0 bel lt0), rfl, bel.frame _, fun h => by cases h⟩

theorem andB {a b : Bool} (h : a = true) (g : b = true) : (a && b) = true := by rw [h, g]; rfl
theorem heavy : ((Rows.fnExactLoopOfRow.inPlace == Try.pinned.checked.prog.inPlace 4) && ((Rows.fnExactLoopOfRow.unfollowed == Try.pinned.checked.prog.unfollowed 4) && ((Rows.fnExactLoopOfRow.recurses == Try.pinned.checked.prog.recurses 4) && (Rows.fnExactLoopOfRow.named == Try.pinned.checked.prog.varsNamed 4)))) = true := by kernel_rfl
set_option maxHeartbeats 4000000 in
theorem closed : joinedFacts Try.pinned.checked.prog 4 Try.f4 Rows.fnExactLoopOfSpec Rows.fnExactLoopOfRow = true := by
  unfold joinedFacts
  simp only [Bool.and_assoc]
  have h := heavy
  rw [Bool.and_eq_true, Bool.and_eq_true, Bool.and_eq_true] at h
  obtain ⟨h1, h2, h3, h4⟩ := h
  iterate 9 refine andB (by as_aux_lemma => kernel_rfl) ?_
  refine andB (by with_reducible exact h1) (andB (by with_reducible exact h2) (andB (by with_reducible exact h3) (andB (by with_reducible exact h4) ?_)))
  as_aux_lemma => kernel_rfl
theorem named : Try.pinned.checked.prog.funcNamed Rows.fnExactLoopOfRow.func = some 4 := by kernel_rfl
theorem instd : Try.f4.isInstance Try.pinned.checked.prog Rows.fnExactLoopOfRow.origin Rows.fnExactLoopOfRow.targs := of_decide_eq_true (by kernel_rfl)
theorem proved : Rows.FnExactLoopOfSaid :=
  OpenClaim.holds_of_wide 4 Try.f4 rfl rfl rfl rfl rfl rfl rfl ⟨rfl, rfl, rfl, rfl, rfl⟩ rfl rfl rfl rfl rfl named Try.func4 closed
    instd (by unfold Func.isWrapper; first | (rw [if_pos (by decide +kernel)]; kernel_rfl) | (rw [if_neg (by decide +kernel)]; exact ⟨rfl, rfl⟩))
    (fun os started H enc _ => lifted os started H enc)
end Go.Proofs.Ytgjogjmfpbinfaa.fnExactLoopOf
namespace Go.Proofs.Ytgjogjmfpbinfaa
theorem FnExactLoopOf_holds : Rows.FnExactLoopOfSaid := fnExactLoopOf.proved
#print axioms FnExactLoopOf_holds
end Go.Proofs.Ytgjogjmfpbinfaa
