/- The walk of the law FnTanks: contracts. Conditions: each theorem's own premises. -/
import Derived.Test.YtikppgbipdflbaaDoorTkDrR
import Derived.Test.YtikppgbipdflbaaDoorTkFm
import Derived.Test.YtikppgbipdflbaaDoorTkV
import Derived.Deep.DeepCutAuto
namespace Go.Proofs.YtikppgbipdflbaaDoor.S11
open Go.RowKit Go.Sort P11

theorem fm_cases {L x y : Int} {l1 l2 : List Int} (hd : Day L x y l1 l2) : (fmO L x y l1 l2 = none ∧ misS x y l1 l2 L = 0) ∨ (∃ k, fmO L x y l1 l2 = some k ∧ k < l1.length ∧ 0 < misS x y l1 l2 L) := by
  unfold fmO
  rw [if_pos (dayB_iff.2 hd)]
  by_cases hm : ∃ k, k < l1.length ∧ 0 < miA x y L l1 l2 k
  · have hw : ∃ k, (k < l1.length ∧ 0 < miA x y L l1 l2 k) ∧ ∀ j, j < k → ¬ (j < l1.length ∧ 0 < miA x y L l1 l2 j) := by
      obtain ⟨k, hk⟩ := hm
      induction k using Nat.strongRecOn with
      | ind k ih =>
        by_cases hj : ∃ j, j < k ∧ (j < l1.length ∧ 0 < miA x y L l1 l2 j)
        · obtain ⟨j, hjk, hj2⟩ := hj
          exact ih j hjk hj2
        · exact ⟨k, hk, fun j h1 h2 => hj ⟨j, h1, h2⟩⟩
    obtain ⟨k, ⟨hk, hp⟩, hno⟩ := hw
    obtain ⟨f1, f2⟩ := hd.fir_some hk (fun j hj hpj => hno j hj ⟨by omega, hpj⟩) hp
    exact .inr ⟨k, f1, hk, f2⟩
  · obtain ⟨f1, f2⟩ := hd.fir_none (fun j hj hp => hm ⟨j, hj, hp⟩)
    exact .inl ⟨f1, f2⟩
set_option maxHeartbeats 16000000 in
set_option maxRecDepth 100000 in
theorem walkTanks (a : Option Addr) (n cap : Nat) (w : World) (hc : S1.Cd w.heap.size a n w) (hE0 : ∃ ea, Er w (noV ea)) (hT : Et w) :
    Calls Tryd.prog 5 #[.slice a n cap] w fun e w' => e = .returned (.bool true) ∧ Below w.heap.size w w' := by
  obtain ⟨ea, hE⟩ := hE0
  by_cases hn : n ≤ 65536
  case neg =>
    have HV := Lib.hid (fun w => vbig_yes a n cap w (by omega))
    go_enter Tryd.func5, Tryd.ntmps5
    go_wp2_with (go_at_call 14; refine (HV.out _).mono ?_; rintro e w1 ⟨rfl, rfl⟩)
    go_ret
    exact ⟨rfl, Below.refl _ _⟩
  have HV := Lib.hid (fun w => vbig_no a n cap w hn)
  have HDR := Lib.hid (drun_any a n cap w hc hn)
  go_enter Tryd.func5, Tryd.ntmps5
  go_wp2_with (first | (go_at_call 14; refine (HV.out _).mono ?_; rintro e wv ⟨rfl, hw⟩; replace hw := hw.symm; subst hw; refine Hid.out ?_) | fail)
  have hB0 := Below.refl w.heap.size w
  refine Lib.hid ?_
  go_wp2_with (first | (go_at_call 15; refine (HDR.out).mono ?_; rintro e w1 ⟨L, x, y, q1, c1, l1, q2, c2, l2, rfl, hl1, hl2, hq1, hq2, ha1, ha2, hb1⟩; refine Hid.out ?_) | fail)
  have hz1 := hb1.size
  have hB1 := hB0.trans (hb1.mono hB0.size)
  clear hB0 hb1
  have I1_1 := Lib.hid ha1
  have I2_1 := Lib.hid ha2
  clear ha1 ha2 HDR HV hq1 hq2
  have hb1a := alloc_below w1 (tb 27 L x y)
  have Qnt := Lib.hid (BT.new w1 27 L x y)
  have hz1a := hb1a.size
  have hB1a := hB1.trans (hb1a.mono hB1.size)
  have I1_1a := Lib.hid (I1_1.out.kept hb1a (Nat.le_refl _))
  have I2_1a := Lib.hid (I2_1.out.kept hb1a (Nat.le_refl _))
  clear hB1 I1_1 I2_1 hb1a
  have Qt_1a := Qnt
  clear Qnt
  cases hday : dayB L x y l1 l2 with
  | false =>
      obtain ⟨ltt, bt0, bt1, bt2⟩ := Qt_1a.out
      refine Lib.hid ?_
      go_wp2_with (first | (go_at_call 16; refine (run_no L x y _ c1 l1 _ c2 l2 _ I1_1a.out (by omega) I2_1a.out (by omega) hday).mono ?_; rintro e w2 ⟨gI, cI, rfl, hgI, hoI, hb2⟩; refine Hid.out ?_) | fail)
      clear bt0 bt1 bt2 ltt
      have hz2 := hb2.size
      have hB2 := hB1a.trans (hb2.mono hB1a.size)
      have I1_2 := Lib.hid (I1_1a.out.kept hb2 (Nat.le_refl _))
      have I2_2 := Lib.hid (I2_1a.out.kept hb2 (Nat.le_refl _))
      have Qt_2 := Lib.hid (Qt_1a.out.kept hb2)
      clear hB1a I1_1a I2_1a Qt_1a hb2
      have Ii_2 := Lib.hid hoI.iat
      clear hoI hgI
      obtain ⟨ltt, bt0, bt1, bt2⟩ := Qt_2.out
      refine Lib.hid ?_
      go_wp2_with (first | (go_at_call 17; refine (srun_no L x y _ c1 l1 _ c2 l2 _ I1_2.out (by omega) I2_2.out (by omega) hday).mono ?_; rintro e w3 ⟨gS, oS, cS, rfl, hgS, haS, hb3, hlS⟩; refine Hid.out ?_) | fail)
      clear bt0 bt1 bt2 ltt
      have hz3 := hb3.size
      have hB3 := hB2.trans (hb3.mono hB2.size)
      have I1_3 := Lib.hid (I1_2.out.kept hb3 (Nat.le_refl _))
      have I2_3 := Lib.hid (I2_2.out.kept hb3 (Nat.le_refl _))
      have Qt_3 := Lib.hid (Qt_2.out.kept hb3)
      have Ii_3 := Lib.hid (Ii_2.out.kept hb3 (Nat.le_refl _))
      clear hB2 I1_2 I2_2 Qt_2 Ii_2 hb3
      have Is_3 := Lib.hid haS
      clear haS hgS hlS
      have HVI := Lib.hid (fun w' (hb : Below w3.heap.size w3 w') => vints_same (some ⟨gI, 0, none⟩) (some ⟨gS, oS, none⟩) cI cS [] w' (Ii_3.out.kept hb (Nat.le_refl _)) (Is_3.out.kept hb (Nat.le_refl _)) (by simp))
      have HV1 := Lib.hid (fun w => valid_any L x y w)
      have HV2 := Lib.hid (fun w => svalid_any L x y w)
      generalize tkB L x y = tkv at HV1 HV2
      obtain ⟨ltt, bt0, bt1, bt2⟩ := Qt_3.out
      refine Lib.hid ?_
      go_wp2_with fail
      have hG := @cell_g
      refine region_below (by kernel_rfl) (by kernel_rfl) ?_
      repeat (first | go_big_quiet_step ((first
        | (go_at_call 18; exact met_at (fun w' hb' => HVI.out w' hb'))
        | (go_at_call 19; exact met HV1.out)
        | (go_at_call 20; exact met HV2.out))))
      refine wpQuiet_nil ?_
      intro w4 hb4
      clear bt0 bt1 bt2 ltt
      have hz4 := hb4.size
      have hB4 := hB3.trans (hb4.mono hB3.size)
      have I1_4 := Lib.hid (I1_3.out.kept hb4 (Nat.le_refl _))
      have I2_4 := Lib.hid (I2_3.out.kept hb4 (Nat.le_refl _))
      have Qt_4 := Lib.hid (Qt_3.out.kept hb4)
      have Ii_4 := Lib.hid (Ii_3.out.kept hb4 (Nat.le_refl _))
      have Is_4 := Lib.hid (Is_3.out.kept hb4 (Nat.le_refl _))
      clear hB3 I1_3 I2_3 Qt_3 Ii_3 Is_3 hb4
      clear HVI HV1 HV2 hG
      refine Hid.out ?_
      have hcl := hc.later hB4 (Nat.le_refl _)
      have HDS := Lib.hid (dstep_any a n cap w4 hcl hn)
      clear hcl
      refine Lib.hid ?_
      go_wp2_with (first | (go_at_call 25; refine (HDS.out).mono ?_; rintro e w5 ⟨⟨L3, x3, y3, p3, r3, rfl⟩, hb5⟩; refine Hid.out ?_) | fail)
      have hz5 := hb5.size
      have hB5 := hB4.trans (hb5.mono hB4.size)
      have I1_5 := Lib.hid (I1_4.out.kept hb5 (Nat.le_refl _))
      have I2_5 := Lib.hid (I2_4.out.kept hb5 (Nat.le_refl _))
      have Qt_5 := Lib.hid (Qt_4.out.kept hb5)
      have Ii_5 := Lib.hid (Ii_4.out.kept hb5 (Nat.le_refl _))
      have Is_5 := Lib.hid (Is_4.out.kept hb5 (Nat.le_refl _))
      clear hB4 I1_4 I2_4 Qt_4 Ii_4 Is_4 hb5
      clear HDS
      have hb5a := alloc_below w5 (tb 27 L3 x3 y3)
      have Qns := Lib.hid (BT.new w5 27 L3 x3 y3)
      have hz5a := hb5a.size
      have hB5a := hB5.trans (hb5a.mono hB5.size)
      have I1_5a := Lib.hid (I1_5.out.kept hb5a (Nat.le_refl _))
      have I2_5a := Lib.hid (I2_5.out.kept hb5a (Nat.le_refl _))
      have Qt_5a := Lib.hid (Qt_5.out.kept hb5a)
      have Ii_5a := Lib.hid (Ii_5.out.kept hb5a (Nat.le_refl _))
      have Is_5a := Lib.hid (Is_5.out.kept hb5a (Nat.le_refl _))
      clear hB5 I1_5 I2_5 Qt_5 Ii_5 Is_5 hb5a
      have Qs_5a := Qns
      clear Qns
      by_cases hst : stB L3 x3 y3 p3 r3 = true
      · obtain ⟨lts, bs0, bs1, bs2⟩ := Qs_5a.out
        refine Lib.hid ?_
        go_wp2_with (first | (go_at_call 26; refine (step_yes L3 x3 y3 p3 r3 _ hst).mono ?_; rintro e w6 ⟨rfl, hb6⟩; refine Hid.out ?_) | fail)
        clear bs0 bs1 bs2 lts
        have hz6 := hb6.size
        have hB6 := hB5a.trans (hb6.mono hB5a.size)
        have I1_6 := Lib.hid (I1_5a.out.kept hb6 (Nat.le_refl _))
        have I2_6 := Lib.hid (I2_5a.out.kept hb6 (Nat.le_refl _))
        have Qt_6 := Lib.hid (Qt_5a.out.kept hb6)
        have Ii_6 := Lib.hid (Ii_5a.out.kept hb6 (Nat.le_refl _))
        have Is_6 := Lib.hid (Is_5a.out.kept hb6 (Nat.le_refl _))
        have Qs_6 := Lib.hid (Qs_5a.out.kept hb6)
        clear hB5a I1_5a I2_5a Qt_5a Ii_5a Is_5a Qs_5a hb6
        have hb6a := alloc_below w6 (tb 27 (nxt x3 y3 L3 p3 r3) x3 y3)
        have Qny := Lib.hid (BT.new w6 27 (nxt x3 y3 L3 p3 r3) x3 y3)
        have hz6a := hb6a.size
        have hB6a := hB6.trans (hb6a.mono hB6.size)
        have I1_6a := Lib.hid (I1_6.out.kept hb6a (Nat.le_refl _))
        have I2_6a := Lib.hid (I2_6.out.kept hb6a (Nat.le_refl _))
        have Qt_6a := Lib.hid (Qt_6.out.kept hb6a)
        have Ii_6a := Lib.hid (Ii_6.out.kept hb6a (Nat.le_refl _))
        have Is_6a := Lib.hid (Is_6.out.kept hb6a (Nat.le_refl _))
        have Qs_6a := Lib.hid (Qs_6.out.kept hb6a)
        clear hB6 I1_6 I2_6 Qt_6 Ii_6 Is_6 Qs_6 hb6a
        have Qy_6a := Qny
        clear Qny
        obtain ⟨lts, bs0, bs1, bs2⟩ := Qs_6a.out
        refine Lib.hid ?_
        go_wp2_with (first | (go_at_call 27; refine (sstep_yes L3 x3 y3 p3 r3 _ hst).mono ?_; rintro e w7 ⟨rfl, hb7⟩; refine Hid.out ?_) | fail)
        clear bs0 bs1 bs2 lts
        have hz7 := hb7.size
        have hB7 := hB6a.trans (hb7.mono hB6a.size)
        have I1_7 := Lib.hid (I1_6a.out.kept hb7 (Nat.le_refl _))
        have I2_7 := Lib.hid (I2_6a.out.kept hb7 (Nat.le_refl _))
        have Qt_7 := Lib.hid (Qt_6a.out.kept hb7)
        have Ii_7 := Lib.hid (Ii_6a.out.kept hb7 (Nat.le_refl _))
        have Is_7 := Lib.hid (Is_6a.out.kept hb7 (Nat.le_refl _))
        have Qs_7 := Lib.hid (Qs_6a.out.kept hb7)
        have Qy_7 := Lib.hid (Qy_6a.out.kept hb7)
        clear hB6a I1_6a I2_6a Qt_6a Ii_6a Is_6a Qs_6a Qy_6a hb7
        have hb7a := alloc_below w7 (tb 27 (nxt x3 y3 L3 p3 r3) x3 y3)
        have Qnv := Lib.hid (BT.new w7 27 (nxt x3 y3 L3 p3 r3) x3 y3)
        have hz7a := hb7a.size
        have hB7a := hB7.trans (hb7a.mono hB7.size)
        have I1_7a := Lib.hid (I1_7.out.kept hb7a (Nat.le_refl _))
        have I2_7a := Lib.hid (I2_7.out.kept hb7a (Nat.le_refl _))
        have Qt_7a := Lib.hid (Qt_7.out.kept hb7a)
        have Ii_7a := Lib.hid (Ii_7.out.kept hb7a (Nat.le_refl _))
        have Is_7a := Lib.hid (Is_7.out.kept hb7a (Nat.le_refl _))
        have Qs_7a := Lib.hid (Qs_7.out.kept hb7a)
        have Qy_7a := Lib.hid (Qy_7.out.kept hb7a)
        clear hB7 I1_7 I2_7 Qt_7 Ii_7 Is_7 Qs_7 Qy_7 hb7a
        have Qv_7a := Qnv
        clear Qnv
        obtain ⟨ht3, hp3, hr3⟩ := stB_iff.1 hst
        have HVT := Lib.hid (fun w => valid_v (step_tk ht3 hp3 hr3) w)
        obtain ⟨⟨hs0, hs1⟩, ⟨hm0, hm1⟩, hn0, hn1⟩ := step_in ht3 hp3 hr3
        obtain ⟨a0, a1, a2, a3⟩ := tkB_iff.1 ht3
        obtain ⟨hp30, hp31⟩ := hp3
        obtain ⟨hr30, hr31⟩ := hr3
        have HNX := Lib.hid (show L3 + p3 - spl y3 L3 p3 - r3 + mis x3 y3 L3 p3 r3 = nxt x3 y3 L3 p3 r3 from rfl)
        clear hst ht3
        generalize spl y3 L3 p3 = s3 at *
        generalize mis x3 y3 L3 p3 r3 = m3 at *
        generalize nxt x3 y3 L3 p3 r3 = z3 at *
        have hnx := HNX.out
        obtain ⟨lts, bs0, bs1, bs2⟩ := Qs_7a.out
        obtain ⟨lty, by0, by1, by2⟩ := Qy_7a.out
        obtain ⟨ltv, bv0, bv1, bv2⟩ := Qv_7a.out
        refine Lib.hid ?_
        go_wp2_with (first | (go_at_call 19; refine (HVT.out _).mono ?_; rintro e w8 ⟨rfl, hb8⟩; refine Hid.out ?_) | fail)
        have HBB := Lib.hid (hB7a.trans (hb8.mono hB7a.size))
        refine Lib.hid ?_
        go_wp2_with fail
        go_ret
        exact ⟨rfl, HBB.out⟩
      · replace hst : stB L3 x3 y3 p3 r3 = false := by simpa using hst
        obtain ⟨lts, bs0, bs1, bs2⟩ := Qs_5a.out
        refine Lib.hid ?_
        go_wp2_with (first | (go_at_call 26; refine (step_no L3 x3 y3 p3 r3 _ hst).mono ?_; rintro e w6 ⟨rfl, hb6⟩; refine Hid.out ?_) | fail)
        clear bs0 bs1 bs2 lts
        have hz6 := hb6.size
        have hB6 := hB5a.trans (hb6.mono hB5a.size)
        have I1_6 := Lib.hid (I1_5a.out.kept hb6 (Nat.le_refl _))
        have I2_6 := Lib.hid (I2_5a.out.kept hb6 (Nat.le_refl _))
        have Qt_6 := Lib.hid (Qt_5a.out.kept hb6)
        have Ii_6 := Lib.hid (Ii_5a.out.kept hb6 (Nat.le_refl _))
        have Is_6 := Lib.hid (Is_5a.out.kept hb6 (Nat.le_refl _))
        have Qs_6 := Lib.hid (Qs_5a.out.kept hb6)
        clear hB5a I1_5a I2_5a Qt_5a Ii_5a Is_5a Qs_5a hb6
        have hb6a := alloc_below w6 (tb 27 0 0 0)
        have Qny := Lib.hid (BT.new w6 27 0 0 0)
        have hz6a := hb6a.size
        have hB6a := hB6.trans (hb6a.mono hB6.size)
        have I1_6a := Lib.hid (I1_6.out.kept hb6a (Nat.le_refl _))
        have I2_6a := Lib.hid (I2_6.out.kept hb6a (Nat.le_refl _))
        have Qt_6a := Lib.hid (Qt_6.out.kept hb6a)
        have Ii_6a := Lib.hid (Ii_6.out.kept hb6a (Nat.le_refl _))
        have Is_6a := Lib.hid (Is_6.out.kept hb6a (Nat.le_refl _))
        have Qs_6a := Lib.hid (Qs_6.out.kept hb6a)
        clear hB6 I1_6 I2_6 Qt_6 Ii_6 Is_6 Qs_6 hb6a
        have Qy_6a := Qny
        clear Qny
        obtain ⟨lts, bs0, bs1, bs2⟩ := Qs_6a.out
        refine Lib.hid ?_
        go_wp2_with (first | (go_at_call 27; refine (sstep_no L3 x3 y3 p3 r3 _ hst).mono ?_; rintro e w7 ⟨rfl, hb7⟩; refine Hid.out ?_) | fail)
        clear bs0 bs1 bs2 lts
        have hz7 := hb7.size
        have hB7 := hB6a.trans (hb7.mono hB6a.size)
        have I1_7 := Lib.hid (I1_6a.out.kept hb7 (Nat.le_refl _))
        have I2_7 := Lib.hid (I2_6a.out.kept hb7 (Nat.le_refl _))
        have Qt_7 := Lib.hid (Qt_6a.out.kept hb7)
        have Ii_7 := Lib.hid (Ii_6a.out.kept hb7 (Nat.le_refl _))
        have Is_7 := Lib.hid (Is_6a.out.kept hb7 (Nat.le_refl _))
        have Qs_7 := Lib.hid (Qs_6a.out.kept hb7)
        have Qy_7 := Lib.hid (Qy_6a.out.kept hb7)
        clear hB6a I1_6a I2_6a Qt_6a Ii_6a Is_6a Qs_6a Qy_6a hb7
        have hb7a := alloc_below w7 (tb 27 0 0 0)
        have Qnv := Lib.hid (BT.new w7 27 0 0 0)
        have hz7a := hb7a.size
        have hB7a := hB7.trans (hb7a.mono hB7.size)
        have I1_7a := Lib.hid (I1_7.out.kept hb7a (Nat.le_refl _))
        have I2_7a := Lib.hid (I2_7.out.kept hb7a (Nat.le_refl _))
        have Qt_7a := Lib.hid (Qt_7.out.kept hb7a)
        have Ii_7a := Lib.hid (Ii_7.out.kept hb7a (Nat.le_refl _))
        have Is_7a := Lib.hid (Is_7.out.kept hb7a (Nat.le_refl _))
        have Qs_7a := Lib.hid (Qs_7.out.kept hb7a)
        have Qy_7a := Lib.hid (Qy_7.out.kept hb7a)
        clear hB7 I1_7 I2_7 Qt_7 Ii_7 Is_7 Qs_7 Qy_7 hb7a
        have Qv_7a := Qnv
        clear Qnv
        obtain ⟨lts, bs0, bs1, bs2⟩ := Qs_7a.out
        obtain ⟨lty, by0, by1, by2⟩ := Qy_7a.out
        obtain ⟨ltv, bv0, bv1, bv2⟩ := Qv_7a.out
        have HBB := Lib.hid hB7a
        refine Lib.hid ?_
        go_wp2_with fail
        go_ret
        exact ⟨rfl, HBB.out⟩
  | true =>
      have hd := dayB_iff.1 hday
      have hn12 := hd.n1
      have hn11 := hd.n0
      obtain ⟨ltt, bt0, bt1, bt2⟩ := Qt_1a.out
      refine Lib.hid ?_
      go_wp2_with (first | (go_at_call 16; refine (run_yes L x y _ c1 l1 _ c2 l2 _ I1_1a.out (by omega) I2_1a.out (by omega) hd).mono ?_; rintro e w2 ⟨gI, cI, rfl, hgI, hoI, hb2⟩; refine Hid.out ?_) | fail)
      clear bt0 bt1 bt2 ltt
      have hz2 := hb2.size
      have hB2 := hB1a.trans (hb2.mono hB1a.size)
      have I1_2 := Lib.hid (I1_1a.out.kept hb2 (Nat.le_refl _))
      have I2_2 := Lib.hid (I2_1a.out.kept hb2 (Nat.le_refl _))
      have Qt_2 := Lib.hid (Qt_1a.out.kept hb2)
      clear hB1a I1_1a I2_1a Qt_1a hb2
      have Ii_2 := Lib.hid hoI.iat
      clear hoI hgI
      obtain ⟨ltt, bt0, bt1, bt2⟩ := Qt_2.out
      refine Lib.hid ?_
      go_wp2_with (first | (go_at_call 17; refine (srun_yes L x y _ c1 l1 _ c2 l2 _ I1_2.out (by omega) I2_2.out (by omega) hd).mono ?_; rintro e w3 ⟨gS, oS, cS, rfl, hgS, haS, hb3, hlS⟩; refine Hid.out ?_) | fail)
      clear bt0 bt1 bt2 ltt
      have hz3 := hb3.size
      have hB3 := hB2.trans (hb3.mono hB2.size)
      have I1_3 := Lib.hid (I1_2.out.kept hb3 (Nat.le_refl _))
      have I2_3 := Lib.hid (I2_2.out.kept hb3 (Nat.le_refl _))
      have Qt_3 := Lib.hid (Qt_2.out.kept hb3)
      have Ii_3 := Lib.hid (Ii_2.out.kept hb3 (Nat.le_refl _))
      clear hB2 I1_2 I2_2 Qt_2 Ii_2 hb3
      have Is_3 := Lib.hid haS
      clear haS hgS hlS
      have HLEN := Lib.hid (levL_len x y L l1 l2 l1.length)
      have HVI := Lib.hid (fun w' (hb : Below w3.heap.size w3 w') => vints_same (some ⟨gI, 0, none⟩) (some ⟨gS, oS, none⟩) cI cS (levL x y L l1 l2 l1.length) w' (Ii_3.out.kept hb (Nat.le_refl _)) (Is_3.out.kept hb (Nat.le_refl _)) (by rw [HLEN.out]; omega))
      have HV1 := Lib.hid (fun w => valid_any L x y w)
      have HV2 := Lib.hid (fun w => svalid_any L x y w)
      obtain ⟨lv, hlv⟩ : ∃ lv, levL x y L l1 l2 l1.length = lv := ⟨_, rfl⟩
      rw [hlv] at HVI HLEN Ii_3 Is_3 ⊢
      have HLV := Lib.hid hlv
      clear hlv
      generalize tkB L x y = tkv at HV1 HV2
      obtain ⟨ltt, bt0, bt1, bt2⟩ := Qt_3.out
      refine Lib.hid ?_
      go_wp2_with fail
      have hG := @cell_g
      refine region_below (by kernel_rfl) (by kernel_rfl) ?_
      repeat (first | go_big_quiet_step ((first
        | (go_at_call 18; exact met_at (fun w' hb' => HVI.out w' hb'))
        | (go_at_call 19; exact met HV1.out)
        | (go_at_call 20; exact met HV2.out))))
      refine wpQuiet_nil ?_
      intro w4 hb4
      clear bt0 bt1 bt2 ltt
      have hz4 := hb4.size
      have hB4 := hB3.trans (hb4.mono hB3.size)
      have I1_4 := Lib.hid (I1_3.out.kept hb4 (Nat.le_refl _))
      have I2_4 := Lib.hid (I2_3.out.kept hb4 (Nat.le_refl _))
      have Qt_4 := Lib.hid (Qt_3.out.kept hb4)
      have Ii_4 := Lib.hid (Ii_3.out.kept hb4 (Nat.le_refl _))
      have Is_4 := Lib.hid (Is_3.out.kept hb4 (Nat.le_refl _))
      clear hB3 I1_3 I2_3 Qt_3 Ii_3 Is_3 hb4
      clear HVI HV1 HV2 hG
      refine Hid.out ?_
      have HZ0 := Lib.hid (show lv.getD (lv.length - 1) 0 = aft x y l1 l2 L by
        have hlv := HLV.out
        have hle := HLEN.out
        rw [hle, ← hlv, levL_at x y L l1 l2 (by omega)]
        unfold aft
        rw [show l1.length - 1 + 1 = l1.length by omega])
      have HIN := Lib.hid (show ∀ k, k < lv.length → x ≤ lv.getD k 0 ∧ lv.getD k 0 ≤ y from fun k hk => by
        have hlv := HLV.out
        have hle := HLEN.out
        rw [← hlv, levL_at x y L l1 l2 (by omega)]
        have := tkB_iff.1 (hd.lev (k := k + 1) (by omega))
        omega)
      have HBAL := Lib.hid (show L + outS l1 - spiS x y l1 l2 L - (outS l2 - misS x y l1 l2 L) = aft x y l1 l2 L by
        have := balance x y L l1 l2 l1.length
        have e1 : outS l1 = sumF (fun i => l1.getD i 0) l1.length := rfl
        have e2 : outS l2 = sumF (fun i => l2.getD i 0) l1.length := by unfold outS; rw [hd.eq]; rfl
        unfold aft spiS misS
        rw [e1, e2]
        omega)
      obtain ⟨z, hz⟩ : ∃ z, aft x y l1 l2 L = z := ⟨_, rfl⟩
      have HRP := fun (w' : World) (h1 : IAt w' (some ⟨q1, 0, none⟩) l1) (h2 : IAt w' (some ⟨q2, 0, none⟩) l2) => rep_yes L x y _ c1 l1 _ c2 l2 1 w' h1 (by omega) h2 (by omega) hd (by omega) (by omega)
      have hrz : P11.rep x y l1 l2 L ((1 : Int)).toNat = z := hz
      rw [hz] at HZ0 HBAL
      rw [hrz] at HRP
      have HRPh := Lib.hid HRP
      obtain ⟨a0, a1, a2, a3⟩ := tkB_iff.1 hd.tk
      have hzb := tkB_iff.1 hd.aft.tk
      rw [hz] at hzb
      obtain ⟨zb0, zb1, zb2, zb3⟩ := hzb
      obtain ⟨o20, o21⟩ := out_bd hd
      obtain ⟨o10, o11⟩ : 0 ≤ outS l1 ∧ outS l1 ≤ 1300 := vol_sum hd.xv (by omega) (Nat.le_refl _)
      obtain ⟨sp0, sp1⟩ : 0 ≤ spiS x y l1 l2 L ∧ spiS x y l1 l2 L ≤ 1920 := hd.spS (Nat.le_refl _)
      obtain ⟨ms0, ms1⟩ : 0 ≤ misS x y l1 l2 L ∧ misS x y l1 l2 L ≤ 1920 := hd.miS (Nat.le_refl _)
      have HCB := Lib.hid (show (spiS x y l1 l2 L + misS x y l1 l2 L == 0) = calmB L x y l1 l2 by unfold calmB; rw [Bool.eq_iff_iff]; simp; omega)
      have HFM := fm_cases hd
      have HWT := Lib.hid (fun (w' : World) (h1 : IAt w' (some ⟨q1, 0, none⟩) l1) (h2 : IAt w' (some ⟨q2, 0, none⟩) l2) => wat_yes L x y _ c1 l1 _ c2 l2 w' h1 (by omega) h2 (by omega) hd)
      have HCM := Lib.hid (fun (w' : World) (h1 : IAt w' (some ⟨q1, 0, none⟩) l1) (h2 : IAt w' (some ⟨q2, 0, none⟩) l2) => calm_yes L x y _ c1 l1 _ c2 l2 w' h1 (by omega) h2 (by omega) hd)
      have HFF := Lib.hid (fun (w' : World) (hb : Below w.heap.size w w') (h1 : IAt w' (some ⟨q1, 0, none⟩) l1) (h2 : IAt w' (some ⟨q2, 0, none⟩) l2) => ifm_any L x y _ c1 l1 _ c2 l2 ea w' (hE.kept hb) (hT.kept hb) h1 (by omega) h2 (by omega))
      have HS1 := Lib.hid (fun (w' : World) (h1 : IAt w' (some ⟨q1, 0, none⟩) l1) => vsum_any _ c1 l1 w' h1 hd.xv (by omega))
      have HS2 := Lib.hid (fun (w' : World) (h2 : IAt w' (some ⟨q2, 0, none⟩) l2) => vsum_any _ c2 l2 w' h2 hd.yv (by have := hd.eq; omega))
      clear HRP hz hrz HLV hd hday
      generalize spiS x y l1 l2 L = sp at *
      generalize misS x y l1 l2 L = ms at *
      generalize outS l1 = i1 at *
      generalize outS l2 = i2 at *
      generalize calmB L x y l1 l2 = cb at *
      obtain ⟨late, hlate⟩ : ∃ late, (fmO L x y l1 l2).isSome = late := ⟨_, rfl⟩
      obtain ⟨hr, hhr⟩ : ∃ hr : Int, (((fmO L x y l1 l2).getD 0 : Nat) : Int) = hr := ⟨_, rfl⟩
      have HFF2 : Hid (∀ w', Below w.heap.size w w' → IAt w' (some ⟨q1, 0, none⟩) l1 → IAt w' (some ⟨q2, 0, none⟩) l2 → Calls Tryd.prog 13 #[tv L x y, .slice (some ⟨q1, 0, none⟩) l1.length c1, .slice (some ⟨q2, 0, none⟩) l2.length c2] w' fun e w'' => e = .returned (.tuple #[.int .i64 hr, .bool late]) ∧ Below w'.heap.size w' w'') := Lib.hid (by
        intro w' hb h1 h2
        have := HFF.out w' hb h1 h2
        unfold FmPost at this
        rw [hlate, hhr] at this
        exact this)
      have HFM2 : (late = false ∧ ms = 0) ∨ (late = true ∧ hr < (l1.length : Int) ∧ 0 < ms) := by
        rcases HFM with ⟨h1, h2⟩ | ⟨k, h1, h2, h3⟩
        · exact .inl ⟨by rw [← hlate, h1]; rfl, h2⟩
        · exact .inr ⟨by rw [← hlate, h1]; rfl, by rw [← hhr, h1]; exact Int.ofNat_lt.2 h2, h3⟩
      clear HFF HFM hlate hhr
      obtain ⟨ltt, bt0, bt1, bt2⟩ := Qt_4.out
      refine Lib.hid ?_
      go_wp2_with (first | (go_at_call 21; refine (HWT.out _ I1_4.out I2_4.out).mono ?_; rintro e w5 ⟨rfl, hb5⟩; refine Hid.out ?_) | fail)
      clear bt0 bt1 bt2 ltt
      have hz5 := hb5.size
      have hB5 := hB4.trans (hb5.mono hB4.size)
      have I1_5 := Lib.hid (I1_4.out.kept hb5 (Nat.le_refl _))
      have I2_5 := Lib.hid (I2_4.out.kept hb5 (Nat.le_refl _))
      have Qt_5 := Lib.hid (Qt_4.out.kept hb5)
      have Ii_5 := Lib.hid (Ii_4.out.kept hb5 (Nat.le_refl _))
      have Is_5 := Lib.hid (Is_4.out.kept hb5 (Nat.le_refl _))
      clear hB4 I1_4 I2_4 Qt_4 Ii_4 Is_4 hb5
      obtain ⟨ltt, bt0, bt1, bt2⟩ := Qt_5.out
      refine Lib.hid ?_
      go_wp2_with (first | (go_at_call 22; refine (HRPh.out _ I1_5.out I2_5.out).mono ?_; rintro e w6 ⟨rfl, hb6⟩; refine Hid.out ?_) | fail)
      clear bt0 bt1 bt2 ltt
      have hz6 := hb6.size
      have hB6 := hB5.trans (hb6.mono hB5.size)
      have I1_6 := Lib.hid (I1_5.out.kept hb6 (Nat.le_refl _))
      have I2_6 := Lib.hid (I2_5.out.kept hb6 (Nat.le_refl _))
      have Qt_6 := Lib.hid (Qt_5.out.kept hb6)
      have Ii_6 := Lib.hid (Ii_5.out.kept hb6 (Nat.le_refl _))
      have Is_6 := Lib.hid (Is_5.out.kept hb6 (Nat.le_refl _))
      clear hB5 I1_5 I2_5 Qt_5 Ii_5 Is_5 hb6
      have hb6a := alloc_below w6 (tb 27 z x y)
      have Qnr := Lib.hid (BT.new w6 27 z x y)
      have hz6a := hb6a.size
      have hB6a := hB6.trans (hb6a.mono hB6.size)
      have I1_6a := Lib.hid (I1_6.out.kept hb6a (Nat.le_refl _))
      have I2_6a := Lib.hid (I2_6.out.kept hb6a (Nat.le_refl _))
      have Qt_6a := Lib.hid (Qt_6.out.kept hb6a)
      have Ii_6a := Lib.hid (Ii_6.out.kept hb6a (Nat.le_refl _))
      have Is_6a := Lib.hid (Is_6.out.kept hb6a (Nat.le_refl _))
      clear hB6 I1_6 I2_6 Qt_6 Ii_6 Is_6 hb6a
      have Qr_6a := Qnr
      clear Qnr
      obtain ⟨ltt, bt0, bt1, bt2⟩ := Qt_6a.out
      refine Lib.hid ?_
      go_wp2_with (first | (go_at_call 23; refine (HCM.out _ I1_6a.out I2_6a.out).mono ?_; rintro e w7 ⟨rfl, hb7⟩; refine Hid.out ?_) | fail)
      clear bt0 bt1 bt2 ltt
      have hz7 := hb7.size
      have hB7 := hB6a.trans (hb7.mono hB6a.size)
      have I1_7 := Lib.hid (I1_6a.out.kept hb7 (Nat.le_refl _))
      have I2_7 := Lib.hid (I2_6a.out.kept hb7 (Nat.le_refl _))
      have Qt_7 := Lib.hid (Qt_6a.out.kept hb7)
      have Ii_7 := Lib.hid (Ii_6a.out.kept hb7 (Nat.le_refl _))
      have Is_7 := Lib.hid (Is_6a.out.kept hb7 (Nat.le_refl _))
      have Qr_7 := Lib.hid (Qr_6a.out.kept hb7)
      clear hB6a I1_6a I2_6a Qt_6a Ii_6a Is_6a Qr_6a hb7
      obtain ⟨ltt, bt0, bt1, bt2⟩ := Qt_7.out
      refine Lib.hid ?_
      go_wp2_with (first | (go_at_call 13; refine (HFF2.out _ hB7 I1_7.out I2_7.out).mono ?_; rintro e w8 ⟨rfl, hb8⟩; refine Hid.out ?_) | fail)
      clear bt0 bt1 bt2 ltt
      have hz8 := hb8.size
      have hB8 := hB7.trans (hb8.mono hB7.size)
      have I1_8 := Lib.hid (I1_7.out.kept hb8 (Nat.le_refl _))
      have I2_8 := Lib.hid (I2_7.out.kept hb8 (Nat.le_refl _))
      have Qt_8 := Lib.hid (Qt_7.out.kept hb8)
      have Ii_8 := Lib.hid (Ii_7.out.kept hb8 (Nat.le_refl _))
      have Is_8 := Lib.hid (Is_7.out.kept hb8 (Nat.le_refl _))
      have Qr_8 := Lib.hid (Qr_7.out.kept hb8)
      clear hB7 I1_7 I2_7 Qt_7 Ii_7 Is_7 Qr_7 hb8
      obtain ⟨bb, off, hA, hbl, h0⟩ := Ii_8.out.at_ (i := lv.length - 1) (by rw [HLEN.out]; omega)
      injection hA with hA
      injection hA with e1 e2 _
      subst e1 e2
      rw [HZ0.out, Nat.zero_add] at h0
      have hlvn := HLEN.out
      have hcast : (lv.length : Int) - 1 = ((lv.length - 1 : Nat) : Int) := by omega
      have hlt1 : ((lv.length - 1 : Nat) : Int) < (lv.length : Int) := by omega
      have hge1 : (0 : Int) ≤ ((lv.length - 1 : Nat) : Int) := by omega
      have hlv12 : lv.length ≤ 12 := by omega
      clear hlvn
      refine Lib.hid ?_
      go_upto_region 14 with (fail)
      clear hcast hlt1 hge1 h0
      go_cut [181] (fun s wx => s = .bool false ∧ Hid (Below w8.heap.size w8 wx))
      case first =>
        have hbz : (z != L + i1 - sp - (i2 - ms)) = false := by have := HBAL.out; simp; omega
        have hcb := HCB.out
        have HU1 := Lib.hid (fun w' (hb : Below w8.heap.size w8 w') => (HS1.out w' (I1_8.out.kept hb (Nat.le_refl _))).mono (R' := fun e w'' => e = .returned (.int .i64 i1) ∧ Below w'.heap.size w' w'') fun _ _ ⟨he, hw⟩ => ⟨he, by rw [hw]; exact Below.refl _ _⟩)
        have HU2 := Lib.hid (fun w' (hb : Below w8.heap.size w8 w') => (HS2.out w' (I2_8.out.kept hb (Nat.le_refl _))).mono (R' := fun e w'' => e = .returned (.int .i64 i2) ∧ Below w'.heap.size w' w'') fun _ _ ⟨he, hw⟩ => ⟨he, by rw [hw]; exact Below.refl _ _⟩)
        obtain ⟨ltt, bt0, bt1, bt2⟩ := Qt_8.out
        obtain ⟨ltr, br0, br1, br2⟩ := Qr_8.out
        have hG := @cell_g
        rcases HFM2 with ⟨rfl, hm0⟩ | ⟨rfl, hkl, hmp⟩
        · have dm : decide (0 < ms) = false := decide_eq_false (by omega)
          clear hm0
          refine region_below (by kernel_rfl) (by kernel_rfl) ?_
          repeat (first | go_big_quiet_step ((first
            | (go_at_call_of 24 (Value.slice (some ⟨q2, 0, none⟩) l2.length c2); exact met_at (fun w' hb' => HU2.out w' hb'))
            | (go_at_call_of 24 (Value.slice (some ⟨q1, 0, none⟩) l1.length c1); exact met_at (fun w' hb' => HU1.out w' hb')))))
          refine wpQuiet_nil ?_
          intro wq hbq
          go_wp2_with fail
          go_meet
          exact ⟨rfl, Lib.hid hbq⟩
        · have dm : decide (0 < ms) = true := decide_eq_true hmp
          have dk : decide ((l1.length : Int) ≤ hr) = false := decide_eq_false (by omega)
          refine region_below (by kernel_rfl) (by kernel_rfl) ?_
          repeat (first | go_big_quiet_step ((first
            | (go_at_call_of 24 (Value.slice (some ⟨q2, 0, none⟩) l2.length c2); exact met_at (fun w' hb' => HU2.out w' hb'))
            | (go_at_call_of 24 (Value.slice (some ⟨q1, 0, none⟩) l1.length c1); exact met_at (fun w' hb' => HU1.out w' hb')))))
          refine wpQuiet_nil ?_
          intro wq hbq
          go_wp2_with fail
          go_meet
          exact ⟨rfl, Lib.hid hbq⟩
      case rest =>
        obtain ⟨rfl, hbc⟩ := hcut
        obtain ⟨w9, hwb⟩ : ∃ w9, w9 = wc := ⟨_, rfl⟩
        subst hwb
        have hb9 := hbc.out
        clear hbc
        have hz9 := hb9.size
        have hB9 := hB8.trans (hb9.mono hB8.size)
        have I1_9 := Lib.hid (I1_8.out.kept hb9 (Nat.le_refl _))
        have I2_9 := Lib.hid (I2_8.out.kept hb9 (Nat.le_refl _))
        have Qt_9 := Lib.hid (Qt_8.out.kept hb9)
        have Ii_9 := Lib.hid (Ii_8.out.kept hb9 (Nat.le_refl _))
        have Is_9 := Lib.hid (Is_8.out.kept hb9 (Nat.le_refl _))
        have Qr_9 := Lib.hid (Qr_8.out.kept hb9)
        clear hB8 I1_8 I2_8 Qt_8 Ii_8 Is_8 Qr_8 hb9
        have HINr := HIN
        refine Lib.hid ?_
        go_wp2_with fail
        go_loopw [23] (fun i wr => ∃ k : Nat, k ≤ lv.length ∧ i = .int .i64 (k : Int) ∧ Hid (BT wr w1.heap.size L x y) ∧ Hid (IAt wr (some ⟨gI, 0, none⟩) lv) ∧ Hid (Below w.heap.size w wr)) (fun i _ => lv.length - (intOf i).toNat)
        case atStart => exact ⟨0, Nat.zero_le _, rfl, Qt_9, Ii_9, Lib.hid hB9⟩
        case round =>
          obtain ⟨k, hk, rfl, hbt, hia, hbw⟩ := hrel
          obtain ⟨hq, b0, b1, b2⟩ := hbt.out
          by_cases hlt : k < lv.length
          · obtain ⟨bb, off, hA, hbl, h0⟩ := hia.out.at_ hlt
            injection hA with hA
            injection hA with e1 e2 _
            subst e1 e2
            rw [Nat.zero_add] at h0
            obtain ⟨v0, v1⟩ := HIN.out k hlt
            have hk0 : (0 : Int) ≤ (k : Int) := by omega
            have hkn : (k : Int) < (lv.length : Int) := by omega
            generalize lv.getD k 0 = vk at *
            have d0 : decide (vk < x) = false := decide_eq_false (by omega)
            have d1 : decide (y < vk) = false := decide_eq_false (by omega)
            have hlv12 : lv.length ≤ 12 := by have := HLEN.out; omega
            go_wp2_with fail
            have hG := @cell_g
            refine region_below (by kernel_rfl) (by kernel_rfl) ?_
            repeat (first | go_big_quiet_step (fail))
            refine wpQuiet_nil ?_
            intro wq hbq
            go_wp2_with fail
            go_roundw
            case rel => exact ⟨k + 1, by omega, by go_num, Lib.hid (hbt.out.kept hbq), Lib.hid (hia.out.kept hbq (Nat.le_refl _)), Lib.hid (hbw.out.trans (hbq.mono hbw.out.size))⟩
            case measure => simp [intOf]; omega
          · clear b0 b1 b2
            have hBr := hbw.out
            refine Hid.out ?_
            have hcl := hc.later hBr (Nat.le_refl _)
            have HDS := Lib.hid (dstep_any a n cap wr hcl hn)
            clear hcl
            refine Lib.hid ?_
            go_wp2_with (first | (go_at_call 25; refine (HDS.out).mono ?_; rintro e w10 ⟨⟨L3, x3, y3, p3, r3, rfl⟩, hb10⟩; refine Hid.out ?_) | fail)
            have hz10 := hb10.size
            have hB10 := hBr.trans (hb10.mono hBr.size)
            clear hBr hb10
            clear HDS
            have hb10a := alloc_below w10 (tb 27 L3 x3 y3)
            have Qns := Lib.hid (BT.new w10 27 L3 x3 y3)
            have hz10a := hb10a.size
            have hB10a := hB10.trans (hb10a.mono hB10.size)
            clear hB10 hb10a
            have Qs_10a := Qns
            clear Qns
            by_cases hst : stB L3 x3 y3 p3 r3 = true
            · obtain ⟨lts, bs0, bs1, bs2⟩ := Qs_10a.out
              refine Lib.hid ?_
              go_wp2_with (first | (go_at_call 26; refine (step_yes L3 x3 y3 p3 r3 _ hst).mono ?_; rintro e w11 ⟨rfl, hb11⟩; refine Hid.out ?_) | fail)
              clear bs0 bs1 bs2 lts
              have hz11 := hb11.size
              have hB11 := hB10a.trans (hb11.mono hB10a.size)
              have Qs_11 := Lib.hid (Qs_10a.out.kept hb11)
              clear hB10a Qs_10a hb11
              have hb11a := alloc_below w11 (tb 27 (nxt x3 y3 L3 p3 r3) x3 y3)
              have Qny := Lib.hid (BT.new w11 27 (nxt x3 y3 L3 p3 r3) x3 y3)
              have hz11a := hb11a.size
              have hB11a := hB11.trans (hb11a.mono hB11.size)
              have Qs_11a := Lib.hid (Qs_11.out.kept hb11a)
              clear hB11 Qs_11 hb11a
              have Qy_11a := Qny
              clear Qny
              obtain ⟨lts, bs0, bs1, bs2⟩ := Qs_11a.out
              refine Lib.hid ?_
              go_wp2_with (first | (go_at_call 27; refine (sstep_yes L3 x3 y3 p3 r3 _ hst).mono ?_; rintro e w12 ⟨rfl, hb12⟩; refine Hid.out ?_) | fail)
              clear bs0 bs1 bs2 lts
              have hz12 := hb12.size
              have hB12 := hB11a.trans (hb12.mono hB11a.size)
              have Qs_12 := Lib.hid (Qs_11a.out.kept hb12)
              have Qy_12 := Lib.hid (Qy_11a.out.kept hb12)
              clear hB11a Qs_11a Qy_11a hb12
              have hb12a := alloc_below w12 (tb 27 (nxt x3 y3 L3 p3 r3) x3 y3)
              have Qnv := Lib.hid (BT.new w12 27 (nxt x3 y3 L3 p3 r3) x3 y3)
              have hz12a := hb12a.size
              have hB12a := hB12.trans (hb12a.mono hB12.size)
              have Qs_12a := Lib.hid (Qs_12.out.kept hb12a)
              have Qy_12a := Lib.hid (Qy_12.out.kept hb12a)
              clear hB12 Qs_12 Qy_12 hb12a
              have Qv_12a := Qnv
              clear Qnv
              obtain ⟨ht3, hp3, hr3⟩ := stB_iff.1 hst
              have HVT := Lib.hid (fun w => valid_v (step_tk ht3 hp3 hr3) w)
              obtain ⟨⟨hs0, hs1⟩, ⟨hm0, hm1⟩, hn0, hn1⟩ := step_in ht3 hp3 hr3
              obtain ⟨a0, a1, a2, a3⟩ := tkB_iff.1 ht3
              obtain ⟨hp30, hp31⟩ := hp3
              obtain ⟨hr30, hr31⟩ := hr3
              have HNX := Lib.hid (show L3 + p3 - spl y3 L3 p3 - r3 + mis x3 y3 L3 p3 r3 = nxt x3 y3 L3 p3 r3 from rfl)
              clear hst ht3
              generalize spl y3 L3 p3 = s3 at *
              generalize mis x3 y3 L3 p3 r3 = m3 at *
              generalize nxt x3 y3 L3 p3 r3 = z3 at *
              have hnx := HNX.out
              obtain ⟨lts, bs0, bs1, bs2⟩ := Qs_12a.out
              obtain ⟨lty, by0, by1, by2⟩ := Qy_12a.out
              obtain ⟨ltv, bv0, bv1, bv2⟩ := Qv_12a.out
              refine Lib.hid ?_
              go_wp2_with (first | (go_at_call 19; refine (HVT.out _).mono ?_; rintro e w13 ⟨rfl, hb13⟩; refine Hid.out ?_) | fail)
              have HBB := Lib.hid (hB12a.trans (hb13.mono hB12a.size))
              refine Lib.hid ?_
              go_wp2_with fail
              go_ret
              exact ⟨rfl, HBB.out⟩
            · replace hst : stB L3 x3 y3 p3 r3 = false := by simpa using hst
              obtain ⟨lts, bs0, bs1, bs2⟩ := Qs_10a.out
              refine Lib.hid ?_
              go_wp2_with (first | (go_at_call 26; refine (step_no L3 x3 y3 p3 r3 _ hst).mono ?_; rintro e w11 ⟨rfl, hb11⟩; refine Hid.out ?_) | fail)
              clear bs0 bs1 bs2 lts
              have hz11 := hb11.size
              have hB11 := hB10a.trans (hb11.mono hB10a.size)
              have Qs_11 := Lib.hid (Qs_10a.out.kept hb11)
              clear hB10a Qs_10a hb11
              have hb11a := alloc_below w11 (tb 27 0 0 0)
              have Qny := Lib.hid (BT.new w11 27 0 0 0)
              have hz11a := hb11a.size
              have hB11a := hB11.trans (hb11a.mono hB11.size)
              have Qs_11a := Lib.hid (Qs_11.out.kept hb11a)
              clear hB11 Qs_11 hb11a
              have Qy_11a := Qny
              clear Qny
              obtain ⟨lts, bs0, bs1, bs2⟩ := Qs_11a.out
              refine Lib.hid ?_
              go_wp2_with (first | (go_at_call 27; refine (sstep_no L3 x3 y3 p3 r3 _ hst).mono ?_; rintro e w12 ⟨rfl, hb12⟩; refine Hid.out ?_) | fail)
              clear bs0 bs1 bs2 lts
              have hz12 := hb12.size
              have hB12 := hB11a.trans (hb12.mono hB11a.size)
              have Qs_12 := Lib.hid (Qs_11a.out.kept hb12)
              have Qy_12 := Lib.hid (Qy_11a.out.kept hb12)
              clear hB11a Qs_11a Qy_11a hb12
              have hb12a := alloc_below w12 (tb 27 0 0 0)
              have Qnv := Lib.hid (BT.new w12 27 0 0 0)
              have hz12a := hb12a.size
              have hB12a := hB12.trans (hb12a.mono hB12.size)
              have Qs_12a := Lib.hid (Qs_12.out.kept hb12a)
              have Qy_12a := Lib.hid (Qy_12.out.kept hb12a)
              clear hB12 Qs_12 Qy_12 hb12a
              have Qv_12a := Qnv
              clear Qnv
              obtain ⟨lts, bs0, bs1, bs2⟩ := Qs_12a.out
              obtain ⟨lty, by0, by1, by2⟩ := Qy_12a.out
              obtain ⟨ltv, bv0, bv1, bv2⟩ := Qv_12a.out
              have HBB := Lib.hid hB12a
              refine Lib.hid ?_
              go_wp2_with fail
              go_ret
              exact ⟨rfl, HBB.out⟩
end Go.Proofs.YtikppgbipdflbaaDoor.S11
