/- The law FnParts returns true for every slice of bytes and leaves it as it was. No conditions. -/
import Derived.Test.YtgjogjmfpbinfaaKH
import Derived.Test.YtgjogjmfpbinfaaKD
import Derived.Deep.DeepCutAuto
import Derived.Test.YtgjogjmfpbinfaaRows
import Derived.WalkKit
import Derived.ProofKit
import Derived.OpenShut
import Derived.ChangeOld
import Derived.Below
namespace Go.Proofs.Ytgjogjmfpbinfaa.S2
open Go.RowKit P2

set_option maxHeartbeats 8000000 in
set_option maxRecDepth 100000 in
theorem walkParts (a : Option Addr) (n cap : Nat) (w : World) (hc : S1.Cd w.heap.size a n w) :
    Calls Try.prog 18 #[.slice a n cap] w fun e w' => e = .returned (.bool true) ∧ Below w.heap.size w w' := by
  have HC := Lib.hid hc
  clear hc
  by_cases hbig : 65536 < n
  · have H := Lib.hid (fun w => vbig_yes a n cap w hbig)
    go_enter Try.func18, Try.ntmps18
    go_wp2_with (go_at_call 44; refine (H.out _).mono ?_; rintro e w1 ⟨rfl, rfl⟩)
    go_ret
    exact ⟨rfl, Below.refl _ _⟩
  have hn : n ≤ 65536 := by omega
  have HR := Lib.hid (fun w => vbig_no a n cap w hn)
  clear hbig
  go_enter Try.func18, Try.ntmps18
  refine Hid.out ?_
  refine Lib.hid ?_
  go_wp2_with (first
    | (go_at_call 44; refine (HR.out _).mono ?_; rintro e w0 ⟨rfl, hw0⟩; replace hw0 := hw0.symm; subst hw0)
    | (go_at_call 102; refine (dparts_any a n cap _ HC.out hn).mono ?_; rintro e w1 ⟨N, A, c, ps, rfl, hd, hb1⟩; refine Hid.out ?_)
    | fail)
  have hm : ps.length ≤ maxLen := by have := hd.len; unfold maxLen; omega
  obtain ⟨L, ok, hL1000, hrows, HPI, HPS, HRF, HTOT⟩ := parts_pack N ps hm
  clear hm
  have HROW := Lib.hid hrows
  have HPA := Lib.hid hd.pat
  have HB1 := Lib.hid hb1
  have HX1 := Lib.hid (Below.refl (w1.heap.size + 1) (w1.alloc (nb N A ps.length c)))
  obtain ⟨b0, b1⟩ := box2 HX1.out
  have hy1 := box_lt HX1.out
  have hN0 := hd.n0
  have hN9 := hd.n9
  have hp12 := hd.len
  clear hd hb1 hrows
  refine Lib.hid ?_
  go_wp2_with (first
    | (go_at_call 103; refine (HPI.out _ _ _ (HPA.out.kept (below_box HX1.out) (Nat.le_refl _))).mono ?_; rintro e w2 ⟨bP, cP, rfl, hbP, hS, hb2, hbPl⟩; refine Hid.out ?_)
    | fail)
  have HX2 := Lib.hid (on_call HX1.out hb2)
  have HS2 := Lib.hid hS
  clear b0 b1 hb2 hS HX1
  obtain ⟨b0, b1⟩ := box2 HX2.out
  have hy2 := box_lt HX2.out
  refine Lib.hid ?_
  go_wp2_with (first
    | (go_at_call 104; refine (HPS.out _ _ _ (HPA.out.kept (below_box HX2.out) (Nat.le_refl _))).mono ?_; rintro e w3 ⟨bQ, cQ, rfl, hbQ, hQ, hb3, hbQl⟩; refine Hid.out ?_)
    | fail)
  have HX3 := Lib.hid (on_call HX2.out hb3)
  have HS3 := Lib.hid (HS2.out.kept hb3 (Nat.le_refl _))
  have HQ3 := Lib.hid hQ
  clear b0 b1 hb3 hQ HX2 HS2
  obtain ⟨b0, b1⟩ := box2 HX3.out
  have hy3 := box_lt HX3.out
  have hne : (ok != ok) = false := by cases ok <;> rfl
  have HVT := Lib.hid (vtable_same (some ⟨bP, 0, none⟩) (some ⟨bQ, 0, none⟩) cP cQ L w3 HS3.out HQ3.out hL1000 (fun i hi => by have := HROW.out i hi; omega))
  refine Lib.hid ?_
  go_wp2_with (first
    | (go_at_call 105; refine HVT.out.mono ?_; rintro e w4 ⟨rfl, hb4⟩; refine Hid.out ?_)
    | fail)
  have HX4 := Lib.hid (on_call HX3.out hb4)
  have HS4 := Lib.hid (HS3.out.kept hb4 (Nat.le_refl _))
  clear b0 b1 hb4 HX3 HS3 HQ3 HVT
  obtain ⟨b0, b1⟩ := box2 HX4.out
  have hy4 := box_lt HX4.out
  have HTL := Lib.hid (totR_le HROW.out)
  have HB40 := Lib.hid (Below.refl w4.heap.size w4)
  refine Lib.hid ?_
  go_wp2_with fail
  go_loopw [8, 9] (fun cnt i wr => ∃ k : Nat, k ≤ L.length ∧ i = .int .i64 (k : Int) ∧ cnt = .int .i64 ((totR L k : Nat) : Int) ∧ Hid (Below w4.heap.size w4 wr)) (fun _ i _ => L.length - (intOf i).toNat)
  case atStart => exact ⟨0, Nat.zero_le _, rfl, rfl, HB40⟩
  case round =>
    clear HB40 b0 b1
    obtain ⟨k, hk, rfl, rfl, hB4⟩ := hrel
    obtain ⟨wo, hwo⟩ : ∃ wo, wo = wr := ⟨_, rfl⟩
    subst hwo
    have HXr := Lib.hid (on_call HX4.out hB4.out)
    obtain ⟨b0, b1⟩ := box2 HXr.out
    have hyr := box_lt HXr.out
    have HPr := Lib.hid (HPA.out.kept (below_box HXr.out) (Nat.le_refl _))
    by_cases hlt : k < L.length
    · obtain ⟨bP', oP, RB, RC, hA, hbl, p0, hI⟩ := (HS4.out.kept hB4.out (Nat.le_refl _)).at_ hlt
      simp only [Option.some.injEq, Addr.mk.injEq, and_true] at hA
      obtain ⟨rfl, rfl⟩ := hA
      rw [Nat.zero_add] at p0
      have hk0 : (0 : Int) ≤ (k : Int) := by omega
      have hkn : (k : Int) < (L.length : Int) := by omega
      have hrow := HROW.out k hlt
      have htot := HTL.out k hk
      have HTN := Lib.hid (show totR L (k + 1) = totR L k + (rw_ L k).length from rfl)
      have HRk := Lib.hid (HRF.out k hlt)
      obtain ⟨RW, hRW⟩ : ∃ RW, rw_ L k = RW := ⟨_, rfl⟩
      rw [hRW] at p0 hI hrow HTN HRk
      clear hRW
      have wS : IntKind.i64.wrap (((totR L k : Nat) : Int) + (RW.length : Int)) = ((totR L k : Nat) : Int) + (RW.length : Int) := IntWalk.i64_in _ (by omega)
      have wS2 : wrap64 (((totR L k : Nat) : Int) + (RW.length : Int)) = ((totR L k : Nat) : Int) + (RW.length : Int) := IntWalk.wrap64_in _ (by omega)
      generalize totR L k = tk at *
      have HIr := Lib.hid hI
      have HBr0 := Lib.hid (Below.refl wo.heap.size wo)
      clear hI
      go_wp2_with fail
      clear wS wS2
      go_loopw [10] (fun kk w6 => ∃ j : Nat, j ≤ RW.length ∧ kk = .int .i64 (j : Int) ∧ Hid (Below wo.heap.size wo w6)) (fun kk _ => RW.length - (intOf kk).toNat)
      case atStart => exact ⟨0, Nat.zero_le _, rfl, HBr0⟩
      case round =>
        clear HBr0 b0 b1
        obtain ⟨j, hj, rfl, hB6⟩ := hrel
        obtain ⟨w6, hw6⟩ : ∃ w6, w6 = wr := ⟨_, rfl⟩
        subst hw6
        have HX6 := Lib.hid (on_call HXr.out hB6.out)
        obtain ⟨b0, b1⟩ := box2 HX6.out
        have hy6 := box_lt HX6.out
        have hbl6 : bP < w6.heap.size := Nat.lt_of_lt_of_le hbl hB6.out.size
        have p6 := (hB6.out.cell (p := ⟨bP, k, none⟩) hbl).trans p0
        by_cases hltj : j < RW.length
        · obtain ⟨eB, eO, hRB, hel, q0⟩ := (HIr.out.kept hB6.out (Nat.le_refl _)).at_ hltj
          have HRkj := Lib.hid (HRk.out j hltj A c)
          subst hRB
          have hj0 : (0 : Int) ≤ (j : Int) := Int.natCast_nonneg j
          have hjn : (j : Int) < (RW.length : Int) := Int.ofNat_lt.2 hltj
          have HP6 := Lib.hid (HPA.out.kept (below_box HX6.out) (Nat.le_refl _))
          have HI6 := Lib.hid (HIr.out.kept hB6.out (Nat.le_refl _))
          generalize RW.getD j 0 = x at *
          refine Hid.out ?_
          refine Lib.hid ?_
          go_upto_region 16 with (fail)
          go_cut [11, 12] (fun s u wx => ∃ g o cg, s = .slice (some ⟨g, o, none⟩) RW.length cg ∧ u = .bool true ∧ Hid (IAt wx (some ⟨g, o, none⟩) RW) ∧ Hid (Below w6.heap.size w6 wx))
          case first =>
            refine wp_region_held_drew (S := fun w' => w'.cell? ⟨w1.heap.size, 0, none⟩ = some (.int .i64 N) ∧ w'.cell? ⟨w1.heap.size, 1, none⟩ = some (.slice A ps.length c) ∧ w'.cell? ⟨bP, k, none⟩ = some (.slice (some ⟨eB, eO, none⟩) RW.length RC) ∧ w'.cell? ⟨eB, eO + j, none⟩ = some (.int .i64 x)) (by kernel_rfl) (by exact ⟨b0, b1, p6, q0⟩) (fun hHeld => ?_)
            refine wpAnyH_take (i := 0) (v := .agg #[.int .i64 N, .slice A ps.length c]) rfl (by kernel_rfl) (by kernel_rfl) (by kernel_rfl) (fun _ _ _ h => h) (Or.inl ⟨by kernel_rfl, ?_⟩) (by assumption) ?_
            · (intro w hSw; (try dsimp only at hSw); go_simp)
            simp only [Act.put, List.setIfInBounds_toArray]
            refine wpAnyH_take (i := 1) (v := .slice (some ⟨bP, 0, none⟩) L.length cP) rfl (by kernel_rfl) (by kernel_rfl) (by kernel_rfl) (fun _ _ _ h => h) (Or.inl ⟨by kernel_rfl, ?_⟩) (by assumption) ?_
            · (intro w hSw; (try dsimp only at hSw); go_simp)
            simp only [Act.put]
            refine wpAnyH_take (i := 2) (v := .int .i64 (k : Int)) rfl (by kernel_rfl) (by kernel_rfl) (by kernel_rfl) (fun _ _ _ h => h) (Or.inl ⟨by kernel_rfl, ?_⟩) (by assumption) ?_
            · (intro w hSw; (try dsimp only at hSw); go_simp)
            simp only [Act.put]
            refine wpAnyH_take (i := 3) (v := .pointer (some ⟨bP, k, none⟩)) rfl (by kernel_rfl) (by kernel_rfl) (by kernel_rfl) (fun _ _ _ h => h) (Or.inl ⟨by kernel_rfl, ?_⟩) (by assumption) ?_
            · (intro w hSw; (try dsimp only at hSw); go_simp)
            simp only [Act.put]
            refine wpAnyH_take (i := 4) (v := .slice (some ⟨eB, eO, none⟩) RW.length RC) rfl (by kernel_rfl) (by kernel_rfl) (by kernel_rfl) (fun _ _ _ h => h) (Or.inl ⟨by kernel_rfl, ?_⟩) (by assumption) ?_
            · (intro w hSw; (try dsimp only at hSw); go_simp)
            simp only [Act.put]
            refine wpAnyH_take (i := 5) (v := .int .i64 (j : Int)) rfl (by kernel_rfl) (by kernel_rfl) (by kernel_rfl) (fun _ _ _ h => h) (Or.inl ⟨by kernel_rfl, ?_⟩) (by assumption) ?_
            · (intro w hSw; (try dsimp only at hSw); go_simp)
            simp only [Act.put]
            refine wpAnyH_take (i := 6) (v := .pointer (some ⟨eB, eO + j, none⟩)) rfl (by kernel_rfl) (by kernel_rfl) (by kernel_rfl) (fun _ _ _ h => h) (Or.inl ⟨by kernel_rfl, ?_⟩) (by assumption) ?_
            · (intro w hSw; (try dsimp only at hSw); go_simp)
            simp only [Act.put]
            refine wpAnyH_take (i := 7) (v := .int .i64 x) rfl (by kernel_rfl) (by kernel_rfl) (by kernel_rfl) (fun _ _ _ h => h) (Or.inl ⟨by kernel_rfl, ?_⟩) (by assumption) ?_
            · (intro w hSw; (try dsimp only at hSw); go_simp)
            simp only [Act.put]
            have HP6' := Lib.hid (show PAt w6.drew A ps from HP6.out)
            refine wpAnyH_ready (rs := [8]) (by kernel_rfl) (by simp) ?_
            refine AllReadyH.cons rfl (fun K hK => ?_) AllReadyH.nil
            go_simp
            go_at_call 106
            refine (HRkj.out _ HP6'.out).mono ?_
            rintro e w7 ⟨g, o, cg, rfl, hg7, hI7, hb7, hgl⟩
            have hb67 : Below w6.heap.size w6 w7 := ⟨hb7.os, hb7.tape, hb7.output, hb7.size, hb7.block⟩
            refine hK.out _ _ (by exact ⟨(hb67.cell (p := ⟨w1.heap.size, 0, none⟩) hy6).trans b0, (hb67.cell (p := ⟨w1.heap.size, 1, none⟩) hy6).trans b1, (hb67.cell (p := ⟨bP, k, none⟩) hbl6).trans p6, (hb67.cell (p := ⟨eB, eO + j, none⟩) hel).trans q0⟩) (fun hHeld => ?_)
            clear hK K
            refine wpAnyH_take (i := 9) (v := .tuple #[.slice (some ⟨g, o, none⟩) RW.length cg, .bool true]) rfl (by kernel_rfl) (by kernel_rfl) (by kernel_rfl) (fun _ _ _ h => h) (Or.inl ⟨by kernel_rfl, ?_⟩) (by assumption) ?_
            · (intro w hSw; (try dsimp only at hSw); go_simp)
            simp only [Act.put, List.getElem_toArray, List.getElem_cons_succ, List.getElem_cons_zero]
            refine wpAnyH_take (i := 10) (v := .slice (some ⟨g, o, none⟩) RW.length cg) rfl (by kernel_rfl) (by kernel_rfl) (by kernel_rfl) (fun _ _ _ h => h) (Or.inl ⟨by kernel_rfl, ?_⟩) (by assumption) ?_
            · (intro w hSw; (try dsimp only at hSw); go_simp)
            simp only [Act.put, List.getElem_toArray, List.getElem_cons_succ, List.getElem_cons_zero]
            refine wpAnyH_take (i := 11) (v := .bool true) rfl (by kernel_rfl) (by kernel_rfl) (by kernel_rfl) (fun _ _ _ h => h) (Or.inl ⟨by kernel_rfl, ?_⟩) (by assumption) ?_
            · (intro w hSw; (try dsimp only at hSw); go_simp)
            simp only [Act.put, List.getElem_toArray, List.getElem_cons_succ, List.getElem_cons_zero]
            refine wpAnyH_ready (rs := [12]) (by kernel_rfl) (by simp) ?_
            refine AllReadyH.cons rfl (fun K hK => ?_) AllReadyH.nil
            go_simp
            refine hK.out _ _ (by first | assumption | go_keep) (fun hHeld => ?_)
            clear hK K
            refine wpAnyH_ready (rs := [13]) (by kernel_rfl) (by simp) ?_
            refine AllReadyH.cons rfl (fun K hK => ?_) AllReadyH.nil
            go_simp
            refine hK.out _ _ (by first | assumption | go_keep) (fun hHeld => ?_)
            clear hK K
            refine wpAnyH_done (by kernel_rfl) ?_ _
            clear hHeld
            go_wp2_with fail
            go_meet
            exact ⟨g, o, cg, rfl, rfl, Lib.hid hI7, Lib.hid hb67⟩
          case rest =>
            obtain ⟨g, o, cg, rfl, rfl, hIg, hb7⟩ := hcut
            obtain ⟨w7, hw7⟩ : ∃ w7, w7 = wc := ⟨_, rfl⟩
            subst hw7
            have HX7 := Lib.hid (on_call HX6.out hb7.out)
            have HB7 := Lib.hid (hB6.out.trans (hb7.out.mono hB6.out.size))
            clear b0 b1
            obtain ⟨b0, b1⟩ := box2 HX7.out
            have hy7 := box_lt HX7.out
            have hbl7 : bP < w7.heap.size := Nat.lt_of_lt_of_le hbl6 hb7.out.size
            have p7 := (hb7.out.cell (p := ⟨bP, k, none⟩) hbl6).trans p6
            have HI7 := Lib.hid (HI6.out.kept hb7.out (Nat.le_refl _))
            have HVI := Lib.hid (vints_same (some ⟨g, o, none⟩) (some ⟨eB, eO, none⟩) cg RC RW w7 hIg.out HI7.out (by omega))
            clear p0 p6 q0 hel hbl6 hy6
            refine Hid.out ?_
            refine Lib.hid ?_
            go_wp2_with (first
              | (go_at_call 46; refine HVI.out.mono ?_; rintro e w8 ⟨rfl, hb8⟩)
              | fail)
            have HB8 := Lib.hid (HB7.out.trans (hb8.mono HB7.out.size))
            go_roundw
            case rel => exact ⟨j + 1, by omega, by go_num, HB8⟩
            case measure => simp [intOf]; omega
        · have e : RW.length = j := by omega
          have HBo := Lib.hid (hB4.out.trans (hB6.out.mono hB4.out.size))
          refine Hid.out ?_
          refine Lib.hid ?_
          go_wp2_with fail
          go_roundw
          case rel => exact ⟨k + 1, by omega, by go_num, by rw [HTN.out]; rfl, HBo⟩
          case measure => simp [intOf]; omega
    · have e : k = L.length := by omega
      subst e
      have HTOTo := HTOT
      have HB9 := Lib.hid (below_box HXr.out)
      have hgo : ok = true → (((totR L L.length : Nat) : Int) == N) = true := fun h => beq_iff_eq.2 (HTOT.out h)
      have HB9w := HB9
      have HBall := Lib.hid (HB1.out.trans (HB9.out.mono HB1.out.size))
      have HCo := Lib.hid (HC.out.later HBall.out (Nat.le_refl _))
      have hneq : ok = true → (((totR L L.length : Nat) : Int) != N) = false := fun h => by have := hgo h; simpa using this
      clear hgo HTOTo HTL
      cases ok with
      | false =>
        clear hneq
        refine Hid.out ?_
        refine Lib.hid ?_
        go_wp2_with (first
          | (go_at_call 107; refine (dpipesat_any a n cap _ HCo.out hn).mono ?_; rintro e v1 ⟨N2, A2, c2, qs, z, rfl, hd2, hbv1⟩; refine Hid.out ?_)
          | fail)
        have HBv := Lib.hid (HBall.out.trans (hbv1.mono HBall.out.size))
        have hm2 : qs.length ≤ maxLen := by have := hd2.len; unfold maxLen; omega
        obtain ⟨L1, o1, hl1, HA1, HA2⟩ := at_pack N2 qs z hm2
        obtain ⟨L2, o2, hl2, HR1, HR2⟩ := reach_pack N2 qs z hm2
        have HPv := Lib.hid hd2.pat
        have HY1 := Lib.hid (Below.refl (v1.heap.size + 1) (v1.alloc (nb N2 A2 qs.length c2)))
        clear hm2 hd2 hbv1 b0 b1
        obtain ⟨d0, d1⟩ := box2 HY1.out
        have hq1 := box_lt HY1.out
        have hne1 : (o1 != o1) = false := by cases o1 <;> rfl
        have heq2 : (o2 == o2) = true := by cases o2 <;> rfl
        refine Lib.hid ?_
        go_wp2_with (first
          | (go_at_call 108; refine (HA1.out _ _ _ (HPv.out.kept (below_box HY1.out) (Nat.le_refl _))).mono ?_; rintro e v2 ⟨g1, oo1, k1, rfl, hg1, hi1, hbb2, hgl1⟩; have HY2 := Lib.hid (on_call HY1.out hbb2); have HI1 := Lib.hid hi1; clear d0 d1 hbb2 hi1; obtain ⟨d0, d1⟩ := box2 HY2.out; have hq2 := box_lt HY2.out)
          | (go_at_call 109; refine (HA2.out _ _ _ (HPv.out.kept (below_box HY2.out) (Nat.le_refl _))).mono ?_; rintro e v3 ⟨g2, oo2, k2, rfl, hg2, hi2, hbb3, hgl2⟩; have HY3 := Lib.hid (on_call HY2.out hbb3); have HI1b := Lib.hid (HI1.out.kept hbb3 (Nat.le_refl _)); have HI2 := Lib.hid hi2; clear d0 d1 hbb3 hi2; obtain ⟨d0, d1⟩ := box2 HY3.out; have hq3 := box_lt HY3.out)
          | (go_at_call_of 46 (Value.slice (some ⟨g1, oo1, none⟩) L1.length k1); refine (vints_same _ _ k1 k2 L1 _ HI1b.out HI2.out (by omega)).mono ?_; rintro e v4 ⟨rfl, hbb4⟩; have HY4 := Lib.hid (on_call HY3.out hbb4); clear d0 d1 hbb4; obtain ⟨d0, d1⟩ := box2 HY4.out; have hq4 := box_lt HY4.out)
          | (go_at_call 106; refine (HR1.out _ _ _ (HPv.out.kept (below_box HY4.out) (Nat.le_refl _))).mono ?_; rintro e v5 ⟨g5, oo5, k5, rfl, hg5, hi5, hbb5, hgl5⟩; have HY5 := Lib.hid (on_call HY4.out hbb5); have HI5 := Lib.hid hi5; clear d0 d1 hbb5 hi5; obtain ⟨d0, d1⟩ := box2 HY5.out; have hq5 := box_lt HY5.out)
          | (go_at_call 110; refine (HR2.out _ _ _ (HPv.out.kept (below_box HY5.out) (Nat.le_refl _))).mono ?_; rintro e v6 ⟨g6, oo6, k6, rfl, hg6, hi6, hbb6, hgl6⟩; have HY6 := Lib.hid (on_call HY5.out hbb6); have HI5b := Lib.hid (HI5.out.kept hbb6 (Nat.le_refl _)); have HI6 := Lib.hid hi6; clear d0 d1 hbb6 hi6; obtain ⟨d0, d1⟩ := box2 HY6.out; have hq6 := box_lt HY6.out)
          | (go_at_call 46; refine (vints_same _ _ k5 k6 L2 _ HI5b.out HI6.out (by omega)).mono ?_; rintro e v7 ⟨rfl, hbb7⟩; have HY7 := Lib.hid (on_call HY6.out hbb7))
          | fail)
        go_ret
        exact ⟨rfl, HBv.out.trans ((below_box HY7.out).mono HBv.out.size)⟩
      | true =>
        have hnq := hneq rfl
        clear hneq
        refine Hid.out ?_
        refine Lib.hid ?_
        go_wp2_with (first
          | (go_at_call 107; refine (dpipesat_any a n cap _ HCo.out hn).mono ?_; rintro e v1 ⟨N2, A2, c2, qs, z, rfl, hd2, hbv1⟩; refine Hid.out ?_)
          | fail)
        have HBv := Lib.hid (HBall.out.trans (hbv1.mono HBall.out.size))
        have hm2 : qs.length ≤ maxLen := by have := hd2.len; unfold maxLen; omega
        obtain ⟨L1, o1, hl1, HA1, HA2⟩ := at_pack N2 qs z hm2
        obtain ⟨L2, o2, hl2, HR1, HR2⟩ := reach_pack N2 qs z hm2
        have HPv := Lib.hid hd2.pat
        have HY1 := Lib.hid (Below.refl (v1.heap.size + 1) (v1.alloc (nb N2 A2 qs.length c2)))
        clear hm2 hd2 hbv1 b0 b1
        obtain ⟨d0, d1⟩ := box2 HY1.out
        have hq1 := box_lt HY1.out
        have hne1 : (o1 != o1) = false := by cases o1 <;> rfl
        have heq2 : (o2 == o2) = true := by cases o2 <;> rfl
        refine Lib.hid ?_
        go_wp2_with (first
          | (go_at_call 108; refine (HA1.out _ _ _ (HPv.out.kept (below_box HY1.out) (Nat.le_refl _))).mono ?_; rintro e v2 ⟨g1, oo1, k1, rfl, hg1, hi1, hbb2, hgl1⟩; have HY2 := Lib.hid (on_call HY1.out hbb2); have HI1 := Lib.hid hi1; clear d0 d1 hbb2 hi1; obtain ⟨d0, d1⟩ := box2 HY2.out; have hq2 := box_lt HY2.out)
          | (go_at_call 109; refine (HA2.out _ _ _ (HPv.out.kept (below_box HY2.out) (Nat.le_refl _))).mono ?_; rintro e v3 ⟨g2, oo2, k2, rfl, hg2, hi2, hbb3, hgl2⟩; have HY3 := Lib.hid (on_call HY2.out hbb3); have HI1b := Lib.hid (HI1.out.kept hbb3 (Nat.le_refl _)); have HI2 := Lib.hid hi2; clear d0 d1 hbb3 hi2; obtain ⟨d0, d1⟩ := box2 HY3.out; have hq3 := box_lt HY3.out)
          | (go_at_call_of 46 (Value.slice (some ⟨g1, oo1, none⟩) L1.length k1); refine (vints_same _ _ k1 k2 L1 _ HI1b.out HI2.out (by omega)).mono ?_; rintro e v4 ⟨rfl, hbb4⟩; have HY4 := Lib.hid (on_call HY3.out hbb4); clear d0 d1 hbb4; obtain ⟨d0, d1⟩ := box2 HY4.out; have hq4 := box_lt HY4.out)
          | (go_at_call 106; refine (HR1.out _ _ _ (HPv.out.kept (below_box HY4.out) (Nat.le_refl _))).mono ?_; rintro e v5 ⟨g5, oo5, k5, rfl, hg5, hi5, hbb5, hgl5⟩; have HY5 := Lib.hid (on_call HY4.out hbb5); have HI5 := Lib.hid hi5; clear d0 d1 hbb5 hi5; obtain ⟨d0, d1⟩ := box2 HY5.out; have hq5 := box_lt HY5.out)
          | (go_at_call 110; refine (HR2.out _ _ _ (HPv.out.kept (below_box HY5.out) (Nat.le_refl _))).mono ?_; rintro e v6 ⟨g6, oo6, k6, rfl, hg6, hi6, hbb6, hgl6⟩; have HY6 := Lib.hid (on_call HY5.out hbb6); have HI5b := Lib.hid (HI5.out.kept hbb6 (Nat.le_refl _)); have HI6 := Lib.hid hi6; clear d0 d1 hbb6 hi6; obtain ⟨d0, d1⟩ := box2 HY6.out; have hq6 := box_lt HY6.out)
          | (go_at_call 46; refine (vints_same _ _ k5 k6 L2 _ HI5b.out HI6.out (by omega)).mono ?_; rintro e v7 ⟨rfl, hbb7⟩; have HY7 := Lib.hid (on_call HY6.out hbb7))
          | fail)
        go_ret
        exact ⟨rfl, HBv.out.trans ((below_box HY7.out).mono HBv.out.size)⟩
end Go.Proofs.Ytgjogjmfpbinfaa.S2

namespace Go.Proofs.Ytgjogjmfpbinfaa.fnParts
open Go.ChangeShapes Go.WideShapes Go.ChangeAt Go.RowKit P2 S2
set_option linter.unusedVariables false

theorem own : ownKnob Try.prog.godebug = none := by kernel_rfl
theorem laidOut : laidOutB Try.prog = true := by kernel_rfl

set_option maxRecDepth 100000 in
theorem lifted (os : Os) (started : os.Started) (H : Type) (enc : TypeId × Value → H) :
    ReturnsInHanded {} Try.checked os 18 .any (Rows.fnPartsSpec.pre6 enc Try.prog Try.f18 Rows.fnPartsRow.domain false) (Rows.fnPartsSpec.post enc Try.prog Try.f18 false true false false) := by
  refine returnsInHanded_of_change (C := Try.checked) own started (by kernel_rfl) Try.func18
    (ChangeSpec.witness6 (enc := enc) (C := Try.checked) false ⟨#[], #[.slice none 0 0], []⟩ 8 (by kernel_rfl) (by kernel_rfl) (by kernel_rfl) (by kernel_rfl)) ?_
  intro W base args ds gs before hval0 hW hcnd _
  have hval : ∀ (j : Nat) t v, Try.f18.params[j]? = some t → args[j]? = some v → Value.okWide Try.prog W .any base t v := hval0
  have hW' := hW
  obtain ⟨p, q, hA0, hV, rfl, hfz, hnd⟩ := hW
  have hA : DataW.TrodAll enc Try.prog W 0 (fun _ => true) true Try.f18.params.toList args.toList ds p := hA0
  rw [Try.params18] at hA hval
  obtain ⟨v0, d0, rfl, rfl, h0⟩ := trodAll_one hA
  obtain ⟨rfl, rfl⟩ := trodVars_none hV
  have k0 := h0
  have lt0 : ∀ x ∈ p, x.block < W.heap.size := by obtain ⟨m, hm⟩ := k0; exact DataW.trod_lt m _ _ _ hm
  obtain ⟨A0, len0, cap0, rfl, cd0⟩ := S1.code_open (hval 0 55 v0 rfl rfl) h0
  clear hA0 hval0
  refine (walkParts A0 len0 cap0 W cd0).mono fun e W' ⟨he, bel⟩ => ?_
  subst he
  exact ⟨_, rfl, _, _, _, [], _, [], hW', trodAll_mk1 (shut_bool Try.underlying4 _), trodAll_mk1 (Below.trod laidOut (by kernel_rfl) (of_decide_eq_true (by kernel_rfl)) k0 bel lt0), rfl, bel.frame _, fun h => by cases h⟩

theorem andB {a b : Bool} (h : a = true) (g : b = true) : (a && b) = true := by rw [h, g]; rfl
theorem heavy : ((Rows.fnPartsRow.inPlace == Try.pinned.checked.prog.inPlace 18) && ((Rows.fnPartsRow.unfollowed == Try.pinned.checked.prog.unfollowed 18) && ((Rows.fnPartsRow.recurses == Try.pinned.checked.prog.recurses 18) && (Rows.fnPartsRow.named == Try.pinned.checked.prog.varsNamed 18)))) = true := by kernel_rfl
set_option maxHeartbeats 4000000 in
theorem closed : joinedFacts Try.pinned.checked.prog 18 Try.f18 Rows.fnPartsSpec Rows.fnPartsRow = true := by
  unfold joinedFacts
  simp only [Bool.and_assoc]
  have h := heavy
  rw [Bool.and_eq_true, Bool.and_eq_true, Bool.and_eq_true] at h
  obtain ⟨h1, h2, h3, h4⟩ := h
  iterate 9 refine andB (by as_aux_lemma => kernel_rfl) ?_
  refine andB (by with_reducible exact h1) (andB (by with_reducible exact h2) (andB (by with_reducible exact h3) (andB (by with_reducible exact h4) ?_)))
  as_aux_lemma => kernel_rfl
theorem named : Try.pinned.checked.prog.funcNamed Rows.fnPartsRow.func = some 18 := by kernel_rfl
theorem instd : Try.f18.isInstance Try.pinned.checked.prog Rows.fnPartsRow.origin Rows.fnPartsRow.targs := of_decide_eq_true (by kernel_rfl)
theorem proved : Rows.FnPartsSaid :=
  OpenClaim.holds_of_wide 18 Try.f18 rfl rfl rfl rfl rfl rfl rfl ⟨rfl, rfl, rfl, rfl, rfl⟩ rfl rfl rfl rfl rfl named Try.func18 closed
    instd (by unfold Func.isWrapper; first | (rw [if_pos (by decide +kernel)]; kernel_rfl) | (rw [if_neg (by decide +kernel)]; exact ⟨rfl, rfl⟩))
    (fun os started H enc _ => lifted os started H enc)
end Go.Proofs.Ytgjogjmfpbinfaa.fnParts
namespace Go.Proofs.Ytgjogjmfpbinfaa
theorem FnParts_holds : Rows.FnPartsSaid := fnParts.proved
#print axioms FnParts_holds
end Go.Proofs.Ytgjogjmfpbinfaa
