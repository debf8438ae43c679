/- The law FnWays returns true for every slice of bytes and leaves it as it was. No conditions. -/
import Derived.Test.YtgjogjmfpbinfaaKY
import Derived.Test.YtgjogjmfpbinfaaKE
import Derived.Test.YtgjogjmfpbinfaaKH
import Derived.Deep.DeepCutAuto
import Derived.Test.YtgjogjmfpbinfaaRows
import Derived.Test.YtgjogjmfpbinfaaKD
import Derived.WalkKit
import Derived.ProofKit
import Derived.OpenShut
import Derived.ChangeOld
import Derived.Below
namespace Go.Proofs.Ytgjogjmfpbinfaa.S2
open Go.RowKit P2

theorem pat_len {w : World} {A : Option Addr} {ps : List Pp} (h : PAt w A ps) {k : Nat} (hk : k < ps.length) : ∃ b off, A = some ⟨b, off, none⟩ ∧ b < w.heap.size := by
  obtain ⟨b, off, hA, hb, _⟩ := h.at_ hk
  exact ⟨b, off, hA, hb⟩
theorem goodN2 {N : Nat} {ps : List Pp} (hg : P2.Good N ps) {X : Nat} (h1 : 1 ≤ X) (h2 : X ≤ N) : nodeB N ps X = true := by
  rw [nodeB_eq, good_mk hg]
  simp
  omega
set_option maxHeartbeats 4000000 in
set_option maxRecDepth 100000 in
theorem walkWays (a : Option Addr) (n cap : Nat) (w : World) (hc : S1.Cd w.heap.size a n w) :
    Calls Try.prog 17 #[.slice a n cap] w fun e w' => e = .returned (.bool true) ∧ Below w.heap.size w w' := by
  have HC := Lib.hid hc
  clear hc
  by_cases hbig : 65536 < n
  · have H := Lib.hid (fun w => vbig_yes a n cap w hbig)
    go_enter Try.func17, Try.ntmps17
    go_wp2_with (go_at_call 44; refine (H.out _).mono ?_; rintro e w1 ⟨rfl, rfl⟩)
    go_ret
    exact ⟨rfl, Below.refl _ _⟩
  have hn : n ≤ 65536 := by omega
  have HR := Lib.hid (fun w => vbig_no a n cap w hn)
  clear hbig
  go_enter Try.func17, Try.ntmps17
  refine Hid.out ?_
  refine Lib.hid ?_
  go_wp2_with (first
    | (go_at_call 44; refine (HR.out _).mono ?_; rintro e w0 ⟨rfl, hw0⟩; replace hw0 := hw0.symm; subst hw0)
    | (go_at_call 96; refine (dshort_any a n cap _ HC.out hn).mono ?_; rintro e w1 ⟨N, A, c, ps, x, y, rfl, hd, hb1⟩; refine Hid.out ?_)
    | fail)
  have hm : ps.length ≤ maxLen := by have := hd.len; unfold maxLen; omega
  obtain ⟨L, ok, hL1000, HWI, HWS, HIS, _⟩ := way_pack N ps x y hm
  obtain ⟨L', ok', hL1000', HWI', _, HIS', HOK'⟩ := way_pack N ps y x hm
  have HPA := Lib.hid hd.pat
  have HB1 := Lib.hid hb1
  have HX1 := Lib.hid (Below.refl (w1.heap.size + 1) (w1.alloc (nb N A ps.length c)))
  obtain ⟨b0, b1⟩ := box2 HX1.out
  have hy1 := box_lt HX1.out
  have hN9 := hd.n9
  have hp12 := hd.len
  have hne : (ok != ok) = false := by cases ok <;> rfl
  clear hd hb1 hm
  refine Lib.hid ?_
  go_upto_if 58 with (first
    | (go_at_call 97; refine (HWI.out _ _ _ (HPA.out.kept (below_box HX1.out) (Nat.le_refl _))).mono ?_; rintro e w2 ⟨g1, o1, k1, rfl, hg1, hi1, hb2, hl1⟩; have HX2 := Lib.hid (on_call HX1.out hb2); have HI1 := Lib.hid hi1; clear b0 b1 hb2 hi1; obtain ⟨b0, b1⟩ := box2 HX2.out; have hy2 := box_lt HX2.out)
    | (go_at_call 98; refine (HWS.out _ _ _ (HPA.out.kept (below_box HX2.out) (Nat.le_refl _))).mono ?_; rintro e w3 ⟨g2, o2, k2, rfl, hg2, hi2, hb3, hl2⟩; have HX3 := Lib.hid (on_call HX2.out hb3); have HI1b := Lib.hid (HI1.out.kept hb3 (Nat.le_refl _)); have HI2 := Lib.hid hi2; clear b0 b1 hb3 hi2; obtain ⟨b0, b1⟩ := box2 HX3.out; have hy3 := box_lt HX3.out)
    | (go_at_call 46; refine (vints_same _ _ k1 k2 L _ HI1b.out HI2.out (by omega)).mono ?_; rintro e w4 ⟨rfl, hb4⟩; have HX4 := Lib.hid (on_call HX3.out hb4); have HI4 := Lib.hid (HI1b.out.kept hb4 (Nat.le_refl _)); have hl14 : g1 < w4.heap.size := (by have := hb4.size; omega); clear b0 b1 hb4; obtain ⟨b0, b1⟩ := box2 HX4.out; have hy4 := box_lt HX4.out)
    | fail)
  go_cut [] (fun wx => Hid (Below (w1.heap.size + 1) (w1.alloc (nb N A ps.length c)) wx))
  case first =>
    cases ok with
    | false =>
      go_wp2_with fail
      go_meet
      exact HX4
    | true =>
      obtain ⟨M, X, T, K, hW⟩ := HIS.out rfl
      obtain ⟨rfl, rfl, rfl⟩ : N = (M : Int) ∧ x = (X : Int) ∧ y = (T : Int) := ⟨hW.nn, hW.xx, hW.yy⟩
      have hLK := hW.len
      have hK8 : K ≤ 1000 := by omega
      have HAT := Lib.hid (fun i (hi : i < K) => wy_one hW hi)
      have hend := hW.wy.last
      have HEND := Lib.hid (show ((vA ps T X K : Nat) : Int) = (T : Int) from hend)
      have HSTART := Lib.hid (show ((vA ps T X 0 : Nat) : Int) = (X : Int) from rfl)
      have hok' : ok' = true := (HOK'.out (goodN2 hW.good hW.t1 hW.t2) (goodN2 hW.good hW.x1 hW.x2)).2 (dist_conn.1 (by rw [dist_back, hW.dst]; omega) |> conn_symm |> conn_symm)
      subst hok'
      obtain ⟨M', X', T', K', hW'⟩ := HIS'.out rfl
      have hKK : L'.length = L.length := by
        have e1 : (X' : Int) = T := hW'.xx.symm
        have e2 : (T' : Int) = X := hW'.yy.symm
        have e3 := hW'.dst
        rw [e1, e2, dist_back, hW.dst] at e3
        rw [hW'.len, hW.len]
        omega
      have HKK := Lib.hid hKK
      have HB40 := Lib.hid (Below.refl w4.heap.size w4)
      have HPL := Lib.hid hp12
      clear hW hW' hend hKK hne
      obtain ⟨V, hV⟩ : ∃ V : Nat → Nat, V = vA ps T X := ⟨_, rfl⟩
      rw [← hV] at HAT HEND HSTART
      clear hV
      have HLK := Lib.hid hLK
      clear hLK
      refine Hid.out ?_
      refine Lib.hid ?_
      go_wp2_with fail
      go_loopw [10, 11] (fun at' i wr => ∃ k : Nat, k ≤ K ∧ i = .int .i64 (k : Int) ∧ at' = .int .i64 (V k : Int) ∧ Hid (Below w4.heap.size w4 wr)) (fun _ i _ => K - (intOf i).toNat)
      case atStart => exact ⟨0, Nat.zero_le _, rfl, by rw [HSTART.out], HB40⟩
      case round =>
        clear HB40 b0 b1
        obtain ⟨k, hk, rfl, rfl, hB4⟩ := hrel
        obtain ⟨wo, hwo⟩ : ∃ wo, wo = wr := ⟨_, rfl⟩
        subst hwo
        have HXr := Lib.hid (on_call HX4.out hB4.out)
        obtain ⟨b0, b1⟩ := box2 HXr.out
        have hyr := box_lt HXr.out
        by_cases hlt : k < K
        · obtain ⟨p, hp, hid, hends, hne2⟩ := HAT.out k hlt
          obtain ⟨b, o, hA, hbl, q0⟩ := (HI4.out.kept hB4.out (Nat.le_refl _)).at_ (i := k) (by rw [HLK.out]; exact hlt)
          simp only [Option.some.injEq, Addr.mk.injEq, and_true] at hA
          obtain ⟨rfl, rfl⟩ := hA
          have hk0 : (0 : Int) ≤ (k : Int) := Int.natCast_nonneg k
          have hkn : (k : Int) < (L.length : Int) := by rw [HLK.out]; omega
          have HPo := Lib.hid (HPA.out.kept (below_box HXr.out) (Nat.le_refl _))
          obtain ⟨bp, op, rfl, hbpl⟩ := pat_len HPo.out hp
          have HEN := Lib.hid hends
          have HNE := Lib.hid hne2
          have HIDS := Lib.hid hid
          have HB0 := Lib.hid (Below.refl wo.heap.size wo)
          have hp0 : (0 : Int) < 1 := by omega
          generalize L.getD k 0 = lid at *
          clear hid hends hne2
          refine Hid.out ?_
          refine Lib.hid ?_
          go_wp2_with fail
          go_loopw [12, 13] (fun nx j w6 => ∃ q : Nat, q ≤ ps.length ∧ j = .int .i64 (q : Int) ∧ nx = .int .i64 (if p < q then (V (k + 1) : Int) else 0) ∧ Hid (Below wo.heap.size wo w6)) (fun _ j _ => ps.length - (intOf j).toNat)
          case atStart => exact ⟨0, Nat.zero_le _, rfl, rfl, HB0⟩
          case round =>
            clear HB0 b0 b1
            obtain ⟨q, hq, rfl, rfl, hB6⟩ := hrel
            obtain ⟨w6, hw6⟩ : ∃ w6, w6 = wr := ⟨_, rfl⟩
            subst hw6
            have HX6 := Lib.hid (on_call HXr.out hB6.out)
            obtain ⟨b0, b1⟩ := box2 HX6.out
            have hy6 := box_lt HX6.out
            have q6 := (hB6.out.cell (p := ⟨g1, o1 + k, none⟩) hbl).trans q0
            have hbl6 : g1 < w6.heap.size := Nat.lt_of_lt_of_le hbl hB6.out.size
            by_cases hqlt : q < ps.length
            · obtain ⟨b2, o2, hA2, hbl2, p0, p1, p2, p3⟩ := (HPo.out.kept hB6.out (Nat.le_refl _)).at_ hqlt
              simp only [Option.some.injEq, Addr.mk.injEq, and_true] at hA2
              obtain ⟨rfl, rfl⟩ := hA2
              have hq0 : (0 : Int) ≤ (q : Int) := Int.natCast_nonneg q
              have hqn : (q : Int) < (ps.length : Int) := Int.ofNat_lt.2 hqlt
              have hIDq := HIDS.out q hqlt
              by_cases hqp : q = p
              · subst hqp
                have i1 : ((pAt ps q).id == lid) = true := beq_iff_eq.2 (hIDq.2 rfl)
                have hz : (if q < q then (V (k + 1) : Int) else 0) = 0 := if_neg (by omega)
                have HZ2 := Lib.hid (show (if q < q + 1 then (V (k + 1) : Int) else 0) = (V (k + 1) : Int) from if_pos (by omega))
                rw [hz]
                rcases HEN.out with ⟨ha, hb⟩ | ⟨ha, hb⟩
                · have i2 : ((pAt ps q).fr == (V k : Int)) = true := beq_iff_eq.2 ha
                  have i3 : ((pAt ps q).to == (V k : Int)) = false := beq_eq_false_iff_ne.2 (fun z => HNE.out (by rw [ha, z]))
                  have HTO := Lib.hid hb
                  clear ha hb hz hIDq
                  generalize pAt ps q = e at *
                  go_wp2
                  go_quiet (fail)
                  go_wp2
                  go_quiet (fail)
                  go_wp2
                  go_roundw
                  case rel => exact ⟨q + 1, by omega, by go_num, by rw [HZ2.out, HTO.out], by first | exact Lib.hid (below_drewN hB6.out _) | exact Lib.hid (below_drewN (below_drewN hB6.out _) _)⟩
                  case measure => simp [intOf]; omega
                · have i2 : ((pAt ps q).fr == (V k : Int)) = false := beq_eq_false_iff_ne.2 (fun z => HNE.out (by rw [ha, z]))
                  have i3 : ((pAt ps q).to == (V k : Int)) = true := beq_iff_eq.2 ha
                  have HTO := Lib.hid hb
                  clear ha hb hz hIDq
                  generalize pAt ps q = e at *
                  go_wp2
                  go_quiet (fail)
                  go_wp2
                  go_quiet (fail)
                  go_wp2
                  go_roundw
                  case rel => exact ⟨q + 1, by omega, by go_num, by rw [HZ2.out, HTO.out], by first | exact Lib.hid (below_drewN hB6.out _) | exact Lib.hid (below_drewN (below_drewN hB6.out _) _)⟩
                  case measure => simp [intOf]; omega
              · have i1 : ((pAt ps q).id == lid) = false := beq_eq_false_iff_ne.2 (fun z => hqp (hIDq.1 z))
                have HZ2 := Lib.hid (show (if p < q + 1 then (V (k + 1) : Int) else 0) = (if p < q then (V (k + 1) : Int) else 0) from by
                  by_cases h : p < q
                  · rw [if_pos h, if_pos (by omega)]
                  · rw [if_neg h, if_neg (by omega)])
                generalize (if p < q then (V (k + 1) : Int) else 0) = z at *
                clear hIDq
                generalize pAt ps q = e at *
                go_wp2
                go_quiet (fail)
                go_wp2
                go_quiet (fail)
                go_wp2
                go_roundw
                case rel => exact ⟨q + 1, by omega, by go_num, by rw [HZ2.out], by first | exact Lib.hid (below_drewN hB6.out _) | exact Lib.hid (below_drewN (below_drewN hB6.out _) _)⟩
                case measure => simp [intOf]; omega
            · have e : q = ps.length := by omega
              subst e
              have HB9 := Lib.hid (hB4.out.trans (hB6.out.mono hB4.out.size))
              have hz : (if p < ps.length then (V (k + 1) : Int) else 0) = (V (k + 1) : Int) := if_pos hp
              rw [hz]
              clear hz
              refine Hid.out ?_
              refine Lib.hid ?_
              go_wp2_with fail
              go_roundw
              case rel => exact ⟨k + 1, by omega, by go_num, rfl, HB9⟩
              case measure => simp [intOf]; omega
        · have e : k = K := by omega
          subst e
          rw [HEND.out]
          have hLKI : (L.length : Int) = (k : Int) := by rw [HLK.out]
          have hlt2 : ¬ (k : Int) < (L.length : Int) := by omega
          have hq1 : ((T : Int) == (T : Int)) = true := by simp
          have hq2 : ((T : Int) != (T : Int)) = false := by simp
          have hq3 : ((L'.length : Int) != (L.length : Int)) = false := by rw [HKK.out]; simp
          refine Hid.out ?_
          refine Lib.hid ?_
          go_wp2_with (first
            | (go_at_call 97; refine (HWI'.out _ _ _ (HPA.out.kept (below_box HXr.out) (Nat.le_refl _))).mono ?_; rintro e v2 ⟨g3, o3, k3, rfl, hg3, hi3, hc2, hl3⟩; have HY2 := Lib.hid (on_call HXr.out hc2))
            | fail)
          go_meet
          exact HY2
  case rest =>
    have HXc := hcut
    obtain ⟨wc', hwc'⟩ : ∃ wc', wc' = wc := ⟨_, rfl⟩
    subst hwc'
    have HBc := Lib.hid (HB1.out.trans ((below_box HXc.out).mono HB1.out.size))
    have HCo := Lib.hid (HC.out.later HBc.out (Nat.le_refl _))
    clear HX1 HB1 HWI HWS HIS HWI' HIS' HOK' HPA hcut
    refine Hid.out ?_
    refine Lib.hid ?_
    go_wp2_with (first
      | (go_at_call 99; refine (dbridge_any a n cap _ HCo.out hn).mono ?_; rintro e v1 ⟨N2, A2, c2, qs, rfl, hd2, hbv1⟩; refine Hid.out ?_)
      | fail)
    have HBv := Lib.hid (HBc.out.trans (hbv1.mono HBc.out.size))
    have hm2 : qs.length ≤ maxLen := by have := hd2.len; unfold maxLen; omega
    obtain ⟨L2, ok2, hL21000, HBI, HBS, HIB⟩ := br_pack N2 qs hm2
    have HPv := Lib.hid hd2.pat
    have hcap2 := hd2.cap
    have hq12 := hd2.len
    have HY1 := Lib.hid (Below.refl (v1.heap.size + 1) (v1.alloc (nb N2 A2 qs.length c2)))
    have hne2 : (ok2 != ok2) = false := by cases ok2 <;> rfl
    clear hm2 hd2 hbv1
    obtain ⟨d0, d1⟩ := box2 HY1.out
    have hz1 := box_lt HY1.out
    refine Lib.hid ?_
    go_wp2_with (first
      | (go_at_call 55; refine (HBI.out _ _ _ (HPv.out.kept (below_box HY1.out) (Nat.le_refl _)) hcap2).mono ?_; rintro e v2 ⟨g1, o1, k1, rfl, hg1, hi1, hbb2, hl1⟩; have HY2 := Lib.hid (on_call HY1.out hbb2); have HI1 := Lib.hid hi1; clear d0 d1 hbb2 hi1; obtain ⟨d0, d1⟩ := box2 HY2.out; have hz2 := box_lt HY2.out)
      | (go_at_call 100; refine (HBS.out _ _ _ (HPv.out.kept (below_box HY2.out) (Nat.le_refl _)) hcap2).mono ?_; rintro e v3 ⟨g2, o2, k2, rfl, hg2, hi2, hbb3, hl2⟩; have HY3 := Lib.hid (on_call HY2.out hbb3); have HI1b := Lib.hid (HI1.out.kept hbb3 (Nat.le_refl _)); have HI2 := Lib.hid hi2; clear d0 d1 hbb3 hi2; obtain ⟨d0, d1⟩ := box2 HY3.out; have hz3 := box_lt HY3.out)
      | (go_at_call 46; refine (vints_same _ _ k1 k2 L2 _ HI1b.out HI2.out (by omega)).mono ?_; rintro e v4 ⟨rfl, hbb4⟩; have HY4 := Lib.hid (on_call HY3.out hbb4); have HI4 := Lib.hid (HI1b.out.kept hbb4 (Nat.le_refl _)); have hl14 : g1 < v4.heap.size := (by have := hbb4.size; omega); clear d0 d1 hbb4; obtain ⟨d0, d1⟩ := box2 HY4.out; have hz4 := box_lt HY4.out)
      | fail)
    have HBV := Lib.hid (HBv.out.trans ((below_box HY4.out).mono HBv.out.size))
    cases ok2 with
    | false =>
      refine Hid.out ?_
      refine Lib.hid ?_
      go_wp2_with fail
      go_loopw [21] (fun i wr => i = .int .i64 0 ∧ wr = v4) (fun _ _ => 0)
      case atStart => exact ⟨rfl, rfl⟩
      case round =>
        obtain ⟨rfl, hw⟩ := hrel
        replace hw := hw.symm
        subst hw
        go_wp2_with fail
        all_goals
          go_ret
          exact ⟨rfl, HBV.out⟩
    | true =>
      obtain ⟨M, rfl, hgb, hBR⟩ := HIB.out rfl
      have hgg := good_of hgb
      have HREM := Lib.hid (fun k (hk : k < qs.length) => rem_pack M k qs hgb hk)
      have HBRF := Lib.hid hBR
      have HND := Lib.hid (fun k (hk : k < qs.length) => (show nodeB M (wo qs k) (pAt qs k).fr = true ∧ nodeB M (wo qs k) (pAt qs k).to = true from by
        have hpp := good_pp hgg (pAt_mem hk)
        have hgw := good_mk (good_sub hgg (wo_sub qs k))
        obtain ⟨_, _, f1, f2, t1, t2, _⟩ := hpp
        constructor
        · rw [nodeB_eq, hgw]; simp; omega
        · rw [nodeB_eq, hgw]; simp; omega))
      have HB0 := Lib.hid (Below.refl v4.heap.size v4)
      clear hgg hBR
      refine Hid.out ?_
      refine Lib.hid ?_
      go_wp2_with fail
      go_loopw [21] (fun i wr => ∃ k : Nat, k ≤ qs.length ∧ i = .int .i64 (k : Int) ∧ Hid (Below v4.heap.size v4 wr)) (fun i _ => qs.length - (intOf i).toNat)
      case atStart => exact ⟨0, Nat.zero_le _, rfl, HB0⟩
      case round =>
        clear HB0 d0 d1
        obtain ⟨k, hk, rfl, hB4⟩ := hrel
        obtain ⟨wo', hwo⟩ : ∃ wo', wo' = wr := ⟨_, rfl⟩
        subst hwo
        have HYo := Lib.hid (on_call HY4.out hB4.out)
        obtain ⟨d0, d1⟩ := box2 HYo.out
        have hzo := box_lt HYo.out
        by_cases hlt : k < qs.length
        · have HPo := Lib.hid (HPv.out.kept (below_box HYo.out) (Nat.le_refl _))
          obtain ⟨b, o, rfl, hbl, p0, p1, p2, p3⟩ := HPo.out.at_ hlt
          have hk0 : (0 : Int) ≤ (k : Int) := Int.natCast_nonneg k
          have hkn : (k : Int) < (qs.length : Int) := Int.ofNat_lt.2 hlt
          have HRk := Lib.hid (HREM.out k hlt (some ⟨b, o, none⟩) c2)
          have hwm : (wo qs k).length ≤ maxLen := by have := wo_len qs k hlt; unfold maxLen; omega
          obtain ⟨L3, ok3, _, HW3, _, _, HOK3⟩ := way_pack M (wo qs k) (pAt qs k).fr (pAt qs k).to hwm
          obtain ⟨n1, n2⟩ := HND.out k hlt
          have hbr := HBRF.out k hlt
          have hjn := HOK3.out n1 n2
          have hvb : (decide ((pAt qs k).id ∈ L2) == ok3) = false := by
            rw [hbr]
            cases hbk : brB qs k with
            | true =>
              cases ok3 with
              | false => rfl
              | true => exact absurd (hjn.1 rfl) (brB_true.1 hbk)
            | false =>
              cases ok3 with
              | true => rfl
              | false => exact absurd (hjn.2 (brB_false.1 hbk)) (by simp)
          have HIo := Lib.hid (HI4.out.kept hB4.out (Nat.le_refl _))
          have HVH := Lib.hid (fun w' (hi : IAt w' (some ⟨g1, o1, none⟩) L2) => vhas_any (some ⟨g1, o1, none⟩) k1 L2 (pAt qs k).id w' hi (by omega))
          clear hwm n1 n2 hbr hjn HOK3
          generalize decide ((pAt qs k).id ∈ L2) = vb at *
          generalize wo qs k = rs at *
          generalize pAt qs k = e at *
          have HXo := Lib.hid (PX.made wo' e)
          have HYa := Lib.hid (on_call HYo.out (alloc_below wo' (.cells #[.int .i64 e.id, .int .i64 e.fr, .int .i64 e.to, .int .i64 e.sz] 75)))
          have HIa := Lib.hid (HIo.out.kept (alloc_below wo' (.cells #[.int .i64 e.id, .int .i64 e.fr, .int .i64 e.to, .int .i64 e.sz] 75)) (Nat.le_refl _))
          have HBa := Lib.hid (hB4.out.trans ((alloc_below wo' (.cells #[.int .i64 e.id, .int .i64 e.fr, .int .i64 e.to, .int .i64 e.sz] 75)).mono hB4.out.size))
          refine Hid.out ?_
          refine Lib.hid ?_
          go_wp2_with (first
            | (go_at_call 101; refine (HRk.out _ (HPv.out.kept (below_box HYa.out) (Nat.le_refl _)) hcap2).mono ?_; rintro e' w6 ⟨A3, c3, rfl, hp3, hbb6⟩; have HY6 := Lib.hid (on_call HYa.out hbb6); have HX6 := Lib.hid (PX.below HXo.out hbb6); have HP6 := Lib.hid hp3; have HI6 := Lib.hid (HIa.out.kept hbb6 (Nat.le_refl _)); have HB6 := Lib.hid (HBa.out.trans (hbb6.mono HBa.out.size)); clear d0 d1 hbb6 hp3; obtain ⟨d0, d1⟩ := box2 HY6.out; have hz6 := box_lt HY6.out; obtain ⟨x0, x1, x2, x3⟩ := HX6.out.cells; have hx6 := HX6.out.lt)
            | (go_at_call 97; refine (HW3.out _ _ _ (HP6.out.kept (alloc_below w6 (nb M A3 rs.length c3)) (Nat.le_refl _))).mono ?_; rintro e' w8 ⟨g5, o5, k5, rfl, hg5, hi5, hbb8, hl5⟩; have hbb := (alloc_below w6 (nb M A3 rs.length c3)).trans (hbb8.mono (by simp)); have HX8 := Lib.hid (PX.below HX6.out hbb); have HI8 := Lib.hid (HI6.out.kept hbb (Nat.le_refl _)); have HB8 := Lib.hid (HB6.out.trans (hbb.mono HB6.out.size)); clear d0 d1 x0 x1 x2 x3 hbb hbb8; obtain ⟨x0, x1, x2, x3⟩ := HX8.out.cells; have hx8 := HX8.out.lt)
            | (go_at_call 57; refine (HVH.out _ HI8.out).mono ?_; rintro e' w9 ⟨rfl, hw9⟩; replace hw9 := hw9.symm; subst hw9)
            | fail)
          go_roundw
          case rel => exact ⟨k + 1, by omega, by go_num, HB8⟩
          case measure => simp [intOf]; omega
        · have e : k = qs.length := by omega
          have HBE := Lib.hid (HBV.out.trans (hB4.out.mono HBV.out.size))
          refine Hid.out ?_
          refine Lib.hid ?_
          go_wp2_with fail
          go_ret
          exact ⟨rfl, HBE.out⟩
end Go.Proofs.Ytgjogjmfpbinfaa.S2

namespace Go.Proofs.Ytgjogjmfpbinfaa.fnWays
open Go.ChangeShapes Go.WideShapes Go.ChangeAt Go.RowKit P2 S2
set_option linter.unusedVariables false

theorem own : ownKnob Try.prog.godebug = none := by kernel_rfl
theorem laidOut : laidOutB Try.prog = true := by kernel_rfl

set_option maxRecDepth 100000 in
theorem lifted (os : Os) (started : os.Started) (H : Type) (enc : TypeId × Value → H) :
    ReturnsInHanded {} Try.checked os 17 .any (Rows.fnWaysSpec.pre6 enc Try.prog Try.f17 Rows.fnWaysRow.domain false) (Rows.fnWaysSpec.post enc Try.prog Try.f17 false true false false) := by
  refine returnsInHanded_of_change (C := Try.checked) own started (by kernel_rfl) Try.func17
    (ChangeSpec.witness6 (enc := enc) (C := Try.checked) false ⟨#[], #[.slice none 0 0], []⟩ 8 (by kernel_rfl) (by kernel_rfl) (by kernel_rfl) (by kernel_rfl)) ?_
  intro W base args ds gs before hval0 hW hcnd _
  have hval : ∀ (j : Nat) t v, Try.f17.params[j]? = some t → args[j]? = some v → Value.okWide Try.prog W .any base t v := hval0
  have hW' := hW
  obtain ⟨p, q, hA0, hV, rfl, hfz, hnd⟩ := hW
  have hA : DataW.TrodAll enc Try.prog W 0 (fun _ => true) true Try.f17.params.toList args.toList ds p := hA0
  rw [Try.params17] at hA hval
  obtain ⟨v0, d0, rfl, rfl, h0⟩ := trodAll_one hA
  obtain ⟨rfl, rfl⟩ := trodVars_none hV
  have k0 := h0
  have lt0 : ∀ x ∈ p, x.block < W.heap.size := by obtain ⟨m, hm⟩ := k0; exact DataW.trod_lt m _ _ _ hm
  obtain ⟨A0, len0, cap0, rfl, cd0⟩ := S1.code_open (hval 0 55 v0 rfl rfl) h0
  clear hA0 hval0
  refine (walkWays A0 len0 cap0 W cd0).mono fun e W' ⟨he, bel⟩ => ?_
  subst he
  exact ⟨_, rfl, _, _, _, [], _, [], hW', trodAll_mk1 (shut_bool Try.underlying4 _), trodAll_mk1 (Below.trod laidOut (by kernel_rfl) (of_decide_eq_true (by kernel_rfl)) k0 bel lt0), rfl, bel.frame _, fun h => by cases h⟩

theorem andB {a b : Bool} (h : a = true) (g : b = true) : (a && b) = true := by rw [h, g]; rfl
theorem heavy : ((Rows.fnWaysRow.inPlace == Try.pinned.checked.prog.inPlace 17) && ((Rows.fnWaysRow.unfollowed == Try.pinned.checked.prog.unfollowed 17) && ((Rows.fnWaysRow.recurses == Try.pinned.checked.prog.recurses 17) && (Rows.fnWaysRow.named == Try.pinned.checked.prog.varsNamed 17)))) = true := by kernel_rfl
set_option maxHeartbeats 4000000 in
theorem closed : joinedFacts Try.pinned.checked.prog 17 Try.f17 Rows.fnWaysSpec Rows.fnWaysRow = true := by
  unfold joinedFacts
  simp only [Bool.and_assoc]
  have h := heavy
  rw [Bool.and_eq_true, Bool.and_eq_true, Bool.and_eq_true] at h
  obtain ⟨h1, h2, h3, h4⟩ := h
  iterate 9 refine andB (by as_aux_lemma => kernel_rfl) ?_
  refine andB (by with_reducible exact h1) (andB (by with_reducible exact h2) (andB (by with_reducible exact h3) (andB (by with_reducible exact h4) ?_)))
  as_aux_lemma => kernel_rfl
theorem named : Try.pinned.checked.prog.funcNamed Rows.fnWaysRow.func = some 17 := by kernel_rfl
theorem instd : Try.f17.isInstance Try.pinned.checked.prog Rows.fnWaysRow.origin Rows.fnWaysRow.targs := of_decide_eq_true (by kernel_rfl)
theorem proved : Rows.FnWaysSaid :=
  OpenClaim.holds_of_wide 17 Try.f17 rfl rfl rfl rfl rfl rfl rfl ⟨rfl, rfl, rfl, rfl, rfl⟩ rfl rfl rfl rfl rfl named Try.func17 closed
    instd (by unfold Func.isWrapper; first | (rw [if_pos (by decide +kernel)]; kernel_rfl) | (rw [if_neg (by decide +kernel)]; exact ⟨rfl, rfl⟩))
    (fun os started H enc _ => lifted os started H enc)
end Go.Proofs.Ytgjogjmfpbinfaa.fnWays
namespace Go.Proofs.Ytgjogjmfpbinfaa
theorem FnWays_holds : Rows.FnWaysSaid := fnWays.proved
#print axioms FnWays_holds
end Go.Proofs.Ytgjogjmfpbinfaa
