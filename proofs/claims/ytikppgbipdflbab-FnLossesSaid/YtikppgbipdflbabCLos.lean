/- The law FnLosses returns true for every slice of bytes and leaves it as it was. No conditions. -/
import Derived.Test.YtikppgbipdflbabGC
import Derived.Test.YtikppgbipdflbabGE
import Derived.Test.YtikppgbipdflbabVkit
import Derived.Deep.DeepCutAuto
import Derived.Test.YtikppgbipdflbabRows
import Derived.Test.YtikppgbipdflbabPfCode
import Derived.WalkKit
import Derived.ProofKit
import Derived.OpenShut
import Derived.ChangeOld
import Derived.Below
namespace Go.Proofs.Ytikppgbipdflbab.S2
open Go.RowKit P2

set_option maxHeartbeats 8000000 in
set_option maxRecDepth 100000 in
theorem walkLosses (a : Option Addr) (n cap : Nat) (w : World) (hc : S1.Cd w.heap.size a n w) :
    Calls Try.prog 5 #[.slice a n cap] w fun e w' => e = .returned (.bool true) ∧ Below w.heap.size w w' := by
  have HC := Lib.hid hc
  clear hc
  by_cases hbig : 65536 < n
  · have H := Lib.hid (fun w => vbig_yes a n cap w hbig)
    go_enter Try.func5, Try.ntmps5
    go_wp2_with (go_at_call 9; refine (H.out _).mono ?_; rintro e w1 ⟨rfl, rfl⟩)
    go_ret
    exact ⟨rfl, Below.refl _ _⟩
  have hn : n ≤ 65536 := by omega
  have HR := Lib.hid (fun w => vbig_no a n cap w hn)
  clear hbig
  go_enter Try.func5, Try.ntmps5
  refine Hid.out ?_
  refine Lib.hid ?_
  go_wp2_with (first
    | (go_at_call 9; refine (HR.out _).mono ?_; rintro e w0 ⟨rfl, hw0⟩; replace hw0 := hw0.symm; subst hw0)
    | (go_at_call 33; refine (dalong_any a n cap _ HC.out hn).mono ?_; rintro e w1 ⟨N, A, c, ps, qa, ca, da, q1, c1, fl, x, y, rfl, hd⟩; refine Hid.out ?_)
    | fail)
  obtain ⟨hnet, -, -, hfl, hfo, hb1⟩ := hd
  have hm : ps.length ≤ maxLen := by have := hnet.len; unfold maxLen; omega
  obtain ⟨v, ok, hv0, hHT⟩ := al_pack N ps fl x y hm (by omega)
  have HT := Lib.hid hHT
  have HPA := Lib.hid (fun w' (hb : Below w1.heap.size w1 w') => hnet.pat.kept hb (Nat.le_refl _))
  have HFL := Lib.hid (fun w' (hb : Below w1.heap.size w1 w') => hfo.iat.kept hb (Nat.le_refl _))
  have HB1 := Lib.hid hb1
  have HX1 := Lib.hid (Below.refl (w1.heap.size + 1) (w1.alloc (nb N A ps.length c)))
  obtain ⟨b0, b1⟩ := box2 HX1.out
  have hy1 := box_lt HX1.out
  have hne : (ok != ok) = false := by cases ok <;> rfl
  clear hnet hfo hb1 hHT hm
  refine Lib.hid ?_
  go_upto_region 6 with (first
    | (go_at_call 26; refine (HT.out A c _ c1 _ (HPA.out _ (below_box HX1.out)) (HFL.out _ (below_box HX1.out))).1.mono ?_; rintro e w2 ⟨rfl, hb2⟩; have HX2 := Lib.hid (on_call HX1.out hb2); clear b0 b1 hb2; obtain ⟨b0, b1⟩ := box2 HX2.out; have hy2 := box_lt HX2.out)
    | (go_at_call 34; refine (HT.out A c _ c1 _ (HPA.out _ (below_box HX2.out)) (HFL.out _ (below_box HX2.out))).2.mono ?_; rintro e w3 ⟨rfl, hb3⟩; have HX3 := Lib.hid (on_call HX2.out hb3); clear b0 b1 hb3; obtain ⟨b0, b1⟩ := box2 HX3.out; have hy3 := box_lt HX3.out)
    | fail)
  go_cut [83] (fun s wx => s = .bool false ∧ Hid (Below (w1.heap.size + 1) (w1.alloc (nb N A ps.length c)) wx))
  case first => as_aux_lemma =>
    cases ok with
    | false =>
      go_wp2_with fail
      go_meet
      exact ⟨rfl, HX3⟩
    | true =>
      by_cases hxy : x = y
      · have hv := hv0 rfl hxy
        subst hv
        subst hxy
        go_wp2_with fail
        go_meet
        exact ⟨rfl, HX3⟩
      · have hxy2 : (x == y) = false := by simpa using hxy
        clear hxy
        go_wp2_with fail
        go_meet
        exact ⟨rfl, HX3⟩
  case rest => as_aux_lemma =>
    obtain ⟨rfl, HXc⟩ := hcut
    have HBc := Lib.hid (HB1.out.trans ((below_box HXc.out).mono HB1.out.size))
    obtain ⟨w4, hw4⟩ : ∃ w4, w4 = wc := ⟨_, rfl⟩
    subst hw4
    clear HX1 HX2 HX3 HT HPA HFL HB1 hy1 hy2 hy3 hne b0 b1 HXc hv0
    refine Hid.out ?_
    refine Lib.hid ?_
    go_wp2_with (first
      | (go_at_call 35; refine (denergy_any a n cap _ (HC.out.later HBc.out (Nat.le_refl _)) hn).mono ?_; rintro e w5 ⟨N2, A2, c2, ps2, qb, cb, db, q2, k2, fl2, rfl, hd⟩; refine Hid.out ?_)
      | fail)
    obtain ⟨hnet, -, -, hfl2, hfo, hb5⟩ := hd
    have hm : ps2.length ≤ maxLen := by have := hnet.len; unfold maxLen; omega
    have hp12 := hnet.len
    obtain ⟨v2, ok2, hv2, hin2, hHT⟩ := en_pack N2 ps2 fl2 hm (by omega)
    obtain ⟨i3, v3, ok3, hHS⟩ := st_pack N2 ps2 fl2 hm (by omega)
    have HLO := Lib.hid (fun (hf : floB N2 ps2 fl2 = true) i (hi : i < ps2.length) A c AC cc w h hc => los_at hf hm (by omega) hi A c AC cc w h hc)
    have HT := Lib.hid hHT
    have HS := Lib.hid hHS
    have HPA := Lib.hid (fun w' (hb : Below w5.heap.size w5 w') => hnet.pat.kept hb (Nat.le_refl _))
    have HFL := Lib.hid (fun w' (hb : Below w5.heap.size w5 w') => hfo.iat.kept hb (Nat.le_refl _))
    have HB5 := Lib.hid (HBc.out.trans (hb5.mono HBc.out.size))
    have HX5 := Lib.hid (Below.refl (w5.heap.size + 1) (w5.alloc (nb N2 A2 ps2.length c2)))
    obtain ⟨b0, b1⟩ := box2 HX5.out
    have hy5 := box_lt HX5.out
    have hne2 : (ok2 != ok2) = false := by cases ok2 <;> rfl
    have hneg : decide (v2 < 0) = false := decide_eq_false (by omega)
    have HNE := Lib.hid (show (ok3 != ok3) = false by cases ok3 <;> rfl)
    have HIN := Lib.hid hin2
    clear hnet hfo hb5 hHT hHS hm HBc hv2 hin2
    refine Lib.hid ?_
    go_upto_region 11 with (first
      | (go_at_call 36; refine (HT.out A2 c2 _ k2 _ (HPA.out _ (below_box HX5.out)) (HFL.out _ (below_box HX5.out))).1.mono ?_; rintro e w6 ⟨rfl, hb6⟩; have HX6 := Lib.hid (on_call HX5.out hb6); clear b0 b1 hb6; obtain ⟨b0, b1⟩ := box2 HX6.out; have hy6 := box_lt HX6.out)
      | (go_at_call 37; refine (HT.out A2 c2 _ k2 _ (HPA.out _ (below_box HX6.out)) (HFL.out _ (below_box HX6.out))).2.mono ?_; rintro e w7 ⟨rfl, hb7⟩; have HX7 := Lib.hid (on_call HX6.out hb7); clear b0 b1 hb7; obtain ⟨b0, b1⟩ := box2 HX7.out; have hy7 := box_lt HX7.out)
      | fail)
    go_cut [112] (fun s wx => s = .bool false ∧ Hid (Below (w5.heap.size + 1) (w5.alloc (nb N2 A2 ps2.length c2)) wx))
    case first => as_aux_lemma =>
      go_wp2_with fail
      go_meet
      exact ⟨rfl, HX7⟩
    case rest => as_aux_lemma =>
      obtain ⟨rfl, HXd⟩ := hcut
      obtain ⟨w8, hw8⟩ : ∃ w8, w8 = wc := ⟨_, rfl⟩
      subst hw8
      clear HX5 HX6 HX7 hy5 hy6 hy7 hne2 hneg b0 b1 HT
      refine Hid.out ?_
      refine Lib.hid ?_
      go_wp2_with fail
      go_loopw [17, 18] (fun s i wr => ∃ k : Nat, s = .int .i64 (sumK (enT ps2 fl2) k) ∧ i = .int .i64 (k : Int) ∧ k ≤ ps2.length ∧ Hid (Below (w5.heap.size + 1) (w5.alloc (nb N2 A2 ps2.length c2)) wr)) (fun _ i _ => ps2.length - (intOf i).toNat)
      case atStart => exact ⟨0, rfl, rfl, Nat.zero_le _, HXd⟩
      case round =>
        clear HXd
        obtain ⟨k, rfl, rfl, hk, HX⟩ := hrel
        obtain ⟨b0, b1⟩ := box2 HX.out
        have hyr := box_lt HX.out
        go_upto_region 15 with (fail)
        go_cut [120] from 113 to 144 (fun s wx => ∃ b : Bool, s = .bool b ∧ (b = true → k < ps2.length ∧ ok2 = true) ∧ (b = false → ok2 = true → k = ps2.length) ∧ Hid (Below (w5.heap.size + 1) (w5.alloc (nb N2 A2 ps2.length c2)) wx))
        case first => as_aux_lemma =>
          by_cases hlt : k < ps2.length
          · have hle : decide (k < ps2.length) = true := decide_eq_true hlt
            go_wp2_with fail
            go_meet
            exact ⟨ok2, rfl, fun h => ⟨hlt, h⟩, fun h h2 => by simp [h] at h2, HX⟩
          · have hle : decide (k < ps2.length) = false := decide_eq_false hlt
            go_wp2_with fail
            go_meet
            exact ⟨false, rfl, by simp, fun _ _ => by omega, HX⟩
        case rest => as_aux_lemma =>
          obtain ⟨b, rfl, hbt, hbf, HXr⟩ := hcut
          obtain ⟨w9, hw9⟩ : ∃ w9, w9 = wc := ⟨_, rfl⟩
          subst hw9
          clear HX b0 b1 hyr
          obtain ⟨b0, b1⟩ := box2 HXr.out
          have hy9 := box_lt HXr.out
          cases b with
          | true =>
            obtain ⟨hlt, hok2⟩ := hbt rfl
            subst hok2
            obtain ⟨hfb, hve⟩ := HIN.out rfl
            obtain ⟨hg, hfn, hr⟩ := floB_of hfb
            have hkf : k < fl2.length := by omega
            have HLk := Lib.hid (fun w' (hb : Below w9.heap.size w9 w') => HLO.out hfb k hlt A2 c2 (some ⟨q2, 0, none⟩) k2 w' (HPA.out _ ((below_box HXr.out).trans (hb.mono (below_box HXr.out).size))) (HFL.out _ ((below_box HXr.out).trans (hb.mono (below_box HXr.out).size))))
            obtain ⟨bP, off, hA, hbl, p0, p1, p2, p3⟩ := (HPA.out _ (below_box HXr.out)).at_ hlt
            obtain ⟨bb, of2, hA2, hbl2, q0⟩ := (HFL.out _ (below_box HXr.out)).at_ hkf
            obtain ⟨rfl, rfl⟩ : q2 = bb ∧ 0 = of2 := by simpa using hA2
            have q0' : w9.cell? ⟨q2, k, none⟩ = some (.int .i64 (lA fl2 k)) := by simpa [lA] using q0
            have hk0 : (0 : Int) ≤ (k : Int) := by omega
            have hkn : (k : Int) < (ps2.length : Int) := by omega
            have hknf : (k : Int) < (fl2.length : Int) := by omega
            have ht : -4608000000000 ≤ lossI (pAt ps2 k) (lA fl2 k) * lA fl2 k ∧ lossI (pAt ps2 k) (lA fl2 k) * lA fl2 k ≤ 4608000000000 := enT_in hg hr hfn hkf
            have hs := enS_in hg hr hfn (k := k) (by omega)
            have HSN := Lib.hid (show sumK (enT ps2 fl2) (k + 1) = sumK (enT ps2 fl2) k + lossI (pAt ps2 k) (lA fl2 k) * lA fl2 k from rfl)
            subst hA
            clear hA2 q0 hve hr hg hfn hfb hbt hbf p1 p2 p3
            obtain ⟨LS, hLS⟩ : ∃ z, lossI (pAt ps2 k) (lA fl2 k) = z := ⟨_, rfl⟩
            obtain ⟨fk, hfk⟩ : ∃ z, lA fl2 k = z := ⟨_, rfl⟩
            obtain ⟨id, hid⟩ : ∃ z, (pAt ps2 k).id = z := ⟨_, rfl⟩
            obtain ⟨S, hS⟩ : ∃ z, sumK (enT ps2 fl2) k = z := ⟨_, rfl⟩
            rw [hLS, hfk] at ht HSN
            rw [hLS, hid] at HLk
            rw [hS] at hs HSN ⊢
            rw [hid] at p0
            rw [hfk] at q0'
            have wP : IntKind.i64.wrap (LS * fk) = LS * fk := w64 _ (by omega)
            have wS : IntKind.i64.wrap (S + LS * fk) = S + LS * fk := w64 _ (by omega)
            clear ht hs hLS hfk hid hS
            refine Hid.out ?_
            refine Lib.hid ?_
            go_wp2_with fail
            have hG := @cell_g
            refine region_below (by kernel_rfl) (by kernel_rfl) ?_
            repeat (first | go_big_quiet_step ((go_at_call 25; exact met_at HLk.out)))
            refine wpQuiet_nil ?_
            intro w10 hb10
            have q10 := (hb10.cell (p := ⟨q2, k, none⟩) hbl2).trans q0'
            have HX10 := Lib.hid (on_call HXr.out hb10)
            clear q0' p0 b0 b1 hb10 hG
            go_wp2_with fail
            go_roundw
            case rel => exact ⟨k + 1, by rw [HSN.out], by go_num, by omega, HX10⟩
            case measure => simp [intOf]; omega
          | false =>
            refine Hid.out ?_
            refine Lib.hid ?_
            go_upto_region 21 with (fail)
            go_cut [150] (fun s wx => s = .bool false ∧ Hid (Below (w5.heap.size + 1) (w5.alloc (nb N2 A2 ps2.length c2)) wx))
            case first => as_aux_lemma =>
              cases ok2 with
              | false =>
                go_wp2_with fail
                go_meet
                exact ⟨rfl, HXr⟩
              | true =>
                obtain ⟨hfb, hve⟩ := HIN.out rfl
                have hSe : (sumK (enT ps2 fl2) k != v2) = false := by
                  have e1 : k = fl2.length := by rw [(floB_of hfb).2.1]; exact hbf rfl rfl
                  have e2 : sumK (enT ps2 fl2) k = v2 := by rw [hve, e1]; rfl
                  simp [e2]
                clear hfb hve hbf hbt
                go_wp2_with fail
                go_meet
                exact ⟨rfl, HXr⟩
            case rest => as_aux_lemma =>
              obtain ⟨rfl, HXs⟩ := hcut
              obtain ⟨w11, hw11⟩ : ∃ w11, w11 = wc := ⟨_, rfl⟩
              subst hw11
              clear b0 b1 hy9 HXr HLO HIN hbt hbf
              obtain ⟨b0, b1⟩ := box2 HXs.out
              have hy11 := box_lt HXs.out
              have hne3 := HNE.out
              refine Hid.out ?_
              refine Lib.hid ?_
              go_upto_region 25 with (first
                | (go_at_call 38; refine (HS.out A2 c2 _ k2 _ (HPA.out _ (below_box HXs.out)) (HFL.out _ (below_box HXs.out))).1.mono ?_; rintro e w12 ⟨rfl, hb12⟩; have HX12 := Lib.hid (on_call HXs.out hb12); clear b0 b1 hb12; obtain ⟨b0, b1⟩ := box2 HX12.out; have hy12 := box_lt HX12.out)
                | (go_at_call 39; refine (HS.out A2 c2 _ k2 _ (HPA.out _ (below_box HX12.out)) (HFL.out _ (below_box HX12.out))).2.mono ?_; rintro e w13 ⟨rfl, hb13⟩; have HX13 := Lib.hid (on_call HX12.out hb13); clear b0 b1 hb13; obtain ⟨b0, b1⟩ := box2 HX13.out; have hy13 := box_lt HX13.out)
                | fail)
              go_cut [177] (fun s wx => s = .bool false ∧ Hid (Below (w5.heap.size + 1) (w5.alloc (nb N2 A2 ps2.length c2)) wx))
              case first => as_aux_lemma =>
                go_wp2_with fail
                go_meet
                exact ⟨rfl, HX13⟩
              case rest => as_aux_lemma =>
                obtain ⟨rfl, HXe⟩ := hcut
                have HBe := Lib.hid (HB5.out.trans ((below_box HXe.out).mono HB5.out.size))
                obtain ⟨w14, hw14⟩ : ∃ w14, w14 = wc := ⟨_, rfl⟩
                subst hw14
                clear HXs HX12 HX13 HXe HS HPA HFL HB5 HNE hy11 hy12 hy13 hne3 b0 b1
                refine Hid.out ?_
                refine Lib.hid ?_
                go_wp2_with (first
                  | (go_at_call 40; refine (dpress_any a n cap _ (HC.out.later HBe.out (Nat.le_refl _)) hn).mono ?_; rintro e w15 ⟨N3, A3, c3, ps3, s3, qd, kd, dm, h3, qh, kh, hs, rfl, hnet, hdl, hdo, hhl, hho, hb15⟩; refine Hid.out ?_)
                  | fail)
                have hm : ps3.length ≤ maxLen := by have := hnet.len; unfold maxLen; omega
                obtain ⟨LL, HH, ok4, hL4, hok4, hHP⟩ := pr_pack N3 ps3 s3 dm h3 hs hm (by omega) (by omega)
                have hcap := hnet.cap
                have HPA := Lib.hid (fun w' (hb : Below w15.heap.size w15 w') => hnet.pat.kept hb (Nat.le_refl _))
                have HDM := Lib.hid (fun w' (hb : Below w15.heap.size w15 w') => hdo.iat.kept hb (Nat.le_refl _))
                have HHS := Lib.hid (fun w' (hb : Below w15.heap.size w15 w') => hho.iat.kept hb (Nat.le_refl _))
                have HP := Lib.hid (fun w' (hb : Below w15.heap.size w15 w') => hHP A3 c3 (some ⟨qd, 0, none⟩) kd (some ⟨qh, 0, none⟩) kh w' (HPA.out _ hb) hcap (HDM.out _ hb) (HHS.out _ hb))
                have HB15 := Lib.hid (HBe.out.trans (hb15.mono HBe.out.size))
                have HX15 := Lib.hid (Below.refl (w15.heap.size + 1) (w15.alloc (nb N3 A3 ps3.length c3)))
                obtain ⟨b0, b1⟩ := box2 HX15.out
                have hy15 := box_lt HX15.out
                have hne4 : (ok4 != ok4) = false := by cases ok4 <;> rfl
                clear hnet hdo hho hb15 hHP hm HBe HPA HDM hcap hn HC
                refine Lib.hid ?_
                go_upto_if 212 with (first
                  | (go_at_call 41; refine (HP.out _ (below_box HX15.out)).1.mono ?_; rintro e w16 ⟨g1, k1, rfl, hg1, ho1, hb16⟩; have HX16 := Lib.hid (on_call HX15.out hb16); have HI1 := Lib.hid ho1.iat; clear b0 b1 hb16 ho1; obtain ⟨b0, b1⟩ := box2 HX16.out; have hy16 := box_lt HX16.out)
                  | (go_at_call 42; refine (HP.out _ (below_box HX16.out)).2.1.mono ?_; rintro e w17 ⟨g2, o2, k2, rfl, hg2, hi2, hb17, hl2⟩; have HX17 := Lib.hid (on_call HX16.out hb17); have HI1b := Lib.hid (HI1.out.kept hb17 (Nat.le_refl _)); have HI2 := Lib.hid hi2; clear b0 b1 hb17 hi2; obtain ⟨b0, b1⟩ := box2 HX17.out; have hy17 := box_lt HX17.out)
                  | (go_at_call 13; refine (vints_same _ _ k1 k2 LL _ HI1b.out HI2.out (by omega)).mono ?_; rintro e w18 ⟨rfl, hb18⟩; have HX18 := Lib.hid (on_call HX17.out hb18); have HI3 := Lib.hid (HI1b.out.kept hb18 (Nat.le_refl _)); clear b0 b1 hb18; obtain ⟨b0, b1⟩ := box2 HX18.out; have hy18 := box_lt HX18.out)
                  | fail)
                cases ok4 with
                | false =>
                  go_wp2_with fail
                  go_ret
                  exact ⟨rfl, HB15.out.trans ((below_box HX18.out).mono HB15.out.size)⟩
                | true =>
                  obtain ⟨hLs, hHs, hEQ⟩ := hok4 rfl
                  have HEQ := Lib.hid hEQ
                  have HLs := Lib.hid hLs
                  have HHs := Lib.hid hHs
                  clear hok4 hEQ hLs hHs HX15 HX16 HX17 HI1 HI1b HI2 hy15 hy16 hy17 hne4
                  refine Hid.out ?_
                  refine Lib.hid ?_
                  go_wp2_with (first
                    | (go_at_call 23; refine ((HP.out _ (below_box HX18.out)).2.2 rfl).mono ?_; rintro e w19 ⟨g3, k3, rfl, hg3, ho3, hb19⟩; have HX19 := Lib.hid (on_call HX18.out hb19); have HI4 := Lib.hid (HI3.out.kept hb19 (Nat.le_refl _)); have HI5 := Lib.hid ho3.iat; clear b0 b1 hb19 ho3; refine Hid.out ?_)
                    | fail)
                  have HI6 := Lib.hid (HHS.out _ (below_box HX19.out))
                  refine Lib.hid ?_
                  go_wp2_with fail
                  go_loopw [38] (fun i wr => ∃ k : Nat, i = .int .i64 (k : Int) ∧ k ≤ LL.length ∧ Hid (Below w19.heap.size w19 wr)) (fun i _ => LL.length - (intOf i).toNat)
                  case atStart => exact ⟨0, rfl, Nat.zero_le _, Lib.hid (Below.refl _ _)⟩
                  case round =>
                    obtain ⟨k, rfl, hk, HBr⟩ := hrel
                    by_cases hlt : k < LL.length
                    · have hle : decide (k < LL.length) = true := decide_eq_true hlt
                      obtain ⟨eb1, eo1, he1, hel1, r1⟩ := (HI4.out.kept HBr.out (Nat.le_refl _)).at_ (i := k) hlt
                      obtain ⟨eb2, eo2, he2, hel2, r2⟩ := (HI6.out.kept HBr.out (Nat.le_refl _)).at_ (i := k) (by have := HLs.out; omega)
                      obtain ⟨eb3, eo3, he3, hel3, r3⟩ := (HI5.out.kept HBr.out (Nat.le_refl _)).at_ (i := k) (by have := HLs.out; have := HHs.out; omega)
                      obtain ⟨rfl, rfl⟩ : g1 = eb1 ∧ 0 = eo1 := by simpa using he1
                      obtain ⟨rfl, rfl⟩ : qh = eb2 ∧ 0 = eo2 := by simpa using he2
                      obtain ⟨rfl, rfl⟩ : g3 = eb3 ∧ 0 = eo3 := by simpa using he3
                      obtain ⟨heq, hlo, hhi⟩ := HEQ.out k hlt
                      have hk0 : (0 : Int) ≤ (k : Int) := by omega
                      have hk1 : (k : Int) < (LL.length : Int) := by omega
                      have hk2 : (k : Int) < (hs.length : Int) := by have := HLs.out; omega
                      have hk3 : (k : Int) < (HH.length : Int) := by have := HLs.out; have := HHs.out; omega
                      obtain ⟨xa, hxa⟩ : ∃ z, LL.getD k 0 = z := ⟨_, rfl⟩
                      obtain ⟨xb, hxb⟩ : ∃ z, hs.getD k 0 = z := ⟨_, rfl⟩
                      obtain ⟨xc, hxc⟩ : ∃ z, HH.getD k 0 = z := ⟨_, rfl⟩
                      rw [hxa] at r1 heq
                      rw [hxb] at r2 heq
                      rw [hxc] at r3 heq hlo hhi
                      have hw : IntKind.i64.wrap (xa + xb) = xc := by rw [heq]; exact w64 _ (by omega)
                      have r1' : wr.cell? ⟨g1, k, none⟩ = some (.int .i64 xa) := by simpa using r1
                      have r2' : wr.cell? ⟨qh, k, none⟩ = some (.int .i64 xb) := by simpa using r2
                      have r3' : wr.cell? ⟨g3, k, none⟩ = some (.int .i64 xc) := by simpa using r3
                      clear he1 he2 he3 r1 r2 r3 heq hlo hhi hxa hxb hxc
                      go_wp2_with fail
                      have hG := @cell_g
                      refine region_below (by kernel_rfl) (by kernel_rfl) ?_
                      repeat (first | go_big_quiet_step (fail))
                      refine wpQuiet_nil ?_
                      intro w20 hb20
                      clear hG
                      go_wp2_with fail
                      go_roundw
                      case rel => exact ⟨k + 1, by go_num, by omega, Lib.hid (HBr.out.trans (hb20.mono HBr.out.size))⟩
                      case measure => simp [intOf]; omega
                    · have hle : decide (k < LL.length) = false := decide_eq_false hlt
                      clear hlt
                      go_wp2_with fail
                      go_ret
                      exact ⟨rfl, HB15.out.trans (((below_box HX19.out).trans (HBr.out.mono (below_box HX19.out).size)).mono HB15.out.size)⟩
end Go.Proofs.Ytikppgbipdflbab.S2

namespace Go.Proofs.Ytikppgbipdflbab.fnLosses
open Go.ChangeShapes Go.WideShapes Go.ChangeAt Go.RowKit P2 S2
set_option linter.unusedVariables false

theorem own : ownKnob Try.prog.godebug = none := by kernel_rfl
theorem laidOut : laidOutB Try.prog = true := by kernel_rfl

set_option maxRecDepth 100000 in
theorem lifted (os : Os) (started : os.Started) (H : Type) (enc : TypeId × Value → H) :
    ReturnsInHanded {} Try.checked os 5 .any (Rows.fnLossesSpec.pre6 enc Try.prog Try.f5 Rows.fnLossesRow.domain false) (Rows.fnLossesSpec.post enc Try.prog Try.f5 false true false false) := by
  refine returnsInHanded_of_change (C := Try.checked) own started (by kernel_rfl) Try.func5
    (ChangeSpec.witness6 (enc := enc) (C := Try.checked) false ⟨#[], #[.slice none 0 0], []⟩ 8 (by kernel_rfl) (by kernel_rfl) (by kernel_rfl) (by kernel_rfl)) ?_
  intro W base args ds gs before hval0 hW hcnd _
  have hval : ∀ (j : Nat) t v, Try.f5.params[j]? = some t → args[j]? = some v → Value.okWide Try.prog W .any base t v := hval0
  have hW' := hW
  obtain ⟨p, q, hA0, hV, rfl, hfz, hnd⟩ := hW
  have hA : DataW.TrodAll enc Try.prog W 0 (fun _ => true) true Try.f5.params.toList args.toList ds p := hA0
  rw [Try.params5] at hA hval
  obtain ⟨v0, d0, rfl, rfl, h0⟩ := trodAll_one hA
  obtain ⟨rfl, rfl⟩ := trodVars_none hV
  have k0 := h0
  have lt0 : ∀ x ∈ p, x.block < W.heap.size := by obtain ⟨m, hm⟩ := k0; exact DataW.trod_lt m _ _ _ hm
  obtain ⟨A0, len0, cap0, rfl, cd0⟩ := S1.code_open (hval 0 22 v0 rfl rfl) h0
  clear hA0 hval0
  refine (walkLosses A0 len0 cap0 W cd0).mono fun e W' ⟨he, bel⟩ => ?_
  subst he
  exact ⟨_, rfl, _, _, _, [], _, [], hW', trodAll_mk1 (shut_bool Try.underlying4 _), trodAll_mk1 (Below.trod laidOut (by kernel_rfl) (of_decide_eq_true (by kernel_rfl)) k0 bel lt0), rfl, bel.frame _, fun h => by cases h⟩

theorem andB {a b : Bool} (h : a = true) (g : b = true) : (a && b) = true := by rw [h, g]; rfl
theorem heavy : ((Rows.fnLossesRow.inPlace == Try.pinned.checked.prog.inPlace 5) && ((Rows.fnLossesRow.unfollowed == Try.pinned.checked.prog.unfollowed 5) && ((Rows.fnLossesRow.recurses == Try.pinned.checked.prog.recurses 5) && (Rows.fnLossesRow.named == Try.pinned.checked.prog.varsNamed 5)))) = true := by kernel_rfl
set_option maxHeartbeats 4000000 in
theorem closed : joinedFacts Try.pinned.checked.prog 5 Try.f5 Rows.fnLossesSpec Rows.fnLossesRow = true := by
  unfold joinedFacts
  simp only [Bool.and_assoc]
  have h := heavy
  rw [Bool.and_eq_true, Bool.and_eq_true, Bool.and_eq_true] at h
  obtain ⟨h1, h2, h3, h4⟩ := h
  iterate 9 refine andB (by as_aux_lemma => kernel_rfl) ?_
  refine andB (by with_reducible exact h1) (andB (by with_reducible exact h2) (andB (by with_reducible exact h3) (andB (by with_reducible exact h4) ?_)))
  as_aux_lemma => kernel_rfl
theorem named : Try.pinned.checked.prog.funcNamed Rows.fnLossesRow.func = some 5 := by kernel_rfl
theorem instd : Try.f5.isInstance Try.pinned.checked.prog Rows.fnLossesRow.origin Rows.fnLossesRow.targs := of_decide_eq_true (by kernel_rfl)
theorem proved : Rows.FnLossesSaid :=
  OpenClaim.holds_of_wide 5 Try.f5 rfl rfl rfl rfl rfl rfl rfl ⟨rfl, rfl, rfl, rfl, rfl⟩ rfl rfl rfl rfl rfl named Try.func5 closed
    instd (by unfold Func.isWrapper; first | (rw [if_pos (by decide +kernel)]; kernel_rfl) | (rw [if_neg (by decide +kernel)]; exact ⟨rfl, rfl⟩))
    (fun os started H enc _ => lifted os started H enc)
end Go.Proofs.Ytikppgbipdflbab.fnLosses
namespace Go.Proofs.Ytikppgbipdflbab
theorem FnLosses_holds : Rows.FnLossesSaid := fnLosses.proved
#print axioms FnLosses_holds
end Go.Proofs.Ytikppgbipdflbab
