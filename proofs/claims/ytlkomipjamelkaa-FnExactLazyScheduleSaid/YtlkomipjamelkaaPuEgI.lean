/- The eager schedule: what the program returns: contract. Conditions: its own premises. -/
import Derived.Test.YtlkomipjamelkaaPuMk
import Derived.Test.YtlkomipjamelkaaPuIg
import Derived.Deep.DeepCutAuto
import Derived.Deep.RegionLaw
namespace Go.Proofs.Ytlkomipjamelkaa.S13
open Go.RowKit Go.Sort Go.ChangeShapes Go.WideShapes Go.Deep Go.Joins P11 S11 P13

theorem empty_givesI {w w1 : World} {ok : Bool} (hb : Below w.heap.size w w1) : GivesI w [] ok (.returned (.tuple #[.slice (some ⟨w1.heap.size, 0, none⟩) 0 0, .bool ok])) (w1.alloc (.cells #[] 3)) :=
  ⟨w1.heap.size, 0, rfl, hb.size, own_empty w1 _ hb.size, hb.trans ((alloc_below _ _).mono hb.size)⟩
set_option maxHeartbeats 2000000 in
theorem eager_any (p : Pg) (A : Option Addr) (c : Nat) (A2 : Option Addr) (c2 : Nat) (w : World) (h : PAt w p A A2) :
    Calls Try.prog 30 #[pv p A c A2 c2] w (GivesI w (egR p) (egB p)) := by
  have HB0 := Lib.hid (boxB w 31 p A c A2 c2)
  have H60 := Lib.hid (B6.new w 31 p A c A2 c2)
  have HP := Lib.hid (fun w' hb => h.kept (w' := w') hb)
  have HI := Lib.hid (fun w' hb => ivp_any p A c A2 c2 w' (h.kept (w' := w') hb))
  clear h
  cases hp : pgB p with
  | false =>
    have HE : Hid (egB p = false) := Lib.hid (by unfold egB gsB; rw [hp]; rfl)
    rw [hp] at HI
    have HE2 : Hid (egR p = []) := Lib.hid (by unfold egR; rw [HE.out]; rfl)
    rw [HE.out, HE2.out]
    go_enter Try.func30, Try.ntmps30
    go_wp2_with (first | (go_at_call 14; refine (HI.out _ HB0.out).mono ?_; rintro e w1 ⟨rfl, hb1⟩; refine Hid.out ?_) | fail)
    have HB1 := Lib.hid (HB0.out.trans (hb1.mono HB0.out.size))
    refine Lib.hid ?_
    go_wp2_with fail
    go_ret2
    exact empty_givesI HB1.out
  | true =>
    have HGD := Lib.hid (pgB_iff.1 hp)
    have hn12 := HGD.out.day.n1
    have HEQ := Lib.hid HGD.out.day.eq
    have hny : p.ys.length ≤ 12 := by rw [HEQ.out]; exact hn12
    rw [hp] at HI
    clear hp
    go_enter Try.func30, Try.ntmps30
    go_wp2_with (first | (go_at_call 14; refine (HI.out _ HB0.out).mono ?_; rintro e w1 ⟨rfl, hb1⟩; refine Hid.out ?_) | fail)
    have HB1 := Lib.hid (HB0.out.trans (hb1.mono HB0.out.size))
    have H61 := Lib.hid (H60.out.kept hb1)
    obtain ⟨a0, a1, a2, a3, a4, a5⟩ := H61.out.out
    clear hb1 HI H60 HB0
    have hmk := run_make_row' (P := Try.prog) 24 3 (.int .i64 0) 8 Try.underlying24 infoI rfl .i64 .i64 p.ys.length (by omega) (by omega)
    refine Lib.hid ?_
    go_upto_region 3 with (fail)
    go_cut [4, 5] (fun s t wx => ∃ G H : Nat, s = .slice (some ⟨G, 0, none⟩) p.ys.length p.ys.length ∧ t = .pointer (some ⟨H, 0, none⟩) ∧ Hid (RT w1 wx G H p.ys.length (egL p p.xs.length) 0 p.L p.a p.b))
    case first =>
      have HLN := Lib.hid (show (egL p p.xs.length).length = p.ys.length by rw [egL_len, HEQ.out])
      have hnm : p.ys.length ≤ 1048576 := by omega
      have hz1 : w.heap.size < w1.heap.size := H61.out.lt
      go_region
      all_goals
        go_wp2_with fail
        go_meet
        first
          | exact ⟨_, _, rfl, rfl, Lib.hid (rt_a w1 (egL p p.xs.length) p.ys.length HLN.out hnm 29 p.L p.a p.b).drew⟩
          | exact ⟨_, _, rfl, rfl, Lib.hid (rt_b w1 (egL p p.xs.length) p.ys.length HLN.out hnm 29 p.L p.a p.b).drew⟩
    case rest =>
      obtain ⟨G, H, rfl, rfl, hrt⟩ := hcut
      obtain ⟨w2, hw2⟩ : ∃ w2, w2 = wc := ⟨_, rfl⟩
      subst hw2
      clear hmk a0 a1 a2 a3 a4 a5
      have HLN := Lib.hid (show (egL p p.xs.length).length = p.ys.length by rw [egL_len, HEQ.out])
      have HLA := Lib.hid (fun k (hk : k < p.xs.length) => egL_at p (k := p.xs.length) (i := k) hk)
      obtain ⟨a0, a1, a2, a3, a4, a5⟩ := (H61.out.kept hrt.out.bw).out
      have HGS := Lib.hid (fun w' (hb : Below w.heap.size w w') (hv : IAt w' (some ⟨G, 0, none⟩) (egL p p.xs.length)) => by
        have hq := igs_any p A c A2 c2 (some ⟨G, 0, none⟩) p.ys.length (egL p p.xs.length) w' (HP.out _ hb) hv (by rw [HLN.out]; omega)
        rw [HLN.out] at hq
        exact (show Calls Try.prog 18 #[pv p A c A2 c2, .slice (some ⟨G, 0, none⟩) p.ys.length p.ys.length] w' fun e w'' => e = .returned (.bool (egB p)) ∧ Below w'.heap.size w' w'' from hq))
      refine Lib.hid ?_
      go_wp2_with fail
      clear a0 a1 a2 a3 a4 a5
      have HER := Lib.hid (show egB p = true → egR p = egL p p.xs.length from fun e => by unfold egR; rw [e]; rfl)
      have HEN := Lib.hid (show egB p = false → egR p = [] from fun e => by unfold egR; rw [e]; rfl)
      generalize hel : egL p p.xs.length = el at *
      clear hel
      generalize egR p = er at *
      generalize egB p = eb at *
      go_loopw [21] (fun i wr => ∃ k : Nat, k ≤ p.ys.length ∧ i = .int .i64 (k : Int) ∧ Hid (RT w1 wr G H p.ys.length el k (lvE p k) p.a p.b)) (fun i _ => p.ys.length - (intOf i).toNat)
      case atStart => exact ⟨0, Nat.zero_le _, rfl, hrt⟩
      case round =>
        obtain ⟨k, hk, rfl, hr⟩ := hrel
        clear hrt
        have h6r := Lib.hid (H61.out.kept hr.out.bw)
        obtain ⟨a0, a1, a2, a3, a4, a5⟩ := h6r.out.out
        have hBw := Lib.hid (HB1.out.trans (hr.out.bw.mono HB1.out.size))
        obtain ⟨hGlo, hGlt, hHlt⟩ := hr.out.lt
        by_cases hlt : k < p.ys.length
        · have hkx : k < p.xs.length := by rw [← HEQ.out]; exact hlt
          have htk := lvE_tk HGD.out (k := k) (by omega)
          obtain ⟨t0, t1, t2, t3⟩ := tkB_iff.1 htk
          have hve := vE_in HGD.out (k := k) (by omega)
          have hst := good_st HGD.out hkx htk hve.1 hve.2
          have hpm0 := HGD.out.m0
          have hpm1 := HGD.out.m1
          obtain ⟨by_, oy, hAy, hby, hcy⟩ := (HP.out _ hBw.out).y.at_ hlt
          subst hAy
          have hk0 : (0 : Int) ≤ (k : Int) := by omega
          have hkn : (k : Int) < (p.ys.length : Int) := by omega
          obtain ⟨_, b0, b1, b2⟩ := hr.out.bt
          obtain ⟨u, hu⟩ := fiI_has el k (by rw [HLN.out]; exact hlt)
          have hcell := (hr.out.row.cellAt k (by omega)).trans hu
          have hfz := hr.out.row.frozenAt k
          have hne := hr.out.ne
          have HV := Lib.hid (show min p.pm (p.b - lvE p k) = el.getD k 0 by rw [HLA.out k hkx]; rfl)
          have HRS := Lib.hid (hr.out.store (by rw [HLN.out]; exact hlt) (by omega))
          have HST := Lib.hid (fun w => step_yes (lvE p k) p.a p.b (vE p k) (p.ys.getD k 0) w hst)
          unfold StepIs at HST
          have hq : nxt p.a p.b (lvE p k) (vE p k) (p.ys.getD k 0) = lvE p (k + 1) := rfl
          have hv9 : vE p k = el.getD k 0 := (HLA.out k hkx).symm
          rw [hq, hv9] at HST
          clear hq hv9 hve hst htk
          obtain ⟨z, hz⟩ : ∃ z, lvE p (k + 1) = z := ⟨_, rfl⟩
          rw [hz] at HST
          have HZ := Lib.hid hz
          clear hz
          obtain ⟨v, hv⟩ : ∃ v, el.getD k 0 = v := ⟨_, rfl⟩
          rw [hv] at HV HRS HST
          generalize spl p.b (lvE p k) v = s9 at *
          generalize mis p.a p.b (lvE p k) v (p.ys.getD k 0) = m9 at *
          generalize lvE p k = l0 at *
          generalize p.ys.getD k 0 = y at *
          have hcS : Hid ((wr.setCell ⟨G, k, none⟩ (iv v)).cell? ⟨G, k, none⟩ = some (iv v)) := Lib.hid (World.cell?_setCell_same _ _ _ hcell)
          refine Hid.out ?_
          refine Lib.hid ?_
          go_wp2_with fail
          try rw [HV.out]
          obtain ⟨wS, hwS⟩ : ∃ wS, wS = wr.setCell ⟨G, k, none⟩ (iv v) := ⟨_, rfl⟩
          rw [← hwS] at HRS hcS ⊢
          have h6S := Lib.hid (H61.out.kept HRS.out.bw)
          clear hwS b0 b1 b2 a0 a1 a2 a3 a4 a5 hcell hu hfz h6r
          obtain ⟨_, b0, b1, b2⟩ := HRS.out.bt
          obtain ⟨f0, f1, f2⟩ := HRS.out.fz.out
          have hc9 := hcS.out
          obtain ⟨hG2, hG3, hH3⟩ := HRS.out.lt
          go_region_with (first
            | (go_at_call 48; refine (HST.out _).mono ?_; rintro e w3 ⟨rfl, hb3⟩; have HR3 := Lib.hid (HRS.out.drew.call hb3); obtain ⟨_, d0, d1, d2⟩ := HR3.out.bt; obtain ⟨e0, e1, e2⟩ := HR3.out.fz.out))
          all_goals
            go_wp2_with fail
            have HR4 := Lib.hid (HR3.out.put z p.a p.b)
            go_roundw
            case rel => exact ⟨k + 1, by omega, by go_num, by rw [HZ.out]; exact HR4⟩
            case measure => simp [intOf]; omega
        · have e : k = p.ys.length := by omega
          subst e
          have ho := hr.out.row
          have e2 := fiI_full el
          rw [HLN.out] at e2
          rw [e2] at ho
          have HO := Lib.hid (show IOwn wr w1.heap.size (.slice (some ⟨G, 0, none⟩) el.length p.ys.length) el by unfold IOwn; rw [HLN.out]; exact ho)
          have HG2 := Lib.hid (HGS.out wr hBw.out HO.out.iat)
          have hw1 := HB1.out.size
          clear ho e2 HGS HLA
          cases eb with
          | true =>
            have hE := HER.out rfl
            subst hE
            go_wp2_with (first | (go_at_call 18; refine HG2.out.mono ?_; rintro e w3 ⟨rfl, hb3⟩; refine Hid.out ?_) | fail)
            have HO3 := Lib.hid (HO.out.on hb3)
            have HB3 := Lib.hid (hBw.out.trans (hb3.mono hBw.out.size))
            refine Lib.hid ?_
            go_wp2_with fail
            go_ret2
            exact ⟨G, p.ys.length, by rw [HLN.out]; rfl, by omega, own_lower HO3.out hw1, HB3.out⟩
          | false =>
            have hE := HEN.out rfl
            subst hE
            go_wp2_with (first | (go_at_call 18; refine HG2.out.mono ?_; rintro e w3 ⟨rfl, hb3⟩; refine Hid.out ?_) | fail)
            have HB3 := Lib.hid (hBw.out.trans (hb3.mono hBw.out.size))
            refine Lib.hid ?_
            go_wp2_with fail
            go_ret2
            exact empty_givesI HB3.out
end Go.Proofs.Ytlkomipjamelkaa.S13
