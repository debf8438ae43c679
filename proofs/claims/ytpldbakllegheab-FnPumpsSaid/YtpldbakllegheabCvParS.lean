/- The model's ParallelFlow: contracts. Conditions: each theorem's own premises. -/
import Derived.Test.YtpldbakllegheabCvSum
import Derived.Deep.DeepCutAuto
namespace Go.Proofs.Ytpldbakllegheab.S7
open Go.RowKit P7


set_option maxHeartbeats 8000000 in
set_option maxRecDepth 100000 in
theorem spar_any (A : Option Addr) (cap : Nat) (ls : List (List Cp)) (f : Int) (w : World) (h : SCp w A ls) (hm : ls.length ≤ 1048576) (hv : vB f = true) :
    Calls Try.prog 17 #[.slice A ls.length cap, .int .i64 f] w (SPost (fun i => pF (rw_ ls i) f) ls.length w) := by
  have HA := Lib.hid h
  have HF := Lib.hid (fun i => pF_frac (rw_ ls i) f)
  have HV := Lib.hid (fun w => sval_eq f true hv w)
  clear h hv
  obtain ⟨q, hq⟩ : ∃ q, decide (1 ≤ (ls.length : Int) ∧ (ls.length : Int) ≤ 4) = q := ⟨_, rfl⟩
  have HI := Lib.hid (fun w => in_eq (ls.length : Int) 1 4 q hq w)
  cases q with
  | true =>
    have hl : 1 ≤ (ls.length : Int) ∧ (ls.length : Int) ≤ 4 := of_decide_eq_true hq
    have hl0 : 1 ≤ ls.length := by omega
    have hl9 : ls.length ≤ 4 := by omega
    clear hq hl
    go_enter Try.func17, Try.ntmps17
    go_wp2_with (first
      | (go_at_call 51; refine (HI.out _).mono ?_; rintro e w1x ⟨rfl, hw⟩; replace hw := hw.symm; subst hw)
      | (go_at_call 52; refine (HV.out _).mono ?_; rintro e w1x ⟨rfl, hw⟩; replace hw := hw.symm; subst hw))
    go_loopw [7, 8, 9] (fun nn dd i wr => ∃ k : Nat, k ≤ ls.length ∧ nn = .int .i64 ((sumK (fun i => pF (rw_ ls i) f) k).1 : Int) ∧ dd = .int .i64 ((sumK (fun i => pF (rw_ ls i) f) k).2 : Int) ∧ i = .int .i64 (k : Int) ∧ Hid (AllK (fun i => pF (rw_ ls i) f) k) ∧ Below w.heap.size w wr) (fun _ _ i _ => ls.length - (intOf i).toNat)
    case atStart => exact ⟨0, by omega, rfl, rfl, rfl, Lib.hid (AllK.zero _), Below.refl _ _⟩
    case round =>
      obtain ⟨k, hk, rfl, rfl, rfl, hall, hb⟩ := hrel
      by_cases hlt : k < ls.length
      · obtain ⟨b, off, B, c, hA0, hbl, c0, hI, hcc, hcm⟩ := (HA.out.kept hb (Nat.le_refl _)).at_ hlt
        subst hA0
        have hk0i : (0 : Int) ≤ (k : Int) := by omega
        have hk1i : (k : Int) < (ls.length : Int) := by omega
        have hz := hb.size
        obtain ⟨v, hv⟩ : ∃ v, gB (rw_ ls k) = v := ⟨_, rfl⟩
        have HG := Lib.hid (sgood_v hv B c wr hI (by omega))
        cases v with
        | false =>
          have e : pF (rw_ ls k) f = (0, 0, false) := by unfold pF; rw [hv]; simp
          have hfin := Lib.hid (sumA_bad (F := (fun i => pF (rw_ ls i) f)) hlt (by rw [e]))
          generalize (sumK (fun i => pF (rw_ ls i) f) k).1 = nn at *
          generalize (sumK (fun i => pF (rw_ ls i) f) k).2 = dd at *
          generalize (rw_ ls k).length = n at *
          clear hI e hv
          go_wp2_with (go_at_call 53; refine HG.out.mono ?_; rintro e w2 ⟨rfl, hb2⟩)
          go_ret3
          exact spost_of hfin.out (hb.trans (hb2.mono hz))
        | true =>
          have g := gB_of hv
          have hg0 := g.1
          have hg9 := g.2.1
          obtain ⟨m, hmm⟩ : ∃ m, (rw_ ls k).length = m + 1 := ⟨(rw_ ls k).length - 1, by omega⟩
          obtain ⟨bb, oo, hB, hbb, t0, t1⟩ := hI.at_ (show m < (rw_ ls k).length by omega)
          obtain ⟨bb', oo', hB', _, s0, s1⟩ := hI.at_ (show 0 < (rw_ ls k).length by omega)
          subst hB
          simp only [Option.some.injEq, Addr.mk.injEq, and_true] at hB'
          obtain ⟨rfl, rfl⟩ := hB'
          rw [Nat.zero_mul, Nat.add_zero] at s1
          have hhi := pF_high (h := f) g
          have hlo := pF_low (h := f) g
          have hmi := pF_mid (h := f) g
          have hff := Lib.hid (fun (k' : Nat) (hk' : WK (rw_ ls k) f 0 k') (w' : World) (hb' : Below wr.heap.size wr w') => l7flow_any hk' (some ⟨bb, oo, none⟩) c w' (hI.kept hb' (Nat.le_refl _)))
          have hex := wk_zero_ex (l := f) g
          have hfl := (g.at_ (i := m) (by omega)).1
          rw [show (rw_ ls k).length - 1 = m by omega] at hlo hmi hex
          clear hv g s0 hI
          obtain ⟨X, hX⟩ : ∃ X, X = (cAt (rw_ ls k) m).fl := ⟨_, rfl⟩
          obtain ⟨Y, hY⟩ : ∃ Y, Y = (cAt (rw_ ls k) m).hd := ⟨_, rfl⟩
          obtain ⟨Z, hZ⟩ : ∃ Z, Z = (cAt (rw_ ls k) 0).hd := ⟨_, rfl⟩
          rw [← hX] at t0 hlo hfl
          rw [← hY] at t1 hlo hmi hex
          rw [← hZ] at s1 hhi hmi hex
          rw [hmm] at HG hff c0 hcc
          clear hX hY hZ hmm
          have hmw : IntKind.i64.wrap (m : Int) = (m : Int) := w64 _ (by omega)
          have hm0 : (0 : Int) ≤ (m : Int) := by omega
          have hm1 : (m : Int) < (m : Int) + 1 := by omega
          by_cases hcase : Z < f
          · have e := hhi hcase
            rw [show ((0 : Int), (1 : Int), true) = (((0 : Nat) : Int), ((1 : Nat) : Int), true) from rfl] at e
            clear hlo hmi hex hff hhi
            obtain ⟨n, d, e1, e2, hd0, hd9, hn9, _, _, hx6, m1, m2, m3, m4⟩ := sum_step (F := (fun i => pF (rw_ ls i) f)) HF.out (by omega) hall.out (a := 0) (b := 1) e
            have hnx := Lib.hid (hall.out.next (by rw [e]))
            have HL := Lib.hid (fun w => add_any n d 0 1 w m4 m1 m2 m3)
            have HE2 := Lib.hid e2
            rw [e1]
            dsimp only
            generalize hu : sN n d 0 1 = u at *
            generalize hv : sD n d 0 1 = v at *
            clear e e1 e2 hu hv m1 m2 m3 m4
            go_upto_region 10 with (go_at_call 53; refine HG.out.mono ?_; rintro e w2 ⟨rfl, hb2⟩)
            obtain ⟨hc, hf⟩ := bcell hb2
            have r0 := (hc _ _ hbb).trans t0
            have r1 := (hc _ _ hbb).trans t1
            have r2 := (hc _ _ hbb).trans s1
            have r3 := (hc _ _ hbl).trans c0
            have hz2 := hb2.size
            have hbl2 : b < w2.heap.size := by omega
            have hbb2 : bb < w2.heap.size := by omega
            go_region
            go_wp2_with (go_at_call 55; refine (HL.out _).mono ?_; rintro e w3 ⟨rfl, hb3⟩)
            go_roundw
            case rel => exact ⟨k + 1, by omega, by rw [HE2.out], by rw [HE2.out], by go_num, hnx, (Below.trans (hb.trans ((hb2.alloc hz2 _).drew.mono hz)) (hb3.mono (hb.trans ((hb2.alloc hz2 _).drew.mono hz)).size))⟩
            case measure => simp [intOf]; omega
          · by_cases hcase2 : f < Y
            · have e := hlo hcase2
              obtain ⟨xn, hxn⟩ := nat_of hfl.1
              rw [hxn, show (1 : Int) = ((1 : Nat) : Int) from rfl] at e
              rw [hxn] at t0
              clear hlo hmi hex hff hhi hxn hfl
              obtain ⟨n, d, e1, e2, hd0, hd9, hn9, _, _, hx6, m1, m2, m3, m4⟩ := sum_step (F := (fun i => pF (rw_ ls i) f)) HF.out (by omega) hall.out (a := xn) (b := 1) e
              have hnx := Lib.hid (hall.out.next (by rw [e]))
              have HL := Lib.hid (fun w => add_any n d xn 1 w m4 m1 m2 m3)
              have HE2 := Lib.hid e2
              rw [e1]
              dsimp only
              generalize hu : sN n d xn 1 = u at *
              generalize hv : sD n d xn 1 = v at *
              clear e e1 e2 hu hv m1 m2 m3 m4
              go_upto_region 10 with (go_at_call 53; refine HG.out.mono ?_; rintro e w2 ⟨rfl, hb2⟩)
              obtain ⟨hc, hf⟩ := bcell hb2
              have r0 := (hc _ _ hbb).trans t0
              have r1 := (hc _ _ hbb).trans t1
              have r2 := (hc _ _ hbb).trans s1
              have r3 := (hc _ _ hbl).trans c0
              have hz2 := hb2.size
              have hbl2 : b < w2.heap.size := by omega
              have hbb2 : bb < w2.heap.size := by omega
              go_region
              go_wp2_with (go_at_call 55; refine (HL.out _).mono ?_; rintro e w3 ⟨rfl, hb3⟩)
              go_roundw
              case rel => exact ⟨k + 1, by omega, by rw [HE2.out], by rw [HE2.out], by go_num, hnx, (Below.trans (hb.trans ((hb2.alloc hz2 _).drew.mono hz)) (hb3.mono (hb.trans ((hb2.alloc hz2 _).drew.mono hz)).size))⟩
              case measure => simp [intOf]; omega
            · have e0 := hmi (by omega) (by omega)
              obtain ⟨k', hk'⟩ := hex (by omega) (by omega)
              rcases HF.out k with e | ⟨x, y, e, hy0, hy9, hx9⟩
              · rw [e0, wA_yes hk'] at e; exact absurd (congrArg (fun t : Tri => t.2.2) e) (by simp)
              · have HFL := Lib.hid (hff.out k' hk')
                have e9 := e
                rw [e0, wA_yes hk'] at e9
                simp only [Prod.mk.injEq, and_true] at e9
                unfold lowV at HFL
                rw [e9.1, e9.2] at HFL
                clear hlo hmi hex hff hhi e0 e9 hk' hfl
                obtain ⟨n, d, e1, e2, hd0, hd9, hn9, _, _, hx6, m1, m2, m3, m4⟩ := sum_step (F := (fun i => pF (rw_ ls i) f)) HF.out (by omega) hall.out (a := x) (b := y) e
                have hnx := Lib.hid (hall.out.next (by rw [e]))
                have HL := Lib.hid (fun w => add_any n d x y w m4 m1 m2 m3)
                have HE2 := Lib.hid e2
                rw [e1]
                dsimp only
                generalize hu : sN n d x y = u at *
                generalize hv : sD n d x y = v at *
                clear e e1 e2 hu hv m1 m2 m3 m4
                go_upto_region 10 with (go_at_call 53; refine HG.out.mono ?_; rintro e w2 ⟨rfl, hb2⟩)
                obtain ⟨hc, hf⟩ := bcell hb2
                have r0 := (hc _ _ hbb).trans t0
                have r1 := (hc _ _ hbb).trans t1
                have r2 := (hc _ _ hbb).trans s1
                have r3 := (hc _ _ hbl).trans c0
                have hz2 := hb2.size
                have hbl2 : b < w2.heap.size := by omega
                have hbb2 : bb < w2.heap.size := by omega
                go_region
                go_wp2_with (first
                  | (go_at_call 54; refine (HFL.out _ ((hb2.alloc hz2 _).drew)).mono ?_; rintro e w4 ⟨rfl, hb4⟩)
                  | (go_at_call 55; refine (HL.out _).mono ?_; rintro e w3 ⟨rfl, hb3⟩))
                go_roundw
                case rel => exact ⟨k + 1, by omega, by rw [HE2.out], by rw [HE2.out], by go_num, hnx, (Below.trans (Below.trans (hb.trans ((hb2.alloc hz2 _).drew.mono hz)) (hb4.mono (hb.trans ((hb2.alloc hz2 _).drew.mono hz)).size)) (hb3.mono (Below.trans (hb.trans ((hb2.alloc hz2 _).drew.mono hz)) (hb4.mono (hb.trans ((hb2.alloc hz2 _).drew.mono hz)).size)).size))⟩
                case measure => simp [intOf]; omega
      · have e : k = ls.length := by omega
        subst e
        have hfin := Lib.hid (sumA_yes hl0 hl9 hall.out)
        generalize (sumK (fun i => pF (rw_ ls i) f) ls.length).1 = nn at *
        generalize (sumK (fun i => pF (rw_ ls i) f) ls.length).2 = dd at *
        go_wp2
        go_ret3
        exact spost_of hfin.out hb
  | false =>
    have hl : ¬ (1 ≤ (ls.length : Int) ∧ (ls.length : Int) ≤ 4) := of_decide_eq_false hq
    have hfin := Lib.hid (sumA_len (F := (fun i => pF (rw_ ls i) f)) (n := ls.length) (by omega))
    clear hq hl
    go_enter Try.func17, Try.ntmps17
    go_wp2_with (first
      | (go_at_call 51; refine (HI.out _).mono ?_; rintro e w1x ⟨rfl, hw⟩; replace hw := hw.symm; subst hw)
      | (go_at_call 52; refine (HV.out _).mono ?_; rintro e w1x ⟨rfl, hw⟩; replace hw := hw.symm; subst hw))
    go_ret3
    exact spost_of hfin.out (Below.refl _ _)
theorem spar_no (A : Option Addr) (cap : Nat) (ls : List (List Cp)) (f : Int) (w : World) (hv : vB f = false) :
    Calls Try.prog 17 #[.slice A ls.length cap, .int .i64 f] w (Gives3 0 0 false w) := by
  have HV := Lib.hid (fun w => sval_eq f false hv w)
  obtain ⟨q, hq⟩ : ∃ q, decide (1 ≤ (ls.length : Int) ∧ (ls.length : Int) ≤ 4) = q := ⟨_, rfl⟩
  have HI := Lib.hid (fun w => in_eq (ls.length : Int) 1 4 q hq w)
  clear hq
  go_enter Try.func17, Try.ntmps17
  cases q
  all_goals
    go_wp2_with (first
      | (go_at_call 51; refine (HI.out _).mono ?_; rintro e w1x ⟨rfl, hw⟩; replace hw := hw.symm; subst hw)
      | (go_at_call 52; refine (HV.out _).mono ?_; rintro e w1x ⟨rfl, hw⟩; replace hw := hw.symm; subst hw))
    go_ret3
    exact ⟨rfl, Below.refl _ _⟩
end Go.Proofs.Ytpldbakllegheab.S7
