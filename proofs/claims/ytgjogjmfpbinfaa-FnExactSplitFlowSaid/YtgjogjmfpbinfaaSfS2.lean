/- SplitFlow of the model (chapter 10): contracts. Conditions: each theorem's own premises. -/
import Derived.Test.YtgjogjmfpbinfaaSfS
namespace Go.Proofs.Ytgjogjmfpbinfaa.S2
open Go.RowKit P2

set_option maxHeartbeats 1000000 in
theorem ssf_no (A : Option Addr) (cap : Nat) (ss : List Int) (t : Int) (w : World) (h : IAt w A ss) (hl : ss.length ≤ 1048576) (hv : szsB ss = false ∨ t < 0 ∨ 60 < t) :
    Calls Try.prog 37 #[.slice A ss.length cap, .int .i64 t] w (GivesI w [] false) := by
  obtain ⟨v1, hv1⟩ : ∃ v, szsB ss = v := ⟨_, rfl⟩
  have H := Lib.hid (sszs_v hv1 A cap w h hl)
  cases v1 with
  | false =>
    clear h hv hv1
    go_enter Try.func37, Try.ntmps37
    go_wp2_with (go_at_call 138; refine H.out.mono ?_; rintro e w1 ⟨rfl, hw⟩; subst hw)
    go_ret2
    exact gives_none (Below.refl _ _)
  | true =>
    have hv2 : decide ((0 : Int) ≤ t ∧ t ≤ 60) = false := by
      rcases hv with h | h
      · rw [hv1] at h; cases h
      · exact decide_eq_false (by omega)
    have HC := Lib.hid (fun w' => in_any t 0 60 w')
    rw [hv2] at HC
    clear h hv hv1 hv2
    go_enter Try.func37, Try.ntmps37
    go_wp2_with (first
      | (go_at_call 138; refine H.out.mono ?_; rintro e w1 ⟨rfl, hw⟩; subst hw)
      | (go_at_call 122; refine (HC.out _).mono ?_; rintro e w2 ⟨rfl, hw⟩; subst hw))
    go_ret2
    exact gives_none (Below.refl _ _)
set_option maxHeartbeats 4000000 in
set_option maxRecDepth 100000 in
theorem ssf_yes (A : Option Addr) (cap : Nat) (ss : List Int) (T : Nat) (w : World) (h : IAt w A ss) (hv : szsB ss = true) (hT : T ≤ 60) :
    Calls Try.prog 37 #[.slice A ss.length cap, .int .i64 (T : Int)] w (GivesI w (spK ss T) true) := by
  have h4 := szsB_of hv
  have hss5 : ss.length ≤ 5 := h4.2.1
  have hss1 : 1 ≤ ss.length := h4.1
  have H := Lib.hid (sszs_v hv A cap w h (by omega))
  have HT := Lib.hid (fun w' => in_any (T : Int) 0 60 w')
  have hdT : decide ((0 : Int) ≤ (T : Int) ∧ (T : Int) ≤ 60) = true := decide_eq_true (by omega)
  rw [hdT] at HT
  have HA := Lib.hid (fun w' (hb : Below w.heap.size w w') => h.kept hb (Nat.le_refl _))
  have HZ := Lib.hid (fun i (hi : i < ss.length) => szs_at hv hi)
  have HLN := Lib.hid (fun k => spK_len ss k)
  have HIN := Lib.hid (fun k i => spK_in ss k i)
  have hmk := run_make_row' (P := Try.prog) 34 3 (.int .i64 0) 8 Try.underlying34 infoI rfl .i64 .i64 ss.length (by omega) (by omega)
  have HMO := Lib.hid (fun w' => made_row (spK ss 0) w' (by rw [spK_len]; omega))
  have HM0 := Lib.hid (show fiI (spK ss 0) 0 = (spK ss 0).map iv by simp [fiI, spK])
  clear h hv h4 hdT
  go_enter Try.func37, Try.ntmps37
  go_wp2_with (first
    | (go_at_call 138; refine H.out.mono ?_; rintro e w1 ⟨rfl, hw⟩; replace hw := hw.symm; subst hw)
    | (go_at_call 122; refine (HT.out _).mono ?_; rintro e w2 ⟨rfl, hw⟩; replace hw := hw.symm; subst hw))
  have HO := HMO.out w
  rw [HLN.out 0, HM0.out] at HO
  have HBm := Lib.hid ((Below.refl w.heap.size w).alloc (Nat.le_refl _) (.cells (madeCells #[.int .i64 0] ss.length) 3))
  clear hmk HM0 HMO H HT
  go_loopw [7] (fun i wr => ∃ k : Nat, k ≤ T ∧ i = .int .i64 (k : Int) ∧ Hid (wr.ownsRow w.heap.size 3 1 (.slice (some ⟨w.heap.size, 0, none⟩) ss.length ss.length) ss.length ((spK ss k).map iv)) ∧ Hid (Below w.heap.size w wr)) (fun i _ => T - (intOf i).toNat)
  case atStart => exact ⟨0, Nat.zero_le _, rfl, HO, HBm⟩
  case round =>
    clear HO HBm
    obtain ⟨k, hk, rfl, hown, hB⟩ := hrel
    by_cases hlt : k < T
    · have hgx := (hown.out.lt w.heap.size rfl).2
      go_wp2
      have HO1 := Lib.hid (nxT_one ss (spK ss k))
      have HNS := Lib.hid (fun j => nxT_step ss (spK ss k) j)
      have HNL := Lib.hid (fun j (hj : 0 < j) => nxT_lt ss (spK ss k) hj)
      go_loopw [8, 9] (fun b i w2 => ∃ j : Nat, 1 ≤ j ∧ j ≤ ss.length ∧ i = .int .i64 (j : Int) ∧ b = .int .i64 ((nxT ss (spK ss k) j : Nat) : Int) ∧ Hid (Below wr.heap.size wr w2)) (fun _ i _ => ss.length - (intOf i).toNat)
      case atStart => exact ⟨1, Nat.le_refl _, hss1, rfl, by rw [HO1.out]; rfl, Lib.hid (Below.refl _ _)⟩
      case round =>
        rename_i w2
        obtain ⟨j, hj1, hj, rfl, rfl, hB2⟩ := hrel
        have HO2 := Lib.hid (own_on hown.out hB2.out)
        have hnl := HNL.out j (by omega)
        have hns := HNS.out j
        have HFI := Lib.hid (show j = ss.length → spK ss (k + 1) = (spK ss k).set (nxT ss (spK ss k) j) (lA (spK ss k) (nxT ss (spK ss k) j) + 1) from fun e => by rw [e]; rfl)
        generalize nxT ss (spK ss k) j = i at *
        by_cases hlt2 : j < ss.length
        · have hBw := hB.out.trans (hB2.out.mono hB.out.size)
          obtain ⟨b, off, hA, hbl, p0⟩ := (HA.out _ hBw).at_ (i := j) hlt2
          obtain ⟨b2, off2, hA2, hbl2, q0⟩ := (HA.out _ hBw).at_ (i := i) (by omega)
          subst hA
          injection hA2 with hA2
          injection hA2 with hA3 hA4
          subst hA3
          subst hA4
          have hk0 : (0 : Int) ≤ (j : Int) := by omega
          have hkn : (j : Int) < (ss.length : Int) := by omega
          have hi0 : (0 : Int) ≤ (i : Int) := by omega
          have hin : (i : Int) < (ss.length : Int) := by omega
          have hzj := HZ.out j hlt2
          have hzi := HZ.out i (by omega)
          have hqj := HIN.out k j
          have hqi := HIN.out k i
          have hgj : ((spK ss k).map iv)[j]? = some (iv (lA (spK ss k) j)) := by
            have : j < (spK ss k).length := by rw [HLN.out k]; exact hlt2
            simp [lA, List.getD, this]
          have hgi : ((spK ss k).map iv)[i]? = some (iv (lA (spK ss k) i)) := by
            have : i < (spK ss k).length := by rw [HLN.out k]; omega
            simp [lA, List.getD, this]
          have c0 := (HO2.out.cellAt j (by omega)).trans hgj
          have c1 := (HO2.out.cellAt i (by omega)).trans hgi
          have hgz := (HO2.out.lt w.heap.size rfl).2
          have e1 : ss.getD j 0 = lA ss j := rfl
          have e2 : ss.getD i 0 = lA ss i := rfl
          rw [e1] at p0
          rw [e2] at q0
          obtain ⟨qj1, hqj1⟩ : ∃ x, lA (spK ss k) j + 1 = x := ⟨_, rfl⟩
          obtain ⟨qi1, hqi1⟩ : ∃ x, lA (spK ss k) i + 1 = x := ⟨_, rfl⟩
          have wj : IntKind.i64.wrap (lA (spK ss k) j + 1) = qj1 := by rw [← hqj1]; exact w64 _ (by omega)
          have wi : IntKind.i64.wrap (lA (spK ss k) i + 1) = qi1 := by rw [← hqi1]; exact w64 _ (by omega)
          have HC1 := Lib.hid (fun w' => scube_any (lA ss j) qj1 hzj (by omega) w')
          have HC2 := Lib.hid (fun w' => scube_any (lA ss j) (lA (spK ss k) j) hzj (by omega) w')
          have HC3 := Lib.hid (fun w' => scube_any (lA ss i) qi1 hzi (by omega) w')
          have HC4 := Lib.hid (fun w' => scube_any (lA ss i) (lA (spK ss k) i) hzi (by omega) w')
          have b1 := (peI_in hzj (q := qj1) (by omega)).2.2
          have b2' := (peI_in hzj (q := lA (spK ss k) j) (by omega)).2.2
          have b3 := (peI_in hzi (q := qi1) (by omega)).2.2
          have b4 := (peI_in hzi (q := lA (spK ss k) i) (by omega)).2.2
          have hpj : pcI (lA ss j) (lA (spK ss k) j) = peI (lA ss j) qj1 - peI (lA ss j) (lA (spK ss k) j) := by rw [← hqj1]; rfl
          have hpi : pcI (lA ss i) (lA (spK ss k) i) = peI (lA ss i) qi1 - peI (lA ss i) (lA (spK ss k) i) := by rw [← hqi1]; rfl
          rw [hpj, hpi] at hns
          clear hgj hgi hqj hqi hzj hzi e1 e2 hqj1 hqi1 hpj hpi hBw
          generalize peI (lA ss j) qj1 = x1 at *
          generalize peI (lA ss j) (lA (spK ss k) j) = x2 at *
          generalize peI (lA ss i) qi1 = x3 at *
          generalize peI (lA ss i) (lA (spK ss k) i) = x4 at *
          generalize lA (spK ss k) j = qj at *
          generalize lA (spK ss k) i = qi at *
          generalize lA ss j = sj at *
          generalize lA ss i = si at *
          have v1 : IntKind.i64.wrap (x1 - x2) = x1 - x2 := w64 _ (by omega)
          have v2 : IntKind.i64.wrap (x3 - x4) = x3 - x4 := w64 _ (by omega)
          have HNS2 := Lib.hid hns
          clear hns
          have hG := @cell_g
          by_cases hc : x1 - x2 < x3 - x4
          · have HNX := Lib.hid (show nxT ss (spK ss k) (j + 1) = j by rw [HNS2.out, if_pos hc])
            have hd : decide (x1 - x2 < x3 - x4) = true := decide_eq_true hc
            clear hc HNS2
            go_wp2
            refine region_below (by kernel_rfl) (by kernel_rfl) ?_
            repeat (first | go_big_quiet_step ((first
              | (go_at_call_of 139 (Value.int IntKind.i64 qj1); exact met HC1.out)
              | (go_at_call_of 139 (iv qj); exact met HC2.out)
              | (go_at_call_of 139 (Value.int IntKind.i64 qi1); exact met HC3.out)
              | (go_at_call_of 139 (iv qi); exact met HC4.out))))
            refine wpQuiet_nil ?_
            intro w3 hb3
            go_wp2
            go_roundw
            case rel => exact ⟨j + 1, by omega, by omega, by go_num, by rw [HNX.out], Lib.hid (hB2.out.trans (hb3.mono hB2.out.size))⟩
            case measure => simp [intOf]; omega
          · have HNX := Lib.hid (show nxT ss (spK ss k) (j + 1) = i by rw [HNS2.out, if_neg hc])
            have hd : decide (x1 - x2 < x3 - x4) = false := decide_eq_false hc
            clear hc HNS2
            go_wp2
            refine region_below (by kernel_rfl) (by kernel_rfl) ?_
            repeat (first | go_big_quiet_step ((first
              | (go_at_call_of 139 (Value.int IntKind.i64 qj1); exact met HC1.out)
              | (go_at_call_of 139 (iv qj); exact met HC2.out)
              | (go_at_call_of 139 (Value.int IntKind.i64 qi1); exact met HC3.out)
              | (go_at_call_of 139 (iv qi); exact met HC4.out))))
            refine wpQuiet_nil ?_
            intro w3 hb3
            go_wp2
            go_roundw
            case rel => exact ⟨j + 1, by omega, by omega, by go_num, by rw [HNX.out], Lib.hid (hB2.out.trans (hb3.mono hB2.out.size))⟩
            case measure => simp [intOf]; omega
        · have hjj : j = ss.length := by omega
          have HNX := Lib.hid (HFI.out hjj)
          have hqi := HIN.out k i
          have hgi : ((spK ss k).map iv)[i]? = some (iv (lA (spK ss k) i)) := by
            have : i < (spK ss k).length := by rw [HLN.out k]; omega
            simp [lA, List.getD, this]
          have c1 := (HO2.out.cellAt i (by omega)).trans hgi
          have hfz := HO2.out.frozenAt i
          have hgz := (HO2.out.lt w.heap.size rfl).2
          have hi0 : (0 : Int) ≤ (i : Int) := by omega
          have hin : (i : Int) < (ss.length : Int) := by omega
          have hst := HO2.out.stored i (iv (lA (spK ss k) i + 1))
          rw [← List.map_set, ← HNX.out] at hst
          have wi : IntKind.i64.wrap (lA (spK ss k) i + 1) = lA (spK ss k) i + 1 := w64 _ (by omega)
          generalize lA (spK ss k) i = q at *
          have HRL := Lib.hid hst.1
          have HBn := Lib.hid ((hB.out.trans (hB2.out.mono hB.out.size)).setCell (p := ⟨w.heap.size, i, none⟩) (Nat.le_refl _) (iv (q + 1)))
          clear hst hgi HFI HNX hjj hown hgx HNS HNL HO1 hns
          go_wp2
          go_roundw
          case rel => exact ⟨k + 1, by omega, by go_num, HRL, HBn⟩
          case measure => simp [intOf]; omega
    · have hkk : k = T := by omega
      have HO := Lib.hid (own_lower (B' := w.heap.size) (show IOwn wr w.heap.size (.slice (some ⟨w.heap.size, 0, none⟩) ss.length ss.length) (spK ss k) by unfold IOwn; rw [HLN.out k]; exact hown.out))
      subst hkk
      go_wp2
      go_ret2
      refine ⟨w.heap.size, ss.length, by rw [HLN.out k]; rfl, Nat.le_refl _, by rw [HLN.out k]; exact HO.out, hB.out⟩
end Go.Proofs.Ytgjogjmfpbinfaa.S2
