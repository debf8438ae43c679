/- SplitFlow and SplitEnergy of the model (chapter 10): contracts. Conditions: each theorem's own premises. -/
import Derived.Test.YtgjogjmfpbinfaaSfI
import Derived.Deep.DeepCutAuto
namespace Go.Proofs.Ytgjogjmfpbinfaa.S2
open Go.RowKit P2

theorem scube_any (s q : Int) (hs : 1 ≤ s ∧ s ≤ 9) (hq : 0 ≤ q ∧ q ≤ 61) (w : World) :
    Calls Try.prog 139 #[.int .i64 s, .int .i64 q] w fun e w' => e = .returned (.int .i64 (peI s q)) ∧ Below w.heap.size w w' := by
  obtain ⟨h1, h2, h3⟩ := peI_in hs hq
  have HE := Lib.hid (show peI s q = s * q * q * q from rfl)
  rw [HE.out] at h3
  have w1 : IntKind.i64.wrap (s * q) = s * q := w64 _ (by omega)
  have w2 : IntKind.i64.wrap (s * q * q) = s * q * q := w64 _ (by omega)
  have w3 : IntKind.i64.wrap (s * q * q * q) = s * q * q * q := w64 _ (by omega)
  go_enter Try.func139, Try.ntmps139
  go_wp2
  go_ret
  exact ⟨by rw [HE.out]; rfl, Below.refl _ _⟩
set_option maxHeartbeats 1000000 in
theorem sszs_any (A : Option Addr) (cap : Nat) (ss : List Int) (w : World) (h : IAt w A ss) (hl : ss.length ≤ 1048576) :
    Calls Try.prog 138 #[.slice A ss.length cap] w fun e w' => e = .returned (.bool (szsB ss)) ∧ w' = w := by
  have HA := Lib.hid h
  clear h
  go_enter Try.func138, Try.ntmps138
  go_wp2
  go_loop [3] (fun i => ∃ k : Nat, k ≤ ss.length ∧ i = .int .i64 (k : Int) ∧ Hid (∀ j, j < k → inR 1 9 (ss.getD j 0) = true)) (fun i => ss.length - (intOf i).toNat)
  case atStart => exact ⟨0, Nat.zero_le _, rfl, Lib.hid (fun j hj => absurd hj (by omega))⟩
  case round =>
    obtain ⟨k, hk, rfl, hno⟩ := hrel
    by_cases hlt : k < ss.length
    · obtain ⟨b, off, hA, hbl, h0⟩ := HA.out.at_ hlt
      subst hA
      have hk0 : (0 : Int) ≤ (k : Int) := by omega
      have hkn : (k : Int) < (ss.length : Int) := by omega
      obtain ⟨v, hv⟩ : ∃ v, inR 1 9 (ss.getD k 0) = v := ⟨_, rfl⟩
      have HC := Lib.hid (fun w' => in_eq (ss.getD k 0) 1 9 v hv w')
      cases v with
      | false =>
        have HR := Lib.hid (show szsB ss = false from by rw [szsB, allR_no hlt hv, Bool.and_false])
        clear hv hno
        generalize ss.getD k 0 = y at *
        go_wp2_with (go_at_call 122; refine (HC.out _).mono ?_; rintro e w1 ⟨rfl, hw⟩; replace hw := hw.symm; subst hw)
        go_ret
        exact ⟨by rw [HR.out]; rfl, rfl⟩
      | true =>
        have hno2 := Lib.hid (inR_snoc hno.out hv)
        clear hv hno
        generalize ss.getD k 0 = y at *
        go_wp2_with (go_at_call 122; refine (HC.out _).mono ?_; rintro e w1 ⟨rfl, hw⟩; replace hw := hw.symm; subst hw)
        go_round
        case rel => exact ⟨k + 1, by omega, by go_num, hno2⟩
        case measure => simp [intOf]; omega
    · have HALL := Lib.hid (show allR 1 9 ss = true from allR_mk (fun i hi => hno.out i (by omega)))
      have HR := Lib.hid (show szsB ss = decide ((1 : Int) ≤ (ss.length : Int) ∧ (ss.length : Int) ≤ 5) by
        rw [szsB, HALL.out, Bool.and_true, ← Bool.decide_and]
        exact decide_eq_decide.2 (by omega))
      have HC := Lib.hid (fun w' => in_any (ss.length : Int) 1 5 w')
      generalize decide ((1 : Int) ≤ (ss.length : Int) ∧ (ss.length : Int) ≤ 5) = v at *
      go_wp2_with (go_at_call 122; refine (HC.out _).mono ?_; rintro e w1 ⟨rfl, hw⟩; replace hw := hw.symm; subst hw)
      go_ret
      exact ⟨by rw [HR.out]; rfl, rfl⟩
theorem sszs_v {ss : List Int} {v : Bool} (hv : szsB ss = v) (A : Option Addr) (cap : Nat) (w : World) (h : IAt w A ss) (hl : ss.length ≤ 1048576) :
    Calls Try.prog 138 #[.slice A ss.length cap] w fun e w' => e = .returned (.bool v) ∧ w' = w := by
  rw [← hv]; exact sszs_any A cap ss w h hl

/-! ### SplitEnergy -/
set_option maxHeartbeats 1000000 in
theorem sse_no1 (A : Option Addr) (cap : Nat) (ss : List Int) (AD : Option Addr) (dc : Nat) (qs : List Int) (w : World) (h : IAt w A ss) (hl : ss.length ≤ 1048576) (hv : szsB ss = false ∨ qs.length ≠ ss.length) :
    Calls Try.prog 39 #[.slice A ss.length cap, .slice AD qs.length dc] w fun e w' => e = .returned (.tuple #[.int .i64 0, .bool false]) ∧ Below w.heap.size w w' := by
  obtain ⟨v1, hv1⟩ : ∃ v, szsB ss = v := ⟨_, rfl⟩
  have H := Lib.hid (sszs_v hv1 A cap w h hl)
  cases v1 with
  | false =>
    clear h hv hv1
    go_enter Try.func39, Try.ntmps39
    go_wp2_with (go_at_call 138; refine H.out.mono ?_; rintro e w1 ⟨rfl, hw⟩; subst hw)
    go_ret2
    exact ⟨rfl, Below.refl _ _⟩
  | true =>
    have hv2 : qs.length ≠ ss.length := by
      rcases hv with h | h
      · rw [hv1] at h; cases h
      · exact h
    have g1 : ((qs.length : Int) != (ss.length : Int)) = true := bne_iff_ne.2 (by omega)
    clear h hv hv1 hv2
    go_enter Try.func39, Try.ntmps39
    go_wp2_with (go_at_call 138; refine H.out.mono ?_; rintro e w1 ⟨rfl, hw⟩; subst hw)
    go_ret2
    exact ⟨rfl, Below.refl _ _⟩
theorem se_pre {ss qs : List Int} (h1 : szsB ss = true) {k : Nat} (hk : k ≤ ss.length) (hno : ∀ j, j < k → inR 0 60 (qs.getD j 0) = true) : 0 ≤ sumK (lA (peL ss qs)) k ∧ sumK (lA (peL ss qs)) k ≤ 2042829 * k := by
  induction k with
  | zero => simp [sumK]
  | succ k ih =>
    have h4 := ih (by omega) (fun j hj => hno j (by omega))
    have h5 := peL_at (ss := ss) (qs := qs) (show k < ss.length by omega)
    have h7 : 0 ≤ lA qs k ∧ lA qs k ≤ 60 := by have := hno k (by omega); unfold lA; simpa [inR] using this
    have h6 := (peI_in (szs_at h1 (show k < ss.length by omega)) (q := lA qs k) (by omega)).2.2
    rw [sumK, h5]
    omega
set_option maxHeartbeats 2000000 in
set_option maxRecDepth 100000 in
theorem sse_any (A : Option Addr) (cap : Nat) (ss : List Int) (AD : Option Addr) (dc : Nat) (qs : List Int) (u : Int × Bool) (w : World) (h : IAt w A ss) (hd : IAt w AD qs) (h1 : szsB ss = true) (h2 : qs.length = ss.length) (hu : u = if allR 0 60 qs = true then (sumL (peL ss qs), true) else (0, false)) :
    Calls Try.prog 39 #[.slice A ss.length cap, .slice AD qs.length dc] w fun e w' => e = .returned (.tuple #[.int .i64 u.1, .bool u.2]) ∧ Below w.heap.size w w' := by
  have h4 := szsB_of h1
  have hss5 : ss.length ≤ 5 := h4.2.1
  have H := Lib.hid (sszs_v h1 A cap w h (by omega))
  have HA := Lib.hid (fun w' (hb : Below w.heap.size w w') => h.kept hb (Nat.le_refl _))
  have HI := Lib.hid (fun w' (hb : Below w.heap.size w w') => hd.kept hb (Nat.le_refl _))
  have HZ := Lib.hid (fun i (hi : i < ss.length) => szs_at h1 hi)
  have HP := Lib.hid (fun (k : Nat) (hk : k ≤ ss.length) hno => se_pre (qs := qs) h1 (k := k) hk hno)
  have HPA := Lib.hid (fun (k : Nat) (hk : k < ss.length) => peL_at (ss := ss) (qs := qs) hk)
  have HPL := Lib.hid (peL_len ss qs)
  have HU := Lib.hid hu
  have HQ := Lib.hid h2
  have g1 : ((qs.length : Int) != (ss.length : Int)) = false := by rw [h2]; simp
  clear h hd h1 h2 h4 hu
  go_enter Try.func39, Try.ntmps39
  go_wp2_with (go_at_call 138; refine H.out.mono ?_; rintro e w1 ⟨rfl, hw⟩; subst hw)
  go_loopw [6, 7] (fun s i wr => ∃ k : Nat, k ≤ ss.length ∧ i = .int .i64 (k : Int) ∧ s = .int .i64 (sumK (lA (peL ss qs)) k) ∧ Hid (∀ j, j < k → inR 0 60 (qs.getD j 0) = true) ∧ Hid (Below w1.heap.size w1 wr)) (fun _ i _ => ss.length - (intOf i).toNat)
  case atStart => exact ⟨0, Nat.zero_le _, rfl, rfl, Lib.hid (fun j hj => absurd hj (by omega)), Lib.hid (Below.refl _ _)⟩
  case round =>
    obtain ⟨k, hk, rfl, rfl, hno, hB⟩ := hrel
    by_cases hlt : k < ss.length
    · obtain ⟨b, off, hA, hbl, p0⟩ := (HA.out _ hB.out).at_ (i := k) hlt
      subst hA
      have hkq : k < qs.length := by rw [HQ.out]; exact hlt
      obtain ⟨bb, of2, hA2, hbl2, q0⟩ := (HI.out _ hB.out).at_ (i := k) hkq
      subst hA2
      have hk0 : (0 : Int) ≤ (k : Int) := by omega
      have hkn : (k : Int) < (ss.length : Int) := by omega
      have hknq : (k : Int) < (qs.length : Int) := by omega
      obtain ⟨v, hv⟩ : ∃ v, inR 0 60 (qs.getD k 0) = v := ⟨_, rfl⟩
      have HC := Lib.hid (fun w' => in_eq (qs.getD k 0) 0 60 v hv w')
      cases v with
      | false =>
        have HR := Lib.hid (show u = (0, false) by rw [HU.out, if_neg]; rw [allR_no hkq hv]; simp)
        clear hv hno
        generalize qs.getD k 0 = y at *
        go_wp2_with (go_at_call 122; refine (HC.out _).mono ?_; rintro e w2 ⟨rfl, hw⟩; replace hw := hw.symm; subst hw)
        go_ret2
        exact ⟨by rw [HR.out]; rfl, hB.out⟩
      | true =>
        have hno2 := Lib.hid (inR_snoc hno.out hv)
        have hy : 0 ≤ qs.getD k 0 ∧ qs.getD k 0 ≤ 60 := by simpa [inR] using hv
        have hs := HP.out k hk hno.out
        have hsn := HP.out (k + 1) (by omega) hno2.out
        have hz := HZ.out k hlt
        have hpa := HPA.out k hlt
        have hsk : sumK (lA (peL ss qs)) (k + 1) = sumK (lA (peL ss qs)) k + lA (peL ss qs) k := rfl
        rw [hpa] at hsk
        unfold lA at hz
        have hlq : lA qs k = qs.getD k 0 := rfl
        have hls : lA ss k = ss.getD k 0 := rfl
        rw [hlq, hls] at hsk
        rw [hsk] at hsn
        have HSK := Lib.hid hsk
        have HCU := Lib.hid (fun w' => scube_any (ss.getD k 0) (qs.getD k 0) hz ⟨hy.1, by omega⟩ w')
        clear hv hno hpa hsk hlq hls hz hy
        generalize peI (ss.getD k 0) (qs.getD k 0) = pe at *
        generalize sumK (lA (peL ss qs)) k = sm at *
        generalize qs.getD k 0 = y at *
        generalize ss.getD k 0 = x at *
        have wS : IntKind.i64.wrap (sm + pe) = sm + pe := w64 _ (by omega)
        have hG := @cell_g
        go_wp2_with (go_at_call 122; refine (HC.out _).mono ?_; rintro e w2 ⟨rfl, hw⟩; replace hw := hw.symm; subst hw)
        refine region_below (by kernel_rfl) (by kernel_rfl) ?_
        repeat (first | go_big_quiet_step ((go_at_call 139; exact met HCU.out)))
        refine wpQuiet_nil ?_
        intro w3 hb3
        go_wp2
        go_roundw
        case rel => exact ⟨k + 1, by omega, by go_num, by rw [HSK.out], hno2, Lib.hid (hB.out.trans (hb3.mono hB.out.size))⟩
        case measure => simp [intOf]; omega
    · have HALL : allR 0 60 qs = true := allR_mk (fun i hi => hno.out i (by have := HQ.out; omega))
      have hkk : k = ss.length := by omega
      have HR := Lib.hid (show u = (sumK (lA (peL ss qs)) k, true) by rw [HU.out, if_pos HALL, sumL, HPL.out, hkk])
      have hlq : ¬ (k : Int) < (qs.length : Int) := by have := HQ.out; omega
      clear HALL hkk
      generalize sumK (lA (peL ss qs)) k = sm at *
      go_wp2
      go_ret2
      exact ⟨by rw [HR.out]; rfl, hB.out⟩
end Go.Proofs.Ytgjogjmfpbinfaa.S2
