/- SplitFlow and SplitEnergy of the program (chapter 10): contracts. Conditions: each theorem's own premises. -/
import Derived.Test.YtgjogjmfpbinfaaSfP
import Derived.Test.YtgjogjmfpbinfaaRgKit
import Derived.Test.YtgjogjmfpbinfaaEnI
namespace Go.Proofs.Ytgjogjmfpbinfaa.S2
open Go.RowKit P2

/-- The energy of a part. -/
theorem pe_any (s q : Int) (hs : 1 ≤ s ∧ s ≤ 9) (hq : 0 ≤ q ∧ q ≤ 61) (w : World) :
    Calls Try.prog 143 #[.int .i64 s, .int .i64 q] w fun e w' => e = .returned (.int .i64 (peI s q)) ∧ Below w.heap.size w w' := by
  obtain ⟨h1, h2, h3⟩ := peI_in hs hq
  have HE := Lib.hid (show peI s q = s * q * q * q from rfl)
  rw [HE.out] at h3
  have w1 : IntKind.i64.wrap (s * q) = s * q := w64 _ (by omega)
  have w2 : IntKind.i64.wrap (s * q * q) = s * q * q := w64 _ (by omega)
  have w3 : IntKind.i64.wrap (s * q * q * q) = s * q * q * q := w64 _ (by omega)
  go_enter Try.func143, Try.ntmps143
  go_wp2
  go_ret
  exact ⟨by rw [HE.out]; rfl, Below.refl _ _⟩
theorem pcc_any (s q : Int) (hs : 1 ≤ s ∧ s ≤ 9) (hq : 0 ≤ q ∧ q ≤ 60) (w : World) :
    Calls Try.prog 142 #[.int .i64 s, .int .i64 q] w fun e w' => e = .returned (.int .i64 (pcI s q)) ∧ Below w.heap.size w w' := by
  have H1 := Lib.hid (fun w' => pe_any s (q + 1) hs (by omega) w')
  have H2 := Lib.hid (fun w' => pe_any s q hs (by omega) w')
  have a1 := (peI_in hs (q := q + 1) (by omega)).2.2
  have a2 := (peI_in hs (q := q) (by omega)).2.2
  have HE := Lib.hid (show pcI s q = peI s (q + 1) - peI s q from rfl)
  obtain ⟨q1, hq1⟩ : ∃ q1, q + 1 = q1 := ⟨_, rfl⟩
  have wq : IntKind.i64.wrap (q + 1) = q1 := by rw [hq1]; exact w64 _ (by omega)
  rw [hq1] at H1 a1 HE
  have w3 : IntKind.i64.wrap (peI s q1 - peI s q) = peI s q1 - peI s q := w64 _ (by omega)
  clear hq1 hq
  generalize peI s q1 = u at *
  generalize peI s q = v at *
  go_enter Try.func142, Try.ntmps142
  go_wp2_with (first
    | (go_at_call_of 143 (Value.int IntKind.i64 q1); refine (H1.out _).mono ?_; rintro e w1 ⟨rfl, hb1⟩; have HB1 := Lib.hid hb1; clear hb1)
    | (go_at_call_of 143 (Value.int IntKind.i64 q); refine (H2.out _).mono ?_; rintro e w2 ⟨rfl, hb2⟩))
  go_ret
  exact ⟨by rw [HE.out]; rfl, HB1.out.trans (hb2.mono HB1.out.size)⟩

set_option maxHeartbeats 2000000 in
set_option maxRecDepth 100000 in
theorem pwe_any (A : Option Addr) (cap : Nat) (L : List Int) (AH : Option Addr) (ch : Nat) (H : List Int) (w : World) (hL : IAt w A L) (hH : IAt w AH H) (hlen : H.length = L.length) (hl8 : L.length ≤ 1000) (hs : ∀ i, i < L.length → 1 ≤ lA L i ∧ lA L i ≤ 9) (hq : ∀ i, i < L.length → 0 ≤ lA H i ∧ lA H i ≤ 60) :
    Calls Try.prog 141 #[.slice A L.length cap, .slice AH H.length ch, .func (.func 143) #[] #[]] w fun e w' => (∃ g, e = .returned (.slice (some ⟨g, 0, none⟩) L.length L.length) ∧ w.heap.size ≤ g ∧ IOwn w' w.heap.size (.slice (some ⟨g, 0, none⟩) L.length L.length) (peL L H)) ∧ Below w.heap.size w w' := by
  have HA := Lib.hid (fun w' (hb : Below w.heap.size w w') => hL.kept hb (Nat.le_refl _))
  have HI := Lib.hid (fun w' (hb : Below w.heap.size w w') => hH.kept hb (Nat.le_refl _))
  have HC := Lib.hid (fun k (hk : k < L.length) w' (hb : Below w.heap.size w w') => pe_any (lA L k) (lA H k) (hs k hk) ⟨(hq k hk).1, by have := (hq k hk).2; omega⟩ w')
  have HL := Lib.hid hlen
  have HSL := Lib.hid (show (peL L H).length = L.length from peL_len L H)
  have HSA := Lib.hid (fun k (hk : k < L.length) => peL_at (qs := H) hk)
  have hmk := run_make_row' (P := Try.prog) 34 3 (.int .i64 0) 8 Try.underlying34 infoI rfl .i64 .i64 L.length (by omega) (by omega)
  have HO := made_row (peL L H) w (by rw [HSL.out]; omega)
  have HF := Lib.hid (fiI_full (peL L H))
  rw [HSL.out] at HO HF
  clear hL hH hlen hs hq
  go_enter Try.func141, Try.ntmps141
  go_wp2
  clear hmk
  go_loopw [15] (fun i wr => ∃ k : Nat, k ≤ L.length ∧ i = .int .i64 k ∧ Hid (wr.ownsRow w.heap.size 3 1 (.slice (some ⟨w.heap.size, 0, none⟩) L.length L.length) L.length (fiI (peL L H) k)) ∧ Hid (Below w.heap.size w wr)) (fun i _ => L.length - (intOf i).toNat)
  case atStart => exact ⟨0, Nat.zero_le _, rfl, HO, Lib.hid ((Below.refl _ _).alloc (Nat.le_refl _) _)⟩
  case round =>
    obtain ⟨k, hk, rfl, hown, hB⟩ := hrel
    clear HO
    by_cases hlt : k < L.length
    · obtain ⟨b, off, hA, hbl, p0⟩ := (HA.out _ hB.out).at_ hlt
      subst hA
      have hkf : k < H.length := by rw [HL.out]; exact hlt
      obtain ⟨bb, of2, hA2, hbl2, q0⟩ := (HI.out _ hB.out).at_ hkf
      subst hA2
      have hk0 : (0 : Int) ≤ (k : Int) := by omega
      have hkn : (k : Int) < (L.length : Int) := by omega
      have hknf : (k : Int) < (H.length : Int) := by omega
      have HLO := Lib.hid (HC.out k hlt)
      have hgx := (hown.out.lt w.heap.size rfl).2
      have hfs := fiI_set (peL L H) k (by rw [HSL.out]; exact hlt)
      have hat := HSA.out k hlt
      obtain ⟨uo, huo⟩ := fiI_has (peL L H) k (by rw [HSL.out]; exact hlt)
      have HUO := Lib.hid huo
      unfold lA at hat HLO
      rw [hat] at hfs
      have HST := Lib.hid hfs
      clear hfs hat huo
      generalize L.getD k 0 = x at *
      generalize H.getD k 0 = y at *
      have hO2 := hown
      go_wp2_with (go_at_call 143; refine (HLO.out _ hB.out).mono ?_; rintro e wq ⟨rfl, hbq⟩; refine Hid.out ?_)
      have hO3 := own_on hO2.out hbq
      have hcell := (hO3.cellAt k (by omega)).trans HUO.out
      have hfz := hO3.frozenAt k
      have hgq := (hO3.lt w.heap.size rfl).2
      have HB3 := Lib.hid (hB.out.trans (hbq.mono hB.out.size))
      have hst := hO3.stored k (iv (peI x y))
      rw [HST.out] at hst
      have HRL := Lib.hid hst.1
      clear hO3 hbq hst
      refine Lib.hid ?_
      go_wp2
      go_roundw
      case rel => exact ⟨k + 1, by omega, by go_num, HRL, Lib.hid (HB3.out.setCell (p := ⟨w.heap.size, k, none⟩) (Nat.le_refl _) _)⟩
      case measure => simp [intOf]; omega
    · have e : k = L.length := by omega
      subst e
      have hown2 := hown.out
      rw [HF.out] at hown2
      have H2 := Lib.hid hown2
      clear hown hown2
      go_wp2
      go_ret
      exact ⟨⟨_, rfl, Nat.le_refl _, by have := H2.out; unfold IOwn; rw [HSL.out]; exact this⟩, hB.out⟩

set_option maxHeartbeats 2000000 in
set_option maxRecDepth 100000 in
theorem pwc_any (A : Option Addr) (cap : Nat) (L : List Int) (AH : Option Addr) (ch : Nat) (H : List Int) (w : World) (hL : IAt w A L) (hH : IAt w AH H) (hlen : H.length = L.length) (hl8 : L.length ≤ 1000) (hs : ∀ i, i < L.length → 1 ≤ lA L i ∧ lA L i ≤ 9) (hq : ∀ i, i < L.length → 0 ≤ lA H i ∧ lA H i ≤ 60) :
    Calls Try.prog 141 #[.slice A L.length cap, .slice AH H.length ch, .func (.func 142) #[] #[]] w fun e w' => (∃ g, e = .returned (.slice (some ⟨g, 0, none⟩) L.length L.length) ∧ w.heap.size ≤ g ∧ IOwn w' w.heap.size (.slice (some ⟨g, 0, none⟩) L.length L.length) (pcL L H)) ∧ Below w.heap.size w w' := by
  have HA := Lib.hid (fun w' (hb : Below w.heap.size w w') => hL.kept hb (Nat.le_refl _))
  have HI := Lib.hid (fun w' (hb : Below w.heap.size w w') => hH.kept hb (Nat.le_refl _))
  have HC := Lib.hid (fun k (hk : k < L.length) w' (hb : Below w.heap.size w w') => pcc_any (lA L k) (lA H k) (hs k hk) (hq k hk) w')
  have HL := Lib.hid hlen
  have HSL := Lib.hid (show (pcL L H).length = L.length from pcL_len L H)
  have HSA := Lib.hid (fun k (hk : k < L.length) => pcL_at (qs := H) hk)
  have hmk := run_make_row' (P := Try.prog) 34 3 (.int .i64 0) 8 Try.underlying34 infoI rfl .i64 .i64 L.length (by omega) (by omega)
  have HO := made_row (pcL L H) w (by rw [HSL.out]; omega)
  have HF := Lib.hid (fiI_full (pcL L H))
  rw [HSL.out] at HO HF
  clear hL hH hlen hs hq
  go_enter Try.func141, Try.ntmps141
  go_wp2
  clear hmk
  go_loopw [15] (fun i wr => ∃ k : Nat, k ≤ L.length ∧ i = .int .i64 k ∧ Hid (wr.ownsRow w.heap.size 3 1 (.slice (some ⟨w.heap.size, 0, none⟩) L.length L.length) L.length (fiI (pcL L H) k)) ∧ Hid (Below w.heap.size w wr)) (fun i _ => L.length - (intOf i).toNat)
  case atStart => exact ⟨0, Nat.zero_le _, rfl, HO, Lib.hid ((Below.refl _ _).alloc (Nat.le_refl _) _)⟩
  case round =>
    obtain ⟨k, hk, rfl, hown, hB⟩ := hrel
    clear HO
    by_cases hlt : k < L.length
    · obtain ⟨b, off, hA, hbl, p0⟩ := (HA.out _ hB.out).at_ hlt
      subst hA
      have hkf : k < H.length := by rw [HL.out]; exact hlt
      obtain ⟨bb, of2, hA2, hbl2, q0⟩ := (HI.out _ hB.out).at_ hkf
      subst hA2
      have hk0 : (0 : Int) ≤ (k : Int) := by omega
      have hkn : (k : Int) < (L.length : Int) := by omega
      have hknf : (k : Int) < (H.length : Int) := by omega
      have HLO := Lib.hid (HC.out k hlt)
      have hgx := (hown.out.lt w.heap.size rfl).2
      have hfs := fiI_set (pcL L H) k (by rw [HSL.out]; exact hlt)
      have hat := HSA.out k hlt
      obtain ⟨uo, huo⟩ := fiI_has (pcL L H) k (by rw [HSL.out]; exact hlt)
      have HUO := Lib.hid huo
      unfold lA at hat HLO
      rw [hat] at hfs
      have HST := Lib.hid hfs
      clear hfs hat huo
      generalize L.getD k 0 = x at *
      generalize H.getD k 0 = y at *
      have hO2 := hown
      go_wp2_with (go_at_call 142; refine (HLO.out _ hB.out).mono ?_; rintro e wq ⟨rfl, hbq⟩; refine Hid.out ?_)
      have hO3 := own_on hO2.out hbq
      have hcell := (hO3.cellAt k (by omega)).trans HUO.out
      have hfz := hO3.frozenAt k
      have hgq := (hO3.lt w.heap.size rfl).2
      have HB3 := Lib.hid (hB.out.trans (hbq.mono hB.out.size))
      have hst := hO3.stored k (iv (pcI x y))
      rw [HST.out] at hst
      have HRL := Lib.hid hst.1
      clear hO3 hbq hst
      refine Lib.hid ?_
      go_wp2
      go_roundw
      case rel => exact ⟨k + 1, by omega, by go_num, HRL, Lib.hid (HB3.out.setCell (p := ⟨w.heap.size, k, none⟩) (Nat.le_refl _) _)⟩
      case measure => simp [intOf]; omega
    · have e : k = L.length := by omega
      subst e
      have hown2 := hown.out
      rw [HF.out] at hown2
      have H2 := Lib.hid hown2
      clear hown hown2
      go_wp2
      go_ret
      exact ⟨⟨_, rfl, Nat.le_refl _, by have := H2.out; unfold IOwn; rw [HSL.out]; exact this⟩, hB.out⟩

theorem szs_any (A : Option Addr) (cap : Nat) (ss : List Int) (w : World) (h : IAt w A ss) (hl : ss.length ≤ 1048576) :
    Calls Try.prog 140 #[.slice A ss.length cap] w fun e w' => e = .returned (.bool (szsB ss)) ∧ Below w.heap.size w w' := by
  have H := Lib.hid (fun w' (hb : Below w.heap.size w w') => am_any A cap ss (ss.length : Int) 1 9 w' (h.kept hb (Nat.le_refl _)) hl)
  have HS := Lib.hid (show szsB ss = (decide (1 ≤ ss.length) && decide (ss.length ≤ 5) && allR 1 9 ss) from rfl)
  have HM := Lib.hid (amt_self (l := ss) (a := 1) (b := 9))
  clear h
  by_cases h1 : 1 ≤ ss.length
  · have d1 : decide ((1 : Int) ≤ (ss.length : Int)) = true := decide_eq_true (by omega)
    by_cases h5 : ss.length ≤ 5
    · have d5 : decide ((ss.length : Int) ≤ 5) = true := decide_eq_true (by omega)
      have HR := Lib.hid (show szsB ss = amtB ss (ss.length : Int) 1 9 by rw [HS.out, HM.out]; simp [h1, h5])
      rw [HR.out]
      clear h1 h5
      go_enter Try.func140, Try.ntmps140
      go_wp2_with (go_at_call 145; refine (H.out _ (Below.refl _ _)).mono ?_; rintro e w1 ⟨rfl, hb1⟩)
      go_ret
      exact ⟨by simp, hb1⟩
    · have d5 : decide ((ss.length : Int) ≤ 5) = false := decide_eq_false (by omega)
      have HR := Lib.hid (show szsB ss = false by rw [HS.out]; simp [h5])
      rw [HR.out]
      clear h1 h5
      go_enter Try.func140, Try.ntmps140
      go_wp2
      go_ret
      exact ⟨rfl, Below.refl _ _⟩
  · have d1 : decide ((1 : Int) ≤ (ss.length : Int)) = false := decide_eq_false (by omega)
    have HR := Lib.hid (show szsB ss = false by rw [HS.out]; simp [h1])
    rw [HR.out]
    clear h1
    go_enter Try.func140, Try.ntmps140
    go_wp2
    go_ret
    exact ⟨rfl, Below.refl _ _⟩
theorem szs_v {ss : List Int} {v : Bool} (hv : szsB ss = v) (A : Option Addr) (cap : Nat) (w : World) (h : IAt w A ss) (hl : ss.length ≤ 1048576) :
    Calls Try.prog 140 #[.slice A ss.length cap] w fun e w' => e = .returned (.bool v) ∧ Below w.heap.size w w' := by
  rw [← hv]; exact szs_any A cap ss w h hl

/-! ### SplitEnergy -/
/-- As many parts as sizes, all from 0 to 60. -/
def prtB (ss qs : List Int) : Bool := szsB ss && amtB qs (ss.length : Int) 0 60
theorem prtB_of {ss qs : List Int} (h : prtB ss qs = true) : szsB ss = true ∧ qs.length = ss.length ∧ allR 0 60 qs = true := by
  unfold prtB at h
  rw [Bool.and_eq_true] at h
  obtain ⟨h1, h2⟩ := h
  have := amt_len h2
  exact ⟨h1, by omega, this.2⟩
set_option maxHeartbeats 1000000 in
theorem se_no (A : Option Addr) (cap : Nat) (ss : List Int) (AD : Option Addr) (dc : Nat) (qs : List Int) (w : World) (h : IAt w A ss) (hl : ss.length ≤ 1048576) (hd : IAt w AD qs) (hdl : qs.length ≤ 1048576) (hv : prtB ss qs = false) :
    Calls Try.prog 40 #[.slice A ss.length cap, .slice AD qs.length dc] w fun e w' => e = .returned (.tuple #[.int .i64 0, .bool false]) ∧ Below w.heap.size w w' := by
  obtain ⟨v1, hv1⟩ : ∃ v, szsB ss = v := ⟨_, rfl⟩
  have H := Lib.hid (fun w' (hb : Below w.heap.size w w') => szs_v hv1 A cap w' (h.kept hb (Nat.le_refl _)) hl)
  cases v1 with
  | false =>
    clear h hd hv hv1
    go_enter Try.func40, Try.ntmps40
    go_wp2_with (go_at_call 140; refine (H.out _ (Below.refl _ _)).mono ?_; rintro e w1 ⟨rfl, hb1⟩)
    go_ret2
    exact ⟨rfl, hb1⟩
  | true =>
    have hv2 : amtB qs (ss.length : Int) 0 60 = false := by
      unfold prtB at hv
      rw [hv1] at hv
      simpa using hv
    have H2 := Lib.hid (fun w' (hb : Below w.heap.size w w') => am_v hv2 AD dc w' (hd.kept hb (Nat.le_refl _)) hdl)
    clear h hd hv hv1 hv2
    go_enter Try.func40, Try.ntmps40
    go_wp2_with (first
      | (go_at_call 140; refine (H.out _ (Below.refl _ _)).mono ?_; rintro e w1 ⟨rfl, hb1⟩; have HB1 := Lib.hid hb1; clear hb1)
      | (go_at_call 145; refine (H2.out _ HB1.out).mono ?_; rintro e w2 ⟨rfl, hb2⟩))
    go_ret2
    exact ⟨rfl, HB1.out.trans (hb2.mono HB1.out.size)⟩
theorem se_in {ss qs : List Int} (h : prtB ss qs = true) {k : Nat} (hk : k ≤ ss.length) : 0 ≤ sumK (lA (peL ss qs)) k ∧ sumK (lA (peL ss qs)) k ≤ 2042829 * k := by
  obtain ⟨h1, h2, h3⟩ := prtB_of h
  induction k with
  | zero => simp [sumK]
  | succ k ih =>
    have h4 := ih (by omega)
    have h5 := peL_at (ss := ss) (qs := qs) (show k < ss.length by omega)
    have h6 := (peI_in (szs_at h1 (show k < ss.length by omega)) (q := lA qs k) (by have := allR_at h3 (show k < qs.length by omega); unfold lA; omega)).2.2
    rw [sumK, h5]
    omega
set_option maxHeartbeats 2000000 in
set_option maxRecDepth 100000 in
theorem se_yes (A : Option Addr) (cap : Nat) (ss : List Int) (AD : Option Addr) (dc : Nat) (qs : List Int) (w : World) (h : IAt w A ss) (hd : IAt w AD qs) (hv : prtB ss qs = true) :
    Calls Try.prog 40 #[.slice A ss.length cap, .slice AD qs.length dc] w fun e w' => e = .returned (.tuple #[.int .i64 (sumL (peL ss qs)), .bool true]) ∧ Below w.heap.size w w' := by
  obtain ⟨h1, h2, h3⟩ := prtB_of hv
  have h4 := szsB_of h1
  have H := Lib.hid (fun w' (hb : Below w.heap.size w w') => szs_v h1 A cap w' (h.kept hb (Nat.le_refl _)) (by omega))
  have hv2 : amtB qs (ss.length : Int) 0 60 = true := by simp [amtB, h2, h3]
  have H2 := Lib.hid (fun w' (hb : Below w.heap.size w w') => am_v hv2 AD dc w' (hd.kept hb (Nat.le_refl _)) (by omega))
  have H3 := Lib.hid (fun w' (hb : Below w.heap.size w w') => pwe_any A cap ss AD dc qs w' (h.kept hb (Nat.le_refl _)) (hd.kept hb (Nat.le_refl _)) h2 (by omega) (fun i hi => szs_at h1 hi) (fun i hi => by have := allR_at h3 (i := i) (by omega); exact this))
  have HS := Lib.hid (fun k (hk : k ≤ ss.length) => se_in hv hk)
  have HL := Lib.hid (peL_len ss qs)
  have HT := Lib.hid (show sumL (peL ss qs) = sumK (lA (peL ss qs)) ss.length by unfold sumL; rw [HL.out])
  have hss5 : ss.length ≤ 5 := h4.2.1
  clear h hd hv h1 h2 h3 h4 hv2
  go_enter Try.func40, Try.ntmps40
  go_wp2_with (first
    | (go_at_call 140; refine (H.out _ (Below.refl _ _)).mono ?_; rintro e w1 ⟨rfl, hb1⟩; have HB1 := Lib.hid hb1; clear hb1)
    | (go_at_call 145; refine (H2.out _ HB1.out).mono ?_; rintro e w2 ⟨rfl, hb2⟩; have HB2 := Lib.hid (HB1.out.trans (hb2.mono HB1.out.size)); clear hb2)
    | (go_at_call 141; refine (H3.out _ HB2.out).mono ?_; rintro e w3 ⟨⟨g, rfl, hg, hO⟩, hb3⟩; have HB3 := Lib.hid (HB2.out.trans (hb3.mono HB2.out.size)); have HI := Lib.hid (IOwn.iat (by rw [HL.out]; exact hO : IOwn w3 _ (.slice (some ⟨g, 0, none⟩) (peL ss qs).length _) _)); clear hO hb3))
  clear H H2 H3 HB1 HB2
  go_loopw [6, 23] (fun a i wr => ∃ (k : Nat), k ≤ ss.length ∧ i = .int .i64 (k : Int) ∧ a = .int .i64 (sumK (lA (peL ss qs)) k) ∧ wr = w3) (fun _ i _ => ss.length - (intOf i).toNat)
  case atStart => exact ⟨0, Nat.zero_le _, rfl, rfl, rfl⟩
  case round =>
    obtain ⟨k, hk, rfl, rfl, hw⟩ := hrel
    subst hw
    have hs := HS.out k hk
    by_cases hlt : k < ss.length
    · obtain ⟨b, off, hA, hbl, p0⟩ := HI.out.at_ (i := k) (by rw [HL.out]; exact hlt)
      injection hA with hA
      injection hA with hA1 hA2
      subst hA1
      subst hA2
      rw [Nat.zero_add] at p0
      have hk0 : (0 : Int) ≤ (k : Int) := by omega
      have hkn : (k : Int) < (ss.length : Int) := by omega
      have hsn := HS.out (k + 1) (by omega)
      have HSN := Lib.hid (show sumK (lA (peL ss qs)) (k + 1) = sumK (lA (peL ss qs)) k + (peL ss qs).getD k 0 from rfl)
      rw [HSN.out] at hsn
      generalize (peL ss qs).getD k 0 = y at *
      generalize sumK (lA (peL ss qs)) k = s at *
      have wS : IntKind.i64.wrap (s + y) = s + y := w64 _ (by omega)
      go_wp2
      go_roundw
      case rel => exact ⟨k + 1, by omega, by go_num, by rw [HSN.out], trivial⟩
      case measure => simp [intOf]; omega
    · have hkk : k = ss.length := by omega
      have HF := Lib.hid (show sumK (lA (peL ss qs)) k = sumL (peL ss qs) by rw [HT.out, hkk])
      clear hkk
      go_wp2
      go_ret2
      exact ⟨by rw [← HF.out]; rfl, HB3.out⟩

/-! ### SplitFlow -/
set_option maxHeartbeats 1000000 in
theorem sf_no (A : Option Addr) (cap : Nat) (ss : List Int) (t : Int) (w : World) (h : IAt w A ss) (hl : ss.length ≤ 1048576) (hv : szsB ss = false ∨ t < 0 ∨ 60 < t) :
    Calls Try.prog 38 #[.slice A ss.length cap, .int .i64 t] w (GivesI w [] false) := by
  obtain ⟨v1, hv1⟩ : ∃ v, szsB ss = v := ⟨_, rfl⟩
  have H := Lib.hid (fun w' (hb : Below w.heap.size w w') => szs_v hv1 A cap w' (h.kept hb (Nat.le_refl _)) hl)
  cases v1 with
  | false =>
    clear h hv hv1
    go_enter Try.func38, Try.ntmps38
    go_wp2_with (go_at_call 140; refine (H.out _ (Below.refl _ _)).mono ?_; rintro e w1 ⟨rfl, hb1⟩)
    go_ret2
    exact gives_none hb1
  | true =>
    have hv2 : t < 0 ∨ 60 < t := by
      rcases hv with h | h
      · rw [hv1] at h; cases h
      · exact h
    clear h hv hv1
    by_cases h0 : t < 0
    · have d0 : decide (t < 0) = true := decide_eq_true h0
      clear hv2
      go_enter Try.func38, Try.ntmps38
      go_wp2_with (go_at_call 140; refine (H.out _ (Below.refl _ _)).mono ?_; rintro e w1 ⟨rfl, hb1⟩)
      go_ret2
      exact gives_none hb1
    · have d0 : decide (t < 0) = false := decide_eq_false h0
      have d6 : decide (60 < t) = true := decide_eq_true (by omega)
      clear hv2 h0
      go_enter Try.func38, Try.ntmps38
      go_wp2_with (go_at_call 140; refine (H.out _ (Below.refl _ _)).mono ?_; rintro e w1 ⟨rfl, hb1⟩)
      go_ret2
      exact gives_none hb1
set_option maxHeartbeats 2000000 in
set_option maxRecDepth 100000 in
theorem sf_yes (A : Option Addr) (cap : Nat) (ss : List Int) (T : Nat) (w : World) (h : IAt w A ss) (hv : szsB ss = true) (hT : T ≤ 60) :
    Calls Try.prog 38 #[.slice A ss.length cap, .int .i64 (T : Int)] w (GivesI w (spK ss T) true) := by
  have h4 := szsB_of hv
  have hss5 : ss.length ≤ 5 := h4.2.1
  have hss1 : 1 ≤ ss.length := h4.1
  have H := Lib.hid (fun w' (hb : Below w.heap.size w w') => szs_v hv A cap w' (h.kept hb (Nat.le_refl _)) (by omega))
  have HA := Lib.hid (fun w' (hb : Below w.heap.size w w') => h.kept hb (Nat.le_refl _))
  have HZ := Lib.hid (fun i (hi : i < ss.length) => szs_at hv hi)
  have HLN := Lib.hid (fun k => spK_len ss k)
  have HIN := Lib.hid (fun k i => spK_in ss k i)
  have HCL := Lib.hid (fun k => cost_least (ss := ss) (qs := spK ss k) (by omega))
  have HPL := Lib.hid (fun k => pcL_len ss (spK ss k))
  have hmk := run_make_row' (P := Try.prog) 34 3 (.int .i64 0) 8 Try.underlying34 infoI rfl .i64 .i64 ss.length (by omega) (by omega)
  have HMO := Lib.hid (fun w' => made_row (spK ss 0) w' (by rw [spK_len]; omega))
  have HM0 := Lib.hid (show fiI (spK ss 0) 0 = (spK ss 0).map iv by simp [fiI, spK])
  clear h hv h4
  go_enter Try.func38, Try.ntmps38
  go_wp2_with (go_at_call 140; refine (H.out _ (Below.refl _ _)).mono ?_; rintro e w1 ⟨rfl, hb1⟩; have HB1 := Lib.hid hb1; clear hb1)
  have HO := HMO.out w1
  rw [HLN.out 0, HM0.out] at HO
  have HBm := Lib.hid (HB1.out.alloc HB1.out.size (.cells (madeCells #[.int .i64 0] ss.length) 3))
  have hz1 := HB1.out.size
  clear hmk HM0 HMO H
  go_loopw [24] (fun i wr => ∃ k : Nat, k ≤ T ∧ i = .int .i64 (k : Int) ∧ Hid (wr.ownsRow w1.heap.size 3 1 (.slice (some ⟨w1.heap.size, 0, none⟩) ss.length ss.length) ss.length ((spK ss k).map iv)) ∧ Hid (Below w.heap.size w wr)) (fun i _ => T - (intOf i).toNat)
  case atStart => exact ⟨0, Nat.zero_le _, rfl, HO, HBm⟩
  case round =>
    clear HO HBm
    obtain ⟨k, hk, rfl, hown, hB⟩ := hrel
    by_cases hlt : k < T
    · have HPW := Lib.hid (show ∀ w', Below wr.heap.size wr w' → Calls Try.prog 141 #[.slice A ss.length cap, .slice (some ⟨w1.heap.size, 0, none⟩) ss.length ss.length, .func (.func 142) #[] #[]] w' fun e w2 => (∃ g, e = .returned (.slice (some ⟨g, 0, none⟩) ss.length ss.length) ∧ w'.heap.size ≤ g ∧ IOwn w2 w'.heap.size (.slice (some ⟨g, 0, none⟩) ss.length ss.length) (pcL ss (spK ss k))) ∧ Below w'.heap.size w' w2 from fun w' hb => by
        have hp := pwc_any A cap ss (some ⟨w1.heap.size, 0, none⟩) ss.length (spK ss k) w' (HA.out w' (hB.out.trans (hb.mono hB.out.size))) (IOwn.iat (show IOwn w' w1.heap.size (.slice (some ⟨w1.heap.size, 0, none⟩) (spK ss k).length ss.length) (spK ss k) by unfold IOwn; rw [HLN.out k]; exact own_on hown.out hb)) (HLN.out k) (by omega) (fun i hi => HZ.out i hi) (fun i hi => by have := HIN.out k i; omega)
        rw [HLN.out k] at hp
        exact hp)
      obtain ⟨hn1, hn2, hn3⟩ := HCL.out k
      have HMI := Lib.hid (show ∀ g w', IAt w' (some ⟨g, 0, none⟩) (pcL ss (spK ss k)) → Calls Try.prog 144 #[.slice (some ⟨g, 0, none⟩) ss.length ss.length] w' fun e w2 => e = .returned (.int .i64 (loK (pcL ss (spK ss k)) (pcL ss (spK ss k)).length)) ∧ w2 = w' from fun g w' hi => by
        have hp := min_any (some ⟨g, 0, none⟩) ss.length (pcL ss (spK ss k)) w' hi (by rw [HPL.out k]; omega) (by rw [HPL.out k]; omega)
        rw [HPL.out k] at hp ⊢
        exact hp)
      have HIX := Lib.hid (show ∀ g w', IAt w' (some ⟨g, 0, none⟩) (pcL ss (spK ss k)) → Calls Try.prog 132 #[.slice (some ⟨g, 0, none⟩) ss.length ss.length, .int .i64 (loK (pcL ss (spK ss k)) (pcL ss (spK ss k)).length)] w' fun e w2 => e = .returned (.int .i64 ((nxS ss (spK ss k) : Nat) : Int)) ∧ w2 = w' from fun g w' hi => by
        have hp := index_any (some ⟨g, 0, none⟩) ss.length (pcL ss (spK ss k)) (loK (pcL ss (spK ss k)) (pcL ss (spK ss k)).length) (nxS ss (spK ss k)) w' hi (by rw [HPL.out k]; omega) (by rw [HPL.out k]; exact hn1) hn2 hn3
        rw [HPL.out k] at hp ⊢
        exact hp)
      have HCI := Lib.hid (show ∀ (g B : Nat) (w' : World), IOwn w' B (.slice (some ⟨g, 0, none⟩) ss.length ss.length) (pcL ss (spK ss k)) → IAt w' (some ⟨g, 0, none⟩) (pcL ss (spK ss k)) from fun g B w' h => IOwn.iat (cap := ss.length) (B := B) (by rw [HPL.out k]; exact h))
      have HNX := Lib.hid (show spK ss (k + 1) = (spK ss k).set (nxS ss (spK ss k)) (lA (spK ss k) (nxS ss (spK ss k)) + 1) from rfl)
      have hin := HIN.out k (nxS ss (spK ss k))
      have HLK := Lib.hid (HLN.out k)
      have HGD := Lib.hid (show ((spK ss k).map iv)[nxS ss (spK ss k)]? = some (iv (lA (spK ss k) (nxS ss (spK ss k)))) by
        have : nxS ss (spK ss k) < (spK ss k).length := by rw [HLN.out k]; exact hn1
        simp [lA, List.getD, this])
      generalize nxS ss (spK ss k) = i at *
      generalize loK (pcL ss (spK ss k)) (pcL ss (spK ss k)).length = m at *
      generalize pcL ss (spK ss k) = cs at *
      generalize lA (spK ss k) i = q at *
      clear hn2 hn3
      have hi0 : (0 : Int) ≤ (i : Int) := by omega
      have hin2 : (i : Int) < (ss.length : Int) := by omega
      have wq : IntKind.i64.wrap (q + 1) = q + 1 := w64 _ (by omega)
      go_wp2_with (first
        | (go_at_call 141; refine (HPW.out _ (Below.refl _ _)).mono ?_; rintro e w2 ⟨⟨g, rfl, hg, hO⟩, hb2⟩; have HB2 := Lib.hid (hB.out.trans (hb2.mono hB.out.size)); have HO2 := Lib.hid (own_on hown.out hb2); have HC2 := Lib.hid (show IAt w2 (some ⟨g, 0, none⟩) cs from HCI.out _ _ _ hO); clear hO hb2 hg)
        | (go_at_call 144; refine (HMI.out _ _ HC2.out).mono ?_; rintro e w3 ⟨rfl, hw⟩; subst hw)
        | (go_at_call 132; refine (HIX.out _ _ HC2.out).mono ?_; rintro e w3 ⟨rfl, hw⟩; subst hw; have hcell := (HO2.out.cellAt i (by omega)).trans HGD.out; have hfz := HO2.out.frozenAt i))
      have hst := HO2.out.stored i (iv (q + 1))
      rw [← List.map_set, ← HNX.out] at hst
      have HRL := Lib.hid hst.1
      have HBn := Lib.hid (HB2.out.setCell (p := ⟨w1.heap.size, i, none⟩) (show w.heap.size ≤ w1.heap.size from hz1) (iv (q + 1)))
      clear hst
      go_wp2
      go_roundw
      case rel => exact ⟨k + 1, by omega, by go_num, HRL, HBn⟩
      case measure => simp [intOf]; omega
    · have hkk : k = T := by omega
      subst hkk
      have HO := Lib.hid (own_lower (B' := w.heap.size) (show IOwn wr w1.heap.size (.slice (some ⟨w1.heap.size, 0, none⟩) ss.length ss.length) (spK ss k) by unfold IOwn; rw [HLN.out k]; exact hown.out))
      go_wp2
      go_ret2
      refine ⟨w1.heap.size, ss.length, by rw [HLN.out k]; rfl, hz1, by rw [HLN.out k]; exact HO.out, hB.out⟩
end Go.Proofs.Ytgjogjmfpbinfaa.S2
