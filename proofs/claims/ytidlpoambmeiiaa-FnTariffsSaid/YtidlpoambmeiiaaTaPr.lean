/- IsProgressive, the program's and the model's: contracts. Conditions: each theorem's own premises. -/
import Derived.Test.YtidlpoambmeiiaaTaGoodS
namespace Go.Proofs.Ytidlpoambmeiiaa.S14
open Go.RowKit P14

def cmpI (a b : Int) : Int := if a < b then -1 else if b < a then 1 else 0
theorem nan_int (x : Int) (w : World) : Calls Try.prog 82 #[.int .i64 x] w fun e w' => e = .returned (.bool false) ∧ w' = w := by
  go_enter Try.func82, Try.ntmps82
  go_wp2
  go_ret
  exact ⟨rfl, rfl⟩
theorem cmp_int (x y : Int) (w : World) : Calls Try.prog 66 #[.int .i64 x, .int .i64 y] w fun e w' => e = .returned (.int .i64 (cmpI x y)) ∧ w' = w := by
  have hN := Lib.hid (fun x w => nan_int x w)
  by_cases h1 : x < y
  · have e : cmpI x y = -1 := by unfold cmpI; rw [if_pos h1]
    rw [e]; clear e
    go_enter Try.func66, Try.ntmps66
    go_wp2_with (go_at_call 82; refine (hN.out _ _).mono ?_; rintro e w1 ⟨rfl, hw⟩; replace hw := hw.symm; subst hw)
    go_ret
    exact ⟨rfl, rfl⟩
  · by_cases h2 : y < x
    · have e : cmpI x y = 1 := by unfold cmpI; rw [if_neg h1, if_pos h2]
      rw [e]; clear e
      go_enter Try.func66, Try.ntmps66
      go_wp2_with (go_at_call 82; refine (hN.out _ _).mono ?_; rintro e w1 ⟨rfl, hw⟩; replace hw := hw.symm; subst hw)
      go_ret
      exact ⟨rfl, rfl⟩
    · have e : cmpI x y = 0 := by unfold cmpI; rw [if_neg h1, if_neg h2]
      rw [e]; clear e
      go_enter Try.func66, Try.ntmps66
      go_wp2_with (go_at_call 82; refine (hN.out _ _).mono ?_; rintro e w1 ⟨rfl, hw⟩; replace hw := hw.symm; subst hw)
      go_ret
      exact ⟨rfl, rfl⟩
theorem cmp_lt {x y : Int} (h : x < y) : cmpI x y = -1 := by unfold cmpI; rw [if_pos h]
theorem cmp_eq {x y : Int} (h : x = y) : cmpI x y = 0 := by unfold cmpI; rw [if_neg (by omega), if_neg (by omega)]
theorem cmp_gt {x y : Int} (h : y < x) : cmpI x y = 1 := by unfold cmpI; rw [if_neg (by omega), if_pos h]
/-- No price is smaller than the one before it. -/
def Asc (bs : List Bl) : Prop := ∀ i, i + 1 < bs.length → (cAt bs i).pr ≤ (cAt bs (i + 1)).pr
open Classical in
noncomputable def asB (bs : List Bl) : Bool := decide (Asc bs)
theorem asB_yes {bs : List Bl} (h : Asc bs) : asB bs = true := by simpa [asB] using h
theorem asB_no {bs : List Bl} {i : Nat} (hi : i + 1 < bs.length) (h : (cAt bs (i + 1)).pr < (cAt bs i).pr) : asB bs = false := by
  have : ¬ Asc bs := fun a => by have := a i hi; omega
  simpa [asB] using this
noncomputable def pgR (t : Ta) : Bool := gB t && asB t.bs
theorem pgR_bad {t : Ta} (h : gB t = false) : pgR t = false := by unfold pgR; rw [h]; rfl
theorem pgR_good {t : Ta} (h : gB t = true) : pgR t = asB t.bs := by unfold pgR; rw [h]; rfl
theorem bcmp_any (p q : Bl) (w : World) :
    Calls Try.prog 65 #[cv p, cv q] w fun e w' => e = .returned (.int .i64 (cmpI p.pr q.pr)) ∧ Below w.heap.size w w' := by
  obtain ⟨a, x⟩ := p
  obtain ⟨b, y⟩ := q
  have HC := Lib.hid (fun w => cmp_int x y w)
  have HB := Lib.hid (two_below w (.cells #[.int .i64 a, .int .i64 x] 62) (.cells #[.int .i64 b, .int .i64 y] 62))
  simp only
  generalize cmpI x y = z at *
  go_enter Try.func65, Try.ntmps65
  go_wp2_with (go_at_call 66; refine (HC.out _).mono ?_; rintro e w1 ⟨rfl, hw⟩; replace hw := hw.symm; subst hw)
  go_ret
  exact ⟨rfl, HB.out⟩
set_option maxHeartbeats 4000000 in
theorem sorted_any (A : Option Addr) (c : Nat) (bs : List Bl) (w : World) (h : CAt w A bs) (hl0 : 0 < bs.length) (hl : bs.length ≤ 5) :
    Calls Try.prog 64 #[.slice A bs.length c, .func (.func 65) #[] #[]] w fun e w' => e = .returned (.bool (asB bs)) ∧ Below w.heap.size w w' := by
  have HA := Lib.hid h
  clear h
  obtain ⟨n, hn⟩ : ∃ n, bs.length = n + 1 := ⟨bs.length - 1, by omega⟩
  have hni : ((bs.length : Nat) : Int) - 1 = (n : Int) := by omega
  have hns := Lib.hid (show n < bs.length ∧ ∀ j, n ≤ j → ¬ j + 1 < bs.length from ⟨by omega, fun j hj => by omega⟩)
  clear hn
  go_enter Try.func64, Try.ntmps64
  go_wp2
  go_loopw [5] (fun i wr => ∃ k : Nat, k < bs.length ∧ i = .int .i64 (k : Int) ∧ Hid (∀ j, k ≤ j → j + 1 < bs.length → (cAt bs j).pr ≤ (cAt bs (j + 1)).pr) ∧ Hid (Below w.heap.size w wr)) (fun i _ => (intOf i).toNat)
  case atStart => exact ⟨n, hns.out.1, rfl, Lib.hid (fun j h1 h2 => absurd h2 (hns.out.2 j h1)), Lib.hid (Below.refl _ _)⟩
  case round =>
    clear hni hns
    obtain ⟨k, hk, rfl, hasc, HB⟩ := hrel
    by_cases hk0 : 0 < k
    · obtain ⟨m, rfl⟩ : ∃ m, k = m + 1 := ⟨k - 1, by omega⟩
      obtain ⟨b, off, hA, hbl, h0, h1⟩ := (HA.out.kept HB.out (Nat.le_refl _)).at_ hk
      obtain ⟨b', off', hA', hbl', g0, g1⟩ := (HA.out.kept HB.out (Nat.le_refl _)).at_ (show m < bs.length by omega)
      subst hA
      simp only [Option.some.injEq, Addr.mk.injEq, and_true] at hA'
      obtain ⟨rfl, rfl⟩ := hA'
      have hm0 : (0 : Int) ≤ (m : Int) := by omega
      have hm1 : (m : Int) < (bs.length : Int) := by omega
      have hm2 : (0 : Int) ≤ (m : Int) + 1 := by omega
      have hm3 : (m : Int) + 1 < (bs.length : Int) := by omega
      have hmw : IntKind.i64.wrap (m : Int) = (m : Int) := IntWalk.i64_in _ (by omega)
      have HC := Lib.hid (fun w => bcmp_any (cAt bs (m + 1)) (cAt bs m) w)
      have HNO := Lib.hid (fun h => asB_no (bs := bs) (i := m) hk h)
      have HST := Lib.hid (fun (h : (cAt bs m).pr ≤ (cAt bs (m + 1)).pr) => show ∀ j, m ≤ j → j + 1 < bs.length → (cAt bs j).pr ≤ (cAt bs (j + 1)).pr from fun j h1 h2 => by
        by_cases e : j = m
        · subst e; exact h
        · exact hasc.out j (by omega) h2)
      have hG := @cell_g
      by_cases hlt : (cAt bs (m + 1)).pr < (cAt bs m).pr
      · have HV := Lib.hid (HNO.out hlt)
        rw [cmp_lt hlt] at HC
        clear hlt HST HNO hasc
        generalize cAt bs (m + 1) = p at *
        generalize cAt bs m = q at *
        obtain ⟨pu, pp⟩ := p
        obtain ⟨qu, qp⟩ := q
        go_wp2
        refine region_below (by kernel_rfl) (by kernel_rfl) ?_
        repeat (first | go_big_quiet_step ((go_at_call 65; exact met HC.out)))
        refine wpQuiet_nil ?_
        intro w1 hb1
        have HB1 := Lib.hid (HB.out.trans (hb1.mono HB.out.size))
        clear hb1
        go_wp2
        go_ret
        exact ⟨by rw [HV.out] <;> rfl, HB1.out⟩
      · have HV := Lib.hid (HST.out (by omega))
        obtain ⟨z, hz⟩ : ∃ z, cmpI (cAt bs (m + 1)).pr (cAt bs m).pr = z := ⟨_, rfl⟩
        have hz0 : ¬ z < 0 := by
          rw [← hz]
          rcases Int.lt_trichotomy (cAt bs (m + 1)).pr (cAt bs m).pr with h | h | h
          · exact absurd h hlt
          · rw [cmp_eq h]; omega
          · rw [cmp_gt h]; omega
        have dz : decide (z < 0) = false := by simp; omega
        rw [hz] at HC
        clear hlt HST HNO hasc hz
        generalize cAt bs (m + 1) = p at *
        generalize cAt bs m = q at *
        obtain ⟨pu, pp⟩ := p
        obtain ⟨qu, qp⟩ := q
        go_wp2
        refine region_below (by kernel_rfl) (by kernel_rfl) ?_
        repeat (first | go_big_quiet_step ((go_at_call 65; exact met HC.out)))
        refine wpQuiet_nil ?_
        intro w1 hb1
        have HB1 := Lib.hid (HB.out.trans (hb1.mono HB.out.size))
        clear hb1
        go_wp2
        go_roundw
        case rel => exact ⟨m, by omega, by go_num, HV, HB1⟩
        case measure => simp [intOf]
    · have e : k = 0 := by omega
      have HV := Lib.hid (asB_yes (bs := bs) (fun j hj => hasc.out j (by omega) hj))
      have hk1 : ¬ (0 : Int) < (k : Int) := by omega
      clear hk0
      go_wp2
      go_ret
      exact ⟨by rw [HV.out] <;> rfl, HB.out⟩
def PgI (t : Ta) (w : World) (e : Ending) (w' : World) : Prop := e = .returned (.tuple #[.bool (pgR t), .bool (gB t)]) ∧ Below w.heap.size w w'
set_option maxHeartbeats 2000000 in
theorem prog_any (t : Ta) (A : Option Addr) (c : Nat) (w : World) (h : TAt w t A) :
    Calls Try.prog 29 #[tv t A c] w (PgI t w) := by
  have HB0 := Lib.hid (alloc_below w (tb 29 t A c))
  have HQ0 := Lib.hid (B2.new w 29 t A c)
  obtain ⟨b, hb⟩ : ∃ b, gB t = b := ⟨_, rfl⟩
  have HG := Lib.hid (fun w' (hb' : Below w.heap.size w w') => valid_w hb A c w' (h.kept hb'))
  have HX := Lib.hid h.x
  clear h
  unfold PgI
  cases b with
  | false =>
    rw [pgR_bad hb, hb]
    clear hb
    go_enter Try.func29, Try.ntmps29
    go_wp2_with (first | (go_at_call 18; refine (HG.out _ HB0.out).mono ?_; rintro e w1 ⟨rfl, hb1⟩; have HB1 := Lib.hid (HB0.out.trans (hb1.mono HB0.out.size)); clear hb1; refine Hid.out ?_) | fail)
    refine Lib.hid ?_
    go_wp2_with fail
    go_ret2
    exact ⟨rfl, HB1.out⟩
  | true =>
    rw [pgR_good hb, hb]
    have hg := (gB_of hb).2.1
    have HS := Lib.hid (fun w' (hb' : Below w.heap.size w w') => sorted_any A c t.bs w' (HX.out.kept hb' (Nat.le_refl _)) (by omega) hg.2)
    clear hb hg
    generalize asB t.bs = r at *
    go_enter Try.func29, Try.ntmps29
    go_wp2_with (first | (go_at_call 18; refine (HG.out _ HB0.out).mono ?_; rintro e w1 ⟨rfl, hb1⟩; have HB1 := Lib.hid (HB0.out.trans (hb1.mono HB0.out.size)); have HQ1 := Lib.hid (C2.kept HQ0.out hb1); clear hb1; refine Hid.out ?_) | fail)
    obtain ⟨_, q0, q1, _⟩ := HQ1.out
    clear HB0 HQ0 HG
    refine Lib.hid ?_
    go_wp2_with (first | (go_at_call 64; refine (HS.out _ HB1.out).mono ?_; rintro e w2 ⟨rfl, hb2⟩; have HB2 := Lib.hid (HB1.out.trans (hb2.mono HB1.out.size)); clear hb2; refine Hid.out ?_) | fail)
    refine Lib.hid ?_
    go_wp2_with fail
    go_ret2
    exact ⟨rfl, HB2.out⟩
set_option maxHeartbeats 4000000 in
theorem sprog_any (t : Ta) (A : Option Addr) (c : Nat) (w : World) (h : TAt w t A) :
    Calls Try.prog 28 #[tv t A c] w (PgI t w) := by
  have HB0 := Lib.hid (alloc_below w (tb 29 t A c))
  have HQ0 := Lib.hid (B2.new w 29 t A c)
  obtain ⟨b, hb⟩ : ∃ b, gB t = b := ⟨_, rfl⟩
  have HG := Lib.hid (fun w' (hb' : Below w.heap.size w w') => sgood_w hb A c w' (h.kept hb'))
  have HA := Lib.hid h.x
  clear h
  unfold PgI
  cases b with
  | false =>
    rw [pgR_bad hb, hb]
    clear hb
    go_enter Try.func28, Try.ntmps28
    go_wp2_with (first | (go_at_call 53; refine (HG.out _ HB0.out).mono ?_; rintro e w1 ⟨rfl, hb1⟩; have HB1 := Lib.hid (HB0.out.trans (hb1.mono HB0.out.size)); clear hb1; refine Hid.out ?_) | fail)
    refine Lib.hid ?_
    go_wp2_with fail
    go_ret2
    exact ⟨rfl, HB1.out⟩
  | true =>
    rw [pgR_good hb, hb]
    have hg := (gB_of hb).2.1
    clear hb
    go_enter Try.func28, Try.ntmps28
    go_wp2_with (first | (go_at_call 53; refine (HG.out _ HB0.out).mono ?_; rintro e w1 ⟨rfl, hb1⟩; have HB1 := Lib.hid (HB0.out.trans (hb1.mono HB0.out.size)); have HQ1 := Lib.hid (C2.kept HQ0.out hb1); clear hb1; refine Hid.out ?_) | fail)
    clear HB0 HQ0 HG
    refine Lib.hid ?_
    go_wp2_with fail
    go_loopw [4] (fun i wr => ∃ k : Nat, 1 ≤ k ∧ k ≤ t.bs.length ∧ i = .int .i64 (k : Int) ∧ Hid (∀ j, j + 1 < k → (cAt t.bs j).pr ≤ (cAt t.bs (j + 1)).pr) ∧ Hid (Below w1.heap.size w1 wr)) (fun i _ => t.bs.length - (intOf i).toNat)
    case atStart => exact ⟨1, Nat.le_refl _, hg.1, rfl, Lib.hid (fun j hj => absurd hj (by omega)), Lib.hid (Below.refl _ _)⟩
    case round =>
      obtain ⟨k, hk1, hk, rfl, hasc, HB⟩ := hrel
      obtain ⟨m, rfl⟩ : ∃ m, k = m + 1 := ⟨k - 1, by omega⟩
      obtain ⟨hbx, q0, q1, _⟩ := C2.kept HQ1.out HB.out
      have HBW := Lib.hid (HB1.out.trans (HB.out.mono HB1.out.size))
      have hg1 := hg.1
      have hg2 := hg.2
      by_cases hlt : m + 1 < t.bs.length
      · obtain ⟨b, off, hA, hbl, h0, h1⟩ := (HA.out.kept HBW.out (Nat.le_refl _)).at_ hlt
        obtain ⟨b', off', hA', hbl', g0, g1⟩ := (HA.out.kept HBW.out (Nat.le_refl _)).at_ (show m < t.bs.length by omega)
        subst hA
        simp only [Option.some.injEq, Addr.mk.injEq, and_true] at hA'
        obtain ⟨rfl, rfl⟩ := hA'
        have hm0 : (0 : Int) ≤ (m : Int) := by omega
        have hm1 : (m : Int) < (t.bs.length : Int) := by omega
        have hm2 : (0 : Int) ≤ (m : Int) + 1 := by omega
        have hm3 : (m : Int) + 1 < (t.bs.length : Int) := by omega
        have hmw : IntKind.i64.wrap (m : Int) = (m : Int) := IntWalk.i64_in _ (by omega)
        have HNO := Lib.hid (fun h => asB_no (bs := t.bs) (i := m) hlt h)
        have HST := Lib.hid (fun (h : (cAt t.bs m).pr ≤ (cAt t.bs (m + 1)).pr) => show ∀ j, j + 1 < m + 1 + 1 → (cAt t.bs j).pr ≤ (cAt t.bs (j + 1)).pr from fun j h1 => by
          by_cases e : j = m
          · subst e; exact h
          · exact hasc.out j (by omega))
        generalize (cAt t.bs (m + 1)).pr = x at *
        generalize (cAt t.bs m).pr = y at *
        by_cases hlt2 : x < y
        · have HV := Lib.hid (HNO.out hlt2)
          go_wp2
          go_quiet (fail)
          go_wp2
          go_ret2
          exact ⟨by rw [HV.out] <;> rfl, below_drewN HBW.out _⟩
        · have HV := Lib.hid (HST.out (by omega))
          go_wp2
          go_quiet (fail)
          go_wp2
          go_roundw
          case rel => exact ⟨m + 1 + 1, by omega, by omega, by go_num, HV, Lib.hid (below_drewN HB.out _)⟩
          case measure => simp [intOf]; omega
      · have HV := Lib.hid (asB_yes (bs := t.bs) (fun j hj => hasc.out j (by omega)))
        go_wp2
        go_ret2
        exact ⟨by rw [HV.out] <;> rfl, HBW.out⟩
end Go.Proofs.Ytidlpoambmeiiaa.S14
