/- The program's ParallelFlow: contracts. Conditions: each theorem's own premises. -/
import Derived.Test.YtpldbakllegheabCvSum
import Derived.Deep.DeepCutAuto
namespace Go.Proofs.Ytpldbakllegheab.S7
open Go.RowKit P7


set_option maxHeartbeats 8000000 in
set_option maxRecDepth 100000 in
theorem over_par (F : Nat → Tri) (hF : ∀ i, Frac (F i)) (A : Option Addr) (cap p : Nat) (ls : List (List Cp)) (w : World) (h : SCp w A ls) (hm : ls.length ≤ 1048576)
    (hcl : ∀ (i : Nat) (B : Option Addr) (c : Nat) (w' : World), i < ls.length → Below w.heap.size w w' → CAt w' B (rw_ ls i) → (rw_ ls i).length ≤ min c 1048576 → c ≤ maxLen →
      Calls Try.prog 50 #[.slice B (rw_ ls i).length c, .pointer (some ⟨p, 0, none⟩)] w' (Gives3 (F i).1 (F i).2.1 (F i).2.2 w')) :
    Calls Try.prog 49 #[.slice A ls.length cap, .func (.func 50) #[] #[.pointer (some ⟨p, 0, none⟩)]] w (SPost F ls.length w) := by
  have HA := Lib.hid h
  have HC := Lib.hid hcl
  clear h hcl
  by_cases hl : 1 ≤ ls.length ∧ ls.length ≤ 4
  · obtain ⟨hl0, hl9⟩ := hl
    go_enter Try.func49, Try.ntmps49
    go_wp2
    go_loopw [7, 8, 24] (fun nn dd i wr => ∃ k : Nat, k ≤ ls.length ∧ nn = .int .i64 ((sumK F k).1 : Int) ∧ dd = .int .i64 ((sumK F k).2 : Int) ∧ i = .int .i64 (k : Int) ∧ Hid (AllK F k) ∧ Below w.heap.size w wr) (fun _ _ i _ => ls.length - (intOf i).toNat)
    case atStart => exact ⟨0, by omega, rfl, rfl, rfl, Lib.hid (AllK.zero F), Below.refl _ _⟩
    case round =>
      obtain ⟨k, hk, rfl, rfl, rfl, hall, hb⟩ := hrel
      by_cases hlt : k < ls.length
      · obtain ⟨b, off, B, c, hA, hbl, c0, hI, hcc, hcm⟩ := (HA.out.kept hb (Nat.le_refl _)).at_ hlt
        subst hA
        have hk0i : (0 : Int) ≤ (k : Int) := by omega
        have hk1i : (k : Int) < (ls.length : Int) := by omega
        have HCL := Lib.hid (HC.out k B c wr hlt hb hI hcc hcm)
        have hz := hb.size
        rcases hF k with e | ⟨x, y, e, hy0, hy9, hx9⟩
        · have hfin := Lib.hid (sumA_bad (F := F) hlt (by rw [e]))
          rw [e] at HCL
          unfold Gives3 ret3 at HCL
          dsimp only at HCL
          generalize (rw_ ls k).length = n at *
          generalize (sumK F k).1 = nn at *
          generalize (sumK F k).2 = dd at *
          clear hI e
          go_wp2_with (go_at_call 50; refine HCL.out.mono ?_; rintro e w2 ⟨rfl, hb2⟩)
          go_ret3
          exact spost_of hfin.out (hb.trans (hb2.mono hz))
        · obtain ⟨n, d, e1, e2, hd0, hd9, hn9, _, _, hx6, m1, m2, m3, m4⟩ := sum_step hF (by omega) hall.out e
          have hnx := Lib.hid (hall.out.next (by rw [e]))
          have HL := Lib.hid (fun w => low_any (n * y + x * d) (d * y) w m4 (by omega) (by omega))
          unfold lowV at HL
          rw [show lowN (n * y + x * d) (d * y) = (sN n d x y : Int) from rfl, show lowD (n * y + x * d) (d * y) = (sD n d x y : Int) from rfl] at HL
          have q1 : ((n * y + x * d : Nat) : Int) = (n : Int) * (y : Int) + (x : Int) * (d : Int) := by rw [Int.natCast_add, Int.natCast_mul, Int.natCast_mul]
          have q2 : ((d * y : Nat) : Int) = (d : Int) * (y : Int) := Int.natCast_mul _ _
          have q3 : ((n * y : Nat) : Int) = (n : Int) * (y : Int) := Int.natCast_mul _ _
          have q4 : ((x * d : Nat) : Int) = (x : Int) * (d : Int) := Int.natCast_mul _ _
          rw [q1, q2] at HL
          have w1 : IntKind.i64.wrap ((n : Int) * (y : Int)) = (n : Int) * (y : Int) := w64 _ (by omega)
          have w2 : IntKind.i64.wrap ((x : Int) * (d : Int)) = (x : Int) * (d : Int) := w64 _ (by omega)
          have w3 : IntKind.i64.wrap ((n : Int) * (y : Int) + (x : Int) * (d : Int)) = (n : Int) * (y : Int) + (x : Int) * (d : Int) := w64 _ (by omega)
          have w4 : IntKind.i64.wrap ((d : Int) * (y : Int)) = (d : Int) * (y : Int) := w64 _ (by omega)
          have HE2 := Lib.hid e2
          rw [e] at HCL
          rw [e1]
          unfold Gives3 ret3 at HCL
          dsimp only at HCL ⊢
          generalize (rw_ ls k).length = len at *
          generalize hu : sN n d x y = u at *
          generalize hv : sD n d x y = v at *
          clear hI e e1 e2 q1 q2 q3 q4 hu hv m1 m2 m3 m4
          go_wp2_with (first
            | (go_at_call 50; refine HCL.out.mono ?_; rintro e w2 ⟨rfl, hb2⟩)
            | (go_at_call 45; refine (HL.out _).mono ?_; rintro e w3 ⟨rfl, hb3⟩))
          go_roundw
          case rel => exact ⟨k + 1, by omega, by rw [HE2.out], by rw [HE2.out], by go_num, hnx, (hb.trans (hb2.mono hz)).trans (hb3.mono (Nat.le_trans hz hb2.size))⟩
          case measure => simp [intOf]; omega
      · have e : k = ls.length := by omega
        subst e
        have hfin := Lib.hid (sumA_yes hl0 hl9 hall.out)
        generalize (sumK F ls.length).1 = nn at *
        generalize (sumK F ls.length).2 = dd at *
        go_wp2
        go_ret3
        exact spost_of hfin.out hb
  · have hfin := Lib.hid (sumA_len (F := F) hl)
    by_cases hl0 : ls.length < 1
    · clear hl
      go_enter Try.func49, Try.ntmps49
      go_wp2
      go_ret3
      exact spost_of hfin.out (Below.refl _ _)
    · have hl9 : 4 < ls.length := by omega
      clear hl
      go_enter Try.func49, Try.ntmps49
      go_wp2
      go_ret3
      exact spost_of hfin.out (Below.refl _ _)

set_option maxHeartbeats 4000000 in
theorem pclos_any (p : Nat) (f : Int) (B : Option Addr) (c : Nat) (cs : List Cp) (w : World) (hp : w.cell? ⟨p, 0, none⟩ = some (.int .i64 f)) (hpl : p < w.heap.size) (h : CAt w B cs) (hm : cs.length ≤ 1048576) (hc1 : cs.length ≤ c) (hc2 : c ≤ maxLen) :
    Calls Try.prog 50 #[.slice B cs.length c, .pointer (some ⟨p, 0, none⟩)] w (Gives3 (pF cs f).1 (pF cs f).2.1 (pF cs f).2.2 w) := by
  obtain ⟨v, hv⟩ : ∃ v, gB cs = v := ⟨_, rfl⟩
  have HV := Lib.hid (valid_w hv B c w h hm)
  cases v with
  | false =>
    have e : pF cs f = (0, 0, false) := by unfold pF; rw [hv]; simp
    rw [e]
    unfold Gives3 ret3
    dsimp only
    clear h e hv
    go_enter Try.func50, Try.ntmps50
    go_wp2_with (go_at_call 23; refine HV.out.mono ?_; rintro e w1 ⟨rfl, hb1⟩)
    go_ret3
    exact ⟨rfl, hb1⟩
  | true =>
    have e : pF cs f = wA cs (clamp cs f) 0 := by unfold pF; rw [hv]; simp
    rw [e]
    have g := gB_of hv
    have hl0 := g.1
    have hl9 := g.2.1
    obtain ⟨n, hn⟩ : ∃ n, cs.length = n + 1 := ⟨cs.length - 1, by omega⟩
    obtain ⟨b, off, hA, hbl, k0, k1⟩ := h.at_ (show n < cs.length by omega)
    obtain ⟨b', off', hA', _, g0, g1⟩ := h.at_ (show 0 < cs.length by omega)
    subst hA
    simp only [Option.some.injEq, Addr.mk.injEq, and_true] at hA'
    obtain ⟨rfl, rfl⟩ := hA'
    have H := Lib.hid (fun w' (hb : Below w.heap.size w w') => flow_cap (some ⟨b, off, none⟩) c cs (clamp cs f) w' (h.kept hb (Nat.le_refl _)) hm hc1 hc2)
    unfold WPost Gives3 ret3 at *
    generalize wA cs (clamp cs f) 0 = r at *
    obtain ⟨r0, r1, r2⟩ := r
    dsimp only at *
    have hcl : clamp cs f = if (cAt cs 0).hd < (if f < (cAt cs n).hd then (cAt cs n).hd else f) then (cAt cs 0).hd else (if f < (cAt cs n).hd then (cAt cs n).hd else f) := by
      unfold clamp
      rw [show cs.length - 1 = n by omega]
      split <;> split at * <;> omega
    rw [hcl] at H
    rw [Nat.zero_mul, Nat.add_zero] at g1
    generalize (cAt cs n).hd = x at *
    generalize (cAt cs 0).hd = y at *
    have hn1 : IntKind.i64.wrap (n : Int) = (n : Int) := w64 _ (by omega)
    have hn2 : (0 : Int) ≤ (n : Int) := by omega
    have hn3 : (n : Int) < (n : Int) + 1 := by omega
    clear h e hv g hcl k0 g0
    rw [hn] at HV H ⊢
    have hG := @cell_g
    go_enter Try.func50, Try.ntmps50
    go_upto_region 3 with (go_at_call 23; refine HV.out.mono ?_; rintro e w1 ⟨rfl, hb1⟩)
    obtain ⟨hc, hf⟩ := bcell hb1
    have c0 := (hc _ _ hbl).trans k1
    have c1 := (hc _ _ hbl).trans g1
    have c2 := (hc _ _ hpl).trans hp
    have hz := hb1.size
    have hbl1 : b < w1.heap.size := by omega
    have hpl1 : p < w1.heap.size := by omega
    have H2 := Lib.hid (fun w' (hb : Below w1.heap.size w1 w') => H.out w' (hb1.trans (hb.mono hz)))
    refine region_below (by kernel_rfl) (by kernel_rfl) ?_
    repeat (first | go_big_quiet_step ((go_at_call 24; exact met_at H2.out)))
    refine wpQuiet_nil ?_
    intro w2 hb2
    clear hG
    go_wp2
    all_goals
      go_ret3
      exact ⟨rfl, hb1.trans (hb2.mono hz)⟩
set_option maxHeartbeats 4000000 in
theorem par_no (A : Option Addr) (cap : Nat) (ls : List (List Cp)) (f : Int) (w : World) (hv : vB f = false) :
    Calls Try.prog 16 #[.slice A ls.length cap, .int .i64 f] w (Gives3 0 0 false w) := by
  have HV := Lib.hid (fun w => val_eq f false hv w)
  go_enter Try.func16, Try.ntmps16
  go_wp2_with (go_at_call 43; refine (HV.out _).mono ?_; rintro e w1x ⟨rfl, hw⟩; replace hw := hw.symm; subst hw)
  go_ret3
  exact ⟨rfl, alloc_below _ _⟩
set_option maxHeartbeats 4000000 in
theorem par_any (A : Option Addr) (cap : Nat) (ls : List (List Cp)) (f : Int) (w : World) (h : SCp w A ls) (hm : ls.length ≤ 1048576) (hv : vB f = true) :
    Calls Try.prog 16 #[.slice A ls.length cap, .int .i64 f] w (SPost (fun i => pF (rw_ ls i) f) ls.length w) := by
  have HV := Lib.hid (fun w => val_eq f true hv w)
  have hbel : Below w.heap.size w (w.alloc (.cells #[.int .i64 f] 3)) := alloc_below _ _
  have HB := Lib.hid hbel
  have H := Lib.hid (over_par (fun i => pF (rw_ ls i) f) (fun i => pF_frac _ _) A cap w.heap.size ls (w.alloc (.cells #[.int .i64 f] 3)) (h.kept hbel (Nat.le_refl _)) hm
    (fun i B c w' _ hb hI h1 h2 => pclos_any w.heap.size f B c (rw_ ls i) w' ((hb.cell (p := ⟨w.heap.size, 0, none⟩) (by simp)).trans box_at) (Nat.lt_of_lt_of_le (by simp) hb.size) hI (by omega) (by omega) h2))
  unfold SPost Gives3 ret3 at *
  generalize sumA (fun i => pF (rw_ ls i) f) ls.length = r at *
  obtain ⟨r0, r1, r2⟩ := r
  clear h hbel hv
  dsimp only at *
  go_enter Try.func16, Try.ntmps16
  go_wp2_with (first
    | (go_at_call 43; refine (HV.out _).mono ?_; rintro e w1x ⟨rfl, hw⟩; replace hw := hw.symm; subst hw)
    | (go_at_call 49; refine H.out.mono ?_; rintro e w1 ⟨rfl, hb1⟩))
  go_ret3
  exact ⟨rfl, HB.out.trans (hb1.mono (by simp))⟩
end Go.Proofs.Ytpldbakllegheab.S7
