/- The model's SeriesHead: contracts. Conditions: each theorem's own premises. -/
import Derived.Test.YtpldbakllegheabCvSum
import Derived.Deep.DeepCutAuto
namespace Go.Proofs.Ytpldbakllegheab.S7
open Go.RowKit P7


set_option maxHeartbeats 8000000 in
set_option maxRecDepth 100000 in
theorem sseries_any (A : Option Addr) (cap : Nat) (ls : List (List Cp)) (f : Int) (w : World) (h : SCp w A ls) (hm : ls.length ≤ 1048576) :
    Calls Try.prog 20 #[.slice A ls.length cap, .int .i64 f] w (SPost (fun i => hA (rw_ ls i) f) ls.length w) := by
  have HA := Lib.hid h
  have HF := Lib.hid (fun i => hA_frac (rw_ ls i) f)
  clear h
  obtain ⟨q, hq⟩ : ∃ q, decide (1 ≤ (ls.length : Int) ∧ (ls.length : Int) ≤ 4) = q := ⟨_, rfl⟩
  have HI := Lib.hid (fun w => in_eq (ls.length : Int) 1 4 q hq w)
  cases q with
  | true =>
    have hl : 1 ≤ (ls.length : Int) ∧ (ls.length : Int) ≤ 4 := of_decide_eq_true hq
    have hl0 : 1 ≤ ls.length := by omega
    have hl9 : ls.length ≤ 4 := by omega
    clear hq hl
    go_enter Try.func20, Try.ntmps20
    go_wp2_with (go_at_call 51; refine (HI.out _).mono ?_; rintro e w1x ⟨rfl, hw⟩; replace hw := hw.symm; subst hw)
    go_loopw [7, 8, 9] (fun nn dd i wr => ∃ k : Nat, k ≤ ls.length ∧ nn = .int .i64 ((sumK (fun i => hA (rw_ ls i) f) k).1 : Int) ∧ dd = .int .i64 ((sumK (fun i => hA (rw_ ls i) f) k).2 : Int) ∧ i = .int .i64 (k : Int) ∧ Hid (AllK (fun i => hA (rw_ ls i) f) k) ∧ Below w.heap.size w wr) (fun _ _ i _ => ls.length - (intOf i).toNat)
    case atStart => exact ⟨0, by omega, rfl, rfl, rfl, Lib.hid (AllK.zero _), Below.refl _ _⟩
    case round =>
      obtain ⟨k, hk, rfl, rfl, rfl, hall, hb⟩ := hrel
      by_cases hlt : k < ls.length
      · obtain ⟨b, off, B, c, hA0, hbl, c0, hI, hcc, hcm⟩ := (HA.out.kept hb (Nat.le_refl _)).at_ hlt
        subst hA0
        have hk0i : (0 : Int) ≤ (k : Int) := by omega
        have hk1i : (k : Int) < (ls.length : Int) := by omega
        have HCL := Lib.hid (shead_any B c (rw_ ls k) f wr hI (by omega))
        have hz := hb.size
        unfold HPost at HCL
        rcases HF.out k with e | ⟨x, y, e, hy0, hy9, hx9⟩
        · have hfin := Lib.hid (sumA_bad (F := fun i => hA (rw_ ls i) f) hlt (by rw [e]))
          rw [e] at HCL
          unfold Gives3 ret3 at HCL
          dsimp only at HCL
          generalize (sumK (fun i => hA (rw_ ls i) f) k).1 = nn at *
          generalize (sumK (fun i => hA (rw_ ls i) f) k).2 = dd at *
          generalize (rw_ ls k).length = n at *
          clear hI e
          go_wp2_with (go_at_call 22; refine HCL.out.mono ?_; rintro e w2 ⟨rfl, hb2⟩)
          go_ret3
          exact spost_of hfin.out (hb.trans (hb2.mono hz))
        · obtain ⟨n, d, e1, e2, hd0, hd9, hn9, _, _, hx6, m1, m2, m3, m4⟩ := sum_step (F := fun i => hA (rw_ ls i) f) HF.out (by omega) hall.out e
          have hnx := Lib.hid (hall.out.next (by rw [e]))
          have HL := Lib.hid (fun w => add_any n d x y w m4 m1 m2 m3)
          have HE2 := Lib.hid e2
          rw [e] at HCL
          rw [e1]
          unfold Gives3 ret3 at HCL
          dsimp only at HCL ⊢
          generalize (rw_ ls k).length = len at *
          generalize hu : sN n d x y = u at *
          generalize hv : sD n d x y = v at *
          clear hI e e1 e2 hu hv m1 m2 m3 m4
          go_wp2_with (first
            | (go_at_call 22; refine HCL.out.mono ?_; rintro e w2 ⟨rfl, hb2⟩)
            | (go_at_call 55; refine (HL.out _).mono ?_; rintro e w3 ⟨rfl, hb3⟩))
          go_roundw
          case rel => exact ⟨k + 1, by omega, by rw [HE2.out], by rw [HE2.out], by go_num, hnx, (hb.trans (hb2.mono hz)).trans (hb3.mono (Nat.le_trans hz hb2.size))⟩
          case measure => simp [intOf]; omega
      · have e : k = ls.length := by omega
        subst e
        have hfin := Lib.hid (sumA_yes hl0 hl9 hall.out)
        generalize (sumK (fun i => hA (rw_ ls i) f) ls.length).1 = nn at *
        generalize (sumK (fun i => hA (rw_ ls i) f) ls.length).2 = dd at *
        go_wp2
        go_ret3
        exact spost_of hfin.out hb
  | false =>
    have hl : ¬ (1 ≤ (ls.length : Int) ∧ (ls.length : Int) ≤ 4) := of_decide_eq_false hq
    have hfin := Lib.hid (sumA_len (F := fun i => hA (rw_ ls i) f) (n := ls.length) (by omega))
    clear hq hl
    go_enter Try.func20, Try.ntmps20
    go_wp2_with (go_at_call 51; refine (HI.out _).mono ?_; rintro e w1x ⟨rfl, hw⟩; replace hw := hw.symm; subst hw)
    go_ret3
    exact spost_of hfin.out (Below.refl _ _)
end Go.Proofs.Ytpldbakllegheab.S7
