/- Whether a network is valid, for the model: contracts. Conditions: each theorem's own premises. -/
import Derived.Test.YtlkomipjamelkabGoodOne
namespace Go.Proofs.Ytlkomipjamelkab.S2
open Go.RowKit P2

theorem in_eq (x a b : Int) (v : Bool) (h : decide (a ≤ x ∧ x ≤ b) = v) (w : World) :
    Calls Try.prog 116 #[.int .i64 x, .int .i64 a, .int .i64 b] w fun e w' => e = .returned (.bool v) ∧ w' = w := by
  rw [← h]; exact in_any x a b w

set_option maxHeartbeats 2000000 in
theorem sgood_any (n : Int) (A : Option Addr) (cap : Nat) (ps : List Pp) (w : World) (h : PAt w A ps) (hm : ps.length ≤ maxLen) :
    Calls Try.prog 104 #[nv n A ps.length cap] w (GoodPost n ps w) := by
  unfold maxLen at hm
  have HA := Lib.hid h
  clear h
  have hin : ∃ v, decide (1 ≤ n ∧ n ≤ 8) = v := ⟨_, rfl⟩
  obtain ⟨vn, hvn⟩ := hin
  have HI := Lib.hid (in_eq n 1 8 vn hvn)
  have HV := Lib.hid hvn
  clear hvn
  go_enter Try.func104, Try.ntmps104
  go_wp2
  go_loopw [3] (fun i wr => ∃ k : Nat, k ≤ ps.length ∧ k ≤ 11 ∧ i = .int .i64 k ∧ Hid (OkTo n ps k) ∧ Below (w.heap.size + 1) (w.alloc (.cells #[.int .i64 n, .slice A ps.length cap] 26)) wr) (fun i _ => ps.length - (intOf i).toNat)
  case atStart => exact ⟨0, Nat.zero_le _, by omega, rfl, Lib.hid (OkTo.zero _ _), Below.refl _ _⟩
  case round =>
    obtain ⟨k, hk, hk11, rfl, hok, hb⟩ := hrel
    have hz : w.heap.size < wr.heap.size := by have := hb.size; simp at this; omega
    have hz' : w.heap.size ≤ wr.heap.size := by omega
    by_cases hlt : k < ps.length ∧ k ≤ 10
    · obtain ⟨hlt, hk10⟩ := hlt
      obtain ⟨b, off, hA, hbl, h0, h1, h2, h3⟩ := HA.out.at_ hlt
      subst hA
      obtain ⟨hc, hf⟩ := bcell (W := w.alloc (.cells #[.int .i64 n, .slice (some ⟨b, off, none⟩) ps.length cap] 26)) (by simpa using hb)
      have hbw : b < wr.heap.size := by omega
      have hb' : b ≤ wr.heap.size := by omega
      have hG := @cell_g
      have hcl := Lib.hid (fun (w1 : World) (h1 : Below wr.heap.size wr w1) => hb.trans (h1.mono (by omega)))
      have hk0i : (0 : Int) ≤ (k : Int) := by omega
      have hk1i : (k : Int) < (ps.length : Int) := by omega
      by_cases hfit : fitB n (pAt ps k) = true
      · have H1 := Lib.hid (sfits_yes (pAt ps k) n hfit)
        have hnext := Lib.hid (fun hq => OkTo.next hok.out hlt (of_decide_eq_true hfit) hq)
        have hbad := Lib.hid (fun hq => good_no (OkTo.bad (n := n) hlt (.inr hq)))
        clear hfit
        by_cases hk0 : k = 0
        · subst hk0
          simp only [Nat.zero_mul, Nat.add_zero] at h0 h1 h2 h3
          have hok1 := Lib.hid (hnext.out (fun h => absurd h (by omega)))
          clear hbad hnext
          generalize pAt ps 0 = p at *
          go_wp2
          refine region_below (by kernel_rfl) (by kernel_rfl) ?_
          repeat (first | go_big_quiet_step ((go_at_call 151; exact met H1.out)))
          refine wpQuiet_nil ?_
          intro w1 hb1
          go_wp2
          go_roundw
          case rel => exact ⟨1, by omega, by omega, by go_num, hok1, hcl.out _ hb1⟩
          case measure => simp [intOf]; omega
        · obtain ⟨j, rfl⟩ : ∃ j, k = j + 1 := ⟨k - 1, by omega⟩
          obtain ⟨b', off', hA', hbl', g0, g1, g2, g3⟩ := HA.out.at_ (show j < ps.length by omega)
          simp only [Option.some.injEq, Addr.mk.injEq, and_true] at hA'
          obtain ⟨rfl, rfl⟩ := hA'
          have hj0 : (0 : Int) ≤ (j : Int) := by omega
          have hj1 : (j : Int) < (ps.length : Int) := by omega
          by_cases hq : (pAt ps j).id < (pAt ps (j + 1)).id
          · have hok1 := Lib.hid (hnext.out (fun _ => by simpa using hq))
            have hq' : ¬ (pAt ps (j + 1)).id ≤ (pAt ps j).id := by omega
            clear hbad hnext
            generalize pAt ps (j + 1) = p at *
            clear g1 g2 g3 hbl'
            generalize pAt ps j = q at *
            go_wp2
            refine region_below (by kernel_rfl) (by kernel_rfl) ?_
            repeat (first | go_big_quiet_step ((go_at_call 151; exact met H1.out)))
            refine wpQuiet_nil ?_
            intro w1 hb1
            go_wp2
            go_roundw
            case rel => exact ⟨j + 2, by omega, by omega, by go_num, hok1, hcl.out _ hb1⟩
            case measure => simp [intOf]; omega
          · have hfin := Lib.hid (hbad.out ⟨by omega, by simpa using (by omega : (pAt ps (j + 1)).id ≤ (pAt ps j).id)⟩)
            have hq' : (pAt ps (j + 1)).id ≤ (pAt ps j).id := by omega
            clear hbad hnext hq
            generalize pAt ps (j + 1) = p at *
            clear g1 g2 g3 hbl'
            generalize pAt ps j = q at *
            go_wp2
            refine region_below (by kernel_rfl) (by kernel_rfl) ?_
            repeat (first | go_big_quiet_step ((go_at_call 151; exact met H1.out)))
            refine wpQuiet_nil ?_
            intro w1 hb1
            go_wp2
            go_ret
            exact good_post hfin.out (below_box (hcl.out _ hb1))
      · rw [Bool.not_eq_true] at hfit
        have H1 := Lib.hid (sfits_no (pAt ps k) n hfit)
        have hfin := Lib.hid (good_no (OkTo.bad (n := n) hlt (.inl (of_decide_eq_false hfit))))
        clear hfit
        generalize pAt ps k = p at *
        go_wp2
        refine region_below (by kernel_rfl) (by kernel_rfl) ?_
        repeat (first | go_big_quiet_step ((go_at_call 151; exact met H1.out)))
        refine wpQuiet_nil ?_
        intro w1 hb1
        go_wp2
        go_ret
        exact good_post hfin.out (below_box (hcl.out _ hb1))
    · obtain ⟨hc, hf⟩ := bcell (W := w.alloc (.cells #[.int .i64 n, .slice A ps.length cap] 26)) (by simpa using hb)
      have hlen : ∀ v, decide (ps.length ≤ 10) = v → (vn && v) = goodB n ps := by
        intro v hv
        have h1 := HV.out
        by_cases h8 : 1 ≤ n ∧ n ≤ 8
        · by_cases h10 : ps.length ≤ 10
          · rw [good_mk (n := n) (ps := ps) ⟨h8.1, h8.2, h10, by have := hok.out; rwa [show k = ps.length by omega] at this⟩, ← hv, ← h1]; simp [h8, h10]
          · rw [good_no (n := n) (ps := ps) (fun h => h10 h.2.2.1), ← hv]; simp [h10]
        · rw [good_no (n := n) (ps := ps) (fun h => h8 ⟨h.1, h.2.1⟩), ← h1]; simp [h8]
      have HL := Lib.hid hlen
      clear hlen
      by_cases h10 : ps.length ≤ 10
      · have hfin := Lib.hid (HL.out true (by simpa using h10))
        have hkl : ¬ k < ps.length := by omega
        clear hlt
        cases vn
        · go_wp2_with (go_at_call 116; refine (HI.out _).mono ?_; rintro e w' ⟨rfl, rfl⟩)
          go_ret
          exact good_post hfin.out.symm (below_box hb)
        · go_wp2_with (go_at_call 116; refine (HI.out _).mono ?_; rintro e w' ⟨rfl, rfl⟩)
          go_ret
          exact good_post (hfin.out.symm.trans (by simp; omega)) (below_box hb)
      · have hfin := Lib.hid (HL.out false (by simpa using h10))
        by_cases hkl : k < ps.length
        · have hk10 : ¬ k ≤ 10 := fun h => hlt ⟨hkl, h⟩
          clear hlt
          cases vn
          · go_wp2_with (go_at_call 116; refine (HI.out _).mono ?_; rintro e w' ⟨rfl, rfl⟩)
            go_ret
            exact good_post hfin.out.symm (below_box hb)
          · go_wp2_with (go_at_call 116; refine (HI.out _).mono ?_; rintro e w' ⟨rfl, rfl⟩)
            go_ret
            exact good_post (hfin.out.symm.trans (by simp; omega)) (below_box hb)
        · clear hlt
          cases vn
          · go_wp2_with (go_at_call 116; refine (HI.out _).mono ?_; rintro e w' ⟨rfl, rfl⟩)
            go_ret
            exact good_post hfin.out.symm (below_box hb)
          · go_wp2_with (go_at_call 116; refine (HI.out _).mono ?_; rintro e w' ⟨rfl, rfl⟩)
            go_ret
            exact good_post (hfin.out.symm.trans (by simp; omega)) (below_box hb)

end Go.Proofs.Ytlkomipjamelkab.S2
