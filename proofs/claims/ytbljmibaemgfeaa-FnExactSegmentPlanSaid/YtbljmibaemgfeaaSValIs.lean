/- Whether a network and its valves are valid, for the model: contracts. Conditions: each theorem's own premises. -/
import Derived.Test.YtbljmibaemgfeaaValFit
import Derived.Test.YtbljmibaemgfeaaNodeOne
import Derived.Deep.DeepCutAuto
namespace Go.Proofs.Ytbljmibaemgfeaa.S2
open Go.RowKit Go.Sort P2 P4

open Classical in
/-- The valve at k does not fit behind the one before it. -/
noncomputable def bad4 (ps : List Pp) (vs : List Vv) (k : Nat) : Bool := !decide (Fit ps (vAt vs k) ∧ (0 < k → (vAt vs (k - 1)).id < (vAt vs k).id))
theorem bad4_yes {ps : List Pp} {vs : List Vv} {k : Nat} (h : ¬ (Fit ps (vAt vs k) ∧ (0 < k → (vAt vs (k - 1)).id < (vAt vs k).id))) : bad4 ps vs k = true := by simp only [bad4, Bool.not_eq_true', decide_eq_false_iff_not]; exact h
theorem bad4_no {ps : List Pp} {vs : List Vv} {k : Nat} (h : Fit ps (vAt vs k) ∧ (0 < k → (vAt vs (k - 1)).id < (vAt vs k).id)) : bad4 ps vs k = false := by simp only [bad4, Bool.not_eq_false', decide_eq_true_eq]; exact h
theorem bad4_of {ps : List Pp} {vs : List Vv} {k : Nat} (h : bad4 ps vs k = false) : Fit ps (vAt vs k) ∧ (0 < k → (vAt vs (k - 1)).id < (vAt vs k).id) := by simpa only [bad4, Bool.not_eq_false', decide_eq_true_eq] using h
theorem bad4_not {ps : List Pp} {vs : List Vv} {k : Nat} (h : bad4 ps vs k = true) : ¬ VOk ps vs k := fun hv => by
  simp only [bad4, Bool.not_eq_true', decide_eq_false_iff_not] at h
  exact h ⟨hv.1, hv.2.1⟩
theorem find_fit {ps : List Pp} {v : Vv} {r : Int} (hs : ∀ i j, i < j → j < ps.length → (pAt ps i).id < (pAt ps j).id) (h : FindIs ps v.pp r) (hf : Fit ps v) : ∃ i : Nat, i < ps.length ∧ r = (i : Int) ∧ ((pAt ps i).fr = v.nd ∨ (pAt ps i).to = v.nd) := by
  obtain ⟨_, _, k, hk, hx, hn⟩ := hf
  rcases h with ⟨_, hno⟩ | ⟨i, hi, hr, hix, _⟩
  · exact absurd hx (hno k hk)
  · refine ⟨i, hi, hr, ?_⟩
    have e : k = i := by
      by_cases h1 : k < i
      · have := hs k i h1 hi; omega
      · by_cases h2 : i < k
        · have := hs i k h2 hk; omega
        · omega
    rw [← e]; exact hn
theorem take_has {vs : List Vv} {k : Nat} {p n : Int} (hk : k ≤ vs.length) (h : ∀ m, m < k → ¬ ((vAt vs m).pp = p ∧ (vAt vs m).nd = n)) : hasV (vs.take k) p n = false :=
  (hasV_no _ _ _).2 fun m hm => by
    rw [List.length_take] at hm
    rw [vAt_take vs k m (by omega)]
    exact h m (by omega)
theorem take_has' {vs : List Vv} {k m : Nat} {p n : Int} (hk : k ≤ vs.length) (hm : m < k) (h : (vAt vs m).pp = p ∧ (vAt vs m).nd = n) : hasV (vs.take k) p n = true :=
  (hasV_iff _ _ _).2 ⟨m, by rw [List.length_take]; omega, by rw [vAt_take vs k m hm]; exact h⟩

set_option maxHeartbeats 8000000 in
set_option maxRecDepth 100000 in
theorem sgoodv_any (n : Int) (A : Option Addr) (cap : Nat) (ps : List Pp) (AV : Option Addr) (capv : Nat) (vs : List Vv) (w : World) (h : PAt w A ps) (hm : ps.length ≤ maxLen) (hv : VAt w AV vs) (hmv : vs.length ≤ maxLen) :
    Calls Try.prog 101 #[nv n A ps.length cap, .slice AV vs.length capv] w fun e w' => e = .returned (.bool (goodV n ps vs)) ∧ Below w.heap.size w w' := by
  unfold maxLen at hmv
  obtain ⟨g, hg⟩ : ∃ g, goodB n ps = g := ⟨_, rfl⟩
  have HI := Lib.hid (fun w' (hb : Below w.heap.size w w') => sgood_v hg A cap w' (h.kept hb (Nat.le_refl _)) hm)
  have HGB := Lib.hid hg
  have HA := Lib.hid h
  have HV := Lib.hid hv
  clear h hv hm hg
  have hb0 : Below w.heap.size w (w.alloc (.cells #[.int .i64 n, .slice A ps.length cap] 32)) := (Below.refl _ _).alloc (Nat.le_refl _) _
  have HB0 := Lib.hid hb0
  clear hb0
  by_cases hbad : g = false ∨ 10 < vs.length
  · have HR := Lib.hid (show goodV n ps vs = false from goodV_no (fun h => by
      rcases hbad with e | e
      · rw [e] at HGB; have := HGB.out; rw [good_mk h.1] at this; cases this
      · have := h.2.1; omega))
    cases g with
    | false =>
      clear hbad
      go_enter Try.func101, Try.ntmps101
      go_wp2_with (go_at_call 157; refine (HI.out _ HB0.out).mono ?_; rintro e w1 ⟨rfl, hb1⟩)
      go_ret
      exact ⟨by rw [HR.out]; rfl, HB0.out.trans (hb1.mono (by simp))⟩
    | true =>
      have hlen : 10 < vs.length := by rcases hbad with h | h; cases h; exact h
      clear hbad
      go_enter Try.func101, Try.ntmps101
      go_wp2_with (go_at_call 157; refine (HI.out _ HB0.out).mono ?_; rintro e w1 ⟨rfl, hb1⟩)
      go_ret
      exact ⟨by rw [HR.out]; rfl, HB0.out.trans (hb1.mono (by simp))⟩
  · have hgt : g = true := by cases g with | true => rfl | false => exact absurd (.inl rfl) hbad
    have hlen : vs.length ≤ 10 := by omega
    subst hgt
    have HG := Lib.hid (good_of HGB.out)
    have hl10 := HG.out.2.2.1
    clear hbad HGB
    go_enter Try.func101, Try.ntmps101
    go_wp2_with (go_at_call 157; refine (HI.out _ HB0.out).mono ?_; rintro e w1 ⟨rfl, hb1⟩)
    have hB1 : Below (w.heap.size + 1) (w.alloc (.cells #[.int .i64 n, .slice A ps.length cap] 32)) w1 := by simpa using hb1
    clear hb1
    go_loopw [5] (fun i wr => ∃ k : Nat, k ≤ vs.length ∧ i = .int .i64 (k : Int) ∧ Hid (VTo ps vs k) ∧ Hid (Below (w.heap.size + 1) (w.alloc (.cells #[.int .i64 n, .slice A ps.length cap] 32)) wr)) (fun i _ => vs.length - (intOf i).toNat)
    case atStart => exact ⟨0, Nat.zero_le _, rfl, Lib.hid (VTo.zero _ _), Lib.hid hB1⟩
    case round =>
      clear hB1
      obtain ⟨k, hk, rfl, hvto, hbr⟩ := hrel
      by_cases hlt : k < vs.length
      · obtain ⟨b, off, hA, hbl, h0, h1, h2, h3⟩ := (HV.out.kept (below_box hbr.out) (Nat.le_refl _)).at_ hlt
        subst hA
        have hk0 : (0 : Int) ≤ (k : Int) := by omega
        have hkn : (k : Int) < (vs.length : Int) := by omega
        obtain ⟨b0, b1⟩ := box2 hbr.out
        have hz : w.heap.size < wr.heap.size := box_lt hbr.out
        obtain ⟨v, hv⟩ : ∃ v, v = vAt vs k := ⟨_, rfl⟩
        rw [← hv] at h0 h1 h2 h3
        have HVK := Lib.hid hv
        clear hv
        have HFD := Lib.hid (fun wx (hbx : Below wr.heap.size wr wx) => find_any n A cap ps v.pp wx (HA.out.kept ((below_box hbr.out).trans (hbx.mono (by omega))) (Nat.le_refl _)) (by omega))
        have hbW : Below wr.heap.size wr (wr.alloc (.cells #[.int .i64 v.id, .int .i64 v.pp, .int .i64 v.nd, .bool v.sh] 60)) := (Below.refl _ _).alloc (Nat.le_refl _) _
        have HBW := Lib.hid hbW
        clear hbW
        go_wp2_with (go_at_call 119; refine (HFD.out _ HBW.out).mono ?_; rintro e W ⟨⟨r, rfl, hfr⟩, hb2⟩; refine Hid.out ?_)
        have HFR := Lib.hid hfr
        have v0 : W.cell? ⟨wr.heap.size, 0, none⟩ = some (.int .i64 v.id) := (hb2.cell (p := ⟨wr.heap.size, 0, none⟩) (by simp)).trans (by go_simp)
        have v1 : W.cell? ⟨wr.heap.size, 1, none⟩ = some (.int .i64 v.pp) := (hb2.cell (p := ⟨wr.heap.size, 1, none⟩) (by simp)).trans (by go_simp)
        have v2 : W.cell? ⟨wr.heap.size, 2, none⟩ = some (.int .i64 v.nd) := (hb2.cell (p := ⟨wr.heap.size, 2, none⟩) (by simp)).trans (by go_simp)
        have HBX := Lib.hid (show Below wr.heap.size wr W from HBW.out.trans (hb2.mono (by simp)))
        have c0 := (HBX.out.cell (p := ⟨w.heap.size, 0, none⟩) hz).trans b0
        have c1 := (HBX.out.cell (p := ⟨w.heap.size, 1, none⟩) hz).trans b1
        have HBZ := Lib.hid (hbr.out.trans (HBX.out.mono (by omega)))
        have hzW : wr.heap.size < W.heap.size := by have := hb2.size; simp at this; omega
        have HIN := Lib.hid (fun u hu w => in_eq v.id 1 99 u hu w)
        clear hfr hb2 b0 b1 h0 h1 h2 h3
        refine Lib.hid ?_
        go_upto_region 8 with (fail)
        go_cut [75] (fun st wx => st = .bool (bad4 ps vs k) ∧ Hid (Below W.heap.size W wx))
        case first =>
          by_cases hin : 1 ≤ v.id ∧ v.id ≤ 99
          · have HD := Lib.hid (HIN.out true (by simpa using hin))
            by_cases hk00 : k = 0
            · subst hk00
              have HPV := Lib.hid (show 0 < 0 → (vAt vs (0 - 1)).id < (vAt vs 0).id from fun h => absurd h (by omega))
              rcases (show (r = -1 ∧ ∀ i, i < ps.length → (pAt ps i).id ≠ v.pp) ∨ ∃ i : Nat, i < ps.length ∧ r = (i : Int) ∧ (pAt ps i).id = v.pp from by rcases HFR.out with h | ⟨i, h1, h2, h3, _⟩; exact .inl h; exact .inr ⟨i, h1, h2, h3⟩) with ⟨rfl, hno⟩ | ⟨i, hi, rfl, hix⟩
              · have HBV := Lib.hid (show bad4 ps vs 0 = true from bad4_yes (fun h => by have h1 := h.1; rw [← HVK.out] at h1; obtain ⟨_, _, q, hq, hqx, _⟩ := h1; exact hno q hq hqx))
                clear hno hin
                go_quiet ((go_at_call 148; exact Calls.quiet_of_same (HD.out _)))
                go_wp2_with fail
                go_meet
                exact ⟨by rw [HBV.out], Lib.hid (below_drewN (Below.refl _ _) _)⟩
              · obtain ⟨pb, poff, hA2, hbl2, p0, p1, p2, p3⟩ := (HA.out.kept (below_box HBZ.out) (Nat.le_refl _)).at_ hi
                subst hA2
                have hi0 : (0 : Int) ≤ (i : Int) := by omega
                have hin2 : (i : Int) < (ps.length : Int) := by omega
                have hlt0 : decide ((i : Int) < 0) = false := by simp
                by_cases e1 : (pAt ps i).fr = v.nd
                · have HBV := Lib.hid (show bad4 ps vs 0 = false from bad4_no ⟨by rw [← HVK.out]; exact ⟨hin.1, hin.2, i, hi, hix, .inl e1⟩, HPV.out⟩)
                  have E1 : ((pAt ps i).fr != v.nd) = false := by simpa using e1
                  have E1b : ((pAt ps i).fr == v.nd) = true := by simpa using e1
                  clear e1 hix hin p0 p3
                  generalize (pAt ps i).fr = fr at *
                  generalize (pAt ps i).to = to_ at *
                  go_quiet ((go_at_call 148; exact Calls.quiet_of_same (HD.out _)))
                  go_wp2_with fail
                  go_meet
                  exact ⟨by rw [HBV.out], Lib.hid (below_drewN (Below.refl _ _) _)⟩
                · by_cases e2 : (pAt ps i).to = v.nd
                  · have HBV := Lib.hid (show bad4 ps vs 0 = false from bad4_no ⟨by rw [← HVK.out]; exact ⟨hin.1, hin.2, i, hi, hix, .inr e2⟩, HPV.out⟩)
                    have E1 : ((pAt ps i).fr != v.nd) = true := by simpa using e1
                    have E1b : ((pAt ps i).fr == v.nd) = false := by simpa using e1
                    have E2 : ((pAt ps i).to != v.nd) = false := by simpa using e2
                    have E2b : ((pAt ps i).to == v.nd) = true := by simpa using e2
                    clear e1 e2 hix hin p0 p3
                    generalize (pAt ps i).fr = fr at *
                    generalize (pAt ps i).to = to_ at *
                    go_quiet ((go_at_call 148; exact Calls.quiet_of_same (HD.out _)))
                    go_wp2_with fail
                    go_meet
                    exact ⟨by rw [HBV.out], Lib.hid (below_drewN (Below.refl _ _) _)⟩
                  · have HBV := Lib.hid (show bad4 ps vs 0 = true from bad4_yes (fun h => by have h1 := h.1; rw [← HVK.out] at h1; obtain ⟨q, hq, hqr, hqn⟩ := find_fit (good_ids HG.out) HFR.out h1; have eq : i = q := (by omega); subst eq; exact hqn.elim e1 e2))
                    have E1 : ((pAt ps i).fr != v.nd) = true := by simpa using e1
                    have E1b : ((pAt ps i).fr == v.nd) = false := by simpa using e1
                    have E2 : ((pAt ps i).to != v.nd) = true := by simpa using e2
                    have E2b : ((pAt ps i).to == v.nd) = false := by simpa using e2
                    clear e1 e2 hix hin p0 p3
                    generalize (pAt ps i).fr = fr at *
                    generalize (pAt ps i).to = to_ at *
                    go_quiet ((go_at_call 148; exact Calls.quiet_of_same (HD.out _)))
                    go_wp2_with fail
                    go_meet
                    exact ⟨by rw [HBV.out], Lib.hid (below_drewN (Below.refl _ _) _)⟩
            · obtain ⟨j, rfl⟩ : ∃ j, k = j + 1 := ⟨k - 1, by omega⟩
              obtain ⟨b', off', hA', hbl', g0, g1, g2, g3⟩ := (HV.out.kept (below_box HBZ.out) (Nat.le_refl _)).at_ (show j < vs.length by omega)
              simp only [Option.some.injEq, Addr.mk.injEq, and_true] at hA'
              obtain ⟨rfl, rfl⟩ := hA'
              have hj0 : (0 : Int) ≤ (j : Int) := by omega
              have hj1 : (j : Int) < (vs.length : Int) := by omega
              have HJ := Lib.hid (show vAt vs (j + 1 - 1) = vAt vs j by simp)
              clear g1 g2 g3 hbl'
              obtain ⟨u, hu⟩ : ∃ u, u = (vAt vs j).id := ⟨_, rfl⟩
              rw [← hu] at g0
              have HU := Lib.hid hu
              clear hu
              by_cases hlt2 : u < v.id
              · have hq' : ¬ v.id ≤ u := by omega
                have HPV := Lib.hid (show 0 < j + 1 → (vAt vs (j + 1 - 1)).id < (vAt vs (j + 1)).id from fun _ => by rw [HJ.out, ← HVK.out, ← HU.out]; exact hlt2)
                rcases (show (r = -1 ∧ ∀ i, i < ps.length → (pAt ps i).id ≠ v.pp) ∨ ∃ i : Nat, i < ps.length ∧ r = (i : Int) ∧ (pAt ps i).id = v.pp from by rcases HFR.out with h | ⟨i, h1, h2, h3, _⟩; exact .inl h; exact .inr ⟨i, h1, h2, h3⟩) with ⟨rfl, hno⟩ | ⟨i, hi, rfl, hix⟩
                · have HBV := Lib.hid (show bad4 ps vs (j + 1) = true from bad4_yes (fun h => by have h1 := h.1; rw [← HVK.out] at h1; obtain ⟨_, _, q, hq, hqx, _⟩ := h1; exact hno q hq hqx))
                  clear hno hin
                  go_quiet ((go_at_call 148; exact Calls.quiet_of_same (HD.out _)))
                  go_wp2_with fail
                  go_meet
                  exact ⟨by rw [HBV.out], Lib.hid (below_drewN (Below.refl _ _) _)⟩
                · obtain ⟨pb, poff, hA2, hbl2, p0, p1, p2, p3⟩ := (HA.out.kept (below_box HBZ.out) (Nat.le_refl _)).at_ hi
                  subst hA2
                  have hi0 : (0 : Int) ≤ (i : Int) := by omega
                  have hin2 : (i : Int) < (ps.length : Int) := by omega
                  have hlt0 : decide ((i : Int) < 0) = false := by simp
                  by_cases e1 : (pAt ps i).fr = v.nd
                  · have HBV := Lib.hid (show bad4 ps vs (j + 1) = false from bad4_no ⟨by rw [← HVK.out]; exact ⟨hin.1, hin.2, i, hi, hix, .inl e1⟩, HPV.out⟩)
                    have E1 : ((pAt ps i).fr != v.nd) = false := by simpa using e1
                    have E1b : ((pAt ps i).fr == v.nd) = true := by simpa using e1
                    clear e1 hix hin p0 p3
                    generalize (pAt ps i).fr = fr at *
                    generalize (pAt ps i).to = to_ at *
                    go_quiet ((go_at_call 148; exact Calls.quiet_of_same (HD.out _)))
                    go_wp2_with fail
                    go_meet
                    exact ⟨by rw [HBV.out], Lib.hid (below_drewN (Below.refl _ _) _)⟩
                  · by_cases e2 : (pAt ps i).to = v.nd
                    · have HBV := Lib.hid (show bad4 ps vs (j + 1) = false from bad4_no ⟨by rw [← HVK.out]; exact ⟨hin.1, hin.2, i, hi, hix, .inr e2⟩, HPV.out⟩)
                      have E1 : ((pAt ps i).fr != v.nd) = true := by simpa using e1
                      have E1b : ((pAt ps i).fr == v.nd) = false := by simpa using e1
                      have E2 : ((pAt ps i).to != v.nd) = false := by simpa using e2
                      have E2b : ((pAt ps i).to == v.nd) = true := by simpa using e2
                      clear e1 e2 hix hin p0 p3
                      generalize (pAt ps i).fr = fr at *
                      generalize (pAt ps i).to = to_ at *
                      go_quiet ((go_at_call 148; exact Calls.quiet_of_same (HD.out _)))
                      go_wp2_with fail
                      go_meet
                      exact ⟨by rw [HBV.out], Lib.hid (below_drewN (Below.refl _ _) _)⟩
                    · have HBV := Lib.hid (show bad4 ps vs (j + 1) = true from bad4_yes (fun h => by have h1 := h.1; rw [← HVK.out] at h1; obtain ⟨q, hq, hqr, hqn⟩ := find_fit (good_ids HG.out) HFR.out h1; have eq : i = q := (by omega); subst eq; exact hqn.elim e1 e2))
                      have E1 : ((pAt ps i).fr != v.nd) = true := by simpa using e1
                      have E1b : ((pAt ps i).fr == v.nd) = false := by simpa using e1
                      have E2 : ((pAt ps i).to != v.nd) = true := by simpa using e2
                      have E2b : ((pAt ps i).to == v.nd) = false := by simpa using e2
                      clear e1 e2 hix hin p0 p3
                      generalize (pAt ps i).fr = fr at *
                      generalize (pAt ps i).to = to_ at *
                      go_quiet ((go_at_call 148; exact Calls.quiet_of_same (HD.out _)))
                      go_wp2_with fail
                      go_meet
                      exact ⟨by rw [HBV.out], Lib.hid (below_drewN (Below.refl _ _) _)⟩
              · have hq' : v.id ≤ u := by omega
                have HBV := Lib.hid (show bad4 ps vs (j + 1) = true from bad4_yes (fun h => by have h2 := h.2 (by omega); rw [HJ.out, ← HVK.out, ← HU.out] at h2; exact hlt2 h2))
                clear hin
                go_quiet ((go_at_call 148; exact Calls.quiet_of_same (HD.out _)))
                go_wp2_with fail
                go_meet
                exact ⟨by rw [HBV.out], Lib.hid (below_drewN (Below.refl _ _) _)⟩
          · have HD := Lib.hid (HIN.out false (by simpa using hin))
            have HBV := Lib.hid (show bad4 ps vs k = true from bad4_yes (fun h => by have h1 := h.1; rw [← HVK.out] at h1; exact hin ⟨h1.1, h1.2.1⟩))
            go_quiet ((go_at_call 148; exact Calls.quiet_of_same (HD.out _)))
            go_wp2_with fail
            go_meet
            exact ⟨by rw [HBV.out], Lib.hid (below_drewN (Below.refl _ _) _)⟩
        case rest =>
          obtain ⟨rfl, hbc⟩ := hcut
          have v1c := (hbc.out.cell (p := ⟨wr.heap.size, 1, none⟩) hzW).trans v1
          have v2c := (hbc.out.cell (p := ⟨wr.heap.size, 2, none⟩) hzW).trans v2
          have HBZ2 := Lib.hid (HBZ.out.trans (hbc.out.mono (by omega)))
          have hzc : wr.heap.size < wc.heap.size := by have := hbc.out.size; omega
          obtain ⟨bd, hbd⟩ : ∃ bd, bad4 ps vs k = bd := ⟨_, rfl⟩
          rw [hbd]
          have HBD := Lib.hid hbd
          clear hbd v0 v1 v2 c0 c1 HBX HBZ hbc
          cases bd with
          | true =>
            have HR := Lib.hid (show goodV n ps vs = false from goodV_no (VTo.bad hlt (bad4_not HBD.out)))
            go_wp2_with fail
            go_ret
            exact ⟨by rw [HR.out]; rfl, below_box HBZ2.out⟩
          | false =>
            obtain ⟨wo, rfl⟩ : ∃ wo : World, wo = wr := ⟨_, rfl⟩
            go_wp2_with fail
            go_loopw [8] (fun m wr2 => ∃ j : Nat, j ≤ k ∧ m = .int .i64 (j : Int) ∧ Hid (∀ m, m < j → ¬ ((vAt vs m).pp = v.pp ∧ (vAt vs m).nd = v.nd)) ∧ Hid (Below wc.heap.size wc wr2)) (fun m _ => k - (intOf m).toNat)
            case atStart => exact ⟨0, Nat.zero_le _, rfl, Lib.hid (fun m hm => absurd hm (by omega)), Lib.hid (Below.refl _ _)⟩
            case round =>
              obtain ⟨j, hj, rfl, hno, hb4⟩ := hrel
              by_cases hjk : j < k
              · obtain ⟨b', off', hA', hbl', g0, g1, g2, g3⟩ := (HV.out.kept ((below_box HBZ2.out).trans (hb4.out.mono (by omega))) (Nat.le_refl _)).at_ (show j < vs.length by omega)
                simp only [Option.some.injEq, Addr.mk.injEq, and_true] at hA'
                obtain ⟨rfl, rfl⟩ := hA'
                have hj0 : (0 : Int) ≤ (j : Int) := by omega
                have hj1 : (j : Int) < (vs.length : Int) := by omega
                have hjk1 : (j : Int) < (k : Int) := by omega
                have d1 := (hb4.out.cell (p := ⟨wo.heap.size, 1, none⟩) hzc).trans v1c
                have d2 := (hb4.out.cell (p := ⟨wo.heap.size, 2, none⟩) hzc).trans v2c
                clear g0 g3
                by_cases e1 : (vAt vs j).pp = v.pp
                · by_cases e2 : (vAt vs j).nd = v.nd
                  · have HR := Lib.hid (show goodV n ps vs = false from goodV_no (VTo.bad hlt (fun h => by have h3 := h.2.2; rw [← HVK.out, take_has' hk hjk ⟨e1, e2⟩] at h3; cases h3)))
                    have E1 : ((vAt vs j).pp == v.pp) = true := by simpa using e1
                    have E2 : ((vAt vs j).nd == v.nd) = true := by simpa using e2
                    clear e1 e2
                    generalize (vAt vs j).pp = pj at *
                    generalize (vAt vs j).nd = nj at *
                    go_wp2_with fail
                    go_quiet (fail)
                    go_wp2_with fail
                    go_ret
                    exact ⟨by rw [HR.out]; rfl, below_box (HBZ2.out.trans ((below_drewN hb4.out _).mono (by omega)))⟩
                  · have hno2 := Lib.hid (show ∀ m, m < j + 1 → ¬ ((vAt vs m).pp = v.pp ∧ (vAt vs m).nd = v.nd) from fun m hm => by
                      by_cases e : m = j
                      · subst e; exact fun h => e2 h.2
                      · exact hno.out m (by omega))
                    have E1 : ((vAt vs j).pp == v.pp) = true := by simpa using e1
                    have E2 : ((vAt vs j).nd == v.nd) = false := by simpa using e2
                    clear e1 e2
                    generalize (vAt vs j).pp = pj at *
                    generalize (vAt vs j).nd = nj at *
                    go_wp2_with fail
                    go_quiet (fail)
                    go_wp2_with fail
                    go_roundw
                    case rel => exact ⟨j + 1, by omega, by go_num, hno2, Lib.hid (below_drewN hb4.out _)⟩
                    case measure => simp [intOf]; omega
                · have hno2 := Lib.hid (show ∀ m, m < j + 1 → ¬ ((vAt vs m).pp = v.pp ∧ (vAt vs m).nd = v.nd) from fun m hm => by
                    by_cases e : m = j
                    · subst e; exact fun h => e1 h.1
                    · exact hno.out m (by omega))
                  have E1 : ((vAt vs j).pp == v.pp) = false := by simpa using e1
                  clear e1
                  generalize (vAt vs j).pp = pj at *
                  generalize (vAt vs j).nd = nj at *
                  go_wp2_with fail
                  go_quiet (fail)
                  go_wp2_with fail
                  go_roundw
                  case rel => exact ⟨j + 1, by omega, by go_num, hno2, Lib.hid (below_drewN hb4.out _)⟩
                  case measure => simp [intOf]; omega
              · have hjk2 : j = k := by omega
                subst hjk2
                have hkk : ¬ j < j := by omega
                have HN := Lib.hid (hvto.out.next ⟨(bad4_of HBD.out).1, (bad4_of HBD.out).2, by rw [← HVK.out]; exact take_has hk hno.out⟩)
                go_wp2_with fail
                go_roundw
                case rel => exact ⟨j + 1, by omega, by go_num, HN, Lib.hid (HBZ2.out.trans (hb4.out.mono (by omega)))⟩
                case measure => simp [intOf]; omega
      · have HR := Lib.hid (goodV_mk (n := n) (ps := ps) (vs := vs) ⟨HG.out, hlen, by have := hvto.out; rwa [show k = vs.length by omega] at this⟩)
        go_wp2_with fail
        go_ret
        exact ⟨by rw [HR.out]; rfl, below_box hbr.out⟩

theorem svalidv_any (n : Int) (A : Option Addr) (cap : Nat) (ps : List Pp) (AV : Option Addr) (capv : Nat) (vs : List Vv) (w : World) (h : PAt w A ps) (hm : ps.length ≤ maxLen) (hv : VAt w AV vs) (hmv : vs.length ≤ maxLen) :
    Calls Try.prog 59 #[nv n A ps.length cap, .slice AV vs.length capv] w fun e w' => e = .returned (.bool (goodV n ps vs)) ∧ Below w.heap.size w w' := by
  have H := Lib.hid (fun w' (hb : Below w.heap.size w w') => sgoodv_any n A cap ps AV capv vs w' (h.kept hb (Nat.le_refl _)) hm (hv.kept hb (Nat.le_refl _)) hmv)
  clear h hm hv hmv
  go_enter Try.func59, Try.ntmps59
  go_wp2_with (go_at_call 101; refine (H.out _ ((Below.refl _ _).alloc (Nat.le_refl _) _)).mono ?_; rintro e w1 ⟨rfl, hb1⟩)
  go_ret
  exact ⟨rfl, ((Below.refl _ _).alloc (Nat.le_refl _) _).trans (hb1.mono (by simp))⟩
end Go.Proofs.Ytbljmibaemgfeaa.S2
