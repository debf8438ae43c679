/- Whether a network and its valves are valid, for the program: contracts. Conditions: each theorem's own premises. -/
import Derived.Test.YtbljmibaemgfeaaValFit
import Derived.Deep.DeepCutAuto
namespace Go.Proofs.Ytbljmibaemgfeaa.S2
open Go.RowKit Go.Sort P2 P4


theorem gvals_bad {n : Int} {ps : List Pp} {vs : List Vv} {k : Nat} (hk : k < vs.length) (h : ¬ VOk ps vs k) : goodV n ps vs = false := goodV_no (VTo.bad hk h)

set_option maxHeartbeats 8000000 in
set_option maxRecDepth 100000 in
theorem validv_any (n : Int) (A : Option Addr) (cap : Nat) (ps : List Pp) (AV : Option Addr) (capv : Nat) (vs : List Vv) (w : World) (h : PAt w A ps) (hm : ps.length ≤ maxLen) (hv : VAt w AV vs) (hmv : vs.length ≤ maxLen) (hcv : vs.length ≤ capv) (hcm : capv ≤ maxLen) :
    Calls Try.prog 58 #[nv n A ps.length cap, .slice AV vs.length capv] w fun e w' => e = .returned (.bool (goodV n ps vs)) ∧ Below w.heap.size w w' := by
  unfold maxLen at hmv hcm
  obtain ⟨g, hg⟩ : ∃ g, goodB n ps = g := ⟨_, rfl⟩
  have HI := Lib.hid (fun w' (hb : Below w.heap.size w w') => valid_v hg A cap w' (h.kept hb (Nat.le_refl _)) hm)
  have HGB := Lib.hid hg
  have HA := Lib.hid h
  have HV := Lib.hid hv
  clear h hv hm hg
  have hb0 : Below w.heap.size w (w.alloc (.cells #[.int .i64 n, .slice A ps.length cap] 32)) := (Below.refl _ _).alloc (Nat.le_refl _) _
  have HB0 := Lib.hid hb0
  clear hb0
  by_cases hbad : g = false ∨ 10 < vs.length
  · have HR := Lib.hid (show goodV n ps vs = false from goodV_no (fun h => by
      rcases hbad with e | e
      · rw [e] at HGB; have := HGB.out; rw [good_mk h.1] at this; cases this
      · have := h.2.1; omega))
    cases g with
    | false =>
      clear hbad
      go_enter Try.func58, Try.ntmps58
      go_wp2_with (go_at_call 125; refine (HI.out _ HB0.out).mono ?_; rintro e w1 ⟨rfl, hb1⟩)
      go_ret
      exact ⟨by rw [HR.out]; rfl, HB0.out.trans (hb1.mono (by simp))⟩
    | true =>
      have hlen : 10 < vs.length := by rcases hbad with h | h; cases h; exact h
      clear hbad
      go_enter Try.func58, Try.ntmps58
      go_wp2_with (go_at_call 125; refine (HI.out _ HB0.out).mono ?_; rintro e w1 ⟨rfl, hb1⟩)
      go_ret
      exact ⟨by rw [HR.out]; rfl, HB0.out.trans (hb1.mono (by simp))⟩
  · have hgt : g = true := by cases g with | true => rfl | false => exact absurd (.inl rfl) hbad
    have hlen : vs.length ≤ 10 := by omega
    subst hgt
    have HG := Lib.hid (good_of HGB.out)
    clear hbad HGB
    go_enter Try.func58, Try.ntmps58
    go_wp2_with (go_at_call 125; refine (HI.out _ HB0.out).mono ?_; rintro e w1 ⟨rfl, hb1⟩)
    have hB1 : Below (w.heap.size + 1) (w.alloc (.cells #[.int .i64 n, .slice A ps.length cap] 32)) w1 := by simpa using hb1
    clear hb1
    go_loopw [17] (fun i wr => ∃ k : Nat, k ≤ vs.length ∧ i = .int .i64 (k : Int) ∧ Hid (VTo ps vs k) ∧ Hid (Below (w.heap.size + 1) (w.alloc (.cells #[.int .i64 n, .slice A ps.length cap] 32)) wr)) (fun i _ => vs.length - (intOf i).toNat)
    case atStart => exact ⟨0, Nat.zero_le _, rfl, Lib.hid (VTo.zero _ _), Lib.hid hB1⟩
    case round =>
      clear hB1
      obtain ⟨k, hk, rfl, hto, hbr⟩ := hrel
      by_cases hlt : k < vs.length
      · obtain ⟨b, off, hA, hbl, h0, h1, h2, h3⟩ := (HV.out.kept (below_box hbr.out) (Nat.le_refl _)).at_ hlt
        subst hA
        have hk0 : (0 : Int) ≤ (k : Int) := by omega
        have hkn : (k : Int) < (vs.length : Int) := by omega
        have hkc : (k : Int) ≤ (capv : Int) := by omega
        have hkc2 : k ≤ capv := by omega
        obtain ⟨b0, b1⟩ := box2 hbr.out
        have hz : w.heap.size < wr.heap.size := box_lt hbr.out
        obtain ⟨v, hv⟩ : ∃ v, v = vAt vs k := ⟨_, rfl⟩
        rw [← hv] at h0 h1 h2 h3
        have HVK := Lib.hid hv
        clear hv
        go_upto_region 6 with (fail)
        obtain ⟨W, hW⟩ : ∃ W, W = wr.alloc (.cells #[.int .i64 v.id, .int .i64 v.pp, .int .i64 v.nd, .bool v.sh] 60) := ⟨_, rfl⟩
        have hbW : Below wr.heap.size wr W := by rw [hW]; exact (Below.refl _ _).alloc (Nat.le_refl _) _
        have hzW : W.heap.size = wr.heap.size + 1 := by rw [hW]; simp
        have v0 : W.cell? ⟨wr.heap.size, 0, none⟩ = some (.int .i64 v.id) := by rw [hW]; go_simp
        have v1 : W.cell? ⟨wr.heap.size, 1, none⟩ = some (.int .i64 v.pp) := by rw [hW]; go_simp
        have v2 : W.cell? ⟨wr.heap.size, 2, none⟩ = some (.int .i64 v.nd) := by rw [hW]; go_simp
        have v3 : W.cell? ⟨wr.heap.size, 3, none⟩ = some (.bool v.sh) := by rw [hW]; go_simp
        have c0 := (hbW.cell (p := ⟨w.heap.size, 0, none⟩) hz).trans b0
        have c1 := (hbW.cell (p := ⟨w.heap.size, 1, none⟩) hz).trans b1
        rw [← hW]
        have HBW := Lib.hid (below_box (hbr.out.trans (hbW.mono (by omega))))
        have HBW2 := Lib.hid (hbr.out.trans (hbW.mono (by omega)))
        have hlW : w.heap.size < W.heap.size := by omega
        have hlW2 : wr.heap.size < W.heap.size := by omega
        have hbWl : b < W.heap.size := by omega
        have HF := Lib.hid (fun wx (hbx : Below W.heap.size W wx) => vfits_any n A cap ps v wx (HA.out.kept (HBW.out.trans (hbx.mono (by omega))) (Nat.le_refl _)) HG.out)
        have hlk : (vs.take k).length = k := by rw [List.length_take]; omega
        have HH := Lib.hid (fun wx (hbx : Below W.heap.size W wx) => by
          have := hasv_any (some ⟨b, off, none⟩) capv (vs.take k) v.pp v.nd wx ((HV.out.take k).kept (HBW.out.trans (hbx.mono (by omega))) (Nat.le_refl _)) (by omega)
          rwa [hlk] at this)
        have HZ := Lib.hid hzW
        obtain ⟨f, hf⟩ : ∃ f, P4.fitB ps v = f := ⟨_, rfl⟩
        rw [hf] at HF
        have HFF := Lib.hid hf
        obtain ⟨q, hq⟩ : ∃ q, hasV (vs.take k) v.pp v.nd = q := ⟨_, rfl⟩
        rw [hq] at HH
        have HQ := Lib.hid hq
        clear hf hq hlk hzW hbW hW b0 b1 h0 h1 h2 h3
        have hG := @cell_g
        cases f with
        | false =>
          have HR := Lib.hid (gvals_bad (n := n) (ps := ps) hlt (fun h => fit_not HFF.out (by rw [HVK.out]; exact h.1)))
          refine region_below (by kernel_rfl) (by kernel_rfl) ?_
          repeat (first | go_big_quiet_step ((first | (go_at_call 126; exact met_at HF.out) | (go_at_call 127; exact met_at HH.out))))
          refine wpQuiet_nil ?_
          intro w2 hb2
          clear hG
          go_wp2_with fail
          go_ret
          exact ⟨by rw [HR.out]; rfl, HBW.out.trans (hb2.mono (by omega))⟩
        | true =>
          by_cases hk00 : k = 0
          · subst hk00
            cases q with
            | true =>
              have HR := Lib.hid (gvals_bad (n := n) (ps := ps) hlt (fun h => by have h2 := h.2.2; rw [← HVK.out, HQ.out] at h2; cases h2))
              refine region_below (by kernel_rfl) (by kernel_rfl) ?_
              repeat (first | go_big_quiet_step ((first | (go_at_call 126; exact met_at HF.out) | (go_at_call 127; exact met_at HH.out))))
              refine wpQuiet_nil ?_
              intro w2 hb2
              clear hG
              go_wp2_with fail
              go_ret
              exact ⟨by rw [HR.out]; rfl, HBW.out.trans (hb2.mono (by omega))⟩
            | false =>
              have HN := Lib.hid (hto.out.next ⟨by rw [← HVK.out]; exact fit_of HFF.out, fun h => by omega, by rw [← HVK.out]; exact HQ.out⟩)
              refine region_below (by kernel_rfl) (by kernel_rfl) ?_
              repeat (first | go_big_quiet_step ((first | (go_at_call 126; exact met_at HF.out) | (go_at_call 127; exact met_at HH.out))))
              refine wpQuiet_nil ?_
              intro w2 hb2
              clear hG
              go_wp2_with fail
              go_roundw
              case rel => exact ⟨1, by omega, by go_num, HN, Lib.hid (HBW2.out.trans (hb2.mono (by have := HZ.out; omega)))⟩
              case measure => simp [intOf]; omega
          · obtain ⟨j, rfl⟩ : ∃ j, k = j + 1 := ⟨k - 1, by omega⟩
            obtain ⟨b', off', hA', hbl', g0, g1, g2, g3⟩ := (HV.out.kept HBW.out (Nat.le_refl _)).at_ (show j < vs.length by omega)
            simp only [Option.some.injEq, Addr.mk.injEq, and_true] at hA'
            obtain ⟨rfl, rfl⟩ := hA'
            have hj0 : (0 : Int) ≤ (j : Int) := by omega
            have hj1 : (j : Int) < (vs.length : Int) := by omega
            have HJ := Lib.hid (show vAt vs (j + 1 - 1) = vAt vs j by simp)
            clear g1 g2 g3 hbl'
            obtain ⟨u, hu⟩ : ∃ u, u = (vAt vs j).id := ⟨_, rfl⟩
            rw [← hu] at g0
            have HU := Lib.hid hu
            clear hu
            by_cases hlt2 : u < v.id
            · have hq' : ¬ v.id ≤ u := by omega
              cases q with
              | true =>
                have HR := Lib.hid (gvals_bad (n := n) (ps := ps) hlt (fun h => by have h2 := h.2.2; rw [← HVK.out, HQ.out] at h2; cases h2))
                refine region_below (by kernel_rfl) (by kernel_rfl) ?_
                repeat (first | go_big_quiet_step ((first | (go_at_call 126; exact met_at HF.out) | (go_at_call 127; exact met_at HH.out))))
                refine wpQuiet_nil ?_
                intro w2 hb2
                clear hG
                go_wp2_with fail
                go_ret
                exact ⟨by rw [HR.out]; rfl, HBW.out.trans (hb2.mono (by omega))⟩
              | false =>
                have HN := Lib.hid (hto.out.next ⟨by rw [← HVK.out]; exact fit_of HFF.out, fun _ => by rw [HJ.out, ← HVK.out, ← HU.out]; exact hlt2, by rw [← HVK.out]; exact HQ.out⟩)
                refine region_below (by kernel_rfl) (by kernel_rfl) ?_
                repeat (first | go_big_quiet_step ((first | (go_at_call 126; exact met_at HF.out) | (go_at_call 127; exact met_at HH.out))))
                refine wpQuiet_nil ?_
                intro w2 hb2
                clear hG
                go_wp2_with fail
                go_roundw
                case rel => exact ⟨j + 2, by omega, by go_num, HN, Lib.hid (HBW2.out.trans (hb2.mono (by have := HZ.out; omega)))⟩
                case measure => simp [intOf]; omega
            · have hq' : v.id ≤ u := by omega
              have HR := Lib.hid (gvals_bad (n := n) (ps := ps) hlt (fun h => by have h2 := h.2.1 (by omega); rw [HJ.out, ← HVK.out, ← HU.out] at h2; exact hlt2 h2))
              refine region_below (by kernel_rfl) (by kernel_rfl) ?_
              repeat (first | go_big_quiet_step ((first | (go_at_call 126; exact met_at HF.out) | (go_at_call 127; exact met_at HH.out))))
              refine wpQuiet_nil ?_
              intro w2 hb2
              clear hG
              go_wp2_with fail
              go_ret
              exact ⟨by rw [HR.out]; rfl, HBW.out.trans (hb2.mono (by omega))⟩
      · have HR := Lib.hid (goodV_mk (n := n) (ps := ps) (vs := vs) ⟨HG.out, hlen, by have := hto.out; rwa [show k = vs.length by omega] at this⟩)
        go_wp2_with fail
        go_ret
        exact ⟨by rw [HR.out]; rfl, below_box hbr.out⟩
end Go.Proofs.Ytbljmibaemgfeaa.S2
