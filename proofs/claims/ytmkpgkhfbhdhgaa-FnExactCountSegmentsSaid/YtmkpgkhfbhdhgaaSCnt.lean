/- CountSegments of the model: contracts. Conditions: each theorem's own premises. -/
import Derived.Test.YtmkpgkhfbhdhgaaCnt
import Derived.Test.YtmkpgkhfbhdhgaaSSeg
namespace Go.Proofs.Ytmkpgkhfbhdhgaa.S2
open Go.RowKit Go.Sort P2 P4

set_option maxHeartbeats 2000000 in
set_option maxRecDepth 100000 in
theorem scnt_no (n : Int) (A : Option Addr) (cap : Nat) (ps : List Pp) (AV : Option Addr) (capv : Nat) (vs : List Vv) (w : World) (h : PAt w A ps) (hm : ps.length ≤ maxLen) (hv : VAt w AV vs) (hmv : vs.length ≤ maxLen) (hb : goodV n ps vs = false) :
    Calls Try.prog 31 #[nv n A ps.length cap, .slice AV vs.length capv] w fun e w' => e = .returned (.tuple #[.int .i64 0, .bool false]) ∧ Below w.heap.size w w' := by
  have H := Lib.hid (fun w' (hb' : Below w.heap.size w w') => sgoodv_v hb A cap AV capv w' (h.kept hb' (Nat.le_refl _)) hm (hv.kept hb' (Nat.le_refl _)) hmv)
  clear h hm hv hmv hb
  go_enter Try.func31, Try.ntmps31
  go_wp2_with (go_at_call 54; refine (H.out _ ((Below.refl _ _).alloc (Nat.le_refl _) _)).mono ?_; rintro e w1 ⟨rfl, hb1⟩; have HB1 := Lib.hid (((Below.refl w.heap.size w).alloc (Nat.le_refl _) (.cells #[.int .i64 n, .slice A ps.length cap] 31)).trans (hb1.mono (by simp))); have hw1 : w.heap.size < w1.heap.size := (by have := hb1.size; simp at this; omega); have a0 := (hb1.cell (p := ⟨w.heap.size, 0, none⟩) (by simp)).trans (show (w.alloc (.cells #[.int .i64 n, .slice A ps.length cap] 31)).cell? ⟨w.heap.size, 0, none⟩ = some (.int .i64 n) by go_simp); have a1 := (hb1.cell (p := ⟨w.heap.size, 1, none⟩) (by simp)).trans (show (w.alloc (.cells #[.int .i64 n, .slice A ps.length cap] 31)).cell? ⟨w.heap.size, 1, none⟩ = some (.slice A ps.length cap) by go_simp); clear hb1)
  go_ret2
  exact ⟨rfl, HB1.out⟩

set_option maxHeartbeats 4000000 in
set_option maxRecDepth 100000 in
theorem scnt_yes (N : Nat) (A : Option Addr) (cap : Nat) (ps : List Pp) (AV : Option Addr) (capv : Nat) (vs : List Vv) (w : World) (h : PAt w A ps) (hv : VAt w AV vs) (hb : goodV N ps vs = true) :
    Calls Try.prog 31 #[nv N A ps.length cap, .slice AV vs.length capv] w fun e w' => e = .returned (.tuple #[.int .i64 (cntS N ps vs), .bool true]) ∧ Below w.heap.size w w' := by
  have hgd := goodV_of hb
  have hm : ps.length ≤ maxLen := by have := hgd.1.2.2.1; unfold maxLen; omega
  have hmv : vs.length ≤ maxLen := by have := hgd.2.1; unfold maxLen; omega
  have H := Lib.hid (fun w' (hb' : Below w.heap.size w w') => sgoodv_v hb A cap AV capv w' (h.kept hb' (Nat.le_refl _)) hm (hv.kept hb' (Nat.le_refl _)) hmv)
  have HSN := Lib.hid (fun u (h1 : 1 ≤ u) (h2 : u ≤ N) w' (hb' : Below w.heap.size w w') => by
    have h7 := spread_node N u A cap ps AV capv vs false w' (h.kept hb' (Nat.le_refl _)) (hv.kept hb' (Nat.le_refl _)) hgd.1 hgd.2.1 h1 h2
    rwa [bar_all] at h7)
  have HSP := Lib.hid (fun i (hi : i < ps.length) w' (hb' : Below w.heap.size w w') => spread_pipe N i A cap ps AV capv vs w' (h.kept hb' (Nat.le_refl _)) (hv.kept hb' (Nat.le_refl _)) hgd.1 hgd.2.1 hi)
  have hN8 : N ≤ 8 := by have := hgd.1.2.1; omega
  have hl10 := hgd.1.2.2.1
  clear h hm hv hmv hb hgd
  go_enter Try.func31, Try.ntmps31
  go_wp2_with (go_at_call 54; refine (H.out _ ((Below.refl _ _).alloc (Nat.le_refl _) _)).mono ?_; rintro e w1 ⟨rfl, hb1⟩; have HB1 := Lib.hid (((Below.refl w.heap.size w).alloc (Nat.le_refl _) (.cells #[.int .i64 (N : Int), .slice A ps.length cap] 31)).trans (hb1.mono (by simp))); have hw1 : w.heap.size < w1.heap.size := (by have := hb1.size; simp at this; omega); have a0 := (hb1.cell (p := ⟨w.heap.size, 0, none⟩) (by simp)).trans (show (w.alloc (.cells #[.int .i64 (N : Int), .slice A ps.length cap] 31)).cell? ⟨w.heap.size, 0, none⟩ = some (.int .i64 (N : Int)) by go_simp); have a1 := (hb1.cell (p := ⟨w.heap.size, 1, none⟩) (by simp)).trans (show (w.alloc (.cells #[.int .i64 (N : Int), .slice A ps.length cap] 31)).cell? ⟨w.heap.size, 1, none⟩ = some (.slice A ps.length cap) by go_simp); clear hb1)
  go_loopw [6, 7] (fun c i wr => ∃ m k : Nat, 1 ≤ m ∧ m ≤ N + 1 ∧ i = .int .i64 (m : Int) ∧ c = .int .i64 (k : Int) ∧ k ≤ m - 1 ∧ Hid (k = cntN ps vs (m - 1)) ∧ Hid (Below w1.heap.size w1 wr)) (fun _ i _ => N + 1 - (intOf i).toNat)
  case atStart => exact ⟨1, 0, by omega, by omega, rfl, rfl, by omega, Lib.hid rfl, Lib.hid (Below.refl _ _)⟩
  case round =>
    obtain ⟨m, k, hm1, hmN, rfl, rfl, hkm, hkc, hb⟩ := hrel
    have b0 := (hb.out.cell (p := ⟨w.heap.size, 0, none⟩) hw1).trans a0
    have b1 := (hb.out.cell (p := ⟨w.heap.size, 1, none⟩) hw1).trans a1
    have hzr := hb.out.size
    by_cases hlt : m ≤ N
    · have hmi : (m : Int) ≤ (N : Int) := by omega
      have HST := Lib.hid (cntN_step ps vs m hm1)
      obtain ⟨hp0, hiff⟩ := head_is (ps := ps) (vs := vs) hm1 hlt
      have HIF := Lib.hid hiff
      have HBR := Lib.hid (HB1.out.trans (hb.out.mono (by have := HB1.out.size; omega)))
      clear hiff
      go_wp2_with (go_at_call 63; refine (HSN.out m hm1 hlt wr HBR.out).mono ?_; rintro e w3 ⟨⟨g1, o1, c1, g2, o2, c2, rfl, hL1, hL2, _⟩, hb3⟩; refine Hid.out ?_)
      have hc0 := hL1.2.2.2 0 hp0
      have HB3 := Lib.hid (hb.out.trans (hb3.mono (by omega)))
      have hlc := hL1.2.1
      obtain ⟨y, hy⟩ : ∃ y, (nodesL N (coB ps vs (one m)) true).getD 0 0 = y := ⟨_, rfl⟩
      rw [hy, Nat.add_zero] at hc0
      rw [hy] at HIF
      have hp0i : (0 : Int) < ((nodesL N (coB ps vs (one m)) true).length : Int) := by omega
      clear hL1 hL2 hb3 hy b0 b1
      by_cases hym : y = (m : Int)
      · have hE : (y == (m : Int)) = true := by simpa using hym
        have HK := Lib.hid (show k + 1 = cntN ps vs (m + 1 - 1) from by rw [Nat.add_sub_cancel, HST.out, if_neg (by rw [HIF.out.1 hym]; simp), hkc.out])
        clear hym
        refine Lib.hid ?_
        go_wp2_with fail
        go_roundw
        case rel => exact ⟨m + 1, k + 1, by omega, by omega, by go_num, by go_num, by omega, HK, HB3⟩
        case measure => simp [intOf]; omega
      · have hE : (y == (m : Int)) = false := by simpa using hym
        have HK := Lib.hid (show k = cntN ps vs (m + 1 - 1) from by
          rw [Nat.add_sub_cancel, HST.out]
          cases hc : coB ps vs (lo (m - 1)) m with
          | true => rw [if_pos rfl]; exact hkc.out
          | false => exact absurd (HIF.out.2 hc) hym)
        clear hym
        refine Lib.hid ?_
        go_wp2_with fail
        go_roundw
        case rel => exact ⟨m + 1, k, by omega, by omega, by go_num, rfl, by omega, HK, HB3⟩
        case measure => simp [intOf]; omega
    · have hmN2 : m = N + 1 := by omega
      have hNm : (N : Int) < (m : Int) := by omega
      have e1 : m - 1 = N := by omega
      rw [e1] at hkc hkm
      clear e1 hmN2
      go_wp2_with fail
      go_loopw [6, 10] (fun c i wr2 => ∃ j q : Nat, j ≤ ps.length ∧ i = .int .i64 (j : Int) ∧ c = .int .i64 ((k + q : Nat) : Int) ∧ q ≤ j ∧ Hid (q = (idxL j (coB ps vs (lo N)) false).length) ∧ Hid (Below w1.heap.size w1 wr2)) (fun _ i _ => ps.length - (intOf i).toNat)
      case atStart => exact ⟨0, 0, by omega, rfl, rfl, by omega, Lib.hid rfl, hb⟩
      case round =>
        clear b0 b1 hb hzr hNm
        obtain ⟨j, q, hj, rfl, rfl, hqj, hqc, hb⟩ := hrel
        have b0 := (hb.out.cell (p := ⟨w.heap.size, 0, none⟩) hw1).trans a0
        have b1 := (hb.out.cell (p := ⟨w.heap.size, 1, none⟩) hw1).trans a1
        have hzr := hb.out.size
        by_cases hlt2 : j < ps.length
        · have hji : (j : Int) < (ps.length : Int) := by omega
          have HST := Lib.hid (idxL_succ j (coB ps vs (lo N)) false)
          have HLZ := Lib.hid (len_zero (ps := ps) (vs := vs) (N := N) (i := j))
          have HBR := Lib.hid (HB1.out.trans (hb.out.mono (by have := HB1.out.size; omega)))
          go_wp2_with (go_at_call 63; refine (HSP.out j hlt2 wr HBR.out).mono ?_; rintro e w3 ⟨⟨g1, o1, c1, g2, o2, c2, rfl, hL1, hL2, _⟩, hb3⟩; refine Hid.out ?_)
          have HB3 := Lib.hid (hb.out.trans (hb3.mono (by omega)))
          obtain ⟨l, hl⟩ : ∃ l, (nodesL N (coB ps vs (one (9 + j))) true).length = l := ⟨_, rfl⟩
          rw [hl] at HLZ
          rw [hl]
          clear hL1 hL2 hb3 hl b0 b1
          by_cases hl0 : l = 0
          · have HK := Lib.hid (show q + 1 = (idxL (j + 1) (coB ps vs (lo N)) false).length from by rw [HST.out, if_pos (HLZ.out.1 hl0), List.length_append, hqc.out]; rfl)
            have hE : (((l : Nat) : Int) == 0) = true := by simpa using hl0
            clear hl0
            refine Lib.hid ?_
            go_wp2_with fail
            go_roundw
            case rel => exact ⟨j + 1, q + 1, by omega, by go_num, by congr 1, by omega, HK, HB3⟩
            case measure => simp [intOf]; omega
          · have HK := Lib.hid (show q = (idxL (j + 1) (coB ps vs (lo N)) false).length from by
              rw [HST.out]
              cases hc : coB ps vs (lo N) (9 + j) with
              | true => rw [if_neg (by simp)]; exact hqc.out
              | false => exact absurd (HLZ.out.2 hc) hl0)
            have hE : (((l : Nat) : Int) == 0) = false := by simpa using hl0
            have hE2 : ¬ (l : Int) = 0 := by omega
            refine Lib.hid ?_
            go_wp2_with fail
            go_roundw
            case rel => exact ⟨j + 1, q, by omega, by go_num, rfl, by omega, HK, HB3⟩
            case measure => simp [intOf]; omega
        · have hjN : j = ps.length := by omega
          subst hjN
          go_wp2_with fail
          go_ret2
          refine ⟨?_, HB1.out.trans (hb.out.mono (by have := HB1.out.size; omega))⟩
          have hf : cntS N ps vs = ((k + q : Nat) : Int) := by
            unfold cntS pipesL
            rw [List.length_map, ← hkc.out, ← hqc.out]; omega
          rw [hf]; rfl
end Go.Proofs.Ytmkpgkhfbhdhgaa.S2
