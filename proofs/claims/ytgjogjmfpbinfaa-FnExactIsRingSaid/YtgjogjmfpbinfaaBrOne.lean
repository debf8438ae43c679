/- The program's BridgePipes: contracts. Conditions: each theorem's own premises. -/
import Derived.Test.YtgjogjmfpbinfaaWoFour
namespace Go.Proofs.Ytgjogjmfpbinfaa.S2
open Go.RowKit P2

/-- Without it its ends are not connected. -/
noncomputable def brB (ps : List Pp) (i : Nat) : Bool := decide (dist (wo ps i) (pAt ps i).fr (pAt ps i).to = -1)
noncomputable def brTo (ps : List Pp) (k : Nat) : List Int := ((List.range k).filter (brB ps)).map fun i => (pAt ps i).id
theorem brTo_len (ps : List Pp) (k : Nat) : (brTo ps k).length ≤ k := by
  unfold brTo; rw [List.length_map]; exact Nat.le_trans (List.length_filter_le _ _) (by simp)
theorem brTo_yes (ps : List Pp) (k : Nat) (h : brB ps k = true) : brTo ps (k + 1) = brTo ps k ++ [(pAt ps k).id] := by
  unfold brTo
  rw [List.range_succ, List.filter_append, List.map_append]
  simp [h]
theorem brTo_no (ps : List Pp) (k : Nat) (h : brB ps k = false) : brTo ps (k + 1) = brTo ps k := by
  unfold brTo
  rw [List.range_succ, List.filter_append, List.map_append]
  simp [h]

theorem br_no (n : Int) (A : Option Addr) (cap : Nat) (ps : List Pp) (w : World) (h : PAt w A ps) (hm : ps.length ≤ maxLen) (hv : goodB n ps = false) :
    Calls Try.prog 55 #[nv n A ps.length cap] w (GivesI w [] false) := by
  have H := Lib.hid (fun w' (hb : Below w.heap.size w w') => valid_v hv A cap w' (h.kept hb (Nat.le_refl _)) hm)
  clear h hv
  go_enter Try.func55, Try.ntmps55
  go_wp2_with (go_at_call 115; refine (H.out _ ((Below.refl _ _).alloc (Nat.le_refl _) _)).mono ?_; rintro e w1 ⟨rfl, hb1⟩)
  go_ret2
  exact gives_none (below_alloc_call hb1)

set_option maxHeartbeats 8000000 in
set_option maxRecDepth 100000 in
theorem br_yes (N : Nat) (A : Option Addr) (cap : Nat) (ps : List Pp) (w : World) (h : PAt w A ps) (hm : ps.length ≤ maxLen) (hv : goodB N ps = true) (hc : ps.length ≤ cap) :
    Calls Try.prog 55 #[nv N A ps.length cap] w (GivesI w (brTo ps ps.length) true) := by
  have hg := good_of hv
  have H := Lib.hid (fun w' (hb : Below w.heap.size w w') => valid_v hv A cap w' (h.kept hb (Nat.le_refl _)) hm)
  have HA := Lib.hid h
  have HG := Lib.hid hg
  have hN : N ≤ 8 := by have := hg.2.1; omega
  have hl10 := hg.2.2.1
  have HWO := Lib.hid (fun (i : Nat) (hi : i < ps.length) w' (hb : Below w.heap.size w w') => wo_all N i cap A ps w' (h.kept hb (Nat.le_refl _)) hi hc hl10)
  have HDI := Lib.hid (fun (i t : Nat) A2 c2 w' (h2 : PAt w' A2 (wo ps i)) h3 h4 => dist_any N t A2 c2 (wo ps i) w' h2 (good_sub hg (wo_sub ps i)) h3 h4)
  obtain ⟨i0, hi, hz0, hz1, hz2⟩ := info_parts infoI
  clear h hv hg hm hc
  go_enter Try.func55, Try.ntmps55
  go_wp2_with (go_at_call 115; refine (H.out _ ((Below.refl _ _).alloc (Nat.le_refl _) _)).mono ?_; rintro e w1 ⟨rfl, hb1⟩; obtain ⟨hc1, hf1⟩ := bcell hb1; have hz1' := hb1.size; have hs1 : w.heap.size < w1.heap.size := (by simp at hz1'; omega))
  have hb0 : Below (w.heap.size + 1) (w.alloc (.cells #[.int .i64 N, .slice A ps.length cap] 30)) w1 := by simpa using hb1
  have hzl0 := box_lt hb0
  have hO1 : IOwn (w1.alloc (.cells #[] 3)) (w.heap.size + 1) (.slice (some ⟨w1.heap.size, 0, none⟩) 0 0) [] := own_empty w1 (w.heap.size + 1) (by omega)
  have hB1 := hb0.alloc (by omega) (.cells #[] 3)
  clear hc1 hf1 hb1 H hz1'
  go_loopw [4, 15] (fun v i wr => ∃ k : Nat, k ≤ ps.length ∧ i = .int .i64 k ∧ Hid (IOwn wr (w.heap.size + 1) v (brTo ps k)) ∧ Hid (v ≠ .slice none 0 0) ∧ Below (w.heap.size + 1) (w.alloc (.cells #[.int .i64 N, .slice A ps.length cap] 30)) wr) (fun _ i _ => ps.length - (intOf i).toNat)
  case atStart => exact ⟨0, Nat.zero_le _, rfl, Lib.hid (by have : brTo ps 0 = [] := rfl; rw [this]; exact hO1), Lib.hid (by simp), hB1⟩
  case round =>
    clear hO1 hB1
    obtain ⟨k, hk, rfl, hown, hvn, hb⟩ := hrel
    by_cases hlt : k < ps.length
    · obtain ⟨b, off, hA, hbl, h0, h1, h2, h3⟩ := HA.out.at_ hlt
      subst hA
      obtain ⟨b0, b1⟩ := box2 hb
      have hzl := box_lt hb
      have hbc : ∀ o, wr.cell? ⟨b, o, none⟩ = w.cell? ⟨b, o, none⟩ := fun o => (below_box hb).cell (p := ⟨b, o, none⟩) hbl
      have p0 := (hbc _).trans h0
      have p1 := (hbc _).trans h1
      have p2 := (hbc _).trans h2
      have p3 := (hbc _).trans h3
      have hmem : pAt ps k ∈ ps := by
        have e : pAt ps k = ps[k] := by simp [pAt, List.getD, hlt]
        rw [e]; exact List.getElem_mem hlt
      have hok := good_pp HG.out hmem
      have hby : brB ps k = decide (dist (wo ps k) (pAt ps k).fr (pAt ps k).to = -1) := rfl
      have HY := Lib.hid (brTo_yes ps k)
      have HNo := Lib.hid (brTo_no ps k)
      have hil := brTo_len ps k
      have hk0i : (0 : Int) ≤ (k : Int) := by omega
      have hk1i : (k : Int) < (ps.length : Int) := by omega
      unfold PpOk at hok
      clear hbc h0 h1 h2 h3 hmem
      generalize pAt ps k = p at *
      obtain ⟨pid, pfr, pto, psz⟩ := p
      simp only at hok p0 p1 p2 p3 hby
      obtain ⟨fr, rfl⟩ : ∃ f : Nat, pfr = f := ⟨pfr.toNat, by omega⟩
      obtain ⟨tt, rfl⟩ : ∃ f : Nat, pto = f := ⟨pto.toNat, by omega⟩
      have hf1 : 1 ≤ fr := by omega
      have hf2 : fr ≤ N := by omega
      have ht1 : 1 ≤ tt := by omega
      have ht2 : tt ≤ N := by omega
      have ht0 : (0 : Int) ≤ (tt : Int) := by omega
      have htN : (tt : Int) < (N : Int) + 1 := by omega
      obtain ⟨x, hx⟩ : ∃ x, dist (wo ps k) (fr : Int) (tt : Int) = x := ⟨_, rfl⟩
      rw [hx] at hby
      have HX := Lib.hid (show dA (distL N (wo ps k) fr) tt = x by rw [distL_at N _ fr tt (by omega) (by omega)]; exact hx)
      have HLL := Lib.hid (distL_len N (wo ps k) fr)
      have HBR := Lib.hid hby
      clear hok hx hby
      have hBw := Lib.hid (below_box hb)
      go_wp2
      have hpw : wr.heap.size ≠ w.heap.size := by omega
      refine wp_region_held_drew (S := fun w' => w'.cell? ⟨w.heap.size, 0, none⟩ = some (.int .i64 N) ∧ w'.cell? ⟨w.heap.size, 1, none⟩ = some (.slice (some ⟨b, off, none⟩) ps.length cap) ∧ w'.cell? ⟨wr.heap.size, 0, none⟩ = some (.int .i64 pid) ∧ w'.cell? ⟨wr.heap.size, 1, none⟩ = some (.int .i64 (fr : Int)) ∧ w'.cell? ⟨wr.heap.size, 2, none⟩ = some (.int .i64 (tt : Int))) (by kernel_rfl) (by go_keep) (fun hHeld => ?_)
      refine wpAnyH_take (i := 0) (v := .agg #[.int .i64 N, .slice (some ⟨b, off, none⟩) ps.length cap]) rfl (by kernel_rfl) (by kernel_rfl) (by kernel_rfl) (fun _ _ _ h => h) (Or.inl ⟨by rfl, ?_⟩) (by assumption) ?_
      · (intro w hSw; (try dsimp only at hSw); go_simp)
      simp only [Act.put, List.setIfInBounds_toArray]
      refine wpAnyH_take (i := 1) (v := .int .i64 (k : Int)) rfl (by kernel_rfl) (by kernel_rfl) (by kernel_rfl) (fun _ _ _ h => h) (Or.inl ⟨by rfl, ?_⟩) (by assumption) ?_
      · (intro w hSw; (try dsimp only at hSw); go_simp)
      simp only [Act.put]
      refine wpAnyH_take (i := 3) (v := .pointer (some ⟨wr.heap.size, 1, none⟩)) rfl (by kernel_rfl) (by kernel_rfl) (by kernel_rfl) (fun _ _ _ h => h) (Or.inl ⟨by rfl, ?_⟩) (by assumption) ?_
      · (intro w hSw; (try dsimp only at hSw); go_simp)
      simp only [Act.put]
      refine wpAnyH_take (i := 4) (v := .int .i64 (fr : Int)) rfl (by kernel_rfl) (by kernel_rfl) (by kernel_rfl) (fun _ _ _ h => h) (Or.inl ⟨by rfl, ?_⟩) (by assumption) ?_
      · (intro w hSw; (try dsimp only at hSw); go_simp)
      simp only [Act.put]
      refine wpAnyH_take (i := 6) (v := .pointer (some ⟨wr.heap.size, 2, none⟩)) rfl (by kernel_rfl) (by kernel_rfl) (by kernel_rfl) (fun _ _ _ h => h) (Or.inl ⟨by rfl, ?_⟩) (by assumption) ?_
      · (intro w hSw; (try dsimp only at hSw); go_simp)
      simp only [Act.put]
      refine wpAnyH_take (i := 7) (v := .int .i64 (tt : Int)) rfl (by kernel_rfl) (by kernel_rfl) (by kernel_rfl) (fun _ _ _ h => h) (Or.inl ⟨by rfl, ?_⟩) (by assumption) ?_
      · (intro w hSw; (try dsimp only at hSw); go_simp)
      simp only [Act.put]
      refine wpAnyH_ready (rs := [2]) (by kernel_rfl) (by simp) ?_
      refine AllReadyH.cons rfl (fun K hK => ?_) AllReadyH.nil
      go_simp
      go_at_call 133
      refine (HWO.out k hlt _ ((hBw.out.alloc hBw.out.size _).drew)).mono ?_
      rintro e w5 ⟨A2, c2, rfl, hp2, hbx⟩
      have hsx := hbx.size
      simp at hsx
      refine hK.out _ _ (by rcases hHeld with ⟨q0, q1, q2, q3, q4⟩; exact ⟨(hbx.cell (p := ⟨w.heap.size, 0, none⟩) (by simp; omega)).trans q0, (hbx.cell (p := ⟨w.heap.size, 1, none⟩) (by simp; omega)).trans q1, (hbx.cell (p := ⟨wr.heap.size, 0, none⟩) (by simp)).trans q2, (hbx.cell (p := ⟨wr.heap.size, 1, none⟩) (by simp)).trans q3, (hbx.cell (p := ⟨wr.heap.size, 2, none⟩) (by simp)).trans q4⟩) (fun hHeld => ?_)
      clear hK K
      refine wpAnyH_ready (rs := [5]) (by kernel_rfl) (by simp) ?_
      refine AllReadyH.cons rfl (fun K hK => ?_) AllReadyH.nil
      go_simp
      go_at_call 157
      refine (HDI.out k fr _ _ _ hp2 hf1 hf2).mono ?_
      rintro e w6 ⟨⟨gD, D, rfl, hgD, hdr, hDe⟩, hby⟩
      have cx := hdr.cell (v := tt) (by rw [hDe, HLL.out]; omega)
      rw [hDe, HX.out] at cx
      refine hK.out _ _ (by rcases hHeld with ⟨q0, q1, q2, q3, q4⟩; exact ⟨(hby.cell (p := ⟨w.heap.size, 0, none⟩) (by show w.heap.size < _; omega)).trans q0, (hby.cell (p := ⟨w.heap.size, 1, none⟩) (by show w.heap.size < _; omega)).trans q1, (hby.cell (p := ⟨wr.heap.size, 0, none⟩) (by show wr.heap.size < _; omega)).trans q2, (hby.cell (p := ⟨wr.heap.size, 1, none⟩) (by show wr.heap.size < _; omega)).trans q3, (hby.cell (p := ⟨wr.heap.size, 2, none⟩) (by show wr.heap.size < _; omega)).trans q4⟩) (fun hHeld => ?_)
      clear hK K
      refine wpAnyH_ready (rs := [8]) (by kernel_rfl) (by simp) ?_
      refine AllReadyH.cons rfl (fun K hK => ?_) AllReadyH.nil
      go_simp
      refine hK.out _ _ (by first | assumption | go_keep) (fun hHeld => ?_)
      clear hK K
      refine wpAnyH_ready (rs := [9]) (by kernel_rfl) (by simp) ?_
      refine AllReadyH.cons rfl (fun K hK => ?_) AllReadyH.nil
      go_simp
      refine hK.out _ _ (by first | assumption | go_keep) (fun hHeld => ?_)
      clear hK K
      refine wpAnyH_ready (rs := [10]) (by kernel_rfl) (by simp) ?_
      refine AllReadyH.cons rfl (fun K hK => ?_) AllReadyH.nil
      go_simp
      refine hK.out _ _ (by first | assumption | go_keep) (fun hHeld => ?_)
      clear hK K
      refine wpAnyH_done (by kernel_rfl) ?_ _
      obtain ⟨q0, q1, q2, q3, q4⟩ := hHeld
      have hsy := hby.size
      have ho := hown.out
      unfold IOwn at ho
      have ho4 : ((wr.alloc (.cells #[.int .i64 pid, .int .i64 (fr : Int), .int .i64 (tt : Int), .int .i64 psz] 75)).drew).ownsRow (w.heap.size + 1) 3 1 _ (brTo ps k).length ((brTo ps k).map iv) := ho.alloc (.cells #[.int .i64 pid, .int .i64 (fr : Int), .int .i64 (tt : Int), .int .i64 psz] 75)
      have ho6 := own_on (own_on ho4 hbx) hby
      have hB4 : Below (w.heap.size + 1) (w.alloc (.cells #[.int .i64 N, .slice (some ⟨b, off, none⟩) ps.length cap] 30)) ((wr.alloc (.cells #[.int .i64 pid, .int .i64 (fr : Int), .int .i64 (tt : Int), .int .i64 psz] 75)).drew) := (hb.alloc (by omega) (.cells #[.int .i64 pid, .int .i64 (fr : Int), .int .i64 (tt : Int), .int .i64 psz] 75)).drew
      have hB6 := (hB4.trans (hbx.mono (by simp; omega))).trans (hby.mono (by omega))
      clear ho ho4 hB4 hbx hby hp2 hdr cx hDe hgD
      by_cases hx1 : x = -1
      · have hE : (x == -1) = true := by simpa using hx1
        have hs := Lib.hid (HY.out (by rw [HBR.out]; exact decide_eq_true hx1))
        clear hx1
        go_wp2_with (at_builtin; go_must (refine wpList_append_own _ rfl _ _ 34 rfl (w.heap.size + 1) 3 i0 (.int .i64 0) 1 8 Try.underlying34 hi hz0 hz1 hz2 rfl (by decide) _ _ _ rfl (ho6.alloc _) ⟨w6.heap.size, 0, none⟩ 1 1 [iv pid] rfl rfl (cell_one_new _ _ _) (by intro u hu; simp at hu; subst hu; rfl) (by unfold maxLen; omega) (by omega) (by simp; omega) ?_))
        intro v' w7 hown' hgrow hnil
        have hown3 := Lib.hid (IOwn.push hown')
        rw [← hs.out] at hown3
        have hB7 := Lib.hid ((hB6.alloc (by omega) (.cells #[iv pid] 3)).grown hgrow (by simp; omega) (fun g hg => (ho6.lt g hg).1))
        have hnil3 := Lib.hid (show v' ≠ .slice none 0 0 from fun e => by simp [e] at hnil)
        clear hown' hgrow hnil ho6
        go_wp2
        go_roundw
        case rel => exact ⟨k + 1, by omega, by go_num, hown3, hnil3, hB7.out⟩
        case measure => simp [intOf]; omega
      · have hE : (x == -1) = false := by simpa using hx1
        have hs := Lib.hid (HNo.out (by rw [HBR.out]; exact decide_eq_false hx1))
        have hown3 := Lib.hid (show IOwn w6 (w.heap.size + 1) _ (brTo ps (k + 1)) by rw [hs.out]; exact ho6)
        clear hx1
        go_wp2
        go_roundw
        case rel => exact ⟨k + 1, by omega, by go_num, hown3, hvn, hB6⟩
        case measure => simp [intOf]; omega
    · have hkk : k = ps.length := by omega
      have hown2 := hown.out
      rw [hkk] at hown2
      obtain ⟨g, capg, rfl, hg⟩ := own_slice hown2 hvn.out
      clear hkk
      go_wp2
      go_ret2
      have hlow : IOwn wr w.heap.size (.slice (some ⟨g, 0, none⟩) (brTo ps ps.length).length capg) (brTo ps ps.length) := own_lower hown2
      exact ⟨g, capg, rfl, by omega, hlow, below_box hb⟩
end Go.Proofs.Ytgjogjmfpbinfaa.S2
