/- The model's BridgePipes: contracts. Conditions: each theorem's own premises. -/
import Derived.Test.YtoinbpfocfohcaaBrOne
namespace Go.Proofs.Ytoinbpfocfohcaa.S2
open Go.RowKit P2

theorem sw_all (N i cap : Nat) (A : Option Addr) (ps : List Pp) (w : World) (h : PAt w A ps) (hi : i < ps.length) (hc : ps.length = cap) (hl : ps.length ≤ 10) :
    Calls Try.prog 62 #[nv N A ps.length cap, .int .i64 (i : Int)] w fun e w' => ∃ A2 c, e = .returned (nv N A2 (wo ps i).length c) ∧ PAt w' A2 (wo ps i) ∧ Below w.heap.size w w' := by
  obtain ⟨b, off, hA, _⟩ := h.at_ hi
  subst hA
  refine (swo_any N i b off ps.length cap ps w h rfl hi (by omega) hl).mono ?_
  rintro e w' ⟨g, c, rfl, _, _, hp, hb⟩
  exact ⟨_, c, by rw [wo_len ps i hi], hp, hb⟩
theorem has_br {N : Nat} {ps : List Pp} {i fr tt : Nat} (h1 : 1 ≤ tt) (h2 : tt ≤ N) : hasB (conL N (wo ps i) fr) tt = !(decide (dist (wo ps i) (fr : Int) (tt : Int) = -1)) := by
  rw [has_con h1 h2, ← decide_not]
  refine decide_eq_decide.2 ?_
  rw [dist_conn, ← Ne, dist_conn]
  exact ⟨conn_symm, conn_symm⟩

theorem sbr_no (n : Int) (A : Option Addr) (cap : Nat) (ps : List Pp) (w : World) (h : PAt w A ps) (hm : ps.length ≤ maxLen) (hv : goodB n ps = false) :
    Calls Try.prog 20 #[nv n A ps.length cap] w (GivesI w [] false) := by
  have H := Lib.hid (fun w' (hb : Below w.heap.size w w') => sgood_v hv A cap w' (h.kept hb (Nat.le_refl _)) hm)
  clear h hv
  go_enter Try.func20, Try.ntmps20
  go_wp2_with (go_at_call 61; refine (H.out _ (((Below.refl _ _).alloc (Nat.le_refl _) _).alloc (by simp) _)).mono ?_; rintro e w1 ⟨rfl, hb1⟩)
  go_ret2
  have hb0 : Below w.heap.size w (w.alloc (.cells #[.int .i64 n, .slice A ps.length cap] 26)) := (Below.refl _ _).alloc (Nat.le_refl _) _
  have ho : IOwn w1 w.heap.size (.slice (some ⟨w.heap.size + 1, 0, none⟩) 0 0) [] := by
    have := (own_empty (w.alloc (.cells #[.int .i64 n, .slice A ps.length cap] 26)) w.heap.size (by simp)).on hb1
    simpa using this
  exact ⟨_, _, rfl, by simp, ho, (hb0.alloc (by simp) _).trans (hb1.mono (by simp; omega))⟩

set_option maxHeartbeats 8000000 in
set_option maxRecDepth 100000 in
theorem sbr_yes (N : Nat) (A : Option Addr) (cap : Nat) (ps : List Pp) (w : World) (h : PAt w A ps) (hm : ps.length ≤ maxLen) (hv : goodB N ps = true) (hc : ps.length = cap) :
    Calls Try.prog 20 #[nv N A ps.length cap] w (GivesI w (brTo ps ps.length) true) := by
  have hg := good_of hv
  have H := Lib.hid (fun w' (hb : Below w.heap.size w w') => sgood_v hv A cap w' (h.kept hb (Nat.le_refl _)) hm)
  have HA := Lib.hid h
  have HG := Lib.hid hg
  have hN : N ≤ 8 := by have := hg.2.1; omega
  have hl10 := hg.2.2.1
  have HWO := Lib.hid (fun (i : Nat) (hi : i < ps.length) w' (hb : Below w.heap.size w w') => sw_all N i cap A ps w' (h.kept hb (Nat.le_refl _)) hi hc hl10)
  have HDI := Lib.hid (fun (i t : Nat) A2 c2 w' (h2 : PAt w' A2 (wo ps i)) h3 h4 => sreach_any N t A2 c2 (wo ps i) w' h2 (good_sub hg (wo_sub ps i)) h3 h4)
  obtain ⟨i0, hi, hz0, hz1, hz2⟩ := info_parts infoI
  clear h hv hg hm hc
  go_enter Try.func20, Try.ntmps20
  go_wp2_with (go_at_call 61; refine (H.out _ (((Below.refl _ _).alloc (Nat.le_refl _) _).alloc (by simp) _)).mono ?_; rintro e w1 ⟨rfl, hb1⟩)
  have hb0 : Below (w.heap.size + 1) (w.alloc (.cells #[.int .i64 N, .slice A ps.length cap] 26)) w1 := (((Below.refl _ _).alloc (by simp) _)).trans (hb1.mono (by simp))
  have hO1 : IOwn w1 (w.heap.size + 1) (.slice (some ⟨w.heap.size + 1, 0, none⟩) 0 0) [] := by
    have := (own_empty (w.alloc (.cells #[.int .i64 N, .slice A ps.length cap] 26)) (w.heap.size + 1) (by simp)).on hb1
    simpa using this
  have hB1 := hb0
  clear hb1 H
  go_loopw [4, 5] (fun v i wr => ∃ k : Nat, k ≤ ps.length ∧ i = .int .i64 k ∧ Hid (IOwn wr (w.heap.size + 1) v (brTo ps k)) ∧ Hid (v ≠ .slice none 0 0) ∧ Below (w.heap.size + 1) (w.alloc (.cells #[.int .i64 N, .slice A ps.length cap] 26)) wr) (fun _ i _ => ps.length - (intOf i).toNat)
  case atStart => exact ⟨0, Nat.zero_le _, rfl, Lib.hid (by have : brTo ps 0 = [] := rfl; rw [this]; exact hO1), Lib.hid (by simp), hB1⟩
  case round =>
    clear hO1 hB1
    obtain ⟨k, hk, rfl, hown, hvn, hb⟩ := hrel
    by_cases hlt : k < ps.length
    · obtain ⟨b, off, hA, hbl, h0, h1, h2, h3⟩ := HA.out.at_ hlt
      subst hA
      obtain ⟨b0, b1⟩ := box2 hb
      have hzl := box_lt hb
      have hbc : ∀ o, wr.cell? ⟨b, o, none⟩ = w.cell? ⟨b, o, none⟩ := fun o => (below_box hb).cell (p := ⟨b, o, none⟩) hbl
      have p0 := (hbc _).trans h0
      have p1 := (hbc _).trans h1
      have p2 := (hbc _).trans h2
      have p3 := (hbc _).trans h3
      have hmem : pAt ps k ∈ ps := by
        have e : pAt ps k = ps[k] := by simp [pAt, List.getD, hlt]
        rw [e]; exact List.getElem_mem hlt
      have hok := good_pp HG.out hmem
      have hby : brB ps k = decide (dist (wo ps k) (pAt ps k).fr (pAt ps k).to = -1) := rfl
      have HY := Lib.hid (brTo_yes ps k)
      have HNo := Lib.hid (brTo_no ps k)
      have hil := brTo_len ps k
      have hk0i : (0 : Int) ≤ (k : Int) := by omega
      have hk1i : (k : Int) < (ps.length : Int) := by omega
      unfold PpOk at hok
      clear hbc h0 h1 h2 h3 hmem
      generalize pAt ps k = p at *
      obtain ⟨pid, pfr, pto, psz⟩ := p
      simp only at hok p0 p1 p2 p3 hby
      obtain ⟨fr, rfl⟩ : ∃ f : Nat, pfr = f := ⟨pfr.toNat, by omega⟩
      obtain ⟨tt, rfl⟩ : ∃ f : Nat, pto = f := ⟨pto.toNat, by omega⟩
      have hf1 : 1 ≤ fr := by omega
      have hf2 : fr ≤ N := by omega
      have ht1 : 1 ≤ tt := by omega
      have ht2 : tt ≤ N := by omega
      have ht0 : (0 : Int) ≤ (tt : Int) := by omega
      have htN : (tt : Int) < (N : Int) + 1 := by omega
      have hcl := conL_len N (wo ps k) fr
      have hhb := has_br (ps := ps) (i := k) (fr := fr) ht1 ht2
      rw [← hby] at hhb
      obtain ⟨vb, hvb⟩ : ∃ vb, brB ps k = vb := ⟨_, rfl⟩
      rw [hvb] at hhb
      have HH := Lib.hid hhb
      have HBR := Lib.hid hvb
      clear hok hby hhb hvb
      have hBw := Lib.hid (below_box hb)
      have hbw : b < wr.heap.size := by have := (below_box hb).size; omega
      go_wp2
      have hpw : wr.heap.size ≠ w.heap.size := by omega
      refine wp_region_held_drew (S := fun w' => w'.cell? ⟨w.heap.size, 0, none⟩ = some (.int .i64 N) ∧ w'.cell? ⟨w.heap.size, 1, none⟩ = some (.slice (some ⟨b, off, none⟩) ps.length cap) ∧ w'.cell? ⟨b, off + k * 4, none⟩ = some (.int .i64 pid) ∧ w'.cell? ⟨b, off + k * 4 + 1, none⟩ = some (.int .i64 (fr : Int)) ∧ w'.cell? ⟨b, off + k * 4 + 2, none⟩ = some (.int .i64 (tt : Int))) (by kernel_rfl) (by go_keep) (fun hHeld => ?_)
      refine wpAnyH_take (i := 0) (v := .agg #[.int .i64 N, .slice (some ⟨b, off, none⟩) ps.length cap]) rfl (by kernel_rfl) (by kernel_rfl) (by kernel_rfl) (fun _ _ _ h => h) (Or.inl ⟨by rfl, ?_⟩) (by assumption) ?_
      · (intro w hSw; (try dsimp only at hSw); go_simp)
      simp only [Act.put, List.setIfInBounds_toArray]
      refine wpAnyH_take (i := 1) (v := .int .i64 (k : Int)) rfl (by kernel_rfl) (by kernel_rfl) (by kernel_rfl) (fun _ _ _ h => h) (Or.inl ⟨by rfl, ?_⟩) (by assumption) ?_
      · (intro w hSw; (try dsimp only at hSw); go_simp)
      simp only [Act.put]
      refine wpAnyH_take (i := 3) (v := .pointer (some ⟨w.heap.size, 1, none⟩)) rfl (by kernel_rfl) (by kernel_rfl) (by kernel_rfl) (fun _ _ _ h => h) (Or.inl ⟨by rfl, ?_⟩) (by assumption) ?_
      · (intro w hSw; (try dsimp only at hSw); go_simp)
      simp only [Act.put]
      refine wpAnyH_take (i := 4) (v := .slice (some ⟨b, off, none⟩) ps.length cap) rfl (by kernel_rfl) (by kernel_rfl) (by kernel_rfl) (fun _ _ _ h => h) (Or.inl ⟨by rfl, ?_⟩) (by assumption) ?_
      · (intro w hSw; (try dsimp only at hSw); go_simp)
      simp only [Act.put]
      refine wpAnyH_take (i := 5) (v := .int .i64 (k : Int)) rfl (by kernel_rfl) (by kernel_rfl) (by kernel_rfl) (fun _ _ _ h => h) (Or.inl ⟨by rfl, ?_⟩) (by assumption) ?_
      · (intro w hSw; (try dsimp only at hSw); go_simp)
      simp only [Act.put]
      refine wpAnyH_take (i := 6) (v := .pointer (some ⟨b, off + k * 4, none⟩)) rfl (by kernel_rfl) (by kernel_rfl) (by kernel_rfl) (fun _ _ _ h => h) (Or.inl ⟨by rfl, ?_⟩) (by assumption) ?_
      · (intro w hSw; (try dsimp only at hSw); go_simp)
      simp only [Act.put]
      refine wpAnyH_take (i := 7) (v := .pointer (some ⟨b, off + k * 4 + 1, none⟩)) rfl (by kernel_rfl) (by kernel_rfl) (by kernel_rfl) (fun _ _ _ h => h) (Or.inl ⟨by rfl, ?_⟩) (by assumption) ?_
      · (intro w hSw; (try dsimp only at hSw); go_simp)
      simp only [Act.put]
      refine wpAnyH_take (i := 8) (v := .int .i64 (fr : Int)) rfl (by kernel_rfl) (by kernel_rfl) (by kernel_rfl) (fun _ _ _ h => h) (Or.inl ⟨by rfl, ?_⟩) (by assumption) ?_
      · (intro w hSw; (try dsimp only at hSw); go_simp)
      simp only [Act.put]
      refine wpAnyH_take (i := 10) (v := .pointer (some ⟨w.heap.size, 1, none⟩)) rfl (by kernel_rfl) (by kernel_rfl) (by kernel_rfl) (fun _ _ _ h => h) (Or.inl ⟨by rfl, ?_⟩) (by assumption) ?_
      · (intro w hSw; (try dsimp only at hSw); go_simp)
      simp only [Act.put]
      refine wpAnyH_take (i := 11) (v := .slice (some ⟨b, off, none⟩) ps.length cap) rfl (by kernel_rfl) (by kernel_rfl) (by kernel_rfl) (fun _ _ _ h => h) (Or.inl ⟨by rfl, ?_⟩) (by assumption) ?_
      · (intro w hSw; (try dsimp only at hSw); go_simp)
      simp only [Act.put]
      refine wpAnyH_take (i := 12) (v := .int .i64 (k : Int)) rfl (by kernel_rfl) (by kernel_rfl) (by kernel_rfl) (fun _ _ _ h => h) (Or.inl ⟨by rfl, ?_⟩) (by assumption) ?_
      · (intro w hSw; (try dsimp only at hSw); go_simp)
      simp only [Act.put]
      refine wpAnyH_take (i := 13) (v := .pointer (some ⟨b, off + k * 4, none⟩)) rfl (by kernel_rfl) (by kernel_rfl) (by kernel_rfl) (fun _ _ _ h => h) (Or.inl ⟨by rfl, ?_⟩) (by assumption) ?_
      · (intro w hSw; (try dsimp only at hSw); go_simp)
      simp only [Act.put]
      refine wpAnyH_take (i := 14) (v := .pointer (some ⟨b, off + k * 4 + 2, none⟩)) rfl (by kernel_rfl) (by kernel_rfl) (by kernel_rfl) (fun _ _ _ h => h) (Or.inl ⟨by rfl, ?_⟩) (by assumption) ?_
      · (intro w hSw; (try dsimp only at hSw); go_simp)
      simp only [Act.put]
      refine wpAnyH_take (i := 15) (v := .int .i64 (tt : Int)) rfl (by kernel_rfl) (by kernel_rfl) (by kernel_rfl) (fun _ _ _ h => h) (Or.inl ⟨by rfl, ?_⟩) (by assumption) ?_
      · (intro w hSw; (try dsimp only at hSw); go_simp)
      simp only [Act.put]
      refine wpAnyH_ready (rs := [2]) (by kernel_rfl) (by simp) ?_
      refine AllReadyH.cons rfl (fun K hK => ?_) AllReadyH.nil
      go_simp
      go_at_call 62
      refine (HWO.out k hlt _ (hBw.out.drew)).mono ?_
      rintro e w5 ⟨A2, c2, rfl, hp2, hbx⟩
      have hsx := hbx.size
      simp at hsx
      refine hK.out _ _ (by rcases hHeld with ⟨q0, q1, q2, q3, q4⟩; exact ⟨(hbx.cell (p := ⟨w.heap.size, 0, none⟩) (by show w.heap.size < wr.heap.size; omega)).trans q0, (hbx.cell (p := ⟨w.heap.size, 1, none⟩) (by show w.heap.size < wr.heap.size; omega)).trans q1, (hbx.cell (p := ⟨b, off + k * 4, none⟩) (by show b < wr.heap.size; omega)).trans q2, (hbx.cell (p := ⟨b, off + k * 4 + 1, none⟩) (by show b < wr.heap.size; omega)).trans q3, (hbx.cell (p := ⟨b, off + k * 4 + 2, none⟩) (by show b < wr.heap.size; omega)).trans q4⟩) (fun hHeld => ?_)
      clear hK K
      refine wpAnyH_ready (rs := [9]) (by kernel_rfl) (by simp) ?_
      refine AllReadyH.cons rfl (fun K hK => ?_) AllReadyH.nil
      go_simp
      go_at_call 57
      refine (HDI.out k fr _ _ _ hp2 hf1 hf2).mono ?_
      rintro e w6 ⟨gR, oR, cR, rfl, hgR, hla, hby⟩
      refine hK.out _ _ (by rcases hHeld with ⟨q0, q1, q2, q3, q4⟩; exact ⟨(hby.cell (p := ⟨w.heap.size, 0, none⟩) (by show w.heap.size < _; omega)).trans q0, (hby.cell (p := ⟨w.heap.size, 1, none⟩) (by show w.heap.size < _; omega)).trans q1, (hby.cell (p := ⟨b, off + k * 4, none⟩) (by show b < _; omega)).trans q2, (hby.cell (p := ⟨b, off + k * 4 + 1, none⟩) (by show b < _; omega)).trans q3, (hby.cell (p := ⟨b, off + k * 4 + 2, none⟩) (by show b < _; omega)).trans q4⟩) (fun hHeld => ?_)
      clear hK K
      refine wpAnyH_ready (rs := [16]) (by kernel_rfl) (by simp) ?_
      refine AllReadyH.cons rfl (fun K hK => ?_) AllReadyH.nil
      go_simp
      go_at_call 56
      refine (has_v HH.out _ _ _ hla.iat (by omega)).mono ?_
      rintro e w7 ⟨rfl, hw7⟩
      replace hw7 := hw7.symm
      subst hw7
      refine hK.out _ _ (by first | assumption | exact hHeld) (fun hHeld => ?_)
      clear hK K
      refine wpAnyH_ready (rs := [17]) (by kernel_rfl) (by simp) ?_
      refine AllReadyH.cons rfl (fun K hK => ?_) AllReadyH.nil
      go_simp
      refine hK.out _ _ (by first | assumption | go_keep) (fun hHeld => ?_)
      clear hK K
      refine wpAnyH_done (by kernel_rfl) ?_ _
      obtain ⟨q0, q1, q2, q3, q4⟩ := hHeld
      have hsy := hby.size
      have ho := hown.out
      unfold IOwn at ho
      have ho4 : wr.drew.ownsRow (w.heap.size + 1) 3 1 _ (brTo ps k).length ((brTo ps k).map iv) := ho
      have ho6 := own_on (own_on ho4 hbx) hby
      have hB6 := (hb.drew.trans (hbx.mono (by show w.heap.size + 1 ≤ wr.heap.size; omega))).trans (hby.mono (by omega))
      have hbw6 : b < w6.heap.size := by omega
      have hzw6 : w.heap.size < w6.heap.size := by omega
      clear ho ho4 hbx hby hp2 hla hgR
      cases vb with
      | true =>
        have hs := Lib.hid (HY.out HBR.out)
        go_wp2_with (at_builtin; go_must (refine wpList_append_own _ rfl _ _ 29 rfl (w.heap.size + 1) 3 i0 (.int .i64 0) 1 8 Try.underlying29 hi hz0 hz1 hz2 rfl (by decide) _ _ _ rfl (ho6.alloc _) ⟨w6.heap.size, 0, none⟩ 1 1 [iv pid] rfl rfl (cell_one_new _ _ _) (by intro u hu; simp at hu; subst hu; rfl) (by unfold maxLen; omega) (by omega) (by simp; omega) ?_))
        intro v' w7 hown' hgrow hnil
        have hown3 := Lib.hid (IOwn.push hown')
        rw [← hs.out] at hown3
        have hB7 := Lib.hid ((hB6.alloc (by omega) (.cells #[iv pid] 3)).grown hgrow (by simp; omega) (fun g hg => (ho6.lt g hg).1))
        have hnil3 := Lib.hid (show v' ≠ .slice none 0 0 from fun e => by simp [e] at hnil)
        clear hown' hgrow hnil ho6
        go_wp2
        go_roundw
        case rel => exact ⟨k + 1, by omega, by go_num, hown3, hnil3, hB7.out⟩
        case measure => simp [intOf]; omega
      | false =>
        have hs := Lib.hid (HNo.out HBR.out)
        have hown3 := Lib.hid (show IOwn w6 (w.heap.size + 1) _ (brTo ps (k + 1)) by rw [hs.out]; exact ho6)
        go_wp2
        go_roundw
        case rel => exact ⟨k + 1, by omega, by go_num, hown3, hvn, hB6⟩
        case measure => simp [intOf]; omega
    · have hkk : k = ps.length := by omega
      have hown2 := hown.out
      rw [hkk] at hown2
      obtain ⟨g, capg, rfl, hg⟩ := own_slice hown2 hvn.out
      clear hkk
      obtain ⟨b0, b1⟩ := box2 hb
      go_wp2
      go_ret2
      have hlow : IOwn wr w.heap.size (.slice (some ⟨g, 0, none⟩) (brTo ps ps.length).length capg) (brTo ps ps.length) := own_lower hown2
      exact ⟨g, capg, rfl, by omega, hlow, below_box hb⟩
end Go.Proofs.Ytoinbpfocfohcaa.S2
