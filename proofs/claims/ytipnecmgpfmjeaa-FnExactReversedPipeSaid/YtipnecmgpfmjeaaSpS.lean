/- SpanningTree of the model: contracts. Conditions: each theorem's own premises. -/
import Derived.Test.YtipnecmgpfmjeaaSpI
namespace Go.Proofs.Ytipnecmgpfmjeaa.S2
open Go.RowKit P2

theorem pat_set1 {w : World} {g : Nat} {ps : List Pp} {p : Addr} {v : Value} (h : PAt w (some ⟨g, 0, none⟩) ps) (hne : p.block ≠ g) : PAt (w.setCell p v) (some ⟨g, 0, none⟩) ps := by
  rcases h with h | ⟨b, off, hA, hlt, hc⟩
  · exact .inl h
  · refine .inr ⟨b, off, hA, by simpa using hlt, fun i hi => ?_⟩
    injection hA with hA
    injection hA with hb _ _
    have hp : p.block ≠ b := by rw [← hb]; exact hne
    obtain ⟨h0, h1, h2, h3⟩ := hc i hi
    exact ⟨(World.cell?_setCell_far _ p _ _ hp).trans h0, (World.cell?_setCell_far _ p _ _ hp).trans h1, (World.cell?_setCell_far _ p _ _ hp).trans h2, (World.cell?_setCell_far _ p _ _ hp).trans h3⟩
theorem hasb_v {l : List Int} {x : Int} {v : Bool} (hv : hasB l x = v) (A : Option Addr) (cap : Nat) (w : World) (h : IAt w A l) (hn : l.length ≤ 1048576) :
    Calls Try.prog 100 #[.slice A l.length cap, .int .i64 x] w fun e w' => e = .returned (.bool v) ∧ w' = w := by rw [← hv]; exact has_any A cap l x w h hn
/-- What the loop keeps behind k pipes. -/
def SsR (ps : List Pp) (w wr : World) (N k g c : Nat) : Prop :=
  TB wr (w.heap.size + 1) (.int .i64 0) (.slice none 0 0) ∧ TB wr (w.heap.size + 1 + 1 + 1) (.int .i64 N) (.slice (some ⟨g, 0, none⟩) (spT ps k).length c) ∧ wr.ownsRow (w.heap.size + 1 + 1) 40 4 (.slice (some ⟨g, 0, none⟩) (spT ps k).length c) (spT ps k).length (pcs (spT ps k)) ∧ g ≠ w.heap.size + 1 + 1 + 1

set_option maxHeartbeats 4000000 in
set_option maxRecDepth 100000 in
theorem ssp_any (N : Nat) (A : Option Addr) (cap : Nat) (ps : List Pp) (w : World) (h : PAt w A ps) (hg : P2.Good N ps) :
    Calls Try.prog 82 #[nv N A ps.length cap] w fun e w' => ∃ g c, e = .returned (nv N (some ⟨g, 0, none⟩) (spL ps).length c) ∧ (spL ps).length ≤ c ∧ w.heap.size ≤ g ∧ PAt w' (some ⟨g, 0, none⟩) (spL ps) ∧ Below w.heap.size w w' := by
  have hN : N ≤ 8 := by have := hg.2.1; omega
  have hl10 := hg.2.2.1
  have HA := Lib.hid h
  have HG := Lib.hid hg
  have HDI := Lib.hid (fun (k t : Nat) (hk : k ≤ ps.length) A2 c2 w' (h2 : PAt w' A2 (spT ps k)) h3 h4 => sreach_any N t A2 c2 (spT ps k) w' h2 (spT_good hg k hk) h3 h4)
  obtain ⟨i0, hi0, hz0, hz1, hz2⟩ := info_parts infoP
  have HB4 := Lib.hid (show Below (w.heap.size + 1) (w.alloc (nb N A ps.length cap)) ((((w.alloc (nb N A ps.length cap)).alloc (nb 0 none 0 0)).alloc (.cells #[] 40)).alloc (nb N (some ⟨w.heap.size + 1 + 1, 0, none⟩) 0 0)) from (((Below.refl _ _).alloc (by simp) _).alloc (by simp) _).alloc (by simp) _)
  have HS0 := Lib.hid (show SsR ps w ((((w.alloc (nb N A ps.length cap)).alloc (nb 0 none 0 0)).alloc (.cells #[] 40)).alloc (nb N (some ⟨w.heap.size + 1 + 1, 0, none⟩) 0 0)) N 0 (w.heap.size + 1 + 1) 0 from by
    have x1 := ((TB.made (w.alloc (nb N A ps.length cap)) (.int .i64 0) (.slice none 0 0)).below ((Below.refl _ _).alloc (Nat.le_refl _) (.cells #[] 40))).below ((Below.refl _ _).alloc (Nat.le_refl _) (nb N (some ⟨w.heap.size + 1 + 1, 0, none⟩) 0 0))
    have x2 := TB.made (((w.alloc (nb N A ps.length cap)).alloc (nb 0 none 0 0)).alloc (.cells #[] 40)) (.int .i64 N) (.slice (some ⟨w.heap.size + 1 + 1, 0, none⟩) 0 0)
    have x3 := own_onP (own_emptyP ((w.alloc (nb N A ps.length cap)).alloc (nb 0 none 0 0)) (w.heap.size + 1 + 1) (by simp)) ((Below.refl _ _).alloc (Nat.le_refl _) (nb N (some ⟨w.heap.size + 1 + 1, 0, none⟩) 0 0))
    refine ⟨by simpa using x1, by simpa [spT] using x2, by simpa [spT, pcs] using x3, by omega⟩)
  clear h hg
  go_enter Try.func82, Try.ntmps82
  go_wp2
  go_loopw [4] (fun i wr => ∃ (k g c : Nat), k ≤ ps.length ∧ i = .int .i64 (k : Int) ∧ Hid (SsR ps w wr N k g c) ∧ Hid (Below (w.heap.size + 1) (w.alloc (nb N A ps.length cap)) wr)) (fun i _ => ps.length - (intOf i).toNat)
  case atStart => exact ⟨0, w.heap.size + 1 + 1, 0, Nat.zero_le _, rfl, HS0, HB4⟩
  case round =>
    clear HS0 HB4
    obtain ⟨k, g, c, hk, rfl, HS, HB⟩ := hrel
    obtain ⟨b0, b1⟩ := box2 HB.out
    have hz := box_lt HB.out
    obtain ⟨t0, t1⟩ := HS.out.2.1.cell
    have htl := HS.out.2.1.lt
    have hsl := spT_len ps k hk
    have hgw : w.heap.size + 1 + 1 ≤ g := (HS.out.2.2.1.lt g rfl).1
    have hgw2 : g < wr.heap.size := (HS.out.2.2.1.lt g rfl).2
    have hgT := HS.out.2.2.2
    by_cases hlt : k < ps.length
    · obtain ⟨b, off, hA, hbl, h0, h1, h2, h3⟩ := HA.out.at_ hlt
      subst hA
      have hbc : ∀ o, wr.cell? ⟨b, o, none⟩ = w.cell? ⟨b, o, none⟩ := fun o => (below_box HB.out).cell (p := ⟨b, o, none⟩) hbl
      have p0 := (hbc _).trans h0
      have p1 := (hbc _).trans h1
      have p2 := (hbc _).trans h2
      have p3 := (hbc _).trans h3
      have hmem : pAt ps k ∈ ps := by
        have e : pAt ps k = ps[k] := by simp [pAt, List.getD, hlt]
        rw [e]; exact List.getElem_mem hlt
      have hok := good_pp HG.out hmem
      have HY := Lib.hid (spT_same (ps := ps) (k := k))
      have HNo := Lib.hid (spT_more (ps := ps) (k := k))
      have hk0i : (0 : Int) ≤ (k : Int) := by omega
      have hk1i : (k : Int) < (ps.length : Int) := by omega
      unfold PpOk at hok
      clear hbc h0 h1 h2 h3 hmem
      generalize pAt ps k = p at *
      obtain ⟨pid, pfr, pto, psz⟩ := p
      simp only at hok p0 p1 p2 p3
      obtain ⟨fr, rfl⟩ : ∃ f : Nat, pfr = f := ⟨pfr.toNat, by omega⟩
      obtain ⟨tt, rfl⟩ : ∃ f : Nat, pto = f := ⟨pto.toNat, by omega⟩
      have hf1 : 1 ≤ fr := by omega
      have hf2 : fr ≤ N := by omega
      have ht1 : 1 ≤ tt := by omega
      have ht2 : tt ≤ N := by omega
      have hcl := conL_len N (spT ps k) fr
      obtain ⟨vb, hvb⟩ : ∃ vb, hasB (conL N (spT ps k) fr) tt = vb := ⟨_, rfl⟩
      have HH := Lib.hid hvb
      have HXC := Lib.hid (show vb = true ↔ Conn (spT ps k) (fr : Int) (tt : Int) from by rw [← hvb, has_con ht1 ht2, decide_eq_true_iff, dist_conn])
      clear hok hvb
      have hbw : b < wr.heap.size := by omega
      have hHQ := Lib.hid (own_patP (own_onP HS.out.2.2.1 (Below.refl _ _).drew))
      go_wp2
      refine wp_region_held_drew (S := fun w' => w'.cell? ⟨w.heap.size, 1, none⟩ = some (.slice (some ⟨b, off, none⟩) ps.length cap) ∧ w'.cell? ⟨w.heap.size + 1 + 1 + 1, 0, none⟩ = some (.int .i64 N) ∧ w'.cell? ⟨w.heap.size + 1 + 1 + 1, 1, none⟩ = some (.slice (some ⟨g, 0, none⟩) (spT ps k).length c) ∧ w'.cell? ⟨b, off + k * 4 + 1, none⟩ = some (.int .i64 (fr : Int)) ∧ w'.cell? ⟨b, off + k * 4 + 2, none⟩ = some (.int .i64 (tt : Int))) (by kernel_rfl) (by go_keep) (fun hHeld => ?_)
      refine wpAnyH_take (i := 0) (v := .agg #[.int .i64 N, .slice (some ⟨g, 0, none⟩) (spT ps k).length c]) rfl (by kernel_rfl) (by kernel_rfl) (by kernel_rfl) (fun _ _ _ h => h) (Or.inl ⟨by rfl, ?_⟩) (by assumption) ?_
      · (intro w hSw; (try dsimp only at hSw); go_simp)
      simp only [Act.put, List.setIfInBounds_toArray]
      refine wpAnyH_take (i := 1) (v := .pointer (some ⟨w.heap.size, 1, none⟩)) rfl (by kernel_rfl) (by kernel_rfl) (by kernel_rfl) (fun _ _ _ h => h) (Or.inl ⟨by rfl, ?_⟩) (by assumption) ?_
      · (intro w hSw; (try dsimp only at hSw); go_simp)
      simp only [Act.put]
      refine wpAnyH_take (i := 2) (v := .slice (some ⟨b, off, none⟩) ps.length cap) rfl (by kernel_rfl) (by kernel_rfl) (by kernel_rfl) (fun _ _ _ h => h) (Or.inl ⟨by rfl, ?_⟩) (by assumption) ?_
      · (intro w hSw; (try dsimp only at hSw); go_simp)
      simp only [Act.put]
      refine wpAnyH_take (i := 3) (v := .int .i64 (k : Int)) rfl (by kernel_rfl) (by kernel_rfl) (by kernel_rfl) (fun _ _ _ h => h) (Or.inl ⟨by rfl, ?_⟩) (by assumption) ?_
      · (intro w hSw; (try dsimp only at hSw); go_simp)
      simp only [Act.put]
      refine wpAnyH_take (i := 4) (v := .pointer (some ⟨b, off + k * 4, none⟩)) rfl (by kernel_rfl) (by kernel_rfl) (by kernel_rfl) (fun _ _ _ h => h) (Or.inl ⟨by rfl, ?_⟩) (by assumption) ?_
      · (intro w hSw; (try dsimp only at hSw); go_simp)
      simp only [Act.put]
      refine wpAnyH_take (i := 5) (v := .pointer (some ⟨b, off + k * 4 + 1, none⟩)) rfl (by kernel_rfl) (by kernel_rfl) (by kernel_rfl) (fun _ _ _ h => h) (Or.inl ⟨by rfl, ?_⟩) (by assumption) ?_
      · (intro w hSw; (try dsimp only at hSw); go_simp)
      simp only [Act.put]
      refine wpAnyH_take (i := 6) (v := .int .i64 (fr : Int)) rfl (by kernel_rfl) (by kernel_rfl) (by kernel_rfl) (fun _ _ _ h => h) (Or.inl ⟨by rfl, ?_⟩) (by assumption) ?_
      · (intro w hSw; (try dsimp only at hSw); go_simp)
      simp only [Act.put]
      refine wpAnyH_take (i := 8) (v := .pointer (some ⟨w.heap.size, 1, none⟩)) rfl (by kernel_rfl) (by kernel_rfl) (by kernel_rfl) (fun _ _ _ h => h) (Or.inl ⟨by rfl, ?_⟩) (by assumption) ?_
      · (intro w hSw; (try dsimp only at hSw); go_simp)
      simp only [Act.put]
      refine wpAnyH_take (i := 9) (v := .slice (some ⟨b, off, none⟩) ps.length cap) rfl (by kernel_rfl) (by kernel_rfl) (by kernel_rfl) (fun _ _ _ h => h) (Or.inl ⟨by rfl, ?_⟩) (by assumption) ?_
      · (intro w hSw; (try dsimp only at hSw); go_simp)
      simp only [Act.put]
      refine wpAnyH_take (i := 10) (v := .int .i64 (k : Int)) rfl (by kernel_rfl) (by kernel_rfl) (by kernel_rfl) (fun _ _ _ h => h) (Or.inl ⟨by rfl, ?_⟩) (by assumption) ?_
      · (intro w hSw; (try dsimp only at hSw); go_simp)
      simp only [Act.put]
      refine wpAnyH_take (i := 11) (v := .pointer (some ⟨b, off + k * 4, none⟩)) rfl (by kernel_rfl) (by kernel_rfl) (by kernel_rfl) (fun _ _ _ h => h) (Or.inl ⟨by rfl, ?_⟩) (by assumption) ?_
      · (intro w hSw; (try dsimp only at hSw); go_simp)
      simp only [Act.put]
      refine wpAnyH_take (i := 12) (v := .pointer (some ⟨b, off + k * 4 + 2, none⟩)) rfl (by kernel_rfl) (by kernel_rfl) (by kernel_rfl) (fun _ _ _ h => h) (Or.inl ⟨by rfl, ?_⟩) (by assumption) ?_
      · (intro w hSw; (try dsimp only at hSw); go_simp)
      simp only [Act.put]
      refine wpAnyH_take (i := 13) (v := .int .i64 (tt : Int)) rfl (by kernel_rfl) (by kernel_rfl) (by kernel_rfl) (fun _ _ _ h => h) (Or.inl ⟨by rfl, ?_⟩) (by assumption) ?_
      · (intro w hSw; (try dsimp only at hSw); go_simp)
      simp only [Act.put]
      refine wpAnyH_ready (rs := [7]) (by kernel_rfl) (by simp) ?_
      refine AllReadyH.cons rfl (fun K hK => ?_) AllReadyH.nil
      go_simp
      go_at_call 81
      refine (HDI.out k fr hk _ _ _ hHQ.out hf1 hf2).mono ?_
      rintro e w5 ⟨gR, oR, cR, rfl, hgR, hla, hbx⟩
      refine hK.out _ _ (by (rcases hHeld with ⟨q0, q1, q2, q3, q4⟩; exact ⟨(hbx.cell (p := ⟨w.heap.size, 1, none⟩) (by show w.heap.size < wr.heap.size; omega)).trans q0, (hbx.cell (p := ⟨w.heap.size + 1 + 1 + 1, 0, none⟩) htl).trans q1, (hbx.cell (p := ⟨w.heap.size + 1 + 1 + 1, 1, none⟩) htl).trans q2, (hbx.cell (p := ⟨b, off + k * 4 + 1, none⟩) hbw).trans q3, (hbx.cell (p := ⟨b, off + k * 4 + 2, none⟩) hbw).trans q4⟩)) (fun hHeld => ?_)
      clear hK K
      refine wpAnyH_ready (rs := [14]) (by kernel_rfl) (by simp) ?_
      refine AllReadyH.cons rfl (fun K hK => ?_) AllReadyH.nil
      go_simp
      go_at_call 100
      refine (hasb_v HH.out _ _ _ hla.iat (by omega)).mono ?_
      rintro e w7 ⟨rfl, hw7⟩
      replace hw7 := hw7.symm
      subst hw7
      refine hK.out _ _ (by first | assumption | exact hHeld) (fun hHeld => ?_)
      clear hK K
      refine wpAnyH_ready (rs := [15]) (by kernel_rfl) (by simp) ?_
      refine AllReadyH.cons rfl (fun K hK => ?_) AllReadyH.nil
      go_simp
      refine hK.out _ _ (by first | assumption | go_keep) (fun hHeld => ?_)
      clear hK K
      refine wpAnyH_done (by kernel_rfl) ?_ _
      obtain ⟨q0, q1, q2, q3, q4⟩ := hHeld
      have hby : Below wr.heap.size wr w5 := ((Below.refl wr.heap.size wr).drew).trans (show Below wr.heap.size wr.drew w5 from hbx)
      have HB5 := Lib.hid (on_call HB.out hby)
      have HS5 := Lib.hid (show SsR ps w w5 N k g c from ⟨HS.out.1.below hby, HS.out.2.1.below hby, own_onP HS.out.2.2.1 hby, HS.out.2.2.2⟩)
      have hs5 : wr.heap.size ≤ w5.heap.size := hby.size
      have bc : ∀ o, w5.cell? ⟨b, o, none⟩ = wr.cell? ⟨b, o, none⟩ := fun o => hby.cell (p := ⟨b, o, none⟩) hbw
      have r0 := (bc _).trans p0
      have r1 := (bc _).trans p1
      have r2 := (bc _).trans p2
      have r3 := (bc _).trans p3
      have x1 := (hby.cell (p := ⟨w.heap.size, 1, none⟩) hz).trans b1
      have hbw5 : b < w5.heap.size := by omega
      have hz5 : w.heap.size < w5.heap.size := by omega
      have htl5 : w.heap.size + 1 + 1 + 1 < w5.heap.size := by omega
      have f5 := HS5.out.2.1.frozen 1
      clear HB HS hbx hby hla hgR t0 t1 b0 b1 p0 p1 p2 p3 bc q1 q3 q4 hz htl hbw hHQ
      cases vb with
      | true =>
        have hs := Lib.hid (HY.out (HXC.out.1 rfl))
        have HS6 := Lib.hid (show SsR ps w w5 N (k + 1) g c from by unfold SsR; rw [hs.out]; exact HS5.out)
        obtain ⟨b0, b1⟩ := box2 HB5.out
        go_wp2
        go_roundw
        case rel => exact ⟨k + 1, g, c, by omega, by go_num, HS6, HB5⟩
        case measure => simp [intOf]; omega
      | false =>
        have hs := Lib.hid (HNo.out (fun hc => by have := HXC.out.2 hc; cases this))
        have ho := HS5.out.2.2.1
        have hobw : (Value.slice (some ⟨g, 0, none⟩) (spT ps k).length c).ownBlock = some g := rfl
        have hgb : b ≠ g := by omega
        have hgw0 : w.heap.size ≠ g := by omega
        have hl9 : (spT ps k).length ≤ 10 := by omega
        go_wp2
        refine wp_region_held_drew (S := fun w' => w'.cell? ⟨w.heap.size, 1, none⟩ = some (.slice (some ⟨b, off, none⟩) ps.length cap) ∧ w'.cell? ⟨b, off + k * 4, none⟩ = some (.int .i64 pid) ∧ w'.cell? ⟨b, off + k * 4 + 1, none⟩ = some (.int .i64 (fr : Int)) ∧ w'.cell? ⟨b, off + k * 4 + 2, none⟩ = some (.int .i64 (tt : Int)) ∧ w'.cell? ⟨b, off + k * 4 + 3, none⟩ = some (.int .i64 psz)) (by kernel_rfl) (by go_keep) (fun hHeld => ?_)
        refine wpAnyH_take (i := 0) (v := .pointer (some ⟨w.heap.size + 1 + 1 + 1, 1, none⟩)) rfl (by kernel_rfl) (by kernel_rfl) (by kernel_rfl) (fun _ _ _ h => h) (Or.inl ⟨by rfl, ?_⟩) (by assumption) ?_
        · (intro w hSw; (try dsimp only at hSw); go_simp)
        simp only [Act.put, List.setIfInBounds_toArray]
        refine wpAnyH_take (i := 2) (v := .pointer (some ⟨w.heap.size, 1, none⟩)) rfl (by kernel_rfl) (by kernel_rfl) (by kernel_rfl) (fun _ _ _ h => h) (Or.inl ⟨by rfl, ?_⟩) (by assumption) ?_
        · (intro w hSw; (try dsimp only at hSw); go_simp)
        simp only [Act.put]
        refine wpAnyH_take (i := 3) (v := .slice (some ⟨b, off, none⟩) ps.length cap) rfl (by kernel_rfl) (by kernel_rfl) (by kernel_rfl) (fun _ _ _ h => h) (Or.inl ⟨by rfl, ?_⟩) (by assumption) ?_
        · (intro w hSw; (try dsimp only at hSw); go_simp)
        simp only [Act.put]
        refine wpAnyH_take (i := 4) (v := .int .i64 (k : Int)) rfl (by kernel_rfl) (by kernel_rfl) (by kernel_rfl) (fun _ _ _ h => h) (Or.inl ⟨by rfl, ?_⟩) (by assumption) ?_
        · (intro w hSw; (try dsimp only at hSw); go_simp)
        simp only [Act.put]
        refine wpAnyH_take (i := 5) (v := .pointer (some ⟨b, off + k * 4, none⟩)) rfl (by kernel_rfl) (by kernel_rfl) (by kernel_rfl) (fun _ _ _ h => h) (Or.inl ⟨by rfl, ?_⟩) (by assumption) ?_
        · (intro w hSw; (try dsimp only at hSw); go_simp)
        simp only [Act.put]
        refine wpAnyH_take (i := 6) (v := .agg #[.int .i64 pid, .int .i64 (fr : Int), .int .i64 (tt : Int), .int .i64 psz]) rfl (by kernel_rfl) (by kernel_rfl) (by kernel_rfl) (fun _ _ _ h => h) (Or.inl ⟨by rfl, ?_⟩) (by assumption) ?_
        · (intro w hSw; (try dsimp only at hSw); go_simp)
        simp only [Act.put]
        refine wpAnyH_ready (rs := [1, 7]) (by kernel_rfl) (by simp) ?_
        refine AllReadyH.cons rfl (fun K hK => ?_) (AllReadyH.cons rfl (fun K hK => ?_) AllReadyH.nil)
        · go_simp
          refine hK.out _ _ (by first | assumption | go_keep) (fun hHeld => ?_)
          clear hK K
          refine wpAnyH_ready (rs := [7]) (by kernel_rfl) (by simp) ?_
          refine AllReadyH.cons rfl (fun K hK => ?_) AllReadyH.nil
          go_simp
          refine hK.out _ _ (by first | assumption | go_keep) (fun hHeld => ?_)
          clear hK K
          have hown5 := (ho.alloc (.cells #[.int .i64 pid, .int .i64 (fr : Int), .int .i64 (tt : Int), .int .i64 psz] 40)).drew
          refine wpAnyH_ready (rs := [8]) (by kernel_rfl) (by simp) ?_
          refine AllReadyH.cons rfl (fun K hK => ?_) AllReadyH.nil
          refine step_append_lies _ (by rfl) _ _ _ (by rfl) (w.heap.size + 1 + 1) 40 i0 _ 4 32 Try.underlying24 hi0 hz0 hz1 hz2 rfl (by omega) (.slice (some ⟨g, 0, none⟩) (spT ps k).length c) (spT ps k).length (pcs (spT ps k)) (by rfl) (hown5)
            ⟨w5.heap.size, 0, none⟩ 1 1 (pcs4 ⟨pid, fr, tt, psz⟩) (by rfl) (by rfl) (cells_new4 w5 _ _ _ _) (by intro u hu; simp [pcs4] at hu; rcases hu with rfl | rfl | rfl | rfl <;> rfl)
            (by omega) (by simp only [maxLen]; omega) (by omega) (by simp; omega) (w5.heap.size + 1) (by simp) ?_
          intro g3 c3 w7 hown' hgrow hat hlt7
          have hHeld2 := hHeld
          refine hK.out _ _ (by rcases hHeld2 with ⟨q0, q1, q2, q3, q4⟩; exact ⟨(hgrow.cell_far _ (by simp; omega) (by simp [Value.ownBlock]; omega)).trans q0, (hgrow.cell_far _ (by simp; omega) (by simp [Value.ownBlock]; omega)).trans q1, (hgrow.cell_far _ (by simp; omega) (by simp [Value.ownBlock]; omega)).trans q2, (hgrow.cell_far _ (by simp; omega) (by simp [Value.ownBlock]; omega)).trans q3, (hgrow.cell_far _ (by simp; omega) (by simp [Value.ownBlock]; omega)).trans q4⟩) (fun hHeld => ?_)
          clear hK K hHeld2
          have hbl5 : Below w5.heap.size w5 (w5.alloc (.cells #[.int .i64 pid, .int .i64 (fr : Int), .int .i64 (tt : Int), .int .i64 psz] 40)).drew := ((Below.refl w5.heap.size w5).alloc (Nat.le_refl _) (.cells #[.int .i64 pid, .int .i64 (fr : Int), .int .i64 (tt : Int), .int .i64 psz] 40)).drew
          have HT1 := Lib.hid ((HS5.out.1.below hbl5).grown (g := g) hgrow (by omega))
          have HT2 := Lib.hid ((HS5.out.2.1.below hbl5).grown (g := g) hgrow (by omega))
          have HB7 := Lib.hid ((HB5.out.alloc (by omega) (.cells #[.int .i64 pid, .int .i64 (fr : Int), .int .i64 (tt : Int), .int .i64 psz] 40)).drew.grown hgrow (by show w.heap.size + 1 ≤ (w5.alloc (.cells #[.int .i64 pid, .int .i64 (fr : Int), .int .i64 (tt : Int), .int .i64 psz] 40)).heap.size; simp; omega) (fun x hx => by have hx2 : g = x := (by simpa [Value.ownBlock] using hx); omega))
          have hg3 : g3 ≠ w.heap.size + 1 + 1 + 1 := by
            rcases hat with h | h
            · have hx2 : g = g3 := (by simpa [Value.ownBlock] using h)
              omega
            · omega
          have hown2 : w7.ownsRow (w.heap.size + 1 + 1) 40 4 (.slice (some ⟨g3, 0, none⟩) (spT ps (k + 1)).length c3) (spT ps (k + 1)).length (pcs (spT ps (k + 1))) := by
            rw [hs.out, pcs_snoc, List.length_append]
            exact hown'
          have hlen1 := Lib.hid (show (spT ps (k + 1)).length = (spT ps k).length + 1 from by rw [hs.out, List.length_append]; rfl)
          have f7 := HT2.out.frozen 1
          have c7 := HT2.out.cell.2
          have hT7 := HT2.out.lt
          have hne7 : w.heap.size + 1 + 1 + 1 ≠ b := by omega
          have hne8 : w.heap.size + 1 + 1 + 1 ≠ w.heap.size := by omega
          refine wpAnyH_ready (rs := [9]) (by kernel_rfl) (by simp) ?_
          refine AllReadyH.cons rfl (fun K hK => ?_) AllReadyH.nil
          go_simp
          refine hK.out _ _ (by first | assumption | go_keep) (fun hHeld => ?_)
          clear hK K
          refine wpAnyH_ready (rs := [10]) (by kernel_rfl) (by simp) ?_
          refine AllReadyH.cons rfl (fun K hK => ?_) AllReadyH.nil
          go_simp
          refine hK.out _ _ (by first | assumption | go_keep) (fun hHeld => ?_)
          clear hK K
          refine wpAnyH_done (by kernel_rfl) ?_ _
          have HS7 := Lib.hid (show SsR ps w (w7.setCell ⟨w.heap.size + 1 + 1 + 1, 1, none⟩ (.slice (some ⟨g3, 0, none⟩) (spT ps (k + 1)).length c3)) N (k + 1) g3 c3 from
            ⟨HT1.out.other _ (by show w.heap.size + 1 ≠ w.heap.size + 1 + 1 + 1; omega), HT2.out.set1 _, hown2.kept ⟨rfl, rfl, rfl, by simp, fun x hx hne => Below.heap_setCell _ _ _ _ (by intro e; exact hne (by rw [e]))⟩ (.inr (by simp [Value.ownBlock]; omega)), hg3⟩)
          have HB8 := Lib.hid (HB7.out.setCell (p := ⟨w.heap.size + 1 + 1 + 1, 1, none⟩) (by show w.heap.size + 1 ≤ w.heap.size + 1 + 1 + 1; omega) (.slice (some ⟨g3, 0, none⟩) (spT ps (k + 1)).length c3))
          rw [hlen1.out] at HS7 HB8
          clear hown' hgrow hat HT1 HT2 HB7 hown2 hown5 HS5 HB5 ho
          go_wp2
          go_roundw
          case rel => exact ⟨k + 1, g3, c3, by omega, by go_num, HS7, HB8⟩
          case measure => simp [intOf]; omega
        · go_simp
          refine hK.out _ _ (by first | assumption | go_keep) (fun hHeld => ?_)
          clear hK K
          refine wpAnyH_ready (rs := [1]) (by kernel_rfl) (by simp) ?_
          refine AllReadyH.cons rfl (fun K hK => ?_) AllReadyH.nil
          go_simp
          refine hK.out _ _ (by first | assumption | go_keep) (fun hHeld => ?_)
          clear hK K
          have hown5 := (ho.alloc (.cells #[.int .i64 pid, .int .i64 (fr : Int), .int .i64 (tt : Int), .int .i64 psz] 40)).drew
          refine wpAnyH_ready (rs := [8]) (by kernel_rfl) (by simp) ?_
          refine AllReadyH.cons rfl (fun K hK => ?_) AllReadyH.nil
          refine step_append_lies _ (by rfl) _ _ _ (by rfl) (w.heap.size + 1 + 1) 40 i0 _ 4 32 Try.underlying24 hi0 hz0 hz1 hz2 rfl (by omega) (.slice (some ⟨g, 0, none⟩) (spT ps k).length c) (spT ps k).length (pcs (spT ps k)) (by rfl) (hown5)
            ⟨w5.heap.size, 0, none⟩ 1 1 (pcs4 ⟨pid, fr, tt, psz⟩) (by rfl) (by rfl) (cells_new4 w5 _ _ _ _) (by intro u hu; simp [pcs4] at hu; rcases hu with rfl | rfl | rfl | rfl <;> rfl)
            (by omega) (by simp only [maxLen]; omega) (by omega) (by simp; omega) (w5.heap.size + 1) (by simp) ?_
          intro g3 c3 w7 hown' hgrow hat hlt7
          have hHeld2 := hHeld
          refine hK.out _ _ (by rcases hHeld2 with ⟨q0, q1, q2, q3, q4⟩; exact ⟨(hgrow.cell_far _ (by simp; omega) (by simp [Value.ownBlock]; omega)).trans q0, (hgrow.cell_far _ (by simp; omega) (by simp [Value.ownBlock]; omega)).trans q1, (hgrow.cell_far _ (by simp; omega) (by simp [Value.ownBlock]; omega)).trans q2, (hgrow.cell_far _ (by simp; omega) (by simp [Value.ownBlock]; omega)).trans q3, (hgrow.cell_far _ (by simp; omega) (by simp [Value.ownBlock]; omega)).trans q4⟩) (fun hHeld => ?_)
          clear hK K hHeld2
          have hbl5 : Below w5.heap.size w5 (w5.alloc (.cells #[.int .i64 pid, .int .i64 (fr : Int), .int .i64 (tt : Int), .int .i64 psz] 40)).drew := ((Below.refl w5.heap.size w5).alloc (Nat.le_refl _) (.cells #[.int .i64 pid, .int .i64 (fr : Int), .int .i64 (tt : Int), .int .i64 psz] 40)).drew
          have HT1 := Lib.hid ((HS5.out.1.below hbl5).grown (g := g) hgrow (by omega))
          have HT2 := Lib.hid ((HS5.out.2.1.below hbl5).grown (g := g) hgrow (by omega))
          have HB7 := Lib.hid ((HB5.out.alloc (by omega) (.cells #[.int .i64 pid, .int .i64 (fr : Int), .int .i64 (tt : Int), .int .i64 psz] 40)).drew.grown hgrow (by show w.heap.size + 1 ≤ (w5.alloc (.cells #[.int .i64 pid, .int .i64 (fr : Int), .int .i64 (tt : Int), .int .i64 psz] 40)).heap.size; simp; omega) (fun x hx => by have hx2 : g = x := (by simpa [Value.ownBlock] using hx); omega))
          have hg3 : g3 ≠ w.heap.size + 1 + 1 + 1 := by
            rcases hat with h | h
            · have hx2 : g = g3 := (by simpa [Value.ownBlock] using h)
              omega
            · omega
          have hown2 : w7.ownsRow (w.heap.size + 1 + 1) 40 4 (.slice (some ⟨g3, 0, none⟩) (spT ps (k + 1)).length c3) (spT ps (k + 1)).length (pcs (spT ps (k + 1))) := by
            rw [hs.out, pcs_snoc, List.length_append]
            exact hown'
          have hlen1 := Lib.hid (show (spT ps (k + 1)).length = (spT ps k).length + 1 from by rw [hs.out, List.length_append]; rfl)
          have f7 := HT2.out.frozen 1
          have c7 := HT2.out.cell.2
          have hT7 := HT2.out.lt
          have hne7 : w.heap.size + 1 + 1 + 1 ≠ b := by omega
          have hne8 : w.heap.size + 1 + 1 + 1 ≠ w.heap.size := by omega
          refine wpAnyH_ready (rs := [9]) (by kernel_rfl) (by simp) ?_
          refine AllReadyH.cons rfl (fun K hK => ?_) AllReadyH.nil
          go_simp
          refine hK.out _ _ (by first | assumption | go_keep) (fun hHeld => ?_)
          clear hK K
          refine wpAnyH_ready (rs := [10]) (by kernel_rfl) (by simp) ?_
          refine AllReadyH.cons rfl (fun K hK => ?_) AllReadyH.nil
          go_simp
          refine hK.out _ _ (by first | assumption | go_keep) (fun hHeld => ?_)
          clear hK K
          refine wpAnyH_done (by kernel_rfl) ?_ _
          have HS7 := Lib.hid (show SsR ps w (w7.setCell ⟨w.heap.size + 1 + 1 + 1, 1, none⟩ (.slice (some ⟨g3, 0, none⟩) (spT ps (k + 1)).length c3)) N (k + 1) g3 c3 from
            ⟨HT1.out.other _ (by show w.heap.size + 1 ≠ w.heap.size + 1 + 1 + 1; omega), HT2.out.set1 _, hown2.kept ⟨rfl, rfl, rfl, by simp, fun x hx hne => Below.heap_setCell _ _ _ _ (by intro e; exact hne (by rw [e]))⟩ (.inr (by simp [Value.ownBlock]; omega)), hg3⟩)
          have HB8 := Lib.hid (HB7.out.setCell (p := ⟨w.heap.size + 1 + 1 + 1, 1, none⟩) (by show w.heap.size + 1 ≤ w.heap.size + 1 + 1 + 1; omega) (.slice (some ⟨g3, 0, none⟩) (spT ps (k + 1)).length c3))
          rw [hlen1.out] at HS7 HB8
          clear hown' hgrow hat HT1 HT2 HB7 hown2 hown5 HS5 HB5 ho
          go_wp2
          go_roundw
          case rel => exact ⟨k + 1, g3, c3, by omega, by go_num, HS7, HB8⟩
          case measure => simp [intOf]; omega
    · have hkk : k = ps.length := by omega
      subst hkk
      have HP := Lib.hid (own_patP HS.out.2.2.1)
      obtain ⟨s0, s1⟩ := HS.out.1.cell
      have hsl1 := HS.out.1.lt
      have g0 := HS.out.1.frozen 0
      have g1 := HS.out.1.frozen 1
      have hcc : (spT ps ps.length).length ≤ c := by
        rcases HS.out.2.2.1.2 with ⟨hv, _⟩ | ⟨g', cap', cur, hv, _, _, hcap, _⟩
        · cases hv
        · injection hv with h1 h2 h3
          omega
      go_wp2
      refine bodyPost_ret (v := nv N (some ⟨g, 0, none⟩) (spL ps).length c) (by simp [results, Try.results82, go_sem, s0, s1]; rfl) rfl ⟨g, c, rfl, hcc, by omega, ?_, ?_⟩
      · exact pat_set1 (pat_set1 HP.out (by show w.heap.size + 1 ≠ g; omega)) (by show w.heap.size + 1 ≠ g; omega)
      · exact ((below_box HB.out).setCell (p := ⟨w.heap.size + 1, 0, none⟩) (by show w.heap.size ≤ w.heap.size + 1; omega) _).setCell (p := ⟨w.heap.size + 1, 1, none⟩) (by show w.heap.size ≤ w.heap.size + 1; omega) _
end Go.Proofs.Ytipnecmgpfmjeaa.S2
