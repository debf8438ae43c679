/- NeedlessValves of the model: contracts. Conditions: each theorem's own premises. -/
import Derived.Test.YtmkpgkhfbhdhgaaSDry
import Derived.Test.YtmkpgkhfbhdhgaaNeed
namespace Go.Proofs.Ytmkpgkhfbhdhgaa.S2
open Go.RowKit Go.Sort P2 P4

theorem needB_at {ps : List Pp} {vs : List Vv} {v : Vv} {i u : Nat} (h1 : pidx ps v.pp = i) (h2 : v.nd.toNat = u) : needB ps vs v = coB ps vs (one u) (9 + i) := by unfold needB; rw [h1, h2]
theorem find_at {n : Int} {A : Option Addr} {cap : Nat} {ps : List Pp} {x : Int} {i : Nat} (hs : ∀ i j, i < j → j < ps.length → (pAt ps i).id < (pAt ps j).id) (hi : At ps x i) (w : World) (h : PAt w A ps) (hm : ps.length ≤ 1048576) :
    Calls Try.prog 62 #[nv n A ps.length cap, .int .i64 x] w fun e w' => e = .returned (.int .i64 (i : Int)) ∧ Below w.heap.size w w' :=
  (find_any n A cap ps x w h hm).mono fun _ _ ⟨⟨r, he, hr⟩, hb⟩ => ⟨by rw [he, find_of hs hr hi], hb⟩
theorem has_b {g o c : Nat} {l : List Int} {x : Int} {v : Bool} (w : World) (h : LAt w g o c l) (hl : l.length ≤ 1000) (hv : hasB l x = v) :
    Calls Try.prog 81 #[.slice (some ⟨g, o, none⟩) l.length c, .int .i64 x] w fun e w' => e = .returned (.bool v) ∧ Below w.heap.size w w' :=
  (has_any (some ⟨g, o, none⟩) c l x w h.iat (by omega)).mono fun _ _ ⟨he, hw⟩ => ⟨by rw [he, hv], by rw [hw]; exact Below.refl _ _⟩

set_option maxHeartbeats 2000000 in
set_option maxRecDepth 100000 in
theorem sneed_no (n : Int) (A : Option Addr) (cap : Nat) (ps : List Pp) (AV : Option Addr) (capv : Nat) (vs : List Vv) (w : World) (h : PAt w A ps) (hm : ps.length ≤ maxLen) (hv : VAt w AV vs) (hmv : vs.length ≤ maxLen) (hb : goodV n ps vs = false) :
    Calls Try.prog 42 #[nv n A ps.length cap, .slice AV vs.length capv] w (GivesA w [] false) := by
  have H := Lib.hid (fun w' (hb' : Below w.heap.size w w') => sgoodv_v hb A cap AV capv w' (h.kept hb' (Nat.le_refl _)) hm (hv.kept hb' (Nat.le_refl _)) hmv)
  clear h hm hv hmv hb
  obtain ⟨W1, hW1⟩ : ∃ W1, W1 = (w.alloc (.cells #[.int .i64 n, .slice A ps.length cap] 31)).alloc (.cells #[] 3) := ⟨_, rfl⟩
  have hzW : W1.heap.size = w.heap.size + 2 := by rw [hW1]; simp
  have p0 : W1.cell? ⟨w.heap.size, 0, none⟩ = some (.int .i64 n) := by rw [hW1]; go_simp
  have p1 : W1.cell? ⟨w.heap.size, 1, none⟩ = some (.slice A ps.length cap) := by rw [hW1]; go_simp
  have HBW := Lib.hid (show Below w.heap.size w W1 from by rw [hW1]; exact ((Below.refl _ _).alloc (Nat.le_refl _) _).alloc (by simp) _)
  have HO0 := Lib.hid (show IOwn W1 (w.heap.size + 1) (.slice (some ⟨w.heap.size + 1, 0, none⟩) 0 0) [] from by
    have h1 := own_empty (w.alloc (.cells #[.int .i64 n, .slice A ps.length cap] 31)) (w.heap.size + 1) (by simp)
    rw [hW1]; simpa using h1)
  have HW1 := Lib.hid hW1
  have HZW := Lib.hid hzW
  have hl1 : w.heap.size < W1.heap.size := by omega
  clear hW1 hzW
  go_enter Try.func42, Try.ntmps42
  go_upto_region 2 with (fail)
  rw [← HW1.out]
  clear HW1
  go_wp2_with (go_at_call 54; refine (H.out _ HBW.out).mono ?_; rintro e w1 ⟨rfl, hb1⟩; have HB1 := Lib.hid (HBW.out.trans (hb1.mono HBW.out.size)); have hw1 : w.heap.size < w1.heap.size := (by have := hb1.size; omega); have a0 := (hb1.cell (p := ⟨w.heap.size, 0, none⟩) hl1).trans p0; have a1 := (hb1.cell (p := ⟨w.heap.size, 1, none⟩) hl1).trans p1; have HO1 := Lib.hid (HO0.out.on hb1); have hz1W := hb1.size; clear hb1)
  go_ret2
  exact ⟨w.heap.size + 1, 0, 0, rfl, by omega, .inl rfl, HB1.out, by have := HZW.out; omega⟩

set_option maxHeartbeats 4000000 in
set_option maxRecDepth 100000 in
theorem sneed_yes (N : Nat) (A : Option Addr) (cap : Nat) (ps : List Pp) (AV : Option Addr) (capv : Nat) (vs : List Vv) (w : World) (h : PAt w A ps) (hv : VAt w AV vs) (hb : goodV N ps vs = true) :
    Calls Try.prog 42 #[nv N A ps.length cap, .slice AV vs.length capv] w (GivesA w (needL ps vs) true) := by
  have hgd := goodV_of hb
  have hm : ps.length ≤ maxLen := by have := hgd.1.2.2.1; unfold maxLen; omega
  have hmv : vs.length ≤ maxLen := by have := hgd.2.1; unfold maxLen; omega
  have H := Lib.hid (fun w' (hb' : Below w.heap.size w w') => sgoodv_v hb A cap AV capv w' (h.kept hb' (Nat.le_refl _)) hm (hv.kept hb' (Nat.le_refl _)) hmv)
  have HA := Lib.hid h
  have HVV := Lib.hid hv
  have HG := Lib.hid hgd
  have hvl := hgd.2.1
  have hl10 := hgd.1.2.2.1
  have hN8 : N ≤ 8 := by have := hgd.1.2.1; omega
  obtain ⟨i0, hi0, hz0, hz1, hz2⟩ := info_parts infoI
  clear h hm hv hmv hb hgd
  obtain ⟨W1, hW1⟩ : ∃ W1, W1 = (w.alloc (.cells #[.int .i64 (N : Int), .slice A ps.length cap] 31)).alloc (.cells #[] 3) := ⟨_, rfl⟩
  have hzW : W1.heap.size = w.heap.size + 2 := by rw [hW1]; simp
  have p0 : W1.cell? ⟨w.heap.size, 0, none⟩ = some (.int .i64 (N : Int)) := by rw [hW1]; go_simp
  have p1 : W1.cell? ⟨w.heap.size, 1, none⟩ = some (.slice A ps.length cap) := by rw [hW1]; go_simp
  have HBW := Lib.hid (show Below w.heap.size w W1 from by rw [hW1]; exact ((Below.refl _ _).alloc (Nat.le_refl _) _).alloc (by simp) _)
  have HO0 := Lib.hid (show IOwn W1 (w.heap.size + 1) (.slice (some ⟨w.heap.size + 1, 0, none⟩) 0 0) [] from by
    have h1 := own_empty (w.alloc (.cells #[.int .i64 (N : Int), .slice A ps.length cap] 31)) (w.heap.size + 1) (by simp)
    rw [hW1]; simpa using h1)
  have HW1 := Lib.hid hW1
  have HZW := Lib.hid hzW
  have hl1 : w.heap.size < W1.heap.size := by omega
  clear hW1 hzW
  go_enter Try.func42, Try.ntmps42
  go_upto_region 2 with (fail)
  rw [← HW1.out]
  clear HW1
  go_wp2_with (go_at_call 54; refine (H.out _ HBW.out).mono ?_; rintro e w1 ⟨rfl, hb1⟩; have HB1 := Lib.hid (HBW.out.trans (hb1.mono HBW.out.size)); have hw1 : w.heap.size < w1.heap.size := (by have := hb1.size; omega); have a0 := (hb1.cell (p := ⟨w.heap.size, 0, none⟩) hl1).trans p0; have a1 := (hb1.cell (p := ⟨w.heap.size, 1, none⟩) hl1).trans p1; have HO1 := Lib.hid (HO0.out.on hb1); have hz1W := hb1.size; clear hb1; refine Hid.out ?_)
  obtain ⟨B, hB⟩ : ∃ B, B = w.heap.size + 1 := ⟨_, rfl⟩
  have HOB := Lib.hid (show IOwn w1 B (.slice (some ⟨w.heap.size + 1, 0, none⟩) 0 0) [] from by rw [hB]; exact HO1.out)
  have hBw : w.heap.size < B := by omega
  have hB1 : B ≤ w1.heap.size := by omega
  have hzw1 := HZW.out
  clear HO0 HO1 hB
  refine Lib.hid ?_
  go_wp2_with fail
  go_loopw [6, 7] (fun v i wr => ∃ k : Nat, k ≤ vs.length ∧ i = .int .i64 (k : Int) ∧ Hid (IOwn wr B v (selTo (needB ps vs) vs k)) ∧ Hid (v ≠ .slice none 0 0) ∧ Hid (Below B w1 wr)) (fun _ i _ => vs.length - (intOf i).toNat)
  case atStart => exact ⟨0, Nat.zero_le _, rfl, HOB, Lib.hid (by simp), Lib.hid (Below.refl _ _)⟩
  case round =>
    clear HOB
    obtain ⟨k, hk, rfl, hown, hvn, hb⟩ := hrel
    obtain ⟨gv, cv, rfl, hgv⟩ := own_slice hown.out hvn.out
    have hzr := hb.out.size
    by_cases hlt : k < vs.length
    · obtain ⟨b, off, hA, hbl0, g0, g1, g2, g3⟩ := HVV.out.at_ hlt
      subst hA
      have hbr := Lib.hid (HB1.out.trans (hb.out.mono (by omega)))
      have hk0 : (0 : Int) ≤ (k : Int) := by omega
      have hkn : (k : Int) < (vs.length : Int) := by omega
      obtain ⟨i, u, hat, hu, hu1, huN, hu8, hpi, hti⟩ := valve_ok HG.out hlt
      have HSEL := Lib.hid (selTo_succ (needB ps vs) vs k hlt)
      have HAT := Lib.hid hat
      have hil := selTo_len (needB ps vs) vs k
      have HQ := Lib.hid (needB_at (vs := vs) hpi hti)
      clear hpi hti hat
      generalize vAt vs k = v at *
      obtain ⟨id, pp, nd, sh⟩ := v
      dsimp only at g0 g1 g2 g3 hu HAT HSEL
      subst hu
      have h0 := (hbr.out.cell (p := ⟨b, off + k * 4, none⟩) hbl0).trans g0
      have h1 := (hbr.out.cell (p := ⟨b, off + k * 4 + 1, none⟩) hbl0).trans g1
      have h2 := (hbr.out.cell (p := ⟨b, off + k * 4 + 2, none⟩) hbl0).trans g2
      have b0 := (hb.out.cell (p := ⟨w.heap.size, 0, none⟩) hBw).trans a0
      have b1 := (hb.out.cell (p := ⟨w.heap.size, 1, none⟩) hBw).trans a1
      have hbl : b < wr.heap.size := by omega
      have hwr : w.heap.size < wr.heap.size := by omega
      obtain ⟨s, hs⟩ : ∃ s, s = coB ps vs (one u) := ⟨_, rfl⟩
      have HSPR := Lib.hid (fun g1 o1 c1 g2 o2 c2 wx (hbx : Below wr.heap.size wr wx) (l1 : LAt wx g1 o1 c1 [(u : Int)]) (l2 : LAt wx g2 o2 c2 []) => by
        have h7 := spread_any N A cap ps (some ⟨b, off, none⟩) capv vs false g1 o1 c1 g2 o2 c2 [(u : Int)] [] wx (HA.out.kept (hbr.out.trans (hbx.mono (by omega))) (Nat.le_refl _)) (HVV.out.kept (hbr.out.trans (hbx.mono (by omega))) (Nat.le_refl _)) HG.out.1 hvl l1 l2 (ls_node hu1 huN)
        rw [bar_all, sOf_node1 u (by omega), ← hs] at h7
        exact h7)
      rw [← hs] at HQ
      clear g0 g1 g2 g3 hs
      go_upto_region 7 with (fail)
      refine wp_region_held_drew (S := fun w' => w'.cell? ⟨w.heap.size, 0, none⟩ = some (.int .i64 (N : Int)) ∧ w'.cell? ⟨w.heap.size, 1, none⟩ = some (.slice A ps.length cap) ∧ w'.cell? ⟨b, off + k * 4 + 2, none⟩ = some (.int .i64 (u : Int))) (by kernel_rfl) (by exact ⟨b0, b1, h2⟩) (fun hHeld => ?_)
      refine wpAnyH_take (i := 0) (v := .agg #[.int .i64 (N : Int), .slice A ps.length cap]) rfl (by kernel_rfl) (by kernel_rfl) (by kernel_rfl) (fun _ _ _ h => h) (Or.inl ⟨by rfl, ?_⟩) (by assumption) ?_
      · (intro w hSw; (try dsimp only at hSw); go_simp)
      simp only [Act.put, List.setIfInBounds_toArray]
      refine wpAnyH_take (i := 1) (v := .slice (some ⟨b, off, none⟩) vs.length capv) rfl (by kernel_rfl) (by kernel_rfl) (by kernel_rfl) (fun _ _ _ h => h) (Or.inl ⟨by rfl, ?_⟩) (by assumption) ?_
      · (intro w hSw; (try dsimp only at hSw); go_simp)
      simp only [Act.put]
      refine wpAnyH_take (i := 2) (v := .slice (some ⟨b, off, none⟩) vs.length capv) rfl (by kernel_rfl) (by kernel_rfl) (by kernel_rfl) (fun _ _ _ h => h) (Or.inl ⟨by rfl, ?_⟩) (by assumption) ?_
      · (intro w hSw; (try dsimp only at hSw); go_simp)
      simp only [Act.put]
      refine wpAnyH_take (i := 3) (v := .int .i64 (k : Int)) rfl (by kernel_rfl) (by kernel_rfl) (by kernel_rfl) (fun _ _ _ h => h) (Or.inl ⟨by rfl, ?_⟩) (by assumption) ?_
      · (intro w hSw; (try dsimp only at hSw); go_simp)
      simp only [Act.put]
      refine wpAnyH_take (i := 4) (v := .pointer (some ⟨b, off + k * 4, none⟩)) rfl (by kernel_rfl) (by kernel_rfl) (by kernel_rfl) (fun _ _ _ h => h) (Or.inl ⟨by rfl, ?_⟩) (by assumption) ?_
      · (intro w hSw; (try dsimp only at hSw); go_simp)
      simp only [Act.put]
      refine wpAnyH_take (i := 5) (v := .pointer (some ⟨b, off + k * 4 + 2, none⟩)) rfl (by kernel_rfl) (by kernel_rfl) (by kernel_rfl) (fun _ _ _ h => h) (Or.inl ⟨by rfl, ?_⟩) (by assumption) ?_
      · (intro w hSw; (try dsimp only at hSw); go_simp)
      simp only [Act.put]
      refine wpAnyH_take (i := 6) (v := .int .i64 (u : Int)) rfl (by kernel_rfl) (by kernel_rfl) (by kernel_rfl) (fun _ _ _ h => h) (Or.inl ⟨by rfl, ?_⟩) (by assumption) ?_
      · (intro w hSw; (try dsimp only at hSw); go_simp)
      simp only [Act.put]
      refine wpAnyH_ready (rs := [7, 8]) (by kernel_rfl) (by simp) ?_
      refine AllReadyH.cons rfl (fun K hK => ?_) (AllReadyH.cons rfl (fun K hK => ?_) AllReadyH.nil)
      · go_simp
        refine hK.out _ _ (by first | assumption | go_keep) (fun hHeld => ?_)
        clear hK K
        refine wpAnyH_ready (rs := [8]) (by kernel_rfl) (by simp) ?_
        refine AllReadyH.cons rfl (fun K hK => ?_) AllReadyH.nil
        go_simp
        refine hK.out _ _ (by first | assumption | go_keep) (fun hHeld => ?_)
        clear hK K
        have HBX := Lib.hid (show Below wr.heap.size wr ((wr.drew.alloc (.cells #[iv (u : Int)] 3)).alloc (.cells #[] 3)) from (((Below.refl wr.heap.size wr).drew.alloc (Nat.le_refl _) _).alloc (by simp) _))
        refine wpAnyH_ready (rs := [9]) (by kernel_rfl) (by simp) ?_
        refine AllReadyH.cons rfl (fun K hK => ?_) AllReadyH.nil
        go_simp
        go_at_call 63
        refine (HSPR.out (wr.heap.size) 0 1 (wr.heap.size + 1) 0 0 _ HBX.out (lat_new (lat_one wr.drew (u : Int)) _) (show LAt ((wr.drew.alloc (.cells #[iv (u : Int)] 3)).alloc (.cells #[] 3)) (wr.heap.size + 1) 0 0 [] from by have h8 := lat_nil (wr.drew.alloc (.cells #[iv (u : Int)] 3)); simpa using h8)).mono ?_
        rintro e w3 ⟨e1, eo1, ec1, e2, eo2, ec2, rfl, hl1x, hl2x, hb3⟩
        have HL2 := Lib.hid hl2x
        have HB3 := Lib.hid (HBX.out.trans (hb3.mono (by simp; omega)))
        clear hl1x hl2x
        refine hK.out _ _ (by rcases hHeld with ⟨q0, q1, q2⟩; exact ⟨(hb3.cell (p := ⟨w.heap.size, 0, none⟩) (by simp; omega)).trans q0, (hb3.cell (p := ⟨w.heap.size, 1, none⟩) (by simp; omega)).trans q1, (hb3.cell (p := ⟨b, off + k * 4 + 2, none⟩) (by simp; omega)).trans q2⟩) (fun hHeld => ?_)
        clear hK K
        clear hb3
        refine wpAnyH_take (i := 10) (v := .tuple #[.slice (some ⟨e1, eo1, none⟩) (nodesL N s true).length ec1, .slice (some ⟨e2, eo2, none⟩) (idxL ps.length s true).length ec2]) rfl (by kernel_rfl) (by kernel_rfl) (by kernel_rfl) (fun _ _ _ h => h) (Or.inl ⟨by rfl, ?_⟩) (by assumption) ?_
        · (intro w hSw; (try dsimp only at hSw); go_simp)
        simp only [Act.put]
        refine wpAnyH_take (i := 11) (v := .slice (some ⟨e1, eo1, none⟩) (nodesL N s true).length ec1) rfl (by kernel_rfl) (by kernel_rfl) (by kernel_rfl) (fun _ _ _ h => h) (Or.inl ⟨by rfl, ?_⟩) (by assumption) ?_
        · (intro w hSw; (try dsimp only at hSw); go_simp)
        simp only [Act.put]
        refine wpAnyH_take (i := 12) (v := .slice (some ⟨e2, eo2, none⟩) (idxL ps.length s true).length ec2) rfl (by kernel_rfl) (by kernel_rfl) (by kernel_rfl) (fun _ _ _ h => h) (Or.inl ⟨by rfl, ?_⟩) (by assumption) ?_
        · (intro w hSw; (try dsimp only at hSw); go_simp)
        simp only [Act.put]
        refine wpAnyH_ready (rs := [13]) (by kernel_rfl) (by simp) ?_
        refine AllReadyH.cons rfl (fun K hK => ?_) AllReadyH.nil
        go_simp
        refine hK.out _ _ (by first | assumption | go_keep) (fun hHeld => ?_)
        clear hK K
        refine wpAnyH_ready (rs := [14]) (by kernel_rfl) (by simp) ?_
        refine AllReadyH.cons rfl (fun K hK => ?_) AllReadyH.nil
        go_simp
        refine hK.out _ _ (by first | assumption | go_keep) (fun hHeld => ?_)
        clear hK K
        refine wpAnyH_done (by kernel_rfl) ?_ _
        have hzz3 := HB3.out.size
        have f0 := (HB3.out.cell (p := ⟨w.heap.size, 0, none⟩) hwr).trans b0
        have f1 := (HB3.out.cell (p := ⟨w.heap.size, 1, none⟩) hwr).trans b1
        have k0 := (HB3.out.cell (p := ⟨b, off + k * 4, none⟩) hbl).trans h0
        have k1 := (HB3.out.cell (p := ⟨b, off + k * 4 + 1, none⟩) hbl).trans h1
        have HBR3 := Lib.hid (hbr.out.trans (HB3.out.mono (by omega)))
        have HOW := Lib.hid (show IOwn w3 B (.slice (some ⟨gv, 0, none⟩) (selTo (needB ps vs) vs k).length cv) (selTo (needB ps vs) vs k) from hown.out.on HB3.out)
        have HBB3 := Lib.hid (show Below B w1 w3 from hb.out.trans (HB3.out.mono (by omega)))
        obtain ⟨qb, hqb⟩ : ∃ qb, s (9 + i) = qb := ⟨_, rfl⟩
        have HH := Lib.hid (fun wx (hbx : Below w3.heap.size w3 wx) => has_b (x := (i : Int)) wx (HL2.out.kept hbx) (by have := idxL_len ps.length s true; omega) ((hasB_idx HAT.out.1).trans hqb))
        have HF := Lib.hid (fun wx (hbx : Below w3.heap.size w3 wx) => find_at (n := (N : Int)) (cap := cap) (good_ids HG.out.1) HAT.out wx (HA.out.kept (HBR3.out.trans (hbx.mono (by omega))) (Nat.le_refl _)) (by omega))
        have HQ2 := Lib.hid (HQ.out.trans hqb)
        have hb3l : b < w3.heap.size := by omega
        have hw3l : w.heap.size < w3.heap.size := by omega
        clear hqb b0 b1 h0 h1 h2 HB3 hHeld
        have hG := @cell_g
        go_wp2_with fail
        refine region_below (by kernel_rfl) (by kernel_rfl) ?_
        repeat (first | go_big_quiet_step ((first | (go_at_call 62; exact met_at HF.out) | (go_at_call 81; exact met_at HH.out))))
        refine wpQuiet_nil ?_
        intro w2 hb2
        clear hG
        have e0 := (hb2.cell (p := ⟨b, off + k * 4, none⟩) hb3l).trans k0
        have hzw2 := hb2.size
        have HO2 := Lib.hid (HOW.out.on hb2)
        have HB2 := Lib.hid (HBB3.out.trans (hb2.mono (by omega)))
        clear hb2 k0 k1 f0 f1
        cases qb with
        | true =>
          have HN := Lib.hid (show selTo (needB ps vs) vs (k + 1) = selTo (needB ps vs) vs k ++ [id] by rw [HSEL.out, if_pos HQ2.out])
          have ho := HO2.out
          unfold IOwn at ho
          go_wp2_with (at_builtin; go_must (refine wpList_append_own _ rfl _ _ 38 rfl B 3 i0 (.int .i64 0) 1 8 Try.underlying38 hi0 hz0 hz1 hz2 rfl (by decide) _ _ _ rfl (ho.alloc _) ⟨w2.heap.size, 0, none⟩ 1 1 [iv id] rfl rfl (cell_one_new _ _ _) ?zac2 ?zac3 ?zac4 ?zac5 ?_))
          case zac2 => intro u hu; simp at hu; subst hu; rfl
          case zac3 => unfold maxLen; omega
          case zac4 => omega
          case zac5 => simp; omega
          intro v' w5 hown' hgrow hnil
          have hown3 := Lib.hid (IOwn.push hown')
          rw [← HN.out] at hown3
          have hB3 := Lib.hid ((HB2.out.alloc (by omega) _).grown hgrow (by simp; omega) (fun g hg => (ho.lt g hg).1))
          have hvn3 := Lib.hid (show v' ≠ .slice none 0 0 from fun e => by simp [e] at hnil)
          clear hown' hgrow hnil ho
          go_wp2_with fail
          go_roundw
          case rel => exact ⟨k + 1, by omega, by go_num, hown3, hvn3, hB3⟩
          case measure => simp [intOf]; omega
        | false =>
          have HN := Lib.hid (show selTo (needB ps vs) vs (k + 1) = selTo (needB ps vs) vs k by rw [HSEL.out, if_neg (by rw [HQ2.out]; simp)])
          have HO3 := Lib.hid (show IOwn w2 B (.slice (some ⟨gv, 0, none⟩) (selTo (needB ps vs) vs k).length cv) (selTo (needB ps vs) vs (k + 1)) from by rw [HN.out]; exact HO2.out)
          clear HN
          go_wp2_with fail
          go_roundw
          case rel => exact ⟨k + 1, by omega, by go_num, HO3, hvn, HB2⟩
          case measure => simp [intOf]; omega
      · go_simp
        refine hK.out _ _ (by first | assumption | go_keep) (fun hHeld => ?_)
        clear hK K
        refine wpAnyH_ready (rs := [7]) (by kernel_rfl) (by simp) ?_
        refine AllReadyH.cons rfl (fun K hK => ?_) AllReadyH.nil
        go_simp
        refine hK.out _ _ (by first | assumption | go_keep) (fun hHeld => ?_)
        clear hK K
        have HBX := Lib.hid (show Below wr.heap.size wr ((wr.drew.alloc (.cells #[] 3)).alloc (.cells #[iv (u : Int)] 3)) from (((Below.refl wr.heap.size wr).drew.alloc (Nat.le_refl _) _).alloc (by simp) _))
        refine wpAnyH_ready (rs := [9]) (by kernel_rfl) (by simp) ?_
        refine AllReadyH.cons rfl (fun K hK => ?_) AllReadyH.nil
        go_simp
        go_at_call 63
        refine (HSPR.out (wr.heap.size + 1) 0 1 (wr.heap.size) 0 0 _ HBX.out (show LAt ((wr.drew.alloc (.cells #[] 3)).alloc (.cells #[iv (u : Int)] 3)) (wr.heap.size + 1) 0 1 [(u : Int)] from by have h8 := lat_one (wr.drew.alloc (.cells #[] 3)) (u : Int); simpa using h8) (lat_new (lat_nil wr.drew) _)).mono ?_
        rintro e w3 ⟨e1, eo1, ec1, e2, eo2, ec2, rfl, hl1x, hl2x, hb3⟩
        have HL2 := Lib.hid hl2x
        have HB3 := Lib.hid (HBX.out.trans (hb3.mono (by simp; omega)))
        clear hl1x hl2x
        refine hK.out _ _ (by rcases hHeld with ⟨q0, q1, q2⟩; exact ⟨(hb3.cell (p := ⟨w.heap.size, 0, none⟩) (by simp; omega)).trans q0, (hb3.cell (p := ⟨w.heap.size, 1, none⟩) (by simp; omega)).trans q1, (hb3.cell (p := ⟨b, off + k * 4 + 2, none⟩) (by simp; omega)).trans q2⟩) (fun hHeld => ?_)
        clear hK K
        clear hb3
        refine wpAnyH_take (i := 10) (v := .tuple #[.slice (some ⟨e1, eo1, none⟩) (nodesL N s true).length ec1, .slice (some ⟨e2, eo2, none⟩) (idxL ps.length s true).length ec2]) rfl (by kernel_rfl) (by kernel_rfl) (by kernel_rfl) (fun _ _ _ h => h) (Or.inl ⟨by rfl, ?_⟩) (by assumption) ?_
        · (intro w hSw; (try dsimp only at hSw); go_simp)
        simp only [Act.put]
        refine wpAnyH_take (i := 11) (v := .slice (some ⟨e1, eo1, none⟩) (nodesL N s true).length ec1) rfl (by kernel_rfl) (by kernel_rfl) (by kernel_rfl) (fun _ _ _ h => h) (Or.inl ⟨by rfl, ?_⟩) (by assumption) ?_
        · (intro w hSw; (try dsimp only at hSw); go_simp)
        simp only [Act.put]
        refine wpAnyH_take (i := 12) (v := .slice (some ⟨e2, eo2, none⟩) (idxL ps.length s true).length ec2) rfl (by kernel_rfl) (by kernel_rfl) (by kernel_rfl) (fun _ _ _ h => h) (Or.inl ⟨by rfl, ?_⟩) (by assumption) ?_
        · (intro w hSw; (try dsimp only at hSw); go_simp)
        simp only [Act.put]
        refine wpAnyH_ready (rs := [13]) (by kernel_rfl) (by simp) ?_
        refine AllReadyH.cons rfl (fun K hK => ?_) AllReadyH.nil
        go_simp
        refine hK.out _ _ (by first | assumption | go_keep) (fun hHeld => ?_)
        clear hK K
        refine wpAnyH_ready (rs := [14]) (by kernel_rfl) (by simp) ?_
        refine AllReadyH.cons rfl (fun K hK => ?_) AllReadyH.nil
        go_simp
        refine hK.out _ _ (by first | assumption | go_keep) (fun hHeld => ?_)
        clear hK K
        refine wpAnyH_done (by kernel_rfl) ?_ _
        have hzz3 := HB3.out.size
        have f0 := (HB3.out.cell (p := ⟨w.heap.size, 0, none⟩) hwr).trans b0
        have f1 := (HB3.out.cell (p := ⟨w.heap.size, 1, none⟩) hwr).trans b1
        have k0 := (HB3.out.cell (p := ⟨b, off + k * 4, none⟩) hbl).trans h0
        have k1 := (HB3.out.cell (p := ⟨b, off + k * 4 + 1, none⟩) hbl).trans h1
        have HBR3 := Lib.hid (hbr.out.trans (HB3.out.mono (by omega)))
        have HOW := Lib.hid (show IOwn w3 B (.slice (some ⟨gv, 0, none⟩) (selTo (needB ps vs) vs k).length cv) (selTo (needB ps vs) vs k) from hown.out.on HB3.out)
        have HBB3 := Lib.hid (show Below B w1 w3 from hb.out.trans (HB3.out.mono (by omega)))
        obtain ⟨qb, hqb⟩ : ∃ qb, s (9 + i) = qb := ⟨_, rfl⟩
        have HH := Lib.hid (fun wx (hbx : Below w3.heap.size w3 wx) => has_b (x := (i : Int)) wx (HL2.out.kept hbx) (by have := idxL_len ps.length s true; omega) ((hasB_idx HAT.out.1).trans hqb))
        have HF := Lib.hid (fun wx (hbx : Below w3.heap.size w3 wx) => find_at (n := (N : Int)) (cap := cap) (good_ids HG.out.1) HAT.out wx (HA.out.kept (HBR3.out.trans (hbx.mono (by omega))) (Nat.le_refl _)) (by omega))
        have HQ2 := Lib.hid (HQ.out.trans hqb)
        have hb3l : b < w3.heap.size := by omega
        have hw3l : w.heap.size < w3.heap.size := by omega
        clear hqb b0 b1 h0 h1 h2 HB3 hHeld
        have hG := @cell_g
        go_wp2_with fail
        refine region_below (by kernel_rfl) (by kernel_rfl) ?_
        repeat (first | go_big_quiet_step ((first | (go_at_call 62; exact met_at HF.out) | (go_at_call 81; exact met_at HH.out))))
        refine wpQuiet_nil ?_
        intro w2 hb2
        clear hG
        have e0 := (hb2.cell (p := ⟨b, off + k * 4, none⟩) hb3l).trans k0
        have hzw2 := hb2.size
        have HO2 := Lib.hid (HOW.out.on hb2)
        have HB2 := Lib.hid (HBB3.out.trans (hb2.mono (by omega)))
        clear hb2 k0 k1 f0 f1
        cases qb with
        | true =>
          have HN := Lib.hid (show selTo (needB ps vs) vs (k + 1) = selTo (needB ps vs) vs k ++ [id] by rw [HSEL.out, if_pos HQ2.out])
          have ho := HO2.out
          unfold IOwn at ho
          go_wp2_with (at_builtin; go_must (refine wpList_append_own _ rfl _ _ 38 rfl B 3 i0 (.int .i64 0) 1 8 Try.underlying38 hi0 hz0 hz1 hz2 rfl (by decide) _ _ _ rfl (ho.alloc _) ⟨w2.heap.size, 0, none⟩ 1 1 [iv id] rfl rfl (cell_one_new _ _ _) ?zbc2 ?zbc3 ?zbc4 ?zbc5 ?_))
          case zbc2 => intro u hu; simp at hu; subst hu; rfl
          case zbc3 => unfold maxLen; omega
          case zbc4 => omega
          case zbc5 => simp; omega
          intro v' w5 hown' hgrow hnil
          have hown3 := Lib.hid (IOwn.push hown')
          rw [← HN.out] at hown3
          have hB3 := Lib.hid ((HB2.out.alloc (by omega) _).grown hgrow (by simp; omega) (fun g hg => (ho.lt g hg).1))
          have hvn3 := Lib.hid (show v' ≠ .slice none 0 0 from fun e => by simp [e] at hnil)
          clear hown' hgrow hnil ho
          go_wp2_with fail
          go_roundw
          case rel => exact ⟨k + 1, by omega, by go_num, hown3, hvn3, hB3⟩
          case measure => simp [intOf]; omega
        | false =>
          have HN := Lib.hid (show selTo (needB ps vs) vs (k + 1) = selTo (needB ps vs) vs k by rw [HSEL.out, if_neg (by rw [HQ2.out]; simp)])
          have HO3 := Lib.hid (show IOwn w2 B (.slice (some ⟨gv, 0, none⟩) (selTo (needB ps vs) vs k).length cv) (selTo (needB ps vs) vs (k + 1)) from by rw [HN.out]; exact HO2.out)
          clear HN
          go_wp2_with fail
          go_roundw
          case rel => exact ⟨k + 1, by omega, by go_num, HO3, hvn, HB2⟩
          case measure => simp [intOf]; omega
    · have hfin := selTo_all (needB ps vs) vs k (by omega)
      have hown2 := hown.out
      have HF := Lib.hid hfin
      clear hfin
      go_wp2_with fail
      go_ret2
      rw [HF.out] at hown2
      exact ⟨gv, 0, cv, by rw [HF.out]; rfl, by omega, hown2.iat, HB1.out.trans (hb.out.mono (by omega)), iown_lt' hown2⟩
end Go.Proofs.Ytmkpgkhfbhdhgaa.S2
