/- ValvesAround of the model: contracts. Conditions: each theorem's own premises. -/
import Derived.Test.YtmkpgkhfbhdhgaaSNeed
namespace Go.Proofs.Ytmkpgkhfbhdhgaa.S2
open Go.RowKit Go.Sort P2 P4

/-- The places of those of the first k valves for which q holds. -/
def arI (q : Vv → Bool) (vs : List Vv) (k : Nat) : List Int := ((List.range k).filter fun m => q (vAt vs m)).map fun m : Nat => (m : Int)
theorem arI_succ (q : Vv → Bool) (vs : List Vv) (k : Nat) : arI q vs (k + 1) = if q (vAt vs k) = true then arI q vs k ++ [(k : Int)] else arI q vs k := by
  unfold arI
  rw [List.range_succ, List.filter_append, List.map_append]
  cases h : q (vAt vs k) <;> simp [h]
theorem arI_len (q : Vv → Bool) (vs : List Vv) (k : Nat) : (arI q vs k).length ≤ k := by
  unfold arI; rw [List.length_map]; exact Nat.le_trans (List.length_filter_le _ _) (by simp)
theorem arI_mem {q : Vv → Bool} {vs : List Vv} {k : Nat} {y : Int} (h : y ∈ arI q vs k) : 0 ≤ y ∧ y < k := by
  unfold arI at h
  obtain ⟨m, hm, rfl⟩ := List.mem_map.1 h
  have := List.mem_range.1 (List.mem_filter.1 hm).1
  omega
theorem arI_ids (q : Vv → Bool) (vs : List Vv) : ∀ k, k ≤ vs.length → (arI q vs k).map (fun y => (vAt vs y.toNat).id) = selTo q vs k := by
  intro k
  induction k with
  | zero => intro _; simp [arI, selTo]
  | succ k ih =>
    intro hk
    rw [arI_succ, selTo_succ q vs k (by omega)]
    split
    · rw [List.map_append, ih (by omega)]; rfl
    · exact ih (by omega)
def idsV (vs : List Vv) (is : List Int) (k : Nat) : List Int := (is.take k).map fun y => (vAt vs y.toNat).id
theorem idsV_succ (vs : List Vv) (is : List Int) (k : Nat) (h : k < is.length) : idsV vs is (k + 1) = idsV vs is k ++ [(vAt vs (is.getD k 0).toNat).id] := by
  unfold idsV
  rw [take_getD is k h, List.map_append]; rfl
theorem idsV_len (vs : List Vv) (is : List Int) (k : Nat) : (idsV vs is k).length ≤ k := by unfold idsV; rw [List.length_map]; exact List.length_take_le _ _
theorem arndB_at {ps : List Pp} {s : Nat → Bool} {v : Vv} {i u : Nat} (h1 : pidx ps v.pp = i) (h2 : v.nd.toNat = u) : arndB ps s v = (s (9 + i) != s u) := by unfold arndB; rw [h1, h2]
theorem arndL_ids (ps : List Pp) (vs : List Vv) (s : Nat → Bool) : (arI (arndB ps s) vs vs.length).map (fun y => (vAt vs y.toNat).id) = arndL ps vs s := by
  rw [arI_ids _ _ _ (Nat.le_refl _), selTo_all _ _ _ (Nat.le_refl _)]; rfl

set_option maxHeartbeats 4000000 in
set_option maxRecDepth 100000 in
theorem saround_any (N : Nat) (A : Option Addr) (cap : Nat) (ps : List Pp) (AV : Option Addr) (capv : Nat) (vs : List Vv) (s : Nat → Bool) (g1 o1 c1 g2 o2 c2 : Nat) (w : World) (h : PAt w A ps) (hv : VAt w AV vs) (hgd : P4.Good N ps vs) (hl1 : LAt w g1 o1 c1 (nodesL N s true)) (hl2 : LAt w g2 o2 c2 (idxL ps.length s true)) :
    Calls Try.prog 73 #[nv N A ps.length cap, .slice AV vs.length capv, .slice (some ⟨g1, o1, none⟩) (nodesL N s true).length c1, .slice (some ⟨g2, o2, none⟩) (idxL ps.length s true).length c2] w (GivesN w (arI (arndB ps s) vs vs.length)) := by
  have HA := Lib.hid h
  have HVV := Lib.hid hv
  have HG := Lib.hid hgd
  have HL1 := Lib.hid hl1
  have HL2 := Lib.hid hl2
  have hvl := hgd.2.1
  have hl10 := hgd.1.2.2.1
  have hN8 : N ≤ 8 := by have := hgd.1.2.1; omega
  obtain ⟨i0, hi0, hz0, hz1, hz2⟩ := info_parts infoI
  clear h hv hgd hl1 hl2
  obtain ⟨w1, hW1⟩ : ∃ w1, w1 = (w.alloc (.cells #[.int .i64 (N : Int), .slice A ps.length cap] 31)).alloc (.cells #[] 3) := ⟨_, rfl⟩
  have hzW : w1.heap.size = w.heap.size + 2 := by rw [hW1]; simp
  have a0 : w1.cell? ⟨w.heap.size, 0, none⟩ = some (.int .i64 (N : Int)) := by rw [hW1]; go_simp
  have a1 : w1.cell? ⟨w.heap.size, 1, none⟩ = some (.slice A ps.length cap) := by rw [hW1]; go_simp
  have HB1 := Lib.hid (show Below w.heap.size w w1 from by rw [hW1]; exact ((Below.refl _ _).alloc (Nat.le_refl _) _).alloc (by simp) _)
  have HOB := Lib.hid (show IOwn w1 (w.heap.size + 1) (.slice (some ⟨w.heap.size + 1, 0, none⟩) 0 0) [] from by
    have h1 := own_empty (w.alloc (.cells #[.int .i64 (N : Int), .slice A ps.length cap] 31)) (w.heap.size + 1) (by simp)
    rw [hW1]; simpa using h1)
  have HW1 := Lib.hid hW1
  have hw1 : w.heap.size < w1.heap.size := by omega
  clear hW1
  go_enter Try.func73, Try.ntmps73
  go_upto_region 2 with (fail)
  rw [← HW1.out]
  clear HW1
  obtain ⟨B, hB⟩ : ∃ B, B = w.heap.size + 1 := ⟨_, rfl⟩
  rw [← hB] at HOB
  have hBw : w.heap.size < B := by omega
  have hB1 : B ≤ w1.heap.size := by omega
  have HBE := Lib.hid hB
  rw [← hB]
  clear hB hzW
  go_wp2_with fail
  go_loopw [9, 10] (fun v i wr => ∃ k : Nat, k ≤ vs.length ∧ i = .int .i64 (k : Int) ∧ Hid (IOwn wr B v (arI (arndB ps s) vs k)) ∧ Hid (v ≠ .slice none 0 0) ∧ Hid (Below B w1 wr)) (fun _ i _ => vs.length - (intOf i).toNat)
  case atStart => exact ⟨0, Nat.zero_le _, rfl, HOB, Lib.hid (by simp), Lib.hid (Below.refl _ _)⟩
  case round =>
    clear HOB
    obtain ⟨k, hk, rfl, hown, hvn, hb⟩ := hrel
    obtain ⟨gv, cv, rfl, hgv⟩ := own_slice hown.out hvn.out
    have hzr := hb.out.size
    by_cases hlt : k < vs.length
    · obtain ⟨b, off, hA, hbl0, g0, g1', g2', g3⟩ := HVV.out.at_ hlt
      subst hA
      have hbr := Lib.hid (HB1.out.trans (hb.out.mono (by omega)))
      have hk0 : (0 : Int) ≤ (k : Int) := by omega
      have hkn : (k : Int) < (vs.length : Int) := by omega
      obtain ⟨i, u, hat, hu, hu1, huN, hu8, hpi, hti⟩ := valve_ok HG.out hlt
      have HSEL := Lib.hid (arI_succ (arndB ps s) vs k)
      have HAT := Lib.hid hat
      have hil := arI_len (arndB ps s) vs k
      have HQ := Lib.hid (arndB_at (ps := ps) (s := s) hpi hti)
      clear hpi hti hat
      generalize vAt vs k = v at *
      obtain ⟨id, pp, nd, sh⟩ := v
      dsimp only at g0 g1' g2' g3 hu HAT HSEL
      subst hu
      have h1 := (hbr.out.cell (p := ⟨b, off + k * 4 + 1, none⟩) hbl0).trans g1'
      have h2 := (hbr.out.cell (p := ⟨b, off + k * 4 + 2, none⟩) hbl0).trans g2'
      have b0 := (hb.out.cell (p := ⟨w.heap.size, 0, none⟩) hBw).trans a0
      have b1 := (hb.out.cell (p := ⟨w.heap.size, 1, none⟩) hBw).trans a1
      have hbl : b < wr.heap.size := by omega
      have hwr : w.heap.size < wr.heap.size := by omega
      obtain ⟨sa, hsa⟩ : ∃ sa, s (9 + i) = sa := ⟨_, rfl⟩
      obtain ⟨sb, hsb⟩ : ∃ sb, s u = sb := ⟨_, rfl⟩
      have HH1 := Lib.hid (fun wx (hbx : Below wr.heap.size wr wx) => has_b (x := (u : Int)) wx (HL1.out.kept (hbr.out.trans (hbx.mono (by omega)))) (by have := nodesL_len N s true; omega) ((hasB_nodes hu1 huN).trans hsb))
      have HH2 := Lib.hid (fun wx (hbx : Below wr.heap.size wr wx) => has_b (x := (i : Int)) wx (HL2.out.kept (hbr.out.trans (hbx.mono (by omega)))) (by have := idxL_len ps.length s true; omega) ((hasB_idx HAT.out.1).trans hsa))
      have HF := Lib.hid (fun wx (hbx : Below wr.heap.size wr wx) => find_at (n := (N : Int)) (cap := cap) (good_ids HG.out.1) HAT.out wx (HA.out.kept (hbr.out.trans (hbx.mono (by omega))) (Nat.le_refl _)) (by omega))
      rw [hsa, hsb] at HQ
      clear g0 g1' g2' g3 hsa hsb
      go_wp2_with fail
      cases sa with
      | true =>
        cases sb with
        | true =>
          have hG := @cell_g
          refine region_below (by kernel_rfl) (by kernel_rfl) ?_
          repeat (first | go_big_quiet_step ((first | (go_at_call 62; exact met_at HF.out) | (go_at_call_of 81 (Value.int IntKind.i64 (u : Int)); exact met_at HH1.out) | (go_at_call_of 81 (Value.int IntKind.i64 (i : Int)); exact met_at HH2.out))))
          refine wpQuiet_nil ?_
          intro w2 hb2
          clear hG
          have HQ2 := Lib.hid (show arndB ps s ⟨id, pp, (u : Int), sh⟩ = false from HQ.out)
          have hzw2 := hb2.size
          have HO2 := Lib.hid (hown.out.on hb2)
          have HB2 := Lib.hid (hb.out.trans (hb2.mono (by omega)))
          clear hb2 h1 h2 b0 b1 HH1 HH2 HF
          have HN := Lib.hid (show arI (arndB ps s) vs (k + 1) = arI (arndB ps s) vs k by rw [HSEL.out, if_neg (by rw [HQ2.out]; simp)])
          have HO3 := Lib.hid (show IOwn w2 B (.slice (some ⟨gv, 0, none⟩) (arI (arndB ps s) vs k).length cv) (arI (arndB ps s) vs (k + 1)) from by rw [HN.out]; exact HO2.out)
          clear HN
          go_wp2_with fail
          go_roundw
          case rel => exact ⟨k + 1, by omega, by go_num, HO3, hvn, HB2⟩
          case measure => simp [intOf]; omega
        | false =>
          have hG := @cell_g
          refine region_below (by kernel_rfl) (by kernel_rfl) ?_
          repeat (first | go_big_quiet_step ((first | (go_at_call 62; exact met_at HF.out) | (go_at_call_of 81 (Value.int IntKind.i64 (u : Int)); exact met_at HH1.out) | (go_at_call_of 81 (Value.int IntKind.i64 (i : Int)); exact met_at HH2.out))))
          refine wpQuiet_nil ?_
          intro w2 hb2
          clear hG
          have HQ2 := Lib.hid (show arndB ps s ⟨id, pp, (u : Int), sh⟩ = true from HQ.out)
          have hzw2 := hb2.size
          have HO2 := Lib.hid (hown.out.on hb2)
          have HB2 := Lib.hid (hb.out.trans (hb2.mono (by omega)))
          clear hb2 h1 h2 b0 b1 HH1 HH2 HF
          have HN := Lib.hid (show arI (arndB ps s) vs (k + 1) = arI (arndB ps s) vs k ++ [(k : Int)] by rw [HSEL.out, if_pos HQ2.out])
          have ho := HO2.out
          unfold IOwn at ho
          go_wp2_with (at_builtin; go_must (refine wpList_append_own _ rfl _ _ 38 rfl B 3 i0 (.int .i64 0) 1 8 Try.underlying38 hi0 hz0 hz1 hz2 rfl (by decide) _ _ _ rfl (ho.alloc _) ⟨w2.heap.size, 0, none⟩ 1 1 [iv (k : Int)] rfl rfl (cell_one_new _ _ _) ?y2c2 ?y2c3 ?y2c4 ?y2c5 ?_))
          case y2c2 => intro u hu; simp at hu; subst hu; rfl
          case y2c3 => unfold maxLen; omega
          case y2c4 => omega
          case y2c5 => simp; omega
          intro v' w5 hown' hgrow hnil
          have hown3 := Lib.hid (IOwn.push hown')
          rw [← HN.out] at hown3
          have hB3 := Lib.hid ((HB2.out.alloc (by omega) _).grown hgrow (by simp; omega) (fun g hg => (ho.lt g hg).1))
          have hvn3 := Lib.hid (show v' ≠ .slice none 0 0 from fun e => by simp [e] at hnil)
          clear hown' hgrow hnil ho
          go_wp2_with fail
          go_roundw
          case rel => exact ⟨k + 1, by omega, by go_num, hown3, hvn3, hB3⟩
          case measure => simp [intOf]; omega
      | false =>
        cases sb with
        | true =>
          have hG := @cell_g
          refine region_below (by kernel_rfl) (by kernel_rfl) ?_
          repeat (first | go_big_quiet_step ((first | (go_at_call 62; exact met_at HF.out) | (go_at_call_of 81 (Value.int IntKind.i64 (u : Int)); exact met_at HH1.out) | (go_at_call_of 81 (Value.int IntKind.i64 (i : Int)); exact met_at HH2.out))))
          refine wpQuiet_nil ?_
          intro w2 hb2
          clear hG
          have HQ2 := Lib.hid (show arndB ps s ⟨id, pp, (u : Int), sh⟩ = true from HQ.out)
          have hzw2 := hb2.size
          have HO2 := Lib.hid (hown.out.on hb2)
          have HB2 := Lib.hid (hb.out.trans (hb2.mono (by omega)))
          clear hb2 h1 h2 b0 b1 HH1 HH2 HF
          have HN := Lib.hid (show arI (arndB ps s) vs (k + 1) = arI (arndB ps s) vs k ++ [(k : Int)] by rw [HSEL.out, if_pos HQ2.out])
          have ho := HO2.out
          unfold IOwn at ho
          go_wp2_with (at_builtin; go_must (refine wpList_append_own _ rfl _ _ 38 rfl B 3 i0 (.int .i64 0) 1 8 Try.underlying38 hi0 hz0 hz1 hz2 rfl (by decide) _ _ _ rfl (ho.alloc _) ⟨w2.heap.size, 0, none⟩ 1 1 [iv (k : Int)] rfl rfl (cell_one_new _ _ _) ?y3c2 ?y3c3 ?y3c4 ?y3c5 ?_))
          case y3c2 => intro u hu; simp at hu; subst hu; rfl
          case y3c3 => unfold maxLen; omega
          case y3c4 => omega
          case y3c5 => simp; omega
          intro v' w5 hown' hgrow hnil
          have hown3 := Lib.hid (IOwn.push hown')
          rw [← HN.out] at hown3
          have hB3 := Lib.hid ((HB2.out.alloc (by omega) _).grown hgrow (by simp; omega) (fun g hg => (ho.lt g hg).1))
          have hvn3 := Lib.hid (show v' ≠ .slice none 0 0 from fun e => by simp [e] at hnil)
          clear hown' hgrow hnil ho
          go_wp2_with fail
          go_roundw
          case rel => exact ⟨k + 1, by omega, by go_num, hown3, hvn3, hB3⟩
          case measure => simp [intOf]; omega
        | false =>
          have hG := @cell_g
          refine region_below (by kernel_rfl) (by kernel_rfl) ?_
          repeat (first | go_big_quiet_step ((first | (go_at_call 62; exact met_at HF.out) | (go_at_call_of 81 (Value.int IntKind.i64 (u : Int)); exact met_at HH1.out) | (go_at_call_of 81 (Value.int IntKind.i64 (i : Int)); exact met_at HH2.out))))
          refine wpQuiet_nil ?_
          intro w2 hb2
          clear hG
          have HQ2 := Lib.hid (show arndB ps s ⟨id, pp, (u : Int), sh⟩ = false from HQ.out)
          have hzw2 := hb2.size
          have HO2 := Lib.hid (hown.out.on hb2)
          have HB2 := Lib.hid (hb.out.trans (hb2.mono (by omega)))
          clear hb2 h1 h2 b0 b1 HH1 HH2 HF
          have HN := Lib.hid (show arI (arndB ps s) vs (k + 1) = arI (arndB ps s) vs k by rw [HSEL.out, if_neg (by rw [HQ2.out]; simp)])
          have HO3 := Lib.hid (show IOwn w2 B (.slice (some ⟨gv, 0, none⟩) (arI (arndB ps s) vs k).length cv) (arI (arndB ps s) vs (k + 1)) from by rw [HN.out]; exact HO2.out)
          clear HN
          go_wp2_with fail
          go_roundw
          case rel => exact ⟨k + 1, by omega, by go_num, HO3, hvn, HB2⟩
          case measure => simp [intOf]; omega
    · have hkk : k = vs.length := by omega
      subst hkk
      go_wp2_with fail
      go_ret
      exact ⟨gv, cv, rfl, by omega, own_lower hown.out, HB1.out.trans (hb.out.mono (by omega))⟩

set_option maxHeartbeats 2000000 in
set_option maxRecDepth 100000 in
theorem sarnd_no1 (n : Int) (A : Option Addr) (cap : Nat) (ps : List Pp) (AV : Option Addr) (capv : Nat) (vs : List Vv) (x : Int) (w : World) (h : PAt w A ps) (hm : ps.length ≤ 1048576) (hv : VAt w AV vs) (hmv : vs.length ≤ maxLen) (hb : goodV n ps vs = false) :
    Calls Try.prog 33 #[nv n A ps.length cap, .slice AV vs.length capv, .int .i64 x] w (GivesA w [] false) := by
  have hmm : ps.length ≤ maxLen := by unfold maxLen; omega
  have H := Lib.hid (fun w' (hb' : Below w.heap.size w w') => sgoodv_v hb A cap AV capv w' (h.kept hb' (Nat.le_refl _)) hmm (hv.kept hb' (Nat.le_refl _)) hmv)
  have HF := Lib.hid (fun w' (hb' : Below w.heap.size w w') => find_any n A cap ps x w' (h.kept hb' (Nat.le_refl _)) hm)
  clear h hm hv hmv hb hmm
  obtain ⟨W1, hW1⟩ : ∃ W1, W1 = (w.alloc (.cells #[.int .i64 n, .slice A ps.length cap] 31)).alloc (.cells #[] 3) := ⟨_, rfl⟩
  have hzW : W1.heap.size = w.heap.size + 2 := by rw [hW1]; simp
  have p0 : W1.cell? ⟨w.heap.size, 0, none⟩ = some (.int .i64 n) := by rw [hW1]; go_simp
  have p1 : W1.cell? ⟨w.heap.size, 1, none⟩ = some (.slice A ps.length cap) := by rw [hW1]; go_simp
  have HBW := Lib.hid (show Below w.heap.size w W1 from by rw [hW1]; exact ((Below.refl _ _).alloc (Nat.le_refl _) _).alloc (by simp) _)
  have HO0 := Lib.hid (show IOwn W1 (w.heap.size + 1) (.slice (some ⟨w.heap.size + 1, 0, none⟩) 0 0) [] from by
    have h1 := own_empty (w.alloc (.cells #[.int .i64 n, .slice A ps.length cap] 31)) (w.heap.size + 1) (by simp)
    rw [hW1]; simpa using h1)
  have HW1 := Lib.hid hW1
  have HZW := Lib.hid hzW
  have hl1 : w.heap.size < W1.heap.size := by omega
  clear hW1 hzW
  go_enter Try.func33, Try.ntmps33
  go_upto_region 2 with (fail)
  rw [← HW1.out]
  clear HW1
  go_wp2_with (first
    | (go_at_call 62; refine (HF.out _ HBW.out).mono ?_; rintro e w1 ⟨⟨r, rfl, hr⟩, hb1⟩; clear hr; have HB1 := Lib.hid (HBW.out.trans (hb1.mono HBW.out.size)); have hw1 : w.heap.size < w1.heap.size := (by have := hb1.size; omega); have a0 := (hb1.cell (p := ⟨w.heap.size, 0, none⟩) hl1).trans p0; have a1 := (hb1.cell (p := ⟨w.heap.size, 1, none⟩) hl1).trans p1; have HO1 := Lib.hid (HO0.out.on hb1); have hz1W := hb1.size; clear hb1)
    | (go_at_call 54; refine (H.out _ HB1.out).mono ?_; rintro e w2 ⟨rfl, hb2⟩; have HB2 := Lib.hid (HB1.out.trans (hb2.mono HB1.out.size)); have hw2 : w.heap.size < w2.heap.size := (by have := hb2.size; omega); have c0 := (hb2.cell (p := ⟨w.heap.size, 0, none⟩) hw1).trans a0; have c1 := (hb2.cell (p := ⟨w.heap.size, 1, none⟩) hw1).trans a1; have HO2 := Lib.hid (HO1.out.on hb2); have hz2W := hb2.size; clear hb2))
  go_ret2
  exact ⟨w.heap.size + 1, 0, 0, rfl, by omega, .inl rfl, HB2.out, by have := HZW.out; omega⟩
set_option maxHeartbeats 2000000 in
set_option maxRecDepth 100000 in
theorem sarnd_no2 (n : Int) (A : Option Addr) (cap : Nat) (ps : List Pp) (AV : Option Addr) (capv : Nat) (vs : List Vv) (x : Int) (w : World) (h : PAt w A ps) (hm : ps.length ≤ 1048576) (hv : VAt w AV vs) (hmv : vs.length ≤ maxLen) (hb : goodV n ps vs = true) (hno : ∀ i, i < ps.length → (pAt ps i).id ≠ x) :
    Calls Try.prog 33 #[nv n A ps.length cap, .slice AV vs.length capv, .int .i64 x] w (GivesA w [] false) := by
  have hmm : ps.length ≤ maxLen := by unfold maxLen; omega
  have H := Lib.hid (fun w' (hb' : Below w.heap.size w w') => sgoodv_v hb A cap AV capv w' (h.kept hb' (Nat.le_refl _)) hmm (hv.kept hb' (Nat.le_refl _)) hmv)
  have HF := Lib.hid (fun w' (hb' : Below w.heap.size w w') => find_any n A cap ps x w' (h.kept hb' (Nat.le_refl _)) hm)
  have HNO := Lib.hid hno
  clear h hm hv hmv hb hmm hno
  obtain ⟨W1, hW1⟩ : ∃ W1, W1 = (w.alloc (.cells #[.int .i64 n, .slice A ps.length cap] 31)).alloc (.cells #[] 3) := ⟨_, rfl⟩
  have hzW : W1.heap.size = w.heap.size + 2 := by rw [hW1]; simp
  have p0 : W1.cell? ⟨w.heap.size, 0, none⟩ = some (.int .i64 n) := by rw [hW1]; go_simp
  have p1 : W1.cell? ⟨w.heap.size, 1, none⟩ = some (.slice A ps.length cap) := by rw [hW1]; go_simp
  have HBW := Lib.hid (show Below w.heap.size w W1 from by rw [hW1]; exact ((Below.refl _ _).alloc (Nat.le_refl _) _).alloc (by simp) _)
  have HO0 := Lib.hid (show IOwn W1 (w.heap.size + 1) (.slice (some ⟨w.heap.size + 1, 0, none⟩) 0 0) [] from by
    have h1 := own_empty (w.alloc (.cells #[.int .i64 n, .slice A ps.length cap] 31)) (w.heap.size + 1) (by simp)
    rw [hW1]; simpa using h1)
  have HW1 := Lib.hid hW1
  have HZW := Lib.hid hzW
  have hl1 : w.heap.size < W1.heap.size := by omega
  clear hW1 hzW
  go_enter Try.func33, Try.ntmps33
  go_upto_region 2 with (fail)
  rw [← HW1.out]
  clear HW1
  go_wp2_with (first
    | (go_at_call 62; refine (HF.out _ HBW.out).mono ?_; rintro e w1 ⟨⟨r, rfl, hr⟩, hb1⟩; have hr1 := find_no hr HNO.out; subst hr1; clear hr; have HB1 := Lib.hid (HBW.out.trans (hb1.mono HBW.out.size)); have hw1 : w.heap.size < w1.heap.size := (by have := hb1.size; omega); have a0 := (hb1.cell (p := ⟨w.heap.size, 0, none⟩) hl1).trans p0; have a1 := (hb1.cell (p := ⟨w.heap.size, 1, none⟩) hl1).trans p1; have HO1 := Lib.hid (HO0.out.on hb1); have hz1W := hb1.size; clear hb1)
    | (go_at_call 54; refine (H.out _ HB1.out).mono ?_; rintro e w2 ⟨rfl, hb2⟩; have HB2 := Lib.hid (HB1.out.trans (hb2.mono HB1.out.size)); have hw2 : w.heap.size < w2.heap.size := (by have := hb2.size; omega); have c0 := (hb2.cell (p := ⟨w.heap.size, 0, none⟩) hw1).trans a0; have c1 := (hb2.cell (p := ⟨w.heap.size, 1, none⟩) hw1).trans a1; have HO2 := Lib.hid (HO1.out.on hb2); have hz2W := hb2.size; clear hb2))
  go_ret2
  exact ⟨w.heap.size + 1, 0, 0, rfl, by omega, .inl rfl, HB2.out, by have := HZW.out; omega⟩

set_option maxHeartbeats 4000000 in
set_option maxRecDepth 100000 in
theorem sarnd_yes (N : Nat) (A : Option Addr) (cap : Nat) (ps : List Pp) (AV : Option Addr) (capv : Nat) (vs : List Vv) (x : Int) (w : World) (h : PAt w A ps) (hv : VAt w AV vs) (hb : goodV N ps vs = true) (i : Nat) (hi : At ps x i) :
    Calls Try.prog 33 #[nv N A ps.length cap, .slice AV vs.length capv, .int .i64 x] w (GivesA w (arndL ps vs (coB ps vs (one (9 + i)))) true) := by
  have hgd := goodV_of hb
  have hm : ps.length ≤ 1048576 := by have := hgd.1.2.2.1; omega
  have hmv : vs.length ≤ maxLen := by have := hgd.2.1; unfold maxLen; omega
  have hmm : ps.length ≤ maxLen := by unfold maxLen; omega
  have H := Lib.hid (fun w' (hb' : Below w.heap.size w w') => sgoodv_v hb A cap AV capv w' (h.kept hb' (Nat.le_refl _)) hmm (hv.kept hb' (Nat.le_refl _)) hmv)
  have HF := Lib.hid (fun w' (hb' : Below w.heap.size w w') => find_any N A cap ps x w' (h.kept hb' (Nat.le_refl _)) hm)
  have HSP := Lib.hid (fun w' (hb' : Below w.heap.size w w') => spread_pipe N i A cap ps AV capv vs w' (h.kept hb' (Nat.le_refl _)) (hv.kept hb' (Nat.le_refl _)) hgd.1 hgd.2.1 hi.1)
  have HAR := Lib.hid (fun g1 o1 c1 g2 o2 c2 w' (hb' : Below w.heap.size w w') l1 l2 => saround_any N A cap ps AV capv vs (coB ps vs (one (9 + i))) g1 o1 c1 g2 o2 c2 w' (h.kept hb' (Nat.le_refl _)) (hv.kept hb' (Nat.le_refl _)) hgd l1 l2)
  have HS := Lib.hid (good_ids hgd.1)
  have HI := Lib.hid hi
  have HVV := Lib.hid hv
  have hvl := hgd.2.1
  obtain ⟨i0, hi0, hz0, hz1, hz2⟩ := info_parts infoI
  clear h hm hv hmv hb hmm hi hgd
  obtain ⟨W1, hW1⟩ : ∃ W1, W1 = (w.alloc (.cells #[.int .i64 (N : Int), .slice A ps.length cap] 31)).alloc (.cells #[] 3) := ⟨_, rfl⟩
  have hzW : W1.heap.size = w.heap.size + 2 := by rw [hW1]; simp
  have p0 : W1.cell? ⟨w.heap.size, 0, none⟩ = some (.int .i64 (N : Int)) := by rw [hW1]; go_simp
  have p1 : W1.cell? ⟨w.heap.size, 1, none⟩ = some (.slice A ps.length cap) := by rw [hW1]; go_simp
  have HBW := Lib.hid (show Below w.heap.size w W1 from by rw [hW1]; exact ((Below.refl _ _).alloc (Nat.le_refl _) _).alloc (by simp) _)
  have HO0 := Lib.hid (show IOwn W1 (w.heap.size + 1) (.slice (some ⟨w.heap.size + 1, 0, none⟩) 0 0) [] from by
    have h1 := own_empty (w.alloc (.cells #[.int .i64 (N : Int), .slice A ps.length cap] 31)) (w.heap.size + 1) (by simp)
    rw [hW1]; simpa using h1)
  have HW1 := Lib.hid hW1
  have HZW := Lib.hid hzW
  have hl1 : w.heap.size < W1.heap.size := by omega
  clear hW1 hzW
  go_enter Try.func33, Try.ntmps33
  go_upto_region 2 with (fail)
  rw [← HW1.out]
  clear HW1
  go_wp2_with (first
    | (go_at_call 62; refine (HF.out _ HBW.out).mono ?_; rintro e w1 ⟨⟨r, rfl, hr⟩, hb1⟩; have hr1 := find_of HS.out hr HI.out; subst hr1; clear hr; have HB1 := Lib.hid (HBW.out.trans (hb1.mono HBW.out.size)); have hw1 : w.heap.size < w1.heap.size := (by have := hb1.size; omega); have a0 := (hb1.cell (p := ⟨w.heap.size, 0, none⟩) hl1).trans p0; have a1 := (hb1.cell (p := ⟨w.heap.size, 1, none⟩) hl1).trans p1; have HO1 := Lib.hid (HO0.out.on hb1); have hz1W := hb1.size; clear hb1)
    | (go_at_call 54; refine (H.out _ HB1.out).mono ?_; rintro e w2 ⟨rfl, hb2⟩; have HB2 := Lib.hid (HB1.out.trans (hb2.mono HB1.out.size)); have hw2 : w.heap.size < w2.heap.size := (by have := hb2.size; omega); have c0 := (hb2.cell (p := ⟨w.heap.size, 0, none⟩) hw1).trans a0; have c1 := (hb2.cell (p := ⟨w.heap.size, 1, none⟩) hw1).trans a1; have HO2 := Lib.hid (HO1.out.on hb2); have hz2W := hb2.size; clear hb2)
    | (go_at_call 63; refine (HSP.out _ HB2.out).mono ?_; rintro e w3 ⟨⟨g1, o1, c1x, g2, o2, c2x, rfl, hL1, hL2, hb3⟩, hb3w⟩; have HL1 := Lib.hid hL1; have HL2 := Lib.hid hL2; have HB3 := Lib.hid (HB2.out.trans (hb3w.mono HB2.out.size)); have d0 := (hb3w.cell (p := ⟨w.heap.size, 0, none⟩) hw2).trans c0; have d1 := (hb3w.cell (p := ⟨w.heap.size, 1, none⟩) hw2).trans c1; have HO3 := Lib.hid (HO2.out.on hb3w); have hz3W := hb3w.size; clear hL1 hL2 hb3 hb3w)
    | (go_at_call 73; refine (HAR.out g1 o1 c1x g2 o2 c2x _ HB3.out HL1.out HL2.out).mono ?_; rintro e w4 ⟨g3, c3, rfl, hg3, hO3, hb4⟩; have HR4 := Lib.hid hO3; have HB4 := Lib.hid (HB3.out.trans (hb4.mono HB3.out.size)); have HO4 := Lib.hid (HO3.out.on hb4); have hz4W := hb4.size; clear hO3 hb4; refine Hid.out ?_))
  obtain ⟨q, hq⟩ : ∃ q, q = arndB ps (coB ps vs (one (9 + i))) := ⟨_, rfl⟩
  have HFIN := Lib.hid (show (arI q vs vs.length).map (fun y => (vAt vs y.toNat).id) = arndL ps vs (coB ps vs (one (9 + i))) from by rw [hq]; exact arndL_ids ps vs _)
  rw [← hq] at HR4
  rw [← hq]
  have HME := Lib.hid (fun y (hy : y ∈ arI q vs vs.length) => arI_mem hy)
  have hal := arI_len q vs vs.length
  obtain ⟨is, his⟩ : ∃ is, is = arI q vs vs.length := ⟨_, rfl⟩
  rw [← his] at HFIN HR4 HME hal
  rw [← his]
  have LR := Lib.hid (own_lat HR4.out)
  have hg3l := LR.out.1
  obtain ⟨B, hB⟩ : ∃ B, B = w.heap.size + 1 := ⟨_, rfl⟩
  rw [← hB] at HO4
  have hBw : w.heap.size < B := by omega
  have hB4 : B ≤ w4.heap.size := by have := HZW.out; omega
  have HG3 := Lib.hid (show IOwn w4 w3.heap.size (.slice (some ⟨g3, 0, none⟩) is.length c3) is from HR4.out)
  rw [← hB]
  have hB3' : B < w3.heap.size := by have := HZW.out; omega
  clear hB hq his a0 a1 c0 c1 d0 d1 HO0 HO1 HO2 HO3 HR4
  refine Lib.hid ?_
  go_wp2_with fail
  go_loopw [8, 13] (fun v i wr => ∃ k : Nat, k ≤ is.length ∧ i = .int .i64 (k : Int) ∧ Hid (IOwn wr B v (idsV vs is k)) ∧ Hid (v ≠ .slice none 0 0) ∧ Hid (v.ownBlock ≠ some g3) ∧ Hid (LAt wr g3 0 c3 is) ∧ Hid (Below B w4 wr)) (fun _ i _ => is.length - (intOf i).toNat)
  case atStart => exact ⟨0, Nat.zero_le _, rfl, HO4, Lib.hid (by simp), Lib.hid (by simp [Value.ownBlock]; omega), LR, Lib.hid (Below.refl _ _)⟩
  case round =>
    clear HO4 LR HG3
    obtain ⟨k, hk, rfl, hown, hvn, hvb, hlr, hb⟩ := hrel
    obtain ⟨gv, cv, rfl, hgv⟩ := own_slice hown.out hvn.out
    have hzr := hb.out.size
    by_cases hlt : k < is.length
    · have hmm := HME.out _ (getD_mem is k hlt)
      obtain ⟨y, hy⟩ : ∃ y : Nat, is.getD k 0 = (y : Int) := ⟨(is.getD k 0).toNat, by omega⟩
      have HSX := Lib.hid (idsV_succ vs is k hlt)
      rw [hy] at hmm HSX
      have hyl : y < vs.length := by omega
      obtain ⟨b, off, hA, hbl0, g0, g1', g2', g3'⟩ := HVV.out.at_ hyl
      subst hA
      have hbr := Lib.hid (HB4.out.trans (hb.out.mono (by omega)))
      have h0 := (hbr.out.cell (p := ⟨b, off + y * 4, none⟩) hbl0).trans g0
      have hcy := hlr.out.2.2.2 k hlt
      rw [hy, Nat.zero_add] at hcy
      have hk0 : (0 : Int) ≤ (k : Int) := by omega
      have hkn : (k : Int) < (is.length : Int) := by omega
      have hy0 : (0 : Int) ≤ (y : Int) := by omega
      have hyn : (y : Int) < (vs.length : Int) := by omega
      have hil := idsV_len vs is k
      have hg3r := hlr.out.1
      simp only [Int.toNat_natCast] at HSX
      clear g0 g1' g2' g3' hy
      generalize (vAt vs y).id = id at *
      have ho := hown.out
      unfold IOwn at ho
      go_wp2_with (at_builtin; go_must (refine wpList_append_lies _ rfl _ _ 38 rfl B 3 i0 (.int .i64 0) 1 8 Try.underlying38 hi0 hz0 hz1 hz2 rfl (by decide) _ _ _ rfl (ho.alloc _) ⟨wr.heap.size, 0, none⟩ 1 1 [iv id] rfl rfl (cell_one_new _ _ _) ?x2 (by omega) ?x3 ?x4 ?x5 (wr.heap.size + 1) (by simp) ?_))
      case x2 => intro u hu; simp at hu; subst hu; rfl
      case x3 => unfold maxLen; omega
      case x4 => omega
      case x5 => simp; omega
      intro gg cap' w5 hown' hgrow hat hlt1
      have hown3 := Lib.hid (IOwn.push hown')
      rw [← HSX.out] at hown3
      have hB3 := Lib.hid ((hb.out.alloc (by omega) (.cells #[iv id] 3)).grown hgrow (by simp; omega) (fun g hg => (ho.lt g hg).1))
      have LN3 := Lib.hid (show LAt w5 g3 0 c3 is from by
        have h1 := lat_new hlr.out (.cells #[iv id] 3)
        refine ⟨Nat.lt_of_lt_of_le h1.1 hgrow.size, h1.2.1, h1.2.2.1, fun i hi => (hgrow.cell_far ⟨g3, 0 + i, none⟩ h1.1 (fun e => hvb.out e.symm)).trans (h1.2.2.2 i hi)⟩)
      have hvb3 := Lib.hid (show gg ≠ g3 from by
        rcases hat with hat | hat
        · intro e; exact hvb.out (by rw [hat, e])
        · omega)
      clear hown' hgrow hat hlt1 ho
      go_wp2_with fail
      go_roundw
      case rel => exact ⟨k + 1, by omega, by go_num, hown3, Lib.hid (by simp), Lib.hid (by simp [Value.ownBlock]; exact hvb3.out), LN3, hB3⟩
      case measure => simp [intOf]; omega
    · have hfin : idsV vs is k = arndL ps vs (coB ps vs (one (9 + i))) := by
        unfold idsV; rw [List.take_of_length_le (by omega)]; exact HFIN.out
      have hown2 := hown.out
      have HF2 := Lib.hid hfin
      clear hfin
      go_wp2_with fail
      go_ret2
      rw [HF2.out] at hown2
      exact ⟨gv, 0, cv, by rw [HF2.out]; rfl, by omega, hown2.iat, HB4.out.trans (hb.out.mono (by omega)), iown_lt' hown2⟩
end Go.Proofs.Ytmkpgkhfbhdhgaa.S2
