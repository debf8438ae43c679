/- SegmentPlan of the program: contracts. Conditions: each theorem's own premises. -/
import Derived.Test.YtbljmibaemgfeaaKPc
import Derived.Test.YtbljmibaemgfeaaKPb
import Derived.Lib.SliceRun
import Derived.Laws.IdiomCopy
import Derived.Deep.DeepCutAuto
import Derived.Test.YtbljmibaemgfeaaGivesNone
namespace Go.Proofs.Ytbljmibaemgfeaa.S2
open Go.RowKit Go.Sort P2 P4

/-- The places of those of the first k valves for which q holds. -/
def arI (q : Vv → Bool) (vs : List Vv) (k : Nat) : List Int := ((List.range k).filter fun m => q (vAt vs m)).map fun m : Nat => (m : Int)
theorem arI_succ (q : Vv → Bool) (vs : List Vv) (k : Nat) : arI q vs (k + 1) = if q (vAt vs k) = true then arI q vs k ++ [(k : Int)] else arI q vs k := by
  unfold arI
  rw [List.range_succ, List.filter_append, List.map_append]
  cases h : q (vAt vs k) <;> simp [h]
theorem arI_len (q : Vv → Bool) (vs : List Vv) (k : Nat) : (arI q vs k).length ≤ k := by
  unfold arI; rw [List.length_map]; exact Nat.le_trans (List.length_filter_le _ _) (by simp)
theorem arI_mem {q : Vv → Bool} {vs : List Vv} {k : Nat} {y : Int} (h : y ∈ arI q vs k) : 0 ≤ y ∧ y < k := by
  unfold arI at h
  obtain ⟨m, hm, rfl⟩ := List.mem_map.1 h
  have := List.mem_range.1 (List.mem_filter.1 hm).1
  omega
theorem arI_ids (q : Vv → Bool) (vs : List Vv) : ∀ k, k ≤ vs.length → (arI q vs k).map (fun y => (vAt vs y.toNat).id) = selTo q vs k := by
  intro k
  induction k with
  | zero => intro _; simp [arI, selTo]
  | succ k ih =>
    intro hk
    rw [arI_succ, selTo_succ q vs k (by omega)]
    split
    · rw [List.map_append, ih (by omega)]; rfl
    · exact ih (by omega)
def idsV (vs : List Vv) (is : List Int) (k : Nat) : List Int := (is.take k).map fun y => (vAt vs y.toNat).id
theorem idsV_succ (vs : List Vv) (is : List Int) (k : Nat) (h : k < is.length) : idsV vs is (k + 1) = idsV vs is k ++ [(vAt vs (is.getD k 0).toNat).id] := by
  unfold idsV
  rw [take_getD is k h, List.map_append]; rfl
theorem idsV_len (vs : List Vv) (is : List Int) (k : Nat) : (idsV vs is k).length ≤ k := by unfold idsV; rw [List.length_map]; exact List.length_take_le _ _
theorem arndB_at {ps : List Pp} {s : Nat → Bool} {v : Vv} {i u : Nat} (h1 : pidx ps v.pp = i) (h2 : v.nd.toNat = u) : arndB ps s v = (s (9 + i) != s u) := by unfold arndB; rw [h1, h2]
theorem arndL_ids (ps : List Pp) (vs : List Vv) (s : Nat → Bool) : (arI (arndB ps s) vs vs.length).map (fun y => (vAt vs y.toNat).id) = arndL ps vs s := by
  rw [arI_ids _ _ _ (Nat.le_refl _), selTo_all _ _ _ (Nat.le_refl _)]; rfl

set_option maxHeartbeats 4000000 in
set_option maxRecDepth 100000 in
theorem saround_any (N : Nat) (A : Option Addr) (cap : Nat) (ps : List Pp) (AV : Option Addr) (capv : Nat) (vs : List Vv) (s : Nat → Bool) (g1 o1 c1 g2 o2 c2 : Nat) (w : World) (h : PAt w A ps) (hv : VAt w AV vs) (hgd : P4.Good N ps vs) (hl1 : LAt w g1 o1 c1 (nodesL N s true)) (hl2 : LAt w g2 o2 c2 (idxL ps.length s true)) :
    Calls Try.prog 130 #[nv N A ps.length cap, .slice AV vs.length capv, .slice (some ⟨g1, o1, none⟩) (nodesL N s true).length c1, .slice (some ⟨g2, o2, none⟩) (idxL ps.length s true).length c2] w (GivesN w (arI (arndB ps s) vs vs.length)) := by
  have HA := Lib.hid h
  have HVV := Lib.hid hv
  have HG := Lib.hid hgd
  have HL1 := Lib.hid hl1
  have HL2 := Lib.hid hl2
  have hvl := hgd.2.1
  have hl10 := hgd.1.2.2.1
  have hN8 : N ≤ 8 := by have := hgd.1.2.1; omega
  obtain ⟨i0, hi0, hz0, hz1, hz2⟩ := info_parts infoI
  clear h hv hgd hl1 hl2
  obtain ⟨w1, hW1⟩ : ∃ w1, w1 = (w.alloc (.cells #[.int .i64 (N : Int), .slice A ps.length cap] 32)).alloc (.cells #[] 3) := ⟨_, rfl⟩
  have hzW : w1.heap.size = w.heap.size + 2 := by rw [hW1]; simp
  have a0 : w1.cell? ⟨w.heap.size, 0, none⟩ = some (.int .i64 (N : Int)) := by rw [hW1]; go_simp
  have a1 : w1.cell? ⟨w.heap.size, 1, none⟩ = some (.slice A ps.length cap) := by rw [hW1]; go_simp
  have HB1 := Lib.hid (show Below w.heap.size w w1 from by rw [hW1]; exact ((Below.refl _ _).alloc (Nat.le_refl _) _).alloc (by simp) _)
  have HOB := Lib.hid (show IOwn w1 (w.heap.size + 1) (.slice (some ⟨w.heap.size + 1, 0, none⟩) 0 0) [] from by
    have h1 := own_empty (w.alloc (.cells #[.int .i64 (N : Int), .slice A ps.length cap] 32)) (w.heap.size + 1) (by simp)
    rw [hW1]; simpa using h1)
  have HW1 := Lib.hid hW1
  have hw1 : w.heap.size < w1.heap.size := by omega
  clear hW1
  go_enter Try.func130, Try.ntmps130
  go_upto_region 2 with (fail)
  rw [← HW1.out]
  clear HW1
  obtain ⟨B, hB⟩ : ∃ B, B = w.heap.size + 1 := ⟨_, rfl⟩
  rw [← hB] at HOB
  have hBw : w.heap.size < B := by omega
  have hB1 : B ≤ w1.heap.size := by omega
  have HBE := Lib.hid hB
  rw [← hB]
  clear hB hzW
  go_wp2_with fail
  go_loopw [9, 10] (fun v i wr => ∃ k : Nat, k ≤ vs.length ∧ i = .int .i64 (k : Int) ∧ Hid (IOwn wr B v (arI (arndB ps s) vs k)) ∧ Hid (v ≠ .slice none 0 0) ∧ Hid (Below B w1 wr)) (fun _ i _ => vs.length - (intOf i).toNat)
  case atStart => exact ⟨0, Nat.zero_le _, rfl, HOB, Lib.hid (by simp), Lib.hid (Below.refl _ _)⟩
  case round =>
    clear HOB
    obtain ⟨k, hk, rfl, hown, hvn, hb⟩ := hrel
    obtain ⟨gv, cv, rfl, hgv⟩ := own_slice hown.out hvn.out
    have hzr := hb.out.size
    by_cases hlt : k < vs.length
    · obtain ⟨b, off, hA, hbl0, g0, g1', g2', g3⟩ := HVV.out.at_ hlt
      subst hA
      have hbr := Lib.hid (HB1.out.trans (hb.out.mono (by omega)))
      have hk0 : (0 : Int) ≤ (k : Int) := by omega
      have hkn : (k : Int) < (vs.length : Int) := by omega
      obtain ⟨i, u, hat, hu, hu1, huN, hu8, hpi, hti⟩ := valve_ok HG.out hlt
      have HSEL := Lib.hid (arI_succ (arndB ps s) vs k)
      have HAT := Lib.hid hat
      have hil := arI_len (arndB ps s) vs k
      have HQ := Lib.hid (arndB_at (ps := ps) (s := s) hpi hti)
      clear hpi hti hat
      generalize vAt vs k = v at *
      obtain ⟨id, pp, nd, sh⟩ := v
      dsimp only at g0 g1' g2' g3 hu HAT HSEL
      subst hu
      have h1 := (hbr.out.cell (p := ⟨b, off + k * 4 + 1, none⟩) hbl0).trans g1'
      have h2 := (hbr.out.cell (p := ⟨b, off + k * 4 + 2, none⟩) hbl0).trans g2'
      have b0 := (hb.out.cell (p := ⟨w.heap.size, 0, none⟩) hBw).trans a0
      have b1 := (hb.out.cell (p := ⟨w.heap.size, 1, none⟩) hBw).trans a1
      have hbl : b < wr.heap.size := by omega
      have hwr : w.heap.size < wr.heap.size := by omega
      obtain ⟨sa, hsa⟩ : ∃ sa, s (9 + i) = sa := ⟨_, rfl⟩
      obtain ⟨sb, hsb⟩ : ∃ sb, s u = sb := ⟨_, rfl⟩
      have HH1 := Lib.hid (fun wx (hbx : Below wr.heap.size wr wx) => has_b (x := (u : Int)) wx (HL1.out.kept (hbr.out.trans (hbx.mono (by omega)))) (by have := nodesL_len N s true; omega) ((hasB_nodes hu1 huN).trans hsb))
      have HH2 := Lib.hid (fun wx (hbx : Below wr.heap.size wr wx) => has_b (x := (i : Int)) wx (HL2.out.kept (hbr.out.trans (hbx.mono (by omega)))) (by have := idxL_len ps.length s true; omega) ((hasB_idx HAT.out.1).trans hsa))
      have HF := Lib.hid (fun wx (hbx : Below wr.heap.size wr wx) => find_at (n := (N : Int)) (cap := cap) (good_ids HG.out.1) HAT.out wx (HA.out.kept (hbr.out.trans (hbx.mono (by omega))) (Nat.le_refl _)) (by omega))
      rw [hsa, hsb] at HQ
      clear g0 g1' g2' g3 hsa hsb
      go_wp2_with fail
      cases sa with
      | true =>
        cases sb with
        | true =>
          have hG := @cell_g
          refine region_below (by kernel_rfl) (by kernel_rfl) ?_
          repeat (first | go_big_quiet_step ((first | (go_at_call 119; exact met_at HF.out) | (go_at_call_of 96 (Value.int IntKind.i64 (u : Int)); exact met_at HH1.out) | (go_at_call_of 96 (Value.int IntKind.i64 (i : Int)); exact met_at HH2.out))))
          refine wpQuiet_nil ?_
          intro w2 hb2
          clear hG
          have HQ2 := Lib.hid (show arndB ps s ⟨id, pp, (u : Int), sh⟩ = false from HQ.out)
          have hzw2 := hb2.size
          have HO2 := Lib.hid (hown.out.on hb2)
          have HB2 := Lib.hid (hb.out.trans (hb2.mono (by omega)))
          clear hb2 h1 h2 b0 b1 HH1 HH2 HF
          have HN := Lib.hid (show arI (arndB ps s) vs (k + 1) = arI (arndB ps s) vs k by rw [HSEL.out, if_neg (by rw [HQ2.out]; simp)])
          have HO3 := Lib.hid (show IOwn w2 B (.slice (some ⟨gv, 0, none⟩) (arI (arndB ps s) vs k).length cv) (arI (arndB ps s) vs (k + 1)) from by rw [HN.out]; exact HO2.out)
          clear HN
          go_wp2_with fail
          go_roundw
          case rel => exact ⟨k + 1, by omega, by go_num, HO3, hvn, HB2⟩
          case measure => simp [intOf]; omega
        | false =>
          have hG := @cell_g
          refine region_below (by kernel_rfl) (by kernel_rfl) ?_
          repeat (first | go_big_quiet_step ((first | (go_at_call 119; exact met_at HF.out) | (go_at_call_of 96 (Value.int IntKind.i64 (u : Int)); exact met_at HH1.out) | (go_at_call_of 96 (Value.int IntKind.i64 (i : Int)); exact met_at HH2.out))))
          refine wpQuiet_nil ?_
          intro w2 hb2
          clear hG
          have HQ2 := Lib.hid (show arndB ps s ⟨id, pp, (u : Int), sh⟩ = true from HQ.out)
          have hzw2 := hb2.size
          have HO2 := Lib.hid (hown.out.on hb2)
          have HB2 := Lib.hid (hb.out.trans (hb2.mono (by omega)))
          clear hb2 h1 h2 b0 b1 HH1 HH2 HF
          have HN := Lib.hid (show arI (arndB ps s) vs (k + 1) = arI (arndB ps s) vs k ++ [(k : Int)] by rw [HSEL.out, if_pos HQ2.out])
          have ho := HO2.out
          unfold IOwn at ho
          go_wp2_with (at_builtin; go_must (refine wpList_append_own _ rfl _ _ 26 rfl B 3 i0 (.int .i64 0) 1 8 Try.underlying26 hi0 hz0 hz1 hz2 rfl (by decide) _ _ _ rfl (ho.alloc _) ⟨w2.heap.size, 0, none⟩ 1 1 [iv (k : Int)] rfl rfl (cell_one_new _ _ _) ?y2c2 ?y2c3 ?y2c4 ?y2c5 ?_))
          case y2c2 => intro u hu; simp at hu; subst hu; rfl
          case y2c3 => unfold maxLen; omega
          case y2c4 => omega
          case y2c5 => simp; omega
          intro v' w5 hown' hgrow hnil
          have hown3 := Lib.hid (IOwn.push hown')
          rw [← HN.out] at hown3
          have hB3 := Lib.hid ((HB2.out.alloc (by omega) _).grown hgrow (by simp; omega) (fun g hg => (ho.lt g hg).1))
          have hvn3 := Lib.hid (show v' ≠ .slice none 0 0 from fun e => by simp [e] at hnil)
          clear hown' hgrow hnil ho
          go_wp2_with fail
          go_roundw
          case rel => exact ⟨k + 1, by omega, by go_num, hown3, hvn3, hB3⟩
          case measure => simp [intOf]; omega
      | false =>
        cases sb with
        | true =>
          have hG := @cell_g
          refine region_below (by kernel_rfl) (by kernel_rfl) ?_
          repeat (first | go_big_quiet_step ((first | (go_at_call 119; exact met_at HF.out) | (go_at_call_of 96 (Value.int IntKind.i64 (u : Int)); exact met_at HH1.out) | (go_at_call_of 96 (Value.int IntKind.i64 (i : Int)); exact met_at HH2.out))))
          refine wpQuiet_nil ?_
          intro w2 hb2
          clear hG
          have HQ2 := Lib.hid (show arndB ps s ⟨id, pp, (u : Int), sh⟩ = true from HQ.out)
          have hzw2 := hb2.size
          have HO2 := Lib.hid (hown.out.on hb2)
          have HB2 := Lib.hid (hb.out.trans (hb2.mono (by omega)))
          clear hb2 h1 h2 b0 b1 HH1 HH2 HF
          have HN := Lib.hid (show arI (arndB ps s) vs (k + 1) = arI (arndB ps s) vs k ++ [(k : Int)] by rw [HSEL.out, if_pos HQ2.out])
          have ho := HO2.out
          unfold IOwn at ho
          go_wp2_with (at_builtin; go_must (refine wpList_append_own _ rfl _ _ 26 rfl B 3 i0 (.int .i64 0) 1 8 Try.underlying26 hi0 hz0 hz1 hz2 rfl (by decide) _ _ _ rfl (ho.alloc _) ⟨w2.heap.size, 0, none⟩ 1 1 [iv (k : Int)] rfl rfl (cell_one_new _ _ _) ?y3c2 ?y3c3 ?y3c4 ?y3c5 ?_))
          case y3c2 => intro u hu; simp at hu; subst hu; rfl
          case y3c3 => unfold maxLen; omega
          case y3c4 => omega
          case y3c5 => simp; omega
          intro v' w5 hown' hgrow hnil
          have hown3 := Lib.hid (IOwn.push hown')
          rw [← HN.out] at hown3
          have hB3 := Lib.hid ((HB2.out.alloc (by omega) _).grown hgrow (by simp; omega) (fun g hg => (ho.lt g hg).1))
          have hvn3 := Lib.hid (show v' ≠ .slice none 0 0 from fun e => by simp [e] at hnil)
          clear hown' hgrow hnil ho
          go_wp2_with fail
          go_roundw
          case rel => exact ⟨k + 1, by omega, by go_num, hown3, hvn3, hB3⟩
          case measure => simp [intOf]; omega
        | false =>
          have hG := @cell_g
          refine region_below (by kernel_rfl) (by kernel_rfl) ?_
          repeat (first | go_big_quiet_step ((first | (go_at_call 119; exact met_at HF.out) | (go_at_call_of 96 (Value.int IntKind.i64 (u : Int)); exact met_at HH1.out) | (go_at_call_of 96 (Value.int IntKind.i64 (i : Int)); exact met_at HH2.out))))
          refine wpQuiet_nil ?_
          intro w2 hb2
          clear hG
          have HQ2 := Lib.hid (show arndB ps s ⟨id, pp, (u : Int), sh⟩ = false from HQ.out)
          have hzw2 := hb2.size
          have HO2 := Lib.hid (hown.out.on hb2)
          have HB2 := Lib.hid (hb.out.trans (hb2.mono (by omega)))
          clear hb2 h1 h2 b0 b1 HH1 HH2 HF
          have HN := Lib.hid (show arI (arndB ps s) vs (k + 1) = arI (arndB ps s) vs k by rw [HSEL.out, if_neg (by rw [HQ2.out]; simp)])
          have HO3 := Lib.hid (show IOwn w2 B (.slice (some ⟨gv, 0, none⟩) (arI (arndB ps s) vs k).length cv) (arI (arndB ps s) vs (k + 1)) from by rw [HN.out]; exact HO2.out)
          clear HN
          go_wp2_with fail
          go_roundw
          case rel => exact ⟨k + 1, by omega, by go_num, HO3, hvn, HB2⟩
          case measure => simp [intOf]; omega
    · have hkk : k = vs.length := by omega
      subst hkk
      go_wp2_with fail
      go_ret
      exact ⟨gv, cv, rfl, by omega, own_lower hown.out, HB1.out.trans (hb.out.mono (by omega))⟩

set_option maxHeartbeats 2000000 in
set_option maxRecDepth 100000 in
theorem sarnd_no1 (n : Int) (A : Option Addr) (cap : Nat) (ps : List Pp) (AV : Option Addr) (capv : Nat) (vs : List Vv) (x : Int) (w : World) (h : PAt w A ps) (hm : ps.length ≤ 1048576) (hv : VAt w AV vs) (hmv : vs.length ≤ maxLen) (hb : goodV n ps vs = false) :
    Calls Try.prog 62 #[nv n A ps.length cap, .slice AV vs.length capv, .int .i64 x] w (GivesA w [] false) := by
  have hmm : ps.length ≤ maxLen := by unfold maxLen; omega
  have H := Lib.hid (fun w' (hb' : Below w.heap.size w w') => sgoodv_v hb A cap AV capv w' (h.kept hb' (Nat.le_refl _)) hmm (hv.kept hb' (Nat.le_refl _)) hmv)
  have HF := Lib.hid (fun w' (hb' : Below w.heap.size w w') => find_any n A cap ps x w' (h.kept hb' (Nat.le_refl _)) hm)
  clear h hm hv hmv hb hmm
  obtain ⟨W1, hW1⟩ : ∃ W1, W1 = (w.alloc (.cells #[.int .i64 n, .slice A ps.length cap] 32)).alloc (.cells #[] 3) := ⟨_, rfl⟩
  have hzW : W1.heap.size = w.heap.size + 2 := by rw [hW1]; simp
  have p0 : W1.cell? ⟨w.heap.size, 0, none⟩ = some (.int .i64 n) := by rw [hW1]; go_simp
  have p1 : W1.cell? ⟨w.heap.size, 1, none⟩ = some (.slice A ps.length cap) := by rw [hW1]; go_simp
  have HBW := Lib.hid (show Below w.heap.size w W1 from by rw [hW1]; exact ((Below.refl _ _).alloc (Nat.le_refl _) _).alloc (by simp) _)
  have HO0 := Lib.hid (show IOwn W1 (w.heap.size + 1) (.slice (some ⟨w.heap.size + 1, 0, none⟩) 0 0) [] from by
    have h1 := own_empty (w.alloc (.cells #[.int .i64 n, .slice A ps.length cap] 32)) (w.heap.size + 1) (by simp)
    rw [hW1]; simpa using h1)
  have HW1 := Lib.hid hW1
  have HZW := Lib.hid hzW
  have hl1 : w.heap.size < W1.heap.size := by omega
  clear hW1 hzW
  go_enter Try.func62, Try.ntmps62
  go_upto_region 2 with (fail)
  rw [← HW1.out]
  clear HW1
  go_wp2_with (first
    | (go_at_call 119; refine (HF.out _ HBW.out).mono ?_; rintro e w1 ⟨⟨r, rfl, hr⟩, hb1⟩; clear hr; have HB1 := Lib.hid (HBW.out.trans (hb1.mono HBW.out.size)); have hw1 : w.heap.size < w1.heap.size := (by have := hb1.size; omega); have a0 := (hb1.cell (p := ⟨w.heap.size, 0, none⟩) hl1).trans p0; have a1 := (hb1.cell (p := ⟨w.heap.size, 1, none⟩) hl1).trans p1; have HO1 := Lib.hid (HO0.out.on hb1); have hz1W := hb1.size; clear hb1)
    | (go_at_call 101; refine (H.out _ HB1.out).mono ?_; rintro e w2 ⟨rfl, hb2⟩; have HB2 := Lib.hid (HB1.out.trans (hb2.mono HB1.out.size)); have hw2 : w.heap.size < w2.heap.size := (by have := hb2.size; omega); have c0 := (hb2.cell (p := ⟨w.heap.size, 0, none⟩) hw1).trans a0; have c1 := (hb2.cell (p := ⟨w.heap.size, 1, none⟩) hw1).trans a1; have HO2 := Lib.hid (HO1.out.on hb2); have hz2W := hb2.size; clear hb2))
  go_ret2
  exact ⟨w.heap.size + 1, 0, 0, rfl, by omega, .inl rfl, HB2.out, by have := HZW.out; omega⟩
set_option maxHeartbeats 2000000 in
set_option maxRecDepth 100000 in
theorem sarnd_no2 (n : Int) (A : Option Addr) (cap : Nat) (ps : List Pp) (AV : Option Addr) (capv : Nat) (vs : List Vv) (x : Int) (w : World) (h : PAt w A ps) (hm : ps.length ≤ 1048576) (hv : VAt w AV vs) (hmv : vs.length ≤ maxLen) (hb : goodV n ps vs = true) (hno : ∀ i, i < ps.length → (pAt ps i).id ≠ x) :
    Calls Try.prog 62 #[nv n A ps.length cap, .slice AV vs.length capv, .int .i64 x] w (GivesA w [] false) := by
  have hmm : ps.length ≤ maxLen := by unfold maxLen; omega
  have H := Lib.hid (fun w' (hb' : Below w.heap.size w w') => sgoodv_v hb A cap AV capv w' (h.kept hb' (Nat.le_refl _)) hmm (hv.kept hb' (Nat.le_refl _)) hmv)
  have HF := Lib.hid (fun w' (hb' : Below w.heap.size w w') => find_any n A cap ps x w' (h.kept hb' (Nat.le_refl _)) hm)
  have HNO := Lib.hid hno
  clear h hm hv hmv hb hmm hno
  obtain ⟨W1, hW1⟩ : ∃ W1, W1 = (w.alloc (.cells #[.int .i64 n, .slice A ps.length cap] 32)).alloc (.cells #[] 3) := ⟨_, rfl⟩
  have hzW : W1.heap.size = w.heap.size + 2 := by rw [hW1]; simp
  have p0 : W1.cell? ⟨w.heap.size, 0, none⟩ = some (.int .i64 n) := by rw [hW1]; go_simp
  have p1 : W1.cell? ⟨w.heap.size, 1, none⟩ = some (.slice A ps.length cap) := by rw [hW1]; go_simp
  have HBW := Lib.hid (show Below w.heap.size w W1 from by rw [hW1]; exact ((Below.refl _ _).alloc (Nat.le_refl _) _).alloc (by simp) _)
  have HO0 := Lib.hid (show IOwn W1 (w.heap.size + 1) (.slice (some ⟨w.heap.size + 1, 0, none⟩) 0 0) [] from by
    have h1 := own_empty (w.alloc (.cells #[.int .i64 n, .slice A ps.length cap] 32)) (w.heap.size + 1) (by simp)
    rw [hW1]; simpa using h1)
  have HW1 := Lib.hid hW1
  have HZW := Lib.hid hzW
  have hl1 : w.heap.size < W1.heap.size := by omega
  clear hW1 hzW
  go_enter Try.func62, Try.ntmps62
  go_upto_region 2 with (fail)
  rw [← HW1.out]
  clear HW1
  go_wp2_with (first
    | (go_at_call 119; refine (HF.out _ HBW.out).mono ?_; rintro e w1 ⟨⟨r, rfl, hr⟩, hb1⟩; have hr1 := find_no hr HNO.out; subst hr1; clear hr; have HB1 := Lib.hid (HBW.out.trans (hb1.mono HBW.out.size)); have hw1 : w.heap.size < w1.heap.size := (by have := hb1.size; omega); have a0 := (hb1.cell (p := ⟨w.heap.size, 0, none⟩) hl1).trans p0; have a1 := (hb1.cell (p := ⟨w.heap.size, 1, none⟩) hl1).trans p1; have HO1 := Lib.hid (HO0.out.on hb1); have hz1W := hb1.size; clear hb1)
    | (go_at_call 101; refine (H.out _ HB1.out).mono ?_; rintro e w2 ⟨rfl, hb2⟩; have HB2 := Lib.hid (HB1.out.trans (hb2.mono HB1.out.size)); have hw2 : w.heap.size < w2.heap.size := (by have := hb2.size; omega); have c0 := (hb2.cell (p := ⟨w.heap.size, 0, none⟩) hw1).trans a0; have c1 := (hb2.cell (p := ⟨w.heap.size, 1, none⟩) hw1).trans a1; have HO2 := Lib.hid (HO1.out.on hb2); have hz2W := hb2.size; clear hb2))
  go_ret2
  exact ⟨w.heap.size + 1, 0, 0, rfl, by omega, .inl rfl, HB2.out, by have := HZW.out; omega⟩

set_option maxHeartbeats 4000000 in
set_option maxRecDepth 100000 in
theorem sarnd_yes (N : Nat) (A : Option Addr) (cap : Nat) (ps : List Pp) (AV : Option Addr) (capv : Nat) (vs : List Vv) (x : Int) (w : World) (h : PAt w A ps) (hv : VAt w AV vs) (hb : goodV N ps vs = true) (i : Nat) (hi : At ps x i) :
    Calls Try.prog 62 #[nv N A ps.length cap, .slice AV vs.length capv, .int .i64 x] w (GivesA w (arndL ps vs (coB ps vs (one (9 + i)))) true) := by
  have hgd := goodV_of hb
  have hm : ps.length ≤ 1048576 := by have := hgd.1.2.2.1; omega
  have hmv : vs.length ≤ maxLen := by have := hgd.2.1; unfold maxLen; omega
  have hmm : ps.length ≤ maxLen := by unfold maxLen; omega
  have H := Lib.hid (fun w' (hb' : Below w.heap.size w w') => sgoodv_v hb A cap AV capv w' (h.kept hb' (Nat.le_refl _)) hmm (hv.kept hb' (Nat.le_refl _)) hmv)
  have HF := Lib.hid (fun w' (hb' : Below w.heap.size w w') => find_any N A cap ps x w' (h.kept hb' (Nat.le_refl _)) hm)
  have HSP := Lib.hid (fun w' (hb' : Below w.heap.size w w') => spread_pipe N i A cap ps AV capv vs w' (h.kept hb' (Nat.le_refl _)) (hv.kept hb' (Nat.le_refl _)) hgd.1 hgd.2.1 hi.1)
  have HAR := Lib.hid (fun g1 o1 c1 g2 o2 c2 w' (hb' : Below w.heap.size w w') l1 l2 => saround_any N A cap ps AV capv vs (coB ps vs (one (9 + i))) g1 o1 c1 g2 o2 c2 w' (h.kept hb' (Nat.le_refl _)) (hv.kept hb' (Nat.le_refl _)) hgd l1 l2)
  have HS := Lib.hid (good_ids hgd.1)
  have HI := Lib.hid hi
  have HVV := Lib.hid hv
  have hvl := hgd.2.1
  obtain ⟨i0, hi0, hz0, hz1, hz2⟩ := info_parts infoI
  clear h hm hv hmv hb hmm hi hgd
  obtain ⟨W1, hW1⟩ : ∃ W1, W1 = (w.alloc (.cells #[.int .i64 (N : Int), .slice A ps.length cap] 32)).alloc (.cells #[] 3) := ⟨_, rfl⟩
  have hzW : W1.heap.size = w.heap.size + 2 := by rw [hW1]; simp
  have p0 : W1.cell? ⟨w.heap.size, 0, none⟩ = some (.int .i64 (N : Int)) := by rw [hW1]; go_simp
  have p1 : W1.cell? ⟨w.heap.size, 1, none⟩ = some (.slice A ps.length cap) := by rw [hW1]; go_simp
  have HBW := Lib.hid (show Below w.heap.size w W1 from by rw [hW1]; exact ((Below.refl _ _).alloc (Nat.le_refl _) _).alloc (by simp) _)
  have HO0 := Lib.hid (show IOwn W1 (w.heap.size + 1) (.slice (some ⟨w.heap.size + 1, 0, none⟩) 0 0) [] from by
    have h1 := own_empty (w.alloc (.cells #[.int .i64 (N : Int), .slice A ps.length cap] 32)) (w.heap.size + 1) (by simp)
    rw [hW1]; simpa using h1)
  have HW1 := Lib.hid hW1
  have HZW := Lib.hid hzW
  have hl1 : w.heap.size < W1.heap.size := by omega
  clear hW1 hzW
  go_enter Try.func62, Try.ntmps62
  go_upto_region 2 with (fail)
  rw [← HW1.out]
  clear HW1
  go_wp2_with (first
    | (go_at_call 119; refine (HF.out _ HBW.out).mono ?_; rintro e w1 ⟨⟨r, rfl, hr⟩, hb1⟩; have hr1 := find_of HS.out hr HI.out; subst hr1; clear hr; have HB1 := Lib.hid (HBW.out.trans (hb1.mono HBW.out.size)); have hw1 : w.heap.size < w1.heap.size := (by have := hb1.size; omega); have a0 := (hb1.cell (p := ⟨w.heap.size, 0, none⟩) hl1).trans p0; have a1 := (hb1.cell (p := ⟨w.heap.size, 1, none⟩) hl1).trans p1; have HO1 := Lib.hid (HO0.out.on hb1); have hz1W := hb1.size; clear hb1)
    | (go_at_call 101; refine (H.out _ HB1.out).mono ?_; rintro e w2 ⟨rfl, hb2⟩; have HB2 := Lib.hid (HB1.out.trans (hb2.mono HB1.out.size)); have hw2 : w.heap.size < w2.heap.size := (by have := hb2.size; omega); have c0 := (hb2.cell (p := ⟨w.heap.size, 0, none⟩) hw1).trans a0; have c1 := (hb2.cell (p := ⟨w.heap.size, 1, none⟩) hw1).trans a1; have HO2 := Lib.hid (HO1.out.on hb2); have hz2W := hb2.size; clear hb2)
    | (go_at_call 123; refine (HSP.out _ HB2.out).mono ?_; rintro e w3 ⟨⟨g1, o1, c1x, g2, o2, c2x, rfl, hL1, hL2, hb3⟩, hb3w⟩; have HL1 := Lib.hid hL1; have HL2 := Lib.hid hL2; have HB3 := Lib.hid (HB2.out.trans (hb3w.mono HB2.out.size)); have d0 := (hb3w.cell (p := ⟨w.heap.size, 0, none⟩) hw2).trans c0; have d1 := (hb3w.cell (p := ⟨w.heap.size, 1, none⟩) hw2).trans c1; have HO3 := Lib.hid (HO2.out.on hb3w); have hz3W := hb3w.size; clear hL1 hL2 hb3 hb3w)
    | (go_at_call 130; refine (HAR.out g1 o1 c1x g2 o2 c2x _ HB3.out HL1.out HL2.out).mono ?_; rintro e w4 ⟨g3, c3, rfl, hg3, hO3, hb4⟩; have HR4 := Lib.hid hO3; have HB4 := Lib.hid (HB3.out.trans (hb4.mono HB3.out.size)); have HO4 := Lib.hid (HO3.out.on hb4); have hz4W := hb4.size; clear hO3 hb4; refine Hid.out ?_))
  obtain ⟨q, hq⟩ : ∃ q, q = arndB ps (coB ps vs (one (9 + i))) := ⟨_, rfl⟩
  have HFIN := Lib.hid (show (arI q vs vs.length).map (fun y => (vAt vs y.toNat).id) = arndL ps vs (coB ps vs (one (9 + i))) from by rw [hq]; exact arndL_ids ps vs _)
  rw [← hq] at HR4
  rw [← hq]
  have HME := Lib.hid (fun y (hy : y ∈ arI q vs vs.length) => arI_mem hy)
  have hal := arI_len q vs vs.length
  obtain ⟨is, his⟩ : ∃ is, is = arI q vs vs.length := ⟨_, rfl⟩
  rw [← his] at HFIN HR4 HME hal
  rw [← his]
  have LR := Lib.hid (own_lat HR4.out)
  have hg3l := LR.out.1
  obtain ⟨B, hB⟩ : ∃ B, B = w.heap.size + 1 := ⟨_, rfl⟩
  rw [← hB] at HO4
  have hBw : w.heap.size < B := by omega
  have hB4 : B ≤ w4.heap.size := by have := HZW.out; omega
  have HG3 := Lib.hid (show IOwn w4 w3.heap.size (.slice (some ⟨g3, 0, none⟩) is.length c3) is from HR4.out)
  rw [← hB]
  have hB3' : B < w3.heap.size := by have := HZW.out; omega
  clear hB hq his a0 a1 c0 c1 d0 d1 HO0 HO1 HO2 HO3 HR4
  refine Lib.hid ?_
  go_wp2_with fail
  go_loopw [8, 13] (fun v i wr => ∃ k : Nat, k ≤ is.length ∧ i = .int .i64 (k : Int) ∧ Hid (IOwn wr B v (idsV vs is k)) ∧ Hid (v ≠ .slice none 0 0) ∧ Hid (v.ownBlock ≠ some g3) ∧ Hid (LAt wr g3 0 c3 is) ∧ Hid (Below B w4 wr)) (fun _ i _ => is.length - (intOf i).toNat)
  case atStart => exact ⟨0, Nat.zero_le _, rfl, HO4, Lib.hid (by simp), Lib.hid (by simp [Value.ownBlock]; omega), LR, Lib.hid (Below.refl _ _)⟩
  case round =>
    clear HO4 LR HG3
    obtain ⟨k, hk, rfl, hown, hvn, hvb, hlr, hb⟩ := hrel
    obtain ⟨gv, cv, rfl, hgv⟩ := own_slice hown.out hvn.out
    have hzr := hb.out.size
    by_cases hlt : k < is.length
    · have hmm := HME.out _ (getD_mem is k hlt)
      obtain ⟨y, hy⟩ : ∃ y : Nat, is.getD k 0 = (y : Int) := ⟨(is.getD k 0).toNat, by omega⟩
      have HSX := Lib.hid (idsV_succ vs is k hlt)
      rw [hy] at hmm HSX
      have hyl : y < vs.length := by omega
      obtain ⟨b, off, hA, hbl0, g0, g1', g2', g3'⟩ := HVV.out.at_ hyl
      subst hA
      have hbr := Lib.hid (HB4.out.trans (hb.out.mono (by omega)))
      have h0 := (hbr.out.cell (p := ⟨b, off + y * 4, none⟩) hbl0).trans g0
      have hcy := hlr.out.2.2.2 k hlt
      rw [hy, Nat.zero_add] at hcy
      have hk0 : (0 : Int) ≤ (k : Int) := by omega
      have hkn : (k : Int) < (is.length : Int) := by omega
      have hy0 : (0 : Int) ≤ (y : Int) := by omega
      have hyn : (y : Int) < (vs.length : Int) := by omega
      have hil := idsV_len vs is k
      have hg3r := hlr.out.1
      simp only [Int.toNat_natCast] at HSX
      clear g0 g1' g2' g3' hy
      generalize (vAt vs y).id = id at *
      have ho := hown.out
      unfold IOwn at ho
      go_wp2_with (at_builtin; go_must (refine wpList_append_lies _ rfl _ _ 26 rfl B 3 i0 (.int .i64 0) 1 8 Try.underlying26 hi0 hz0 hz1 hz2 rfl (by decide) _ _ _ rfl (ho.alloc _) ⟨wr.heap.size, 0, none⟩ 1 1 [iv id] rfl rfl (cell_one_new _ _ _) ?x2 (by omega) ?x3 ?x4 ?x5 (wr.heap.size + 1) (by simp) ?_))
      case x2 => intro u hu; simp at hu; subst hu; rfl
      case x3 => unfold maxLen; omega
      case x4 => omega
      case x5 => simp; omega
      intro gg cap' w5 hown' hgrow hat hlt1
      have hown3 := Lib.hid (IOwn.push hown')
      rw [← HSX.out] at hown3
      have hB3 := Lib.hid ((hb.out.alloc (by omega) (.cells #[iv id] 3)).grown hgrow (by simp; omega) (fun g hg => (ho.lt g hg).1))
      have LN3 := Lib.hid (show LAt w5 g3 0 c3 is from by
        have h1 := lat_new hlr.out (.cells #[iv id] 3)
        refine ⟨Nat.lt_of_lt_of_le h1.1 hgrow.size, h1.2.1, h1.2.2.1, fun i hi => (hgrow.cell_far ⟨g3, 0 + i, none⟩ h1.1 (fun e => hvb.out e.symm)).trans (h1.2.2.2 i hi)⟩)
      have hvb3 := Lib.hid (show gg ≠ g3 from by
        rcases hat with hat | hat
        · intro e; exact hvb.out (by rw [hat, e])
        · omega)
      clear hown' hgrow hat hlt1 ho
      go_wp2_with fail
      go_roundw
      case rel => exact ⟨k + 1, by omega, by go_num, hown3, Lib.hid (by simp), Lib.hid (by simp [Value.ownBlock]; exact hvb3.out), LN3, hB3⟩
      case measure => simp [intOf]; omega
    · have hfin : idsV vs is k = arndL ps vs (coB ps vs (one (9 + i))) := by
        unfold idsV; rw [List.take_of_length_le (by omega)]; exact HFIN.out
      have hown2 := hown.out
      have HF2 := Lib.hid hfin
      clear hfin
      go_wp2_with fail
      go_ret2
      rw [HF2.out] at hown2
      exact ⟨gv, 0, cv, by rw [HF2.out]; rfl, by omega, hown2.iat, HB4.out.trans (hb.out.mono (by omega)), iown_lt' hown2⟩
end Go.Proofs.Ytbljmibaemgfeaa.S2

namespace Go.Proofs.Ytbljmibaemgfeaa.S2
open Go.RowKit Go.Sort P2 P4
set_option linter.unusedVariables false

/-- Whether the valve of an id is shut. -/
noncomputable def shB (vs : List Vv) (x : Int) : Bool := open Classical in decide (∃ j, j < vs.length ∧ (vAt vs j).id = x ∧ (vAt vs j).sh = true)
theorem shB_at {vs : List Vv} (ha : AscV vs) {j : Nat} (hj : j < vs.length) : shB vs (vAt vs j).id = (vAt vs j).sh := by
  cases e : (vAt vs j).sh with
  | true => unfold shB; rw [decide_eq_true_iff]; exact ⟨j, hj, rfl, e⟩
  | false =>
    unfold shB
    rw [decide_eq_false_iff_not]
    rintro ⟨k, hk, he, hs⟩
    have hlt : ∀ a b, a < b → b < vs.length → (vAt vs a).id < (vAt vs b).id := fun a b hab hbl => by
      have h1 := (List.pairwise_iff_getElem.1 ha) a b (by omega) hbl hab
      have e1 : vs[a]'(by omega) = vAt vs a := by unfold vAt; simp [List.getD, show a < vs.length by omega]
      have e2 : vs[b]'hbl = vAt vs b := by unfold vAt; simp [List.getD, hbl]
      rw [e1, e2] at h1
      exact h1
    have hjk : k = j := by
      rcases Nat.lt_trichotomy k j with h | h | h
      · have := hlt k j h hj; omega
      · exact h
      · have := hlt j k h hk; omega
    subst hjk
    rw [e] at hs
    cases hs

set_option maxHeartbeats 2000000 in
set_option maxRecDepth 100000 in
theorem sgclos_any (VB : Nat) (AV : Option Addr) (capv : Nat) (vs : List Vv) (j : Nat) (w : World) (hv : VAt w AV vs) (hl : vs.length ≤ 10) (ha : AscV vs) (hj : j < vs.length) (hb : w.cell? ⟨VB, 0, none⟩ = some (.slice AV vs.length capv)) (hbl : VB < w.heap.size) :
    Calls Try.prog 99 #[.int .i64 (vAt vs j).id, .pointer (some ⟨VB, 0, none⟩)] w fun e w' => e = .returned (.bool (vAt vs j).sh) ∧ Below w.heap.size w w' := by
  have HV := Lib.hid hv
  have HASC := Lib.hid ha
  have HP := Lib.hid (fun x w' (hb : Below w.heap.size w w') => placev_any AV capv vs x w' (hv.kept hb (Nat.le_refl _)) hl ha)
  obtain ⟨x, hx⟩ : ∃ x, (vAt vs j).id = x := ⟨_, rfl⟩
  obtain ⟨sh, hsh⟩ : ∃ sh, (vAt vs j).sh = sh := ⟨_, rfl⟩
  rw [hx, hsh]
  have HX := Lib.hid hx
  have HSH := Lib.hid hsh
  clear hv ha hx hsh
  go_enter Try.func99, Try.ntmps99
  go_wp2_with (go_at_call 100; refine (HP.out x _ (Below.refl _ _)).mono ?_; rintro e w3 ⟨⟨p, f, rfl, hp⟩, hb3⟩; have HPL := Lib.hid hp; have HB3 := Lib.hid hb3; clear hp hb3; refine Hid.out ?_)
  obtain ⟨h1, h2⟩ := vplace_at HASC.out HPL.out hj HX.out
  have HPJ := Lib.hid (show p = j from by first | exact h2 | exact h2.symm | exact h1 | exact h1.symm)
  have hpj := HPJ.out
  subst hpj
  have b0 := (HB3.out.cell (p := ⟨VB, 0, none⟩) hbl).trans hb
  obtain ⟨b1, off1, hA1, hbl1, g0, g1, g2, g3⟩ := (HV.out.kept HB3.out (Nat.le_refl _)).at_ hj
  subst hA1
  rw [HSH.out] at g3
  have hp0 : (0 : Int) ≤ (p : Int) := by omega
  have hpn : (p : Int) < (vs.length : Int) := by omega
  clear g0 g1 g2 h1 h2 hb
  refine Lib.hid ?_
  go_wp2_with fail
  go_ret
  exact ⟨rfl, HB3.out⟩

/-- The first place at which q is true, from k on; the length if there is none. -/
def firstT (q : Int → Bool) (l : List Int) : Nat := (l.takeWhile (fun x => !q x)).length
theorem firstT_step {q : Int → Bool} {l : List Int} {k : Nat} (hk : k < l.length) (hall : ∀ j, j < k → q (l.getD j 0) = false) (h : q (l.getD k 0) = true) : firstT q l = k := by
  induction l generalizing k with
  | nil => simp at hk
  | cons x t ih =>
    cases k with
    | zero =>
      have h1 : q x = true := by simpa using h
      simp [firstT, h1]
    | succ k =>
      have h1 : q x = false := by simpa using hall 0 (by omega)
      have h2 := ih (k := k) (by simpa using hk) (fun j hj => by simpa using hall (j + 1) (by omega)) (by simpa using h)
      unfold firstT at h2 ⊢
      simp [h1, h2]
theorem firstT_none {q : Int → Bool} {l : List Int} (hall : ∀ j, j < l.length → q (l.getD j 0) = false) : firstT q l = l.length := by
  induction l with
  | nil => rfl
  | cons x t ih =>
    have h1 : q x = false := by simpa using hall 0 (by simp)
    have h2 := ih (fun j hj => by simpa using hall (j + 1) (by simpa using hj))
    unfold firstT at h2 ⊢
    simp [h1, h2]
def idxV (q : Int → Bool) (l : List Int) : Int := if firstT q l < l.length then (firstT q l : Int) else -1

set_option maxHeartbeats 2000000 in
set_option maxRecDepth 100000 in
theorem sgidx_any (q : Int → Bool) (G : Nat) (VB : Nat) (A : Option Addr) (cap : Nat) (l : List Int) (w : World) (h : IAt w A l) (hl : l.length ≤ 1000)
    (hq : ∀ j, j < l.length → ∀ w', Below w.heap.size w w' → Calls Try.prog 99 #[.int .i64 (l.getD j 0), .pointer (some ⟨VB, 0, none⟩)] w' fun e w'' => e = .returned (.bool (q (l.getD j 0))) ∧ Below w'.heap.size w' w'') :
    Calls Try.prog 153 #[.slice A l.length cap, .func (.func 99) #[] #[.pointer (some ⟨VB, 0, none⟩)]] w fun e w' => e = .returned (.int .i64 (idxV q l)) ∧ Below w.heap.size w w' := by
  have HA := Lib.hid h
  have HQ := Lib.hid hq
  clear h hq
  go_enter Try.func153, Try.ntmps153
  go_wp2_with fail
  go_loopw [8] (fun i wr => ∃ k : Nat, k ≤ l.length ∧ i = .int .i64 (k : Int) ∧ Hid (∀ j, j < k → q (l.getD j 0) = false) ∧ Hid (Below w.heap.size w wr)) (fun i _ => l.length - (intOf i).toNat)
  case atStart => exact ⟨0, Nat.zero_le _, rfl, Lib.hid (fun j hj => by omega), Lib.hid (Below.refl _ _)⟩
  case round =>
    obtain ⟨k, hk, rfl, hall, hb⟩ := hrel
    by_cases hlt : k < l.length
    · obtain ⟨b, off, hA, hbl, h0⟩ := (HA.out.kept hb.out (Nat.le_refl _)).at_ hlt
      subst hA
      have hk0 : (0 : Int) ≤ (k : Int) := by omega
      have hkn : (k : Int) < (l.length : Int) := by omega
      have HQk := Lib.hid (HQ.out k hlt)
      obtain ⟨v, hv⟩ : ∃ v, q (l.getD k 0) = v := ⟨_, rfl⟩
      rw [hv] at HQk
      have HV := Lib.hid hv
      obtain ⟨x, hx⟩ : ∃ x, l.getD k 0 = x := ⟨_, rfl⟩
      rw [hx] at HQk h0
      clear hv hx
      go_wp2_with (go_at_call 99; refine (HQk.out _ hb.out).mono ?_; rintro e w3 ⟨rfl, hb3⟩; have HB3 := Lib.hid (hb.out.trans (hb3.mono hb.out.size)); clear hb3; refine Hid.out ?_)
      cases v with
      | true =>
        have HE := Lib.hid (show idxV q l = (k : Int) from by unfold idxV; rw [firstT_step hlt hall.out HV.out, if_pos hlt])
        refine Lib.hid ?_
        go_wp2_with fail
        go_ret
        exact ⟨by rw [HE.out]; rfl, HB3.out⟩
      | false =>
        have hall2 := Lib.hid (show ∀ j, j < k + 1 → q (l.getD j 0) = false from fun j hj => by
          by_cases e : j = k
          · subst e; exact HV.out
          · exact hall.out j (by omega))
        refine Lib.hid ?_
        go_wp2_with fail
        go_roundw
        case rel => exact ⟨k + 1, by omega, by go_num, hall2, HB3⟩
        case measure => simp [intOf]; omega
    · have HE := Lib.hid (show idxV q l = -1 from by unfold idxV; rw [firstT_none (fun j hj => hall.out j (by omega)), if_neg (by omega)])
      go_wp2_with fail
      go_ret
      exact ⟨by rw [HE.out]; rfl, hb.out⟩

/-! ### DeleteFunc -/
theorem sgown_set {w : World} {B g n cap : Nat} {D : List Int} (h : IOwn w B (.slice (some ⟨g, 0, none⟩) n cap) D) (hn : D.length = n) (v : Nat) (x : Int) :
    IOwn (w.setCell ⟨g, v, none⟩ (iv x)) B (.slice (some ⟨g, 0, none⟩) n cap) (D.set v x) := by
  subst hn
  unfold IOwn at h ⊢
  have h2 := (h.stored v (iv x)).1
  rw [List.length_set, List.map_set]
  exact h2
theorem sgown_cell {w : World} {B g n cap : Nat} {D : List Int} (h : IOwn w B (.slice (some ⟨g, 0, none⟩) n cap) D) (hn : D.length = n) {v : Nat} (hv : v < D.length) : w.cell? ⟨g, v, none⟩ = some (iv (D.getD v 0)) := by
  subst hn
  unfold IOwn at h
  rw [h.cellAt v (by omega)]
  simp [List.getD, hv]
theorem sgown_frozen {w : World} {B g n cap : Nat} {D : List Int} (h : IOwn w B (.slice (some ⟨g, 0, none⟩) n cap) D) (hn : D.length = n) (v : Nat) : w.frozen? ⟨g, v, none⟩ = false := by
  subst hn
  unfold IOwn at h
  exact h.frozenAt v
theorem sgown_take {w : World} {B g n cap : Nat} {D : List Int} (h : IOwn w B (.slice (some ⟨g, 0, none⟩) n cap) D) (hn : D.length = n) {i : Nat} (hi : i ≤ n) : IOwn w B (.slice (some ⟨g, 0, none⟩) i cap) (D.take i) := by
  subst hn
  unfold IOwn at h ⊢
  have e : (D.take i).length = i := by rw [List.length_take]; omega
  rcases h.2 with ⟨e0, _⟩ | ⟨g', cap', cur, e0, hb, hg, hn, hm, hs, ht⟩
  · cases e0
  · injection e0 with e1 _ e3
    injection e1 with e1
    injection e1 with e1
    subst e1; subst e3
    refine ⟨by rw [List.length_map, e]; omega, .inr ⟨g, cap, cur, by rw [e], hb, hg, by rw [e]; omega, hm, hs, ?_⟩⟩
    rw [e, Nat.mul_one, List.map_take, ← ht, List.take_take, Nat.mul_one, Nat.min_eq_left hi]
theorem sgown_zeros {B g n cap : Nat} : ∀ (k o : Nat) (w : World) (D : List Int), IOwn w B (.slice (some ⟨g, 0, none⟩) n cap) D → D.length = n → ∃ D', D'.length = n ∧ D'.take o = D.take o ∧ IOwn (w.setCells g o (List.replicate k (iv 0))) B (.slice (some ⟨g, 0, none⟩) n cap) D'
  | 0, _, _, D, h, hn => ⟨D, hn, rfl, h⟩
  | k + 1, o, w, D, h, hn => by
    obtain ⟨D', h1, h2, h3⟩ := sgown_zeros k (o + 1) _ _ (sgown_set h hn o 0) (by simpa using hn)
    refine ⟨D', h1, ?_, h3⟩
    have h4 := congrArg (List.take o) h2
    rw [List.take_take, List.take_take, Nat.min_eq_left (by omega)] at h4
    rw [h4, List.take_set_of_le (Nat.le_refl _)]
theorem sgbelow_cells {B g : Nat} {a : World} (hb : B ≤ g) : ∀ (vs : List Value) (o : Nat) (w : World), Below B a w → Below B a (w.setCells g o vs)
  | [], _, _, h => h
  | v :: r, o, w, h => sgbelow_cells hb r (o + 1) _ (h.setCell (p := ⟨g, o, none⟩) hb v)
/-- What is kept of the first k. -/
def keptL (q : Int → Bool) (l : List Int) (k : Nat) : List Int := (l.take k).filter fun x => !q x
theorem keptL_succ (q : Int → Bool) (l : List Int) (k : Nat) (h : k < l.length) : keptL q l (k + 1) = if q (l.getD k 0) = true then keptL q l k else keptL q l k ++ [l.getD k 0] := by
  unfold keptL
  rw [take_getD l k h, List.filter_append]
  generalize l.getD k 0 = x
  cases e : q x <;> simp [e]
theorem keptL_len (q : Int → Bool) (l : List Int) (k : Nat) : (keptL q l k).length ≤ k := Nat.le_trans (List.length_filter_le _ _) (List.length_take_le _ _)
theorem keptL_all (q : Int → Bool) (l : List Int) (k : Nat) (h : l.length ≤ k) : keptL q l k = l.filter fun x => !q x := by unfold keptL; rw [List.take_of_length_le h]
theorem keptL_none {q : Int → Bool} {l : List Int} : ∀ {k : Nat}, k ≤ l.length → (∀ j, j < k → q (l.getD j 0) = false) → keptL q l k = l.take k
  | 0, _, _ => by simp [keptL]
  | k + 1, hk, h => by
    rw [keptL_succ q l k (by omega), h k (by omega), keptL_none (by omega) (fun j hj => h j (by omega)), take_getD l k (by omega)]
    simp
/-- The row while it is rewritten. -/
structure DelI (q : Int → Bool) (l D : List Int) (i j : Nat) : Prop where
  len : D.length = l.length
  il : i = (keptL q l j).length
  head : D.take i = keptL q l j
  tail : ∀ m, j ≤ m → m < l.length → D.getD m 0 = l.getD m 0
  lt : i < j
  jl : j ≤ l.length
theorem DelI.cut {q : Int → Bool} {l D : List Int} {i j : Nat} (h : DelI q l D i j) (hj : j < l.length) (hq : q (l.getD j 0) = true) : DelI q l D i (j + 1) :=
  ⟨h.len, by rw [keptL_succ q l j hj, if_pos hq]; exact h.il, by rw [keptL_succ q l j hj, if_pos hq]; exact h.head, fun m h1 h2 => h.tail m (by omega) h2, by have := h.lt; omega, hj⟩
theorem DelI.keep {q : Int → Bool} {l D : List Int} {i j : Nat} (h : DelI q l D i j) (hj : j < l.length) (hq : q (l.getD j 0) = false) : DelI q l (D.set i (l.getD j 0)) (i + 1) (j + 1) := by
  have hi := h.lt
  have hl := h.len
  refine ⟨by rw [List.length_set]; exact h.len, by rw [keptL_succ q l j hj, if_neg (by rw [hq]; simp), List.length_append, ← h.il]; rfl, ?_, fun m h1 h2 => ?_, by omega, hj⟩
  · rw [keptL_succ q l j hj, if_neg (by rw [hq]; simp), ← h.head]
    rw [take_getD _ i (by rw [List.length_set]; omega), List.take_set_of_le (Nat.le_refl _)]
    simp [List.getD, show i < D.length by omega]
  · have hne : i ≠ m := by omega
    rw [← h.tail m (by omega) h2]
    simp [List.getD, hne]
theorem delI_start {q : Int → Bool} {l : List Int} {k : Nat} (hk : k < l.length) (hall : ∀ j, j < k → q (l.getD j 0) = false) (h : q (l.getD k 0) = true) : DelI q l l k (k + 1) := by
  have e := keptL_none (q := q) (l := l) (k := k) (by omega) hall
  have e2 : keptL q l (k + 1) = l.take k := by rw [keptL_succ q l k hk, if_pos h, e]
  exact ⟨rfl, by rw [e2, List.length_take]; omega, by rw [e2], fun m _ _ => rfl, by omega, hk⟩
theorem firstT_spec (q : Int → Bool) : ∀ l : List Int, (firstT q l < l.length → q (l.getD (firstT q l) 0) = true) ∧ (∀ j, j < firstT q l → q (l.getD j 0) = false)
  | [] => ⟨fun h => by simp [firstT] at h, fun j h => by simp [firstT] at h⟩
  | x :: t => by
    have ih := firstT_spec q t
    cases hx : q x with
    | true =>
      have e : firstT q (x :: t) = 0 := by simp [firstT, hx]
      rw [e]
      exact ⟨fun _ => by simpa using hx, fun j h => by omega⟩
    | false =>
      have e : firstT q (x :: t) = firstT q t + 1 := by simp [firstT, hx]
      rw [e]
      refine ⟨fun h => ?_, fun j h => ?_⟩
      · have := ih.1 (by simpa using h)
        simpa using this
      · cases j with
        | zero => simpa using hx
        | succ j => simpa using ih.2 j (by omega)
theorem infoZ : ∀ w, (zeroValue 3).run Try.prog w = .ok (.int .i64 0) w := fun w => by kernel_rfl

set_option maxHeartbeats 2000000 in
set_option maxRecDepth 100000 in
theorem sgdel_any (q : Int → Bool) (B VB g cap : Nat) (l : List Int) (w : World) (h : IOwn w B (.slice (some ⟨g, 0, none⟩) l.length cap) l) (hB : B ≤ w.heap.size) (hBg : B ≤ g) (hl : l.length ≤ 1000)
    (hq : ∀ j, j < l.length → ∀ w', Below B w w' → Calls Try.prog 99 #[.int .i64 (l.getD j 0), .pointer (some ⟨VB, 0, none⟩)] w' fun e w'' => e = .returned (.bool (q (l.getD j 0))) ∧ Below w'.heap.size w' w'') :
    Calls Try.prog 98 #[.slice (some ⟨g, 0, none⟩) l.length cap, .func (.func 99) #[] #[.pointer (some ⟨VB, 0, none⟩)]] w fun e w' => (e = .returned (.slice (some ⟨g, 0, none⟩) (l.filter fun x => !q x).length cap) ∧ IOwn w' B (.slice (some ⟨g, 0, none⟩) (l.filter fun x => !q x).length cap) (l.filter fun x => !q x)) ∧ Below B w w' := by
  have HO := Lib.hid h
  have HQ := Lib.hid hq
  have HI := Lib.hid (sgidx_any q 0 VB (some ⟨g, 0, none⟩) cap l w h.iat hl (fun j hj w' hb => hq j hj w' (hb.mono hB)))
  have hcapl : l.length ≤ cap ∧ cap ≤ maxLen := by
    unfold IOwn at h
    rcases h.2 with ⟨e0, _⟩ | ⟨g', cap', cur, e0, hb, hg, hn, hm, hs, ht⟩
    · cases e0
    · injection e0 with e1 _ e3
      subst e3
      exact ⟨hn, hm⟩
  have hcm := hcapl.2
  unfold maxLen at hcm
  have hcl := hcapl.1
  clear h hq hcapl
  obtain ⟨hs1, hs2⟩ := firstT_spec q l
  by_cases hf : firstT q l < l.length
  · have HS := Lib.hid (delI_start hf hs2 (hs1 hf))
    have e : idxV q l = (firstT q l : Int) := by unfold idxV; rw [if_pos hf]
    rw [e] at HI
    generalize firstT q l = k at *
    clear hs1 hs2 e
    have hk0 : (0 : Int) ≤ (k : Int) := by omega
    have hkn1 : ((k : Int) == -1) = false := by simp
    go_enter Try.func98, Try.ntmps98
    go_wp2_with (go_at_call 153; refine HI.out.mono ?_; rintro e w1 ⟨rfl, hb1⟩; have HB1 := Lib.hid (hb1.mono hB); have HO1 := Lib.hid (HO.out.on hb1); clear hb1; refine Hid.out ?_)
    refine Lib.hid ?_
    go_wp2_with fail
    go_loopw [5, 6] (fun i j wr => ∃ (a b : Nat) (D : List Int), i = .int .i64 (a : Int) ∧ j = .int .i64 (b : Int) ∧ Hid (DelI q l D a b) ∧ Hid (IOwn wr B (.slice (some ⟨g, 0, none⟩) l.length cap) D) ∧ Hid (Below B w wr)) (fun _ j _ => l.length - (intOf j).toNat)
    case atStart => exact ⟨k, k + 1, l, rfl, by go_num, HS, HO1, HB1⟩
    case round =>
      clear HS HO1 HB1 HI HO
      obtain ⟨a, b, D, rfl, rfl, hd, hown, hb⟩ := hrel
      have hab := hd.out.lt
      have hbl := hd.out.jl
      have hDl := hd.out.len
      have ha0 : (0 : Int) ≤ (a : Int) := by omega
      have hb0 : (0 : Int) ≤ (b : Int) := by omega
      have han : (a : Int) < (l.length : Int) := by omega
      by_cases hlt : b < l.length
      · have hbn : (b : Int) < (l.length : Int) := by omega
        have cb := sgown_cell hown.out hDl (v := b) (by omega)
        rw [hd.out.tail b (Nat.le_refl _) hlt] at cb
        have HQb := Lib.hid (HQ.out b hlt)
        obtain ⟨v, hv⟩ : ∃ v, q (l.getD b 0) = v := ⟨_, rfl⟩
        rw [hv] at HQb
        have HV := Lib.hid hv
        obtain ⟨x, hx⟩ : ∃ x, l.getD b 0 = x := ⟨_, rfl⟩
        have HX := Lib.hid hx
        rw [hx] at HQb cb
        clear hv hx
        go_wp2_with (go_at_call 99; refine (HQb.out _ hb.out).mono ?_; rintro e w3 ⟨rfl, hb3⟩; have HO3 := Lib.hid (hown.out.on hb3); have HB3 := Lib.hid (hb.out.trans (hb3.mono (Nat.le_trans hB hb.out.size))); clear hb3; refine Hid.out ?_)
        cases v with
        | true =>
          have HD := Lib.hid (hd.out.cut hlt HV.out)
          refine Lib.hid ?_
          go_wp2_with fail
          go_roundw
          case rel => exact ⟨a, b + 1, D, rfl, by go_num, HD, HO3, HB3⟩
          case measure => simp [intOf]; omega
        | false =>
          have HD := Lib.hid (hd.out.keep hlt HV.out)
          rw [HX.out] at HD
          have ca := sgown_cell HO3.out hDl (v := a) (by omega)
          have fa := sgown_frozen HO3.out hDl a
          have HO4 := Lib.hid (sgown_set HO3.out hDl a x)
          have HB4 := Lib.hid (HB3.out.setCell (p := ⟨g, a, none⟩) hBg (iv x))
          clear cb
          refine Lib.hid ?_
          go_wp2_with fail
          go_roundw
          case rel => exact ⟨a + 1, b + 1, _, by go_num, by go_num, HD, HO4, HB4⟩
          case measure => simp [intOf]; omega
      · have e : b = l.length := by omega
        subst e
        have HR := Lib.hid (show D.take a = l.filter (fun x => !q x) from by rw [hd.out.head, keptL_all q l _ (Nat.le_refl _)])
        have HRL := Lib.hid (show a = (l.filter (fun x => !q x)).length from by rw [hd.out.il, keptL_all q l _ (Nat.le_refl _)])
        obtain ⟨D', h1, h2, h3⟩ := sgown_zeros (l.length - a) a wr D hown.out hDl
        have HO5 := Lib.hid (sgown_take h3 h1 (i := a) (by omega))
        rw [h2, HR.out] at HO5
        have HB5 := Lib.hid (sgbelow_cells hBg (List.replicate (l.length - a) (iv 0)) a wr hb.out)
        have hclr : ∀ ty, (Builtin.clear_ #[26] ty #[.slice (some ⟨g, a, none⟩) (l.length - a) (cap - a)]).run Try.prog wr = .ok (.tuple #[]) (wr.setCells g a (List.replicate (l.length - a) (.int .i64 0))) :=
          fun ty => Lib.run_clear_slice wr 26 3 ty (.int .i64 0) Try.underlying26 infoZ rfl rfl g a _ _ (by omega) (fun j hj => by rw [sgown_cell hown.out hDl (v := a + j) (by omega)]; rfl) (fun j hj => sgown_frozen hown.out hDl (a + j))
        clear h1 h2 h3
        go_wp2_with (simp only [hclr])
        go_ret
        exact ⟨⟨by rw [← HRL.out]; rfl, by rw [← HRL.out]; exact HO5.out⟩, HB5.out⟩
  · have hle : firstT q l = l.length := by
      have : firstT q l ≤ l.length := by unfold firstT; exact (List.takeWhile_sublist _).length_le
      omega
    rw [hle] at hs2
    have HR := Lib.hid (show l.filter (fun x => !q x) = l from by rw [← keptL_all q l l.length (Nat.le_refl _), keptL_none (Nat.le_refl _) hs2, List.take_length])
    have e : idxV q l = -1 := by unfold idxV; rw [if_neg hf]
    rw [e] at HI
    rw [HR.out]
    clear hs1 hs2 hle e hf
    go_enter Try.func98, Try.ntmps98
    go_wp2_with (go_at_call 153; refine HI.out.mono ?_; rintro e w1 ⟨rfl, hb1⟩; have HB1 := Lib.hid (hb1.mono hB); have HO1 := Lib.hid (HO.out.on hb1); clear hb1; refine Hid.out ?_)
    refine Lib.hid ?_
    go_wp2_with fail
    go_ret
    exact ⟨⟨rfl, HO1.out⟩, HB1.out⟩
end Go.Proofs.Ytbljmibaemgfeaa.S2

namespace Go.Proofs.Ytbljmibaemgfeaa.S2
open Go.RowKit Go.Sort P2 P4
set_option linter.unusedVariables false

theorem sgiat_grown {w w' : World} {A : Option Addr} {l : List Int} {row : Option Nat} (h : IAt w A l) (hg : w.grownBy w' row) (hne : ∀ b, A.map (·.block) = some b → row ≠ some b) : IAt w' A l := by
  rcases h with h | ⟨b, off, hA, hlt, h⟩
  · exact .inl h
  · have hb : w'.heap[b]? = w.heap[b]? := hg.block b hlt (fun e => hne b (by rw [hA]; rfl) e.symm)
    have hc : ∀ o, w'.cell? ⟨b, o, none⟩ = w.cell? ⟨b, o, none⟩ := fun o => World.cell?_of_block hb
    exact .inr ⟨b, off, hA, Nat.lt_of_lt_of_le hlt hg.size, fun i hi => (hc _).trans (h i hi)⟩
/-- What is open of the first k. -/
def openK (ol ar : List Int) (k : Nat) : List Int := (ar.take k).filter fun x => hasB ol x
theorem openK_succ (ol ar : List Int) (k : Nat) (h : k < ar.length) : openK ol ar (k + 1) = if hasB ol (ar.getD k 0) = true then openK ol ar k ++ [ar.getD k 0] else openK ol ar k := by
  unfold openK
  rw [take_getD ar k h, List.filter_append]
  generalize ar.getD k 0 = x
  cases e : hasB ol x <;> simp [e]
theorem openK_len (ol ar : List Int) (k : Nat) : (openK ol ar k).length ≤ k := Nat.le_trans (List.length_filter_le _ _) (List.length_take_le _ _)
theorem openK_all (ol ar : List Int) (k : Nat) (h : ar.length ≤ k) : openK ol ar k = ar.filter fun x => hasB ol x := by unfold openK; rw [List.take_of_length_le h]

set_option maxHeartbeats 2000000 in
set_option maxRecDepth 100000 in
theorem ssegp5_no (n : Int) (A : Option Addr) (cap : Nat) (ps : List Pp) (AV : Option Addr) (capv : Nat) (vs : List Vv) (X x : Int) (w : World) (hs : ∀ w', Below w.heap.size w w' → Calls Try.prog 85 #[nv n A ps.length cap, .slice AV vs.length capv, .int .i64 X, .int .i64 x] w' fun e w'' => e = .returned (.bool false) ∧ Below w'.heap.size w' w'') :
    Calls Try.prog 35 #[nv n A ps.length cap, .slice AV vs.length capv, .int .i64 X, .int .i64 x] w (GivesA w [] false) := by
  have HS := Lib.hid hs
  clear hs
  have HB0 := Lib.hid (show Below w.heap.size w (w.alloc (.cells #[.int .i64 n, .slice A ps.length cap] 32)) from (Below.refl _ _).alloc (Nat.le_refl _) _)
  go_enter Try.func35, Try.ntmps35
  go_wp2_with (go_at_call 85; refine (HS.out _ HB0.out).mono ?_; rintro e w1 ⟨rfl, hb1⟩; have HB1 := Lib.hid (HB0.out.trans (hb1.mono (by simp))); have hb1' : Below (w.heap.size + 1) (w.alloc (.cells #[.int .i64 n, .slice A ps.length cap] 32)) w1 := (by simpa using hb1); have HX1 := Lib.hid hb1'; obtain ⟨b0, b1⟩ := box2 hb1'; clear hb1 hb1')
  go_ret2
  exact (gives_none HB1.out).any

/-- A plan, or none. -/
def GivesP (w : World) (SP : List Int) (v : Bool) : Ending → World → Prop := GivesA w (if v = true then SP else []) v

set_option maxHeartbeats 4000000 in
set_option maxRecDepth 100000 in
theorem ssegp5_yes (N X i : Nat) (A : Option Addr) (cap : Nat) (ps : List Pp) (AV : Option Addr) (capv : Nat) (vs : List Vv) (x : Int) (w : World) (hs : ∀ w', Below w.heap.size w w' → Calls Try.prog 85 #[nv N A ps.length cap, .slice AV vs.length capv, .int .i64 (X : Int), .int .i64 x] w' fun e w'' => e = .returned (.bool true) ∧ Below w'.heap.size w' w'') (h : PAt w A ps) (hv : VAt w AV vs) (hgv : goodV N ps vs = true) (hx1 : 1 ≤ X) (hx2 : X ≤ N) (hi : At ps x i) :
    Calls Try.prog 35 #[nv N A ps.length cap, .slice AV vs.length capv, .int .i64 (X : Int), .int .i64 x] w (GivesP w ((arndL ps vs (coB ps vs (one (9 + i)))).filter fun y => hasB (openL vs) y) (cutB ps vs X i ((arndL ps vs (coB ps vs (one (9 + i)))).filter fun y => hasB (openL vs) y))) := by
  have hgd := goodV_of hgv
  have hl10 := hgd.2.1
  have HS := Lib.hid hs
  have HAR := Lib.hid (fun w' (hb' : Below w.heap.size w w') => sarnd_yes N A cap ps AV capv vs x w' (h.kept hb' (Nat.le_refl _)) (hv.kept hb' (Nat.le_refl _)) hgv i hi)
  have HOP := Lib.hid (fun w' (hb' : Below w.heap.size w w') => sopen_any AV capv vs w' (hv.kept hb' (Nat.le_refl _)) hgd.2.1)
  have HCU := Lib.hid (fun Q AC cc w' (hb' : Below w.heap.size w w') (hc : IAt w' AC Q) (hcl : Q.length ≤ 1048576) => scut_any i N X A cap ps AV capv vs x AC cc Q w' (h.kept hb' (Nat.le_refl _)) (hv.kept hb' (Nat.le_refl _)) hgd.1 hgd.2.1 hx1 hx2 hi hc hcl)
  have hal : (arndL ps vs (coB ps vs (one (9 + i)))).length ≤ 10 := Nat.le_trans (sel_len _ _) hl10
  have hol : (openL vs).length ≤ 10 := by unfold openL; rw [List.length_map]; exact Nat.le_trans (List.length_filter_le _ _) hl10
  obtain ⟨i0, hi0, hz0, hz1, hz2⟩ := info_parts infoI
  clear hs h hv hgv hgd hi
  obtain ⟨SP, hSP⟩ : ∃ SP, SP = (arndL ps vs (coB ps vs (one (9 + i)))).filter fun y => hasB (openL vs) y := ⟨_, rfl⟩
  rw [← hSP]
  generalize arndL ps vs (coB ps vs (one (9 + i))) = ar at *
  generalize openL vs = ol at *
  have HSP := Lib.hid hSP
  clear hSP
  have HB0 := Lib.hid (show Below w.heap.size w (w.alloc (.cells #[.int .i64 (N : Int), .slice A ps.length cap] 32)) from (Below.refl _ _).alloc (Nat.le_refl _) _)
  go_enter Try.func35, Try.ntmps35
  go_wp2_with (first
    | (go_at_call 85; refine (HS.out _ HB0.out).mono ?_; rintro e w1 ⟨rfl, hb1⟩; have HB1 := Lib.hid (HB0.out.trans (hb1.mono (by simp))); have hb1' : Below (w.heap.size + 1) (w.alloc (.cells #[.int .i64 (N : Int), .slice A ps.length cap] 32)) w1 := (by simpa using hb1); have HX1 := Lib.hid hb1'; obtain ⟨b0, b1⟩ := box2 hb1'; clear hb1 hb1')
    | (go_at_call 62; refine (HAR.out _ HB1.out).mono ?_; rintro e w2 ⟨ga, oa, ca, rfl, hga, hOa, hb2, hla⟩; have HAA := Lib.hid hOa; have HB2 := Lib.hid (HB1.out.trans (hb2.mono HB1.out.size)); have HX2 := Lib.hid (on_call HX1.out hb2); clear b0 b1 hOa hb2; refine Hid.out ?_))
  have hlw2 : w.heap.size < w2.heap.size := box_lt HX2.out
  obtain ⟨p0, p1⟩ := box2 HX2.out
  obtain ⟨W3, hW3⟩ : ∃ W3, W3 = w2.alloc (.cells #[] 3) := ⟨_, rfl⟩
  have HX3 := Lib.hid (show Below w2.heap.size w2 W3 from by rw [hW3]; exact (Below.refl _ _).alloc (Nat.le_refl _) _)
  have HB3 := Lib.hid (HB2.out.trans (HX3.out.mono HB2.out.size))
  have HO3 := Lib.hid (show IOwn W3 w2.heap.size (.slice (some ⟨w2.heap.size, 0, none⟩) 0 0) [] from by rw [hW3]; exact own_empty w2 w2.heap.size (Nat.le_refl _))
  have hz3 : W3.heap.size = w2.heap.size + 1 := by rw [hW3]; simp
  have HW3 := Lib.hid hW3
  clear hW3
  refine Lib.hid ?_
  go_upto_region 5 with (fail)
  rw [← HW3.out]
  go_wp2_with (go_at_call 95; refine (HOP.out _ HB3.out).mono ?_; rintro e w4 ⟨go, co, rfl, hgo, hOo, hb4⟩; have HOO := Lib.hid hOo.iat; have HX4 := Lib.hid hb4; have HB4 := Lib.hid (HB3.out.trans (hb4.mono HB3.out.size)); have hlo := (World.ownsRow.lt hOo go rfl).2; clear hOo hb4; refine Hid.out ?_)
  obtain ⟨B, hB⟩ : ∃ B, B = w2.heap.size := ⟨_, rfl⟩
  have hz4 := HX4.out.size
  have HO4 := Lib.hid (show IOwn w4 B (.slice (some ⟨w2.heap.size, 0, none⟩) 0 0) [] from by rw [hB]; exact HO3.out.on HX4.out)
  have HT4 := Lib.hid (show Below B w2 w4 from by rw [hB]; exact HX3.out.trans (HX4.out.mono HX3.out.size))
  have hBw : w.heap.size < B := by omega
  have hBw4 : B ≤ w4.heap.size := by omega
  have hgaB : ga < B := by omega
  have hB2 : B ≤ w2.heap.size := by omega
  have hw2B : w2.heap.size ≤ B := by omega
  have hgB : B < go := by omega
  have hfar0 := Lib.hid (show ∀ b, (some (⟨go, 0, none⟩ : Addr)).map (·.block) = some b → (Value.slice (some ⟨w2.heap.size, 0, none⟩) 0 0).ownBlock ≠ some b from fun b hb => by simp [Value.ownBlock] at hb ⊢; omega)
  have HQ0 := Lib.hid (show w2.cell? ⟨w.heap.size, 0, none⟩ = some (.int .i64 (N : Int)) ∧ w2.cell? ⟨w.heap.size, 1, none⟩ = some (.slice A ps.length cap) from ⟨p0, p1⟩)
  clear HW3 HO3 hB p0 p1
  refine Lib.hid ?_
  go_wp2_with fail
  go_loopw [12, 14] (fun v i wr => ∃ k : Nat, k ≤ ar.length ∧ i = .int .i64 (k : Int) ∧ Hid (IOwn wr B v (openK ol ar k)) ∧ Hid (v ≠ .slice none 0 0) ∧ Hid (Below B w2 wr) ∧ Hid (IAt wr (some ⟨go, 0, none⟩) ol) ∧ Hid (∀ b, (some (⟨go, 0, none⟩ : Addr)).map (·.block) = some b → v.ownBlock ≠ some b) ∧ go < wr.heap.size) (fun _ i _ => ar.length - (intOf i).toNat)
  case atStart => exact ⟨0, Nat.zero_le _, rfl, HO4, Lib.hid (by simp), HT4, HOO, hfar0, hlo⟩
  case round =>
    clear HO4 HT4 HOO hfar0
    obtain ⟨k, hk, rfl, hown, hvn, hb, hoo, hfar, hlg⟩ := hrel
    obtain ⟨gv, cv, rfl, hgv⟩ := own_slice hown.out hvn.out
    have hzr := hb.out.size
    have hil := openK_len ol ar k
    by_cases hlt : k < ar.length
    · obtain ⟨b', off', hA', hbl', c0⟩ := (HAA.out.kept hb.out hw2B).at_ hlt
      simp only [Option.some.injEq, Addr.mk.injEq, and_true] at hA'
      obtain ⟨rfl, rfl⟩ := hA'
      have hk0 : (0 : Int) ≤ (k : Int) := by omega
      have hkn : (k : Int) < (ar.length : Int) := by omega
      have HST := Lib.hid (openK_succ ol ar k hlt)
      have HHAS := Lib.hid (fun w' (h : IAt w' (some ⟨go, 0, none⟩) ol) => has_any (some ⟨go, 0, none⟩) co ol (ar.getD k 0) w' h (by omega))
      obtain ⟨x', hx'⟩ : ∃ x', ar.getD k 0 = x' := ⟨_, rfl⟩
      rw [hx'] at c0 HST HHAS
      obtain ⟨hv, hhv⟩ : ∃ hv, hasB ol x' = hv := ⟨_, rfl⟩
      rw [hhv] at HST HHAS
      clear hx' hhv
      go_wp2_with (go_at_call 96; refine (HHAS.out _ hoo.out).mono ?_; rintro e w6 ⟨rfl, hw⟩; replace hw := hw.symm; subst hw; refine Hid.out ?_)
      cases hv with
      | true =>
        have HN2 := Lib.hid (show openK ol ar (k + 1) = openK ol ar k ++ [x'] by rw [HST.out, if_pos rfl])
        have ho := hown.out
        unfold IOwn at ho
        clear HST
        refine Lib.hid ?_
        go_wp2_with (at_builtin; refine wpList_append_lies _ rfl _ _ 26 rfl B 3 i0 (.int .i64 0) 1 8 Try.underlying26 hi0 hz0 hz1 hz2 rfl (by decide) _ _ _ rfl (ho.alloc _) ⟨wr.heap.size, 0, none⟩ 1 1 [iv x'] rfl rfl (cell_one_new _ _ _) ?c2 (by omega) ?c3 ?c4 ?c5 (wr.heap.size + 1) (by simp) ?_)
        case c2 => intro u hu; simp at hu; subst hu; rfl
        case c3 => unfold maxLen; omega
        case c4 => omega
        case c5 => simp; omega
        intro gg cap' w7 hown' hgrow hat hlt1
        have hown3 := Lib.hid (IOwn.push hown')
        have hB7 := Lib.hid ((hb.out.alloc (by omega) _).grown hgrow (by simp; omega) (fun g hg => (ho.lt g hg).1))
        have hO7 := Lib.hid (sgiat_grown (hoo.out.kept ((Below.refl wr.heap.size wr).alloc (Nat.le_refl _) (.cells #[iv x'] 3)) (Nat.le_refl _)) hgrow (fun b hb => hfar.out b hb))
        have hF7 : Hid (gg ≠ go) := Lib.hid (by
          rcases hat with e | e
          · intro e2
            subst e2
            exact hfar.out gg rfl e
          · omega)
        have hlg7 : go < w7.heap.size := by have := hgrow.size; simp at this; omega
        rw [← HN2.out] at hown3
        clear hown' hgrow ho hat hfar hoo hb hown
        go_wp2_with fail
        go_roundw
        case rel => exact ⟨k + 1, by omega, by go_num, hown3, Lib.hid (by simp), hB7, hO7, Lib.hid (fun b hb e => hF7.out (by simp [Value.ownBlock] at hb e; omega)), hlg7⟩
        case measure => simp [intOf]; omega
      | false =>
        have HN2 := Lib.hid (show openK ol ar (k + 1) = openK ol ar k by rw [HST.out, if_neg (by simp)])
        rw [← HN2.out] at hown
        have hll : (openK ol ar k).length = (openK ol ar (k + 1)).length := by rw [HN2.out]
        have ho5 := Lib.hid (show IOwn wr B (.slice (some ⟨gv, 0, none⟩) (openK ol ar k).length cv) (openK ol ar (k + 1)) from by rw [HN2.out] at hown ⊢; exact hown.out)
        clear HST hown HN2 hll
        refine Lib.hid ?_
        go_wp2_with fail
        go_roundw
        case rel => exact ⟨k + 1, by omega, by go_num, ho5, Lib.hid (by simp), hb, hoo, hfar, hlg⟩
        case measure => simp [intOf]; omega
    · have e : k = ar.length := by omega
      subst e
      have HE := Lib.hid (show openK ol ar ar.length = SP from by rw [openK_all ol ar _ (Nat.le_refl _)]; exact HSP.out.symm)
      rw [HE.out] at hown hil ⊢
      have q0 := (hb.out.cell (p := ⟨w.heap.size, 0, none⟩) hBw).trans HQ0.out.1
      have q1 := (hb.out.cell (p := ⟨w.heap.size, 1, none⟩) hBw).trans HQ0.out.2
      have HBr := Lib.hid (HB2.out.trans (hb.out.mono (by omega)))
      have HC := Lib.hid (HCU.out SP (some ⟨gv, 0, none⟩) cv wr HBr.out hown.out.iat (by omega))
      have hgw := iown_lt' hown.out
      cases hv : cutB ps vs X i SP with
      | true =>
        rw [hv] at HC
        have HV := Lib.hid hv
        clear hv
        go_wp2_with (go_at_call 97; refine HC.out.mono ?_; rintro e w8 ⟨rfl, hb8⟩; have HB8 := Lib.hid (HBr.out.trans (hb8.mono HBr.out.size)); have HI8 := Lib.hid (hown.out.iat.kept hb8 (Nat.le_refl _)); have hz8 := hb8.size; clear hb8)
        go_ret2
        have e9 : (if true = true then SP else []) = SP := if_pos rfl
        show GivesP w SP (cutB ps vs X i SP) _ _
        rw [HV.out]
        unfold GivesP
        rw [e9]
        exact ⟨gv, 0, cv, rfl, by omega, HI8.out, HB8.out, by omega⟩
      | false =>
        rw [hv] at HC
        have HV := Lib.hid hv
        clear hv
        go_wp2_with (go_at_call 97; refine HC.out.mono ?_; rintro e w8 ⟨rfl, hb8⟩; have HB8 := Lib.hid (HBr.out.trans (hb8.mono HBr.out.size)); clear hb8)
        go_ret2
        have e9 : (if false = true then SP else []) = [] := if_neg (by simp)
        show GivesP w SP (cutB ps vs X i SP) _ _
        rw [HV.out]
        unfold GivesP
        rw [e9]
        exact (gives_none HB8.out).any
end Go.Proofs.Ytbljmibaemgfeaa.S2

namespace Go.Proofs.Ytbljmibaemgfeaa.S2
open Go.RowKit Go.Sort P2 P4
set_option linter.unusedVariables false

theorem arnd_at {ps : List Pp} {vs : List Vv} {s : Nat → Bool} {j : Nat} (h : j < (arndL ps vs s).length) : ∃ m, m < vs.length ∧ (arndL ps vs s).getD j 0 = (vAt vs m).id := by
  have h1 : (arndL ps vs s).getD j 0 ∈ arndL ps vs s := by simp [List.getD, h]
  generalize (arndL ps vs s).getD j 0 = y at *
  unfold arndL at h1
  obtain ⟨v, hv, he⟩ := List.mem_map.1 h1
  obtain ⟨m, hm, hmv⟩ := mem_vAt (List.mem_filter.1 hv).1
  exact ⟨m, hm, by rw [hmv]; exact he.symm⟩
theorem arnd_mem {ps : List Pp} {vs : List Vv} {s : Nat → Bool} {y : Int} (h : y ∈ arndL ps vs s) : ∃ m, m < vs.length ∧ y = (vAt vs m).id := by
  unfold arndL at h
  obtain ⟨v, hv, he⟩ := List.mem_map.1 h
  obtain ⟨m, hm, hmv⟩ := mem_vAt (List.mem_filter.1 hv).1
  exact ⟨m, hm, by rw [hmv]; exact he.symm⟩
theorem has_open {vs : List Vv} (ha : AscV vs) {m : Nat} (hm : m < vs.length) : hasB (openL vs) (vAt vs m).id = !(vAt vs m).sh := by
  unfold hasB
  cases e : (vAt vs m).sh with
  | false =>
    simp only [Bool.not_false, decide_eq_true_eq]
    exact openL_mem.2 ⟨_, vAt_mem hm, e, rfl⟩
  | true =>
    simp only [Bool.not_true, decide_eq_false_iff_not]
    intro h
    obtain ⟨v, hv, hs, he⟩ := openL_mem.1 h
    obtain ⟨j, hj, hjv⟩ := mem_vAt hv
    subst hjv
    have h1 := shB_at ha hj
    rw [he, shB_at ha hm, hs, e] at h1
    cases h1
theorem seg_same {ps : List Pp} {vs : List Vv} (s : Nat → Bool) (ha : AscV vs) : (arndL ps vs s).filter (fun y => !shB vs y) = (arndL ps vs s).filter (fun y => hasB (openL vs) y) := by
  refine List.filter_congr fun y hy => ?_
  obtain ⟨m, hm, rfl⟩ := arnd_mem hy
  rw [shB_at ha hm, has_open ha hm]
theorem seg_pl {ps : List Pp} {vs : List Vv} (s : Nat → Bool) (ha : AscV vs) : Pl vs ((arndL ps vs s).filter (fun y => hasB (openL vs) y)) := by
  refine ⟨List.Pairwise.filter _ ?_, fun y hy => ?_⟩
  · unfold arndL
    rw [List.pairwise_map]
    exact List.Pairwise.filter _ ha
  · have := (List.mem_filter.1 hy).2
    simpa [hasB] using this
def GivesQ (w : World) (SP : List Int) (v : Bool) : Ending → World → Prop := GivesI w (if v = true then SP else []) v

set_option maxHeartbeats 2000000 in
set_option maxRecDepth 100000 in
theorem sgp_no (n : Int) (A : Option Addr) (cap : Nat) (ps : List Pp) (AV : Option Addr) (capv : Nat) (vs : List Vv) (X x : Int) (w : World) (hs : ∀ w', Below w.heap.size w w' → Calls Try.prog 61 #[nv n A ps.length cap, .slice AV vs.length capv, .int .i64 x] w' (GivesI w' [] false)) :
    Calls Try.prog 36 #[nv n A ps.length cap, .slice AV vs.length capv, .int .i64 X, .int .i64 x] w (GivesI w [] false) := by
  have HS := Lib.hid hs
  obtain ⟨W1, hW1⟩ : ∃ W1, W1 = (w.alloc (.cells #[.int .i64 n, .slice A ps.length cap] 32)).alloc (.cells #[.slice AV vs.length capv] 34) := ⟨_, rfl⟩
  have p0 : W1.cell? ⟨w.heap.size, 0, none⟩ = some (.int .i64 n) := by rw [hW1]; go_simp
  have p1 : W1.cell? ⟨w.heap.size, 1, none⟩ = some (.slice A ps.length cap) := by rw [hW1]; go_simp
  have p2 : W1.cell? ⟨w.heap.size + 1, 0, none⟩ = some (.slice AV vs.length capv) := by rw [hW1]; go_simp
  have HBW := Lib.hid (show Below w.heap.size w W1 from by rw [hW1]; exact ((Below.refl _ _).alloc (Nat.le_refl _) _).alloc (by simp) _)
  have hl1 : W1.heap.size = w.heap.size + 2 := by rw [hW1]; simp
  have HW1 := Lib.hid hW1
  clear hs hW1
  go_enter Try.func36, Try.ntmps36
  go_upto_region 1 with (fail)
  rw [← HW1.out]
  clear HW1
  go_wp2_with (go_at_call 61; refine (HS.out _ HBW.out).mono ?_; rintro e w2 ⟨g2, c2, rfl, hg2, hO2, hb2⟩; have HB2 := Lib.hid (HBW.out.trans (hb2.mono HBW.out.size)); clear hO2 hb2)
  go_ret2
  exact gives_none HB2.out

set_option maxHeartbeats 4000000 in
set_option maxRecDepth 100000 in
theorem sgp_yes (n : Int) (A : Option Addr) (cap : Nat) (ps : List Pp) (AV : Option Addr) (capv : Nat) (vs : List Vv) (X x : Int) (w : World) (s : Nat → Bool) (v : Bool) (hv : VAt w AV vs) (hl : vs.length ≤ 10) (ha : AscV vs)
    (hs : ∀ w', Below w.heap.size w w' → Calls Try.prog 61 #[nv n A ps.length cap, .slice AV vs.length capv, .int .i64 x] w' (GivesI w' (arndL ps vs s) true))
    (hp : ∀ AC cc w', Below w.heap.size w w' → IAt w' AC ((arndL ps vs s).filter fun y => !shB vs y) → Calls Try.prog 21 #[nv n A ps.length cap, .slice AV vs.length capv, .int .i64 X, .int .i64 x, .slice AC ((arndL ps vs s).filter fun y => !shB vs y).length cc] w' fun e w'' => e = .returned (.bool v) ∧ Below w'.heap.size w' w'') :
    Calls Try.prog 36 #[nv n A ps.length cap, .slice AV vs.length capv, .int .i64 X, .int .i64 x] w (GivesQ w ((arndL ps vs s).filter fun y => !shB vs y) v) := by
  have HS := Lib.hid hs
  have HP := Lib.hid hp
  have HV := Lib.hid hv
  have HASC := Lib.hid ha
  have hal : (arndL ps vs s).length ≤ 10 := Nat.le_trans (sel_len _ _) hl
  obtain ⟨W1, hW1⟩ : ∃ W1, W1 = (w.alloc (.cells #[.int .i64 n, .slice A ps.length cap] 32)).alloc (.cells #[.slice AV vs.length capv] 34) := ⟨_, rfl⟩
  have p0 : W1.cell? ⟨w.heap.size, 0, none⟩ = some (.int .i64 n) := by rw [hW1]; go_simp
  have p1 : W1.cell? ⟨w.heap.size, 1, none⟩ = some (.slice A ps.length cap) := by rw [hW1]; go_simp
  have p2 : W1.cell? ⟨w.heap.size + 1, 0, none⟩ = some (.slice AV vs.length capv) := by rw [hW1]; go_simp
  have HBW := Lib.hid (show Below w.heap.size w W1 from by rw [hW1]; exact ((Below.refl _ _).alloc (Nat.le_refl _) _).alloc (by simp) _)
  have hl1 : W1.heap.size = w.heap.size + 2 := by rw [hW1]; simp
  have HW1 := Lib.hid hW1
  clear hs hW1 hp hv ha
  obtain ⟨VB, hVB⟩ : ∃ VB, VB = w.heap.size + 1 := ⟨_, rfl⟩
  have HCL := Lib.hid (fun j (hj : j < (arndL ps vs s).length) w' (hb : Below w.heap.size w w') (hc : w'.cell? ⟨VB, 0, none⟩ = some (.slice AV vs.length capv)) (hlt : VB < w'.heap.size) => show Calls Try.prog 99 #[.int .i64 ((arndL ps vs s).getD j 0), .pointer (some ⟨VB, 0, none⟩)] w' (fun e w'' => e = .returned (.bool (shB vs ((arndL ps vs s).getD j 0))) ∧ Below w'.heap.size w' w'') from by
    obtain ⟨m, hm, he⟩ := arnd_at hj
    rw [he, shB_at HASC.out hm]
    exact sgclos_any VB AV capv vs m w' (HV.out.kept hb (Nat.le_refl _)) hl HASC.out hm hc hlt)
  generalize arndL ps vs s = ar at *
  obtain ⟨q, hq⟩ : ∃ q, q = shB vs := ⟨_, rfl⟩
  rw [← hq] at HP HCL ⊢
  have hzl : (ar.filter fun y => !q y).length ≤ ar.length := List.length_filter_le _ _
  clear hq HASC
  go_enter Try.func36, Try.ntmps36
  go_upto_region 1 with (fail)
  rw [← HW1.out, ← hVB]
  rw [← hVB] at p2
  have hVl : VB < W1.heap.size := by omega
  have hll : w.heap.size < W1.heap.size := by omega
  clear HW1 hVB hl1
  go_wp2_with (go_at_call 61; refine (HS.out _ HBW.out).mono ?_; rintro e w2 ⟨g2, c2, rfl, hg2, hO2, hb2⟩; have HO2 := Lib.hid hO2; have HX2 := Lib.hid hb2; clear hO2 hb2; refine Hid.out ?_)
  have hz2 := HX2.out.size
  have HB2 := Lib.hid (HBW.out.trans (HX2.out.mono HBW.out.size))
  have q0 := (HX2.out.cell (p := ⟨w.heap.size, 0, none⟩) (by show w.heap.size < _; omega)).trans p0
  have q1 := (HX2.out.cell (p := ⟨w.heap.size, 1, none⟩) (by show w.heap.size < _; omega)).trans p1
  have q2 := (HX2.out.cell (p := ⟨VB, 0, none⟩) (by show VB < _; omega)).trans p2
  clear p0 p1 p2
  obtain ⟨B, hB⟩ : ∃ B, B = W1.heap.size := ⟨_, rfl⟩
  have HDF := Lib.hid (sgdel_any q B VB g2 c2 ar w2 (by rw [hB]; exact HO2.out) (by omega) (by omega) (by omega) (fun j hj w' hb => HCL.out j hj w' (HB2.out.trans (hb.mono (by omega))) ((hb.cell (p := ⟨VB, 0, none⟩) (by show VB < _; omega)).trans q2) (by have := hb.size; omega)))
  have hBw : w.heap.size < B := by omega
  have hBV : VB < B := by omega
  have hwB : w.heap.size ≤ B := by omega
  have hBg : B ≤ g2 := by omega
  have hB2 : B ≤ w2.heap.size := by omega
  clear hB HO2 HCL
  refine Lib.hid ?_
  go_wp2_with (go_at_call 98; refine HDF.out.mono ?_; rintro e w3 ⟨⟨rfl, hO3⟩, hb3⟩; have HO3 := Lib.hid hO3; have HX3 := Lib.hid hb3; clear hO3 hb3; refine Hid.out ?_)
  have hz3 := HX3.out.size
  have HB3 := Lib.hid (HB2.out.trans (HX3.out.mono hwB))
  have r0 := (HX3.out.cell (p := ⟨w.heap.size, 0, none⟩) (by show w.heap.size < _; omega)).trans q0
  have r1 := (HX3.out.cell (p := ⟨w.heap.size, 1, none⟩) (by show w.heap.size < _; omega)).trans q1
  have r2 := (HX3.out.cell (p := ⟨VB, 0, none⟩) (by show VB < _; omega)).trans q2
  have HPL := Lib.hid (HP.out (some ⟨g2, 0, none⟩) c2 w3 HB3.out HO3.out.iat)
  clear q0 q1 q2 HP HDF
  cases v with
  | true =>
    refine Lib.hid ?_
    go_wp2_with (go_at_call 21; refine HPL.out.mono ?_; rintro e w4 ⟨rfl, hb4⟩; have HB4 := Lib.hid (HB3.out.trans (hb4.mono HB3.out.size)); have HO4 := Lib.hid (HO3.out.on hb4); clear hb4)
    go_ret2
    have e9 : (if true = true then (ar.filter fun y => !q y) else []) = (ar.filter fun y => !q y) := if_pos rfl
    unfold GivesQ
    rw [e9]
    exact ⟨g2, c2, rfl, by omega, own_lower HO4.out hwB, HB4.out⟩
  | false =>
    refine Lib.hid ?_
    go_wp2_with (go_at_call 21; refine HPL.out.mono ?_; rintro e w4 ⟨rfl, hb4⟩; have HB4 := Lib.hid (HB3.out.trans (hb4.mono HB3.out.size)); clear hb4)
    go_ret2
    have e9 : (if false = true then (ar.filter fun y => !q y) else []) = [] := if_neg (by simp)
    unfold GivesQ
    rw [e9]
    exact gives_none HB4.out
end Go.Proofs.Ytbljmibaemgfeaa.S2
