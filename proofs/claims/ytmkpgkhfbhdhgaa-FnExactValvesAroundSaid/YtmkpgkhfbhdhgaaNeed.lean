/- NeedlessValves and ValvesAround of the program: contracts. Conditions: each theorem's own premises. -/
import Derived.Test.YtmkpgkhfbhdhgaaSegFour
import Derived.Test.YtmkpgkhfbhdhgaaGivesNone
import Derived.Deep.DeepCutAuto
namespace Go.Proofs.Ytmkpgkhfbhdhgaa.S2
open Go.RowKit Go.Sort P2 P4

open Classical in
/-- The place of the pipe with this Id. -/
noncomputable def pidx (ps : List Pp) (x : Int) : Nat := if h : ∃ i, At ps x i then Classical.choose h else 0
theorem pidx_of {ps : List Pp} {x : Int} {i : Nat} (hs : ∀ i j, i < j → j < ps.length → (pAt ps i).id < (pAt ps j).id) (h : At ps x i) : pidx ps x = i := by
  have hx : ∃ i, At ps x i := ⟨i, h⟩
  unfold pidx
  rw [dif_pos hx]
  have h2 := Classical.choose_spec hx
  generalize Classical.choose hx = j at h2
  by_cases h3 : i < j
  · have := hs i j h3 h2.1; have := h.2; have := h2.2; omega
  · by_cases h4 : j < i
    · have := hs j i h4 h.1; have := h.2; have := h2.2; omega
    · omega
theorem valve_ok {N : Nat} {ps : List Pp} {vs : List Vv} (hg : P4.Good N ps vs) {k : Nat} (hk : k < vs.length) : ∃ i u : Nat, At ps (vAt vs k).pp i ∧ (vAt vs k).nd = (u : Int) ∧ 1 ≤ u ∧ u ≤ N ∧ u ≤ 8 ∧ pidx ps (vAt vs k).pp = i ∧ (vAt vs k).nd.toNat = u := by
  obtain ⟨⟨_, _, i, hi, hx, hn⟩, _⟩ := hg.2.2 k hk
  obtain ⟨a, b, ha, hb, h1, h2, h3, h4, h5, h6⟩ := ends_nat hg.1 hi
  have hat : At ps (vAt vs k).pp i := ⟨hi, hx⟩
  have hp := pidx_of (good_ids hg.1) hat
  rcases hn with hn | hn
  · exact ⟨i, a, hat, by rw [← hn, ha], h1, by omega, h2, hp, by rw [← hn, ha]; rfl⟩
  · exact ⟨i, b, hat, by rw [← hn, hb], h3, by omega, h4, hp, by rw [← hn, hb]; rfl⟩
/-- The Ids of those of the first k valves for which q holds. -/
def selTo (q : Vv → Bool) (vs : List Vv) (k : Nat) : List Int := ((vs.take k).filter q).map (·.id)
theorem selTo_succ (q : Vv → Bool) (vs : List Vv) (k : Nat) (h : k < vs.length) : selTo q vs (k + 1) = if q (vAt vs k) = true then selTo q vs k ++ [(vAt vs k).id] else selTo q vs k := by
  unfold selTo
  have e : vs[k] = vAt vs k := by simp [vAt, List.getD, h]
  rw [List.take_succ_eq_append_getElem h, List.filter_append, e, List.map_append]
  cases hs : q (vAt vs k) <;> simp [hs]
theorem selTo_all (q : Vv → Bool) (vs : List Vv) (k : Nat) (h : vs.length ≤ k) : selTo q vs k = (vs.filter q).map (·.id) := by unfold selTo; rw [List.take_of_length_le h]
theorem selTo_len (q : Vv → Bool) (vs : List Vv) (k : Nat) : (selTo q vs k).length ≤ k := by unfold selTo; rw [List.length_map]; exact Nat.le_trans (List.length_filter_le _ _) (List.length_take_le _ _)
/-- The same segment lies on both sides. -/
noncomputable def needB (ps : List Pp) (vs : List Vv) (v : Vv) : Bool := coB ps vs (one v.nd.toNat) (9 + pidx ps v.pp)
/-- One side lies in the set. -/
noncomputable def arndB (ps : List Pp) (s : Nat → Bool) (v : Vv) : Bool := s (9 + pidx ps v.pp) != s v.nd.toNat
noncomputable def needL (ps : List Pp) (vs : List Vv) : List Int := (vs.filter (needB ps vs)).map (·.id)
noncomputable def arndL (ps : List Pp) (vs : List Vv) (s : Nat → Bool) : List Int := (vs.filter (arndB ps s)).map (·.id)
theorem sel_len (q : Vv → Bool) (vs : List Vv) : ((vs.filter q).map (·.id)).length ≤ vs.length := by rw [List.length_map]; exact List.length_filter_le _ _

set_option maxHeartbeats 2000000 in
set_option maxRecDepth 100000 in
theorem need_no (n : Int) (A : Option Addr) (cap : Nat) (ps : List Pp) (AV : Option Addr) (capv : Nat) (vs : List Vv) (w : World) (h : PAt w A ps) (hm : ps.length ≤ maxLen) (hv : VAt w AV vs) (hmv : vs.length ≤ maxLen) (hcv : vs.length ≤ capv) (hcm : capv ≤ maxLen) (hb : goodV n ps vs = false) :
    Calls Try.prog 43 #[nv n A ps.length cap, .slice AV vs.length capv] w (GivesI w [] false) := by
  have H := Lib.hid (fun w' (hb' : Below w.heap.size w w') => validv_v hb A cap AV capv w' (h.kept hb' (Nat.le_refl _)) hm (hv.kept hb' (Nat.le_refl _)) hmv hcv hcm)
  clear h hm hv hmv hcv hcm hb
  go_enter Try.func43, Try.ntmps43
  go_wp2_with (go_at_call 19; refine (H.out _ ((Below.refl _ _).alloc (Nat.le_refl _) _)).mono ?_; rintro e w1 ⟨rfl, hb1⟩; have HB1 := Lib.hid (((Below.refl w.heap.size w).alloc (Nat.le_refl _) (.cells #[.int .i64 n, .slice A ps.length cap] 31)).trans (hb1.mono (by simp))); have hw1 : w.heap.size < w1.heap.size := (by have := hb1.size; simp at this; omega); have a0 := (hb1.cell (p := ⟨w.heap.size, 0, none⟩) (by simp)).trans (show (w.alloc (.cells #[.int .i64 n, .slice A ps.length cap] 31)).cell? ⟨w.heap.size, 0, none⟩ = some (.int .i64 n) by go_simp); have a1 := (hb1.cell (p := ⟨w.heap.size, 1, none⟩) (by simp)).trans (show (w.alloc (.cells #[.int .i64 n, .slice A ps.length cap] 31)).cell? ⟨w.heap.size, 1, none⟩ = some (.slice A ps.length cap) by go_simp); clear hb1)
  go_ret2
  exact gives_none HB1.out

set_option maxHeartbeats 4000000 in
set_option maxRecDepth 100000 in
theorem need_yes (N : Nat) (A : Option Addr) (cap : Nat) (ps : List Pp) (AV : Option Addr) (capv : Nat) (vs : List Vv) (w : World) (h : PAt w A ps) (hv : VAt w AV vs) (hcv : vs.length ≤ capv) (hcm : capv ≤ maxLen) (hb : goodV N ps vs = true) :
    Calls Try.prog 43 #[nv N A ps.length cap, .slice AV vs.length capv] w (GivesI w (needL ps vs) true) := by
  have hgd := goodV_of hb
  have hm : ps.length ≤ maxLen := by have := hgd.1.2.2.1; unfold maxLen; omega
  have hmv : vs.length ≤ maxLen := by have := hgd.2.1; unfold maxLen; omega
  have H := Lib.hid (fun w' (hb' : Below w.heap.size w w') => validv_v hb A cap AV capv w' (h.kept hb' (Nat.le_refl _)) hm (hv.kept hb' (Nat.le_refl _)) hmv hcv hcm)
  have HA := Lib.hid h
  have HVV := Lib.hid hv
  have HG := Lib.hid hgd
  have hvl := hgd.2.1
  have hl10 := hgd.1.2.2.1
  obtain ⟨i0, hi0, hz0, hz1, hz2⟩ := info_parts infoI
  clear h hm hv hmv hcv hcm hb hgd
  go_enter Try.func43, Try.ntmps43
  go_wp2_with (go_at_call 19; refine (H.out _ ((Below.refl _ _).alloc (Nat.le_refl _) _)).mono ?_; rintro e w1 ⟨rfl, hb1⟩; have HB1 := Lib.hid (((Below.refl w.heap.size w).alloc (Nat.le_refl _) (.cells #[.int .i64 (N : Int), .slice A ps.length cap] 31)).trans (hb1.mono (by simp))); have hw1 : w.heap.size < w1.heap.size := (by have := hb1.size; simp at this; omega); have a0 := (hb1.cell (p := ⟨w.heap.size, 0, none⟩) (by simp)).trans (show (w.alloc (.cells #[.int .i64 (N : Int), .slice A ps.length cap] 31)).cell? ⟨w.heap.size, 0, none⟩ = some (.int .i64 (N : Int)) by go_simp); have a1 := (hb1.cell (p := ⟨w.heap.size, 1, none⟩) (by simp)).trans (show (w.alloc (.cells #[.int .i64 (N : Int), .slice A ps.length cap] 31)).cell? ⟨w.heap.size, 1, none⟩ = some (.slice A ps.length cap) by go_simp); clear hb1; refine Hid.out ?_)
  obtain ⟨B, hB⟩ : ∃ B, B = w1.heap.size := ⟨_, rfl⟩
  have HO0 := Lib.hid (show IOwn (w1.alloc (.cells #[] 3)) B (.slice (some ⟨B, 0, none⟩) 0 0) [] from by rw [hB]; exact own_empty w1 w1.heap.size (Nat.le_refl _))
  have HB0 := Lib.hid (show Below B w1 (w1.alloc (.cells #[] 3)) from by rw [hB]; exact (Below.refl _ _).alloc (Nat.le_refl _) _)
  have hBw : w.heap.size < B := by omega
  have HBE := Lib.hid hB
  clear hB
  refine Lib.hid ?_
  go_wp2_with fail
  rw [← HBE.out]
  go_loopw [6, 17] (fun v i wr => ∃ k : Nat, k ≤ vs.length ∧ i = .int .i64 (k : Int) ∧ Hid (IOwn wr B v (selTo (needB ps vs) vs k)) ∧ Hid (v ≠ .slice none 0 0) ∧ Hid (Below B w1 wr)) (fun _ i _ => vs.length - (intOf i).toNat)
  case atStart => exact ⟨0, Nat.zero_le _, rfl, HO0, Lib.hid (by simp), HB0⟩
  case round =>
    clear HO0 HB0
    obtain ⟨k, hk, rfl, hown, hvn, hb⟩ := hrel
    obtain ⟨gv, cv, rfl, hgv⟩ := own_slice hown.out hvn.out
    have hzr := hb.out.size
    have hBE := HBE.out
    by_cases hlt : k < vs.length
    · obtain ⟨b, off, hA, hbl, h0, h1, h2, h3⟩ := (HVV.out.kept (HB1.out.trans (hb.out.mono (by omega))) (Nat.le_refl _)).at_ hlt
      subst hA
      have hk0 : (0 : Int) ≤ (k : Int) := by omega
      have hkn : (k : Int) < (vs.length : Int) := by omega
      obtain ⟨i, u, hat, hu, hu1, huN, hu8, hpi, hti⟩ := valve_ok HG.out hlt
      have HSEL := Lib.hid (selTo_succ (needB ps vs) vs k hlt)
      have HAT := Lib.hid hat
      have hil := selTo_len (needB ps vs) vs k
      have HQ := Lib.hid (show (needB ps vs) (vAt vs k) = coB ps vs (one u) (9 + i) from by unfold needB; rw [hpi, hti])
      clear hpi hti hat
      generalize vAt vs k = v at *
      obtain ⟨id, pp, nd, sh⟩ := v
      dsimp only at h0 h1 h2 h3 hu HAT HSEL
      subst hu
      have b0 := (hb.out.cell (p := ⟨w.heap.size, 0, none⟩) hBw).trans a0
      have b1 := (hb.out.cell (p := ⟨w.heap.size, 1, none⟩) hBw).trans a1
      go_upto_region 7 with (fail)
      obtain ⟨W, hW⟩ : ∃ W, W = wr.alloc (.cells #[.int .i64 id, .int .i64 pp, .int .i64 (u : Int), .bool sh] 59) := ⟨_, rfl⟩
      have hbW : Below wr.heap.size wr W := by rw [hW]; exact (Below.refl _ _).alloc (Nat.le_refl _) _
      have hzW : W.heap.size = wr.heap.size + 1 := by rw [hW]; simp
      have v0 : W.cell? ⟨wr.heap.size, 0, none⟩ = some (.int .i64 id) := by rw [hW]; go_simp
      have v1 : W.cell? ⟨wr.heap.size, 1, none⟩ = some (.int .i64 pp) := by rw [hW]; go_simp
      have v2 : W.cell? ⟨wr.heap.size, 2, none⟩ = some (.int .i64 (u : Int)) := by rw [hW]; go_simp
      have hwr : w.heap.size < wr.heap.size := by omega
      have c0 := (hbW.cell (p := ⟨w.heap.size, 0, none⟩) hwr).trans b0
      have c1 := (hbW.cell (p := ⟨w.heap.size, 1, none⟩) hwr).trans b1
      rw [← hW]
      have HBW := Lib.hid (HB1.out.trans ((hb.out.trans (hbW.mono (by omega))).mono (by omega)))
      have HBB := Lib.hid (show Below B w1 W from hb.out.trans (hbW.mono (by omega)))
      have hlW : w.heap.size < W.heap.size := by omega
      have hlW2 : wr.heap.size < W.heap.size := by omega
      have HOW := Lib.hid (show IOwn W B (.slice (some ⟨gv, 0, none⟩) (selTo (needB ps vs) vs k).length cv) (selTo (needB ps vs) vs k) from hown.out.on hbW)
      have HZ := Lib.hid hzW
      clear hzW hbW hW b0 b1 h0 h1 h2 h3 hBE
      have HC := Lib.hid (fun wx (hbx : Below W.heap.size W wx) => conwith_any N A cap ps (some ⟨b, off, none⟩) capv vs u wx (HA.out.kept (HBW.out.trans (hbx.mono (by omega))) (Nat.le_refl _)) (HVV.out.kept (HBW.out.trans (hbx.mono (by omega))) (Nat.le_refl _)) HG.out.1 hvl (by omega))
      have HP := Lib.hid (fun wx (hbx : Below W.heap.size W wx) => haspipe_any N A cap ps (coB ps vs (one u)) pp i wx (HA.out.kept (HBW.out.trans (hbx.mono (by omega))) (Nat.le_refl _)) HG.out.1 HAT.out)
      obtain ⟨qb, hqb⟩ : ∃ qb, coB ps vs (one u) (9 + i) = qb := ⟨_, rfl⟩
      rw [hqb] at HP HQ
      clear hqb
      have hG := @cell_g
      refine region_below (by kernel_rfl) (by kernel_rfl) ?_
      repeat (first | go_big_quiet_step ((first | (go_at_call 71; exact met_at HC.out) | (go_at_call 74; exact met_at HP.out))))
      refine wpQuiet_nil ?_
      intro w2 hb2
      clear hG
      have e0 := (hb2.cell (p := ⟨wr.heap.size, 0, none⟩) hlW2).trans v0
      have hzw2 := hb2.size
      have HO2 := Lib.hid (HOW.out.on hb2)
      have HB2 := Lib.hid (HBB.out.trans (hb2.mono (by have := HBE.out; have := HZ.out; omega)))
      clear hb2 v0 v1 v2 c0 c1
      cases qb with
      | true =>
        have HN := Lib.hid (show selTo (needB ps vs) vs (k + 1) = selTo (needB ps vs) vs k ++ [id] by rw [HSEL.out, if_pos HQ.out])
        have ho := HO2.out
        unfold IOwn at ho
        go_wp2_with (at_builtin; go_must (refine wpList_append_own _ rfl _ _ 38 rfl B 3 i0 (.int .i64 0) 1 8 Try.underlying38 hi0 hz0 hz1 hz2 rfl (by decide) _ _ _ rfl (ho.alloc _) ⟨w2.heap.size, 0, none⟩ 1 1 [iv id] rfl rfl (cell_one_new _ _ _) ?c2 ?c3 ?c4 ?c5 ?_))
        case c2 => intro u hu; simp at hu; subst hu; rfl
        case c3 => unfold maxLen; omega
        case c4 => omega
        case c5 => have := HBE.out; have := HZ.out; simp; omega
        intro v' w3 hown' hgrow hnil
        have hown3 := Lib.hid (IOwn.push hown')
        rw [← HN.out] at hown3
        have hB3 := Lib.hid ((HB2.out.alloc (by have := HBE.out; have := HZ.out; omega) _).grown hgrow (by have := HBE.out; have := HZ.out; simp; omega) (fun g hg => (ho.lt g hg).1))
        have hvn3 := Lib.hid (show v' ≠ .slice none 0 0 from fun e => by simp [e] at hnil)
        clear hown' hgrow hnil ho
        go_wp2_with fail
        go_roundw
        case rel => exact ⟨k + 1, by omega, by go_num, hown3, hvn3, hB3⟩
        case measure => simp [intOf]; omega
      | false =>
        have HN := Lib.hid (show selTo (needB ps vs) vs (k + 1) = selTo (needB ps vs) vs k by rw [HSEL.out, if_neg (by rw [HQ.out]; simp)])
        have hown3 := HO2
        have hll : (selTo (needB ps vs) vs k).length = (selTo (needB ps vs) vs (k + 1)).length := by rw [HN.out]
        clear hown
        have HO3 := Lib.hid (show IOwn w2 B (.slice (some ⟨gv, 0, none⟩) (selTo (needB ps vs) vs k).length cv) (selTo (needB ps vs) vs (k + 1)) from by rw [HN.out]; exact HO2.out)
        clear hll hown3 HN
        go_wp2_with fail
        go_roundw
        case rel => exact ⟨k + 1, by omega, by go_num, HO3, hvn, HB2⟩
        case measure => simp [intOf]; omega
    · have hfin := selTo_all (needB ps vs) vs k (by omega)
      have hown2 := hown.out
      have HF := Lib.hid hfin
      clear hfin hBE
      go_wp2_with fail
      go_ret2
      rw [HF.out] at hown2
      exact ⟨gv, cv, by rw [HF.out]; rfl, by have := HBE.out; omega, own_lower hown2 (by have := HBE.out; omega), HB1.out.trans (hb.out.mono (by omega))⟩


set_option maxHeartbeats 2000000 in
set_option maxRecDepth 100000 in
theorem around_no (n : Int) (A : Option Addr) (cap : Nat) (ps : List Pp) (AV : Option Addr) (capv : Nat) (vs : List Vv) (x : Int) (w : World) (hs : ∀ w', Below w.heap.size w w' → Calls Try.prog 65 #[nv n A ps.length cap, .slice AV vs.length capv, .int .i64 x] w' (GivesE w' es0 false)) :
    Calls Try.prog 34 #[nv n A ps.length cap, .slice AV vs.length capv, .int .i64 x] w (GivesI w [] false) := by
  have HS := Lib.hid hs
  clear hs
  go_enter Try.func34, Try.ntmps34
  go_wp2_with (first
    | (go_at_call 65; refine (HS.out _ ((Below.refl _ _).alloc (Nat.le_refl _) _)).mono ?_; rintro e w1 ⟨rfl, hb1⟩; have HB1 := Lib.hid (((Below.refl w.heap.size w).alloc (Nat.le_refl _) (.cells #[.int .i64 n, .slice A ps.length cap] 31)).trans (hb1.mono (by simp))); clear hb1)
    | ((with_reducible refine wpE_alloc rfl rfl ?_); intro w2 he2 hb2 hz2; have E2 := Lib.hid he2; have HB2 := Lib.hid (HB1.out.trans (hb2.mono HB1.out.size)); clear he2 hb2 hz2)
    | ((with_reducible refine wpE_store rfl _ _ rfl rfl w1.heap.size rfl es0 rfl es0 E2.out ?_); intro w3 he3 hg3 hz3; have HB3 := Lib.hid (HB2.out.grown hg3 HB2.out.size (fun g hg => by have := HB1.out.size; simp at hg; omega)); clear he3 hg3 hz3))
  go_ret2
  exact gives_none HB3.out

set_option maxHeartbeats 4000000 in
set_option maxRecDepth 100000 in
theorem around_yes (N : Nat) (A : Option Addr) (cap : Nat) (ps : List Pp) (AV : Option Addr) (capv : Nat) (vs : List Vv) (x : Int) (s : Nat → Bool) (w : World) (h : PAt w A ps) (hv : VAt w AV vs) (hgd : P4.Good N ps vs) (hs : ∀ w', Below w.heap.size w w' → Calls Try.prog 65 #[nv N A ps.length cap, .slice AV vs.length capv, .int .i64 x] w' (GivesE w' s true)) :
    Calls Try.prog 34 #[nv N A ps.length cap, .slice AV vs.length capv, .int .i64 x] w (GivesI w (arndL ps vs s) true) := by
  have HS := Lib.hid hs
  have HA := Lib.hid h
  have HVV := Lib.hid hv
  have HG := Lib.hid hgd
  have hvl := hgd.2.1
  have hl10 := hgd.1.2.2.1
  obtain ⟨i0, hi0, hz0, hz1, hz2⟩ := info_parts infoI
  clear h hv hgd hs
  go_enter Try.func34, Try.ntmps34
  go_wp2_with (first
    | (go_at_call 65; refine (HS.out _ ((Below.refl _ _).alloc (Nat.le_refl _) _)).mono ?_; rintro e w1 ⟨rfl, hb1⟩; have hw1x : w.heap.size < w1.heap.size := (by have := hb1.size; simp at this; omega); have x0 := (hb1.cell (p := ⟨w.heap.size, 0, none⟩) (by simp)).trans (show (w.alloc (.cells #[.int .i64 (N : Int), .slice A ps.length cap] 31)).cell? ⟨w.heap.size, 0, none⟩ = some (.int .i64 (N : Int)) by go_simp); have x1 := (hb1.cell (p := ⟨w.heap.size, 1, none⟩) (by simp)).trans (show (w.alloc (.cells #[.int .i64 (N : Int), .slice A ps.length cap] 31)).cell? ⟨w.heap.size, 1, none⟩ = some (.slice A ps.length cap) by go_simp); have HBx := Lib.hid (((Below.refl w.heap.size w).alloc (Nat.le_refl _) (.cells #[.int .i64 (N : Int), .slice A ps.length cap] 31)).trans (hb1.mono (by simp))); clear hb1)
    | ((with_reducible refine wpE_alloc rfl rfl ?_); intro w2 he2 hb2 hz2; have E2 := Lib.hid he2; have HX2 := Lib.hid hb2; clear he2 hb2 hz2)
    | ((with_reducible refine wpE_store rfl _ _ rfl rfl w1.heap.size rfl s rfl es0 E2.out ?_); intro w3 he3 hg3 hz3; have E3 := Lib.hid he3; have HX3 := Lib.hid hg3; clear he3 hg3 hz3; refine Hid.out ?_))
  have hz2x := HX2.out.size
  have HX23 := Lib.hid (show Below w1.heap.size w1 w3 from HX2.out.grown HX3.out hz2x (fun g hg => by simp at hg; omega))
  have a0 := (HX23.out.cell (p := ⟨w.heap.size, 0, none⟩) hw1x).trans x0
  have a1 := (HX23.out.cell (p := ⟨w.heap.size, 1, none⟩) hw1x).trans x1
  have HB1 := Lib.hid (HBx.out.trans (HX23.out.mono (by omega)))
  obtain ⟨GE, hGE⟩ : ∃ GE, GE = w1.heap.size := ⟨_, rfl⟩
  rw [← hGE] at E3
  rw [← hGE]
  have hz23 := HX23.out.size
  have hw1 : w.heap.size < w3.heap.size := by omega
  have hGl := E3.out.lt
  clear x0 x1 HX2 HX3 HX23 E2 hz2x hGE hz23 hw1x HBx
  obtain ⟨w1, rfl⟩ : ∃ w1, w1 = w3 := ⟨_, rfl⟩
  obtain ⟨B, hB⟩ : ∃ B, B = w1.heap.size := ⟨_, rfl⟩
  have HO0 := Lib.hid (show IOwn (w1.alloc (.cells #[] 3)) B (.slice (some ⟨B, 0, none⟩) 0 0) [] from by rw [hB]; exact own_empty w1 w1.heap.size (Nat.le_refl _))
  have HB0 := Lib.hid (show Below B w1 (w1.alloc (.cells #[] 3)) from by rw [hB]; exact (Below.refl _ _).alloc (Nat.le_refl _) _)
  have hBw : w.heap.size < B := by omega
  have hGB : GE < B := by omega
  have HBE := Lib.hid hB
  clear hB
  refine Lib.hid ?_
  go_wp2_with fail
  rw [← HBE.out]
  go_loopw [10, 26] (fun v i wr => ∃ k : Nat, k ≤ vs.length ∧ i = .int .i64 (k : Int) ∧ Hid (IOwn wr B v (selTo (arndB ps s) vs k)) ∧ Hid (v ≠ .slice none 0 0) ∧ Hid (Below B w1 wr)) (fun _ i _ => vs.length - (intOf i).toNat)
  case atStart => exact ⟨0, Nat.zero_le _, rfl, HO0, Lib.hid (by simp), HB0⟩
  case round =>
    clear HO0 HB0
    obtain ⟨k, hk, rfl, hown, hvn, hb⟩ := hrel
    obtain ⟨gv, cv, rfl, hgv⟩ := own_slice hown.out hvn.out
    have hzr := hb.out.size
    have hBE := HBE.out
    by_cases hlt : k < vs.length
    · obtain ⟨b, off, hA, hbl, h0, h1, h2, h3⟩ := (HVV.out.kept (HB1.out.trans (hb.out.mono (by omega))) (Nat.le_refl _)).at_ hlt
      subst hA
      have hk0 : (0 : Int) ≤ (k : Int) := by omega
      have hkn : (k : Int) < (vs.length : Int) := by omega
      obtain ⟨i, u, hat, hu, hu1, huN, hu8, hpi, hti⟩ := valve_ok HG.out hlt
      have HSEL := Lib.hid (selTo_succ (arndB ps s) vs k hlt)
      have HAT := Lib.hid hat
      have hil := selTo_len (arndB ps s) vs k
      have HQ := Lib.hid (show (arndB ps s) (vAt vs k) = (s (9 + i) != s u) from by unfold arndB; rw [hpi, hti])
      clear hpi hti hat
      generalize vAt vs k = v at *
      obtain ⟨id, pp, nd, sh⟩ := v
      dsimp only at h0 h1 h2 h3 hu HAT HSEL
      subst hu
      have b0 := (hb.out.cell (p := ⟨w.heap.size, 0, none⟩) hBw).trans a0
      have b1 := (hb.out.cell (p := ⟨w.heap.size, 1, none⟩) hBw).trans a1
      go_upto_region 8 with (fail)
      obtain ⟨W, hW⟩ : ∃ W, W = wr.alloc (.cells #[.int .i64 id, .int .i64 pp, .int .i64 (u : Int), .bool sh] 59) := ⟨_, rfl⟩
      have hbW : Below wr.heap.size wr W := by rw [hW]; exact (Below.refl _ _).alloc (Nat.le_refl _) _
      have hzW : W.heap.size = wr.heap.size + 1 := by rw [hW]; simp
      have v0 : W.cell? ⟨wr.heap.size, 0, none⟩ = some (.int .i64 id) := by rw [hW]; go_simp
      have v1 : W.cell? ⟨wr.heap.size, 1, none⟩ = some (.int .i64 pp) := by rw [hW]; go_simp
      have v2 : W.cell? ⟨wr.heap.size, 2, none⟩ = some (.int .i64 (u : Int)) := by rw [hW]; go_simp
      have hwr : w.heap.size < wr.heap.size := by omega
      have c0 := (hbW.cell (p := ⟨w.heap.size, 0, none⟩) hwr).trans b0
      have c1 := (hbW.cell (p := ⟨w.heap.size, 1, none⟩) hwr).trans b1
      rw [← hW]
      have HBW := Lib.hid (HB1.out.trans ((hb.out.trans (hbW.mono (by omega))).mono (by omega)))
      have HBB := Lib.hid (show Below B w1 W from hb.out.trans (hbW.mono (by omega)))
      have hlW : w.heap.size < W.heap.size := by omega
      have hlW2 : wr.heap.size < W.heap.size := by omega
      have HOW := Lib.hid (show IOwn W B (.slice (some ⟨gv, 0, none⟩) (selTo (arndB ps s) vs k).length cv) (selTo (arndB ps s) vs k) from hown.out.on hbW)
      have HZ := Lib.hid hzW
      clear hzW hbW hW b0 b1 h0 h1 h2 h3 hBE
      have HP := Lib.hid (fun wx (hbx : Below W.heap.size W wx) => haspipe_any N A cap ps s pp i wx (HA.out.kept (HBW.out.trans (hbx.mono (by omega))) (Nat.le_refl _)) HG.out.1 HAT.out)
      have EW := Lib.hid (E3.out.kept (show Below B w1 W from HBB.out) hGB)
      have hGW : GE < W.heap.size := EW.out.lt
      obtain ⟨sa, hsa⟩ : ∃ sa, s (9 + i) = sa := ⟨_, rfl⟩
      obtain ⟨sb, hsb⟩ : ∃ sb, s u = sb := ⟨_, rfl⟩
      have cu := EW.out.cell u (by omega)
      rw [hsb] at cu HQ
      rw [hsa] at HP HQ
      clear hsa hsb
      have hu0 : (0 : Int) ≤ (u : Int) := by omega
      have hu9 : (u : Int) < 9 := by omega
      cases sa with
      | true =>
        cases sb with
        | true =>
          have HQ2 := Lib.hid (show arndB ps s ⟨id, pp, (u : Int), sh⟩ = false from HQ.out)
          clear HQ
          have HQ := HQ2
          refine wp_region_held_drew (S := fun w' => w'.cell? ⟨w.heap.size, 0, none⟩ = some (.int .i64 (N : Int)) ∧ w'.cell? ⟨w.heap.size, 1, none⟩ = some (.slice A ps.length cap) ∧ w'.cell? ⟨wr.heap.size, 1, none⟩ = some (.int .i64 pp) ∧ w'.cell? ⟨wr.heap.size, 2, none⟩ = some (.int .i64 (u : Int)) ∧ w'.cell? ⟨GE, u, none⟩ = some (.bool true) ∧ ERow w' GE s) (by kernel_rfl) (by exact ⟨c0, c1, v1, v2, cu, EW.out⟩) (fun hHeld => ?_)
          refine wpAnyH_take (i := 0) (v := .agg #[.int .i64 (N : Int), .slice A ps.length cap]) rfl (by kernel_rfl) (by kernel_rfl) (by kernel_rfl) (fun _ _ _ h => h) (Or.inl ⟨by rfl, ?_⟩) (by assumption) ?_
          · (intro w hSw; (try dsimp only at hSw); go_simp)
          simp only [Act.put, List.setIfInBounds_toArray]
          refine wpAnyH_take (i := 1) (v := ev s) rfl (by kernel_rfl) (by kernel_rfl) (by kernel_rfl) (fun _ _ _ h => h) (Or.inl ⟨by rfl, fun w hSw => run_loadE rfl GE rfl s hSw.2.2.2.2.2⟩) (by assumption) ?_
          simp only [Act.put]
          refine wpAnyH_take (i := 2) (v := .pointer (some ⟨wr.heap.size, 1, none⟩)) rfl (by kernel_rfl) (by kernel_rfl) (by kernel_rfl) (fun _ _ _ h => h) (Or.inl ⟨by rfl, ?_⟩) (by assumption) ?_
          · (intro w hSw; (try dsimp only at hSw); go_simp)
          simp only [Act.put]
          refine wpAnyH_take (i := 3) (v := .int .i64 pp) rfl (by kernel_rfl) (by kernel_rfl) (by kernel_rfl) (fun _ _ _ h => h) (Or.inl ⟨by rfl, ?_⟩) (by assumption) ?_
          · (intro w hSw; (try dsimp only at hSw); go_simp)
          simp only [Act.put]
          refine wpAnyH_take (i := 5) (v := .pointer (some ⟨wr.heap.size, 2, none⟩)) rfl (by kernel_rfl) (by kernel_rfl) (by kernel_rfl) (fun _ _ _ h => h) (Or.inl ⟨by rfl, ?_⟩) (by assumption) ?_
          · (intro w hSw; (try dsimp only at hSw); go_simp)
          simp only [Act.put]
          refine wpAnyH_take (i := 6) (v := .int .i64 (u : Int)) rfl (by kernel_rfl) (by kernel_rfl) (by kernel_rfl) (fun _ _ _ h => h) (Or.inl ⟨by rfl, ?_⟩) (by assumption) ?_
          · (intro w hSw; (try dsimp only at hSw); go_simp)
          simp only [Act.put]
          refine wpAnyH_take (i := 7) (v := .pointer (some ⟨GE, 0, none⟩)) rfl (by kernel_rfl) (by kernel_rfl) (by kernel_rfl) (fun _ _ _ h => h) (Or.inl ⟨by rfl, ?_⟩) (by assumption) ?_
          · (intro w hSw; (try dsimp only at hSw); go_simp)
          simp only [Act.put]
          refine wpAnyH_take (i := 8) (v := .pointer (some ⟨GE, u, none⟩)) rfl (by kernel_rfl) (by kernel_rfl) (by kernel_rfl) (fun _ _ _ h => h) (Or.inl ⟨by rfl, ?_⟩) (by assumption) ?_
          · (intro w hSw; (try dsimp only at hSw); go_simp)
          simp only [Act.put]
          refine wpAnyH_take (i := 9) (v := .bool true) rfl (by kernel_rfl) (by kernel_rfl) (by kernel_rfl) (fun _ _ _ h => h) (Or.inl ⟨by rfl, ?_⟩) (by assumption) ?_
          · (intro w hSw; (try dsimp only at hSw); go_simp)
          simp only [Act.put]
          refine wpAnyH_ready (rs := [4]) (by kernel_rfl) (by simp) ?_
          refine AllReadyH.cons rfl (fun K hK => ?_) AllReadyH.nil
          go_simp
          go_at_call 74
          refine (HP.out _ (Below.refl W.heap.size W).drew).mono ?_
          rintro e w2 ⟨rfl, hb2d⟩
          have hb2 : Below W.heap.size W w2 := (Below.refl W.heap.size W).drew.trans hb2d
          refine hK.out _ _ (by rcases hHeld with ⟨q0, q1, q2, q3, q4, q5⟩; exact ⟨(hb2d.cell (p := ⟨w.heap.size, 0, none⟩) hlW).trans q0, (hb2d.cell (p := ⟨w.heap.size, 1, none⟩) hlW).trans q1, (hb2d.cell (p := ⟨wr.heap.size, 1, none⟩) hlW2).trans q2, (hb2d.cell (p := ⟨wr.heap.size, 2, none⟩) hlW2).trans q3, (hb2d.cell (p := ⟨GE, u, none⟩) hGW).trans q4, q5.kept hb2d q5.lt⟩) (fun hHeld => ?_)
          clear hK K
          refine wpAnyH_ready (rs := [10]) (by kernel_rfl) (by simp) ?_
          refine AllReadyH.cons rfl (fun K hK => ?_) AllReadyH.nil
          go_simp
          refine hK.out _ _ (by first | assumption | go_keep) (fun hHeld => ?_)
          clear hK K
          refine wpAnyH_done (by kernel_rfl) ?_ _
          clear hb2d
          have e0 := (hb2.cell (p := ⟨wr.heap.size, 0, none⟩) hlW2).trans v0
          have hzw2 := hb2.size
          have HO2 := Lib.hid (HOW.out.on hb2)
          have HB2 := Lib.hid (HBB.out.trans (hb2.mono (by have := HBE.out; have := HZ.out; omega)))
          clear hb2 v0 v1 v2 c0 c1
          have HN := Lib.hid (show selTo (arndB ps s) vs (k + 1) = selTo (arndB ps s) vs k by rw [HSEL.out, if_neg (by rw [HQ.out]; simp)])
          have hown3 := HO2
          have hll : (selTo (arndB ps s) vs k).length = (selTo (arndB ps s) vs (k + 1)).length := by rw [HN.out]
          clear hown
          have HO3 := Lib.hid (show IOwn w2 B (.slice (some ⟨gv, 0, none⟩) (selTo (arndB ps s) vs k).length cv) (selTo (arndB ps s) vs (k + 1)) from by rw [HN.out]; exact HO2.out)
          clear hll hown3 HN
          go_wp2_with fail
          go_roundw
          case rel => exact ⟨k + 1, by omega, by go_num, HO3, hvn, HB2⟩
          case measure => simp [intOf]; omega
        | false =>
          have HQ2 := Lib.hid (show arndB ps s ⟨id, pp, (u : Int), sh⟩ = true from HQ.out)
          clear HQ
          have HQ := HQ2
          refine wp_region_held_drew (S := fun w' => w'.cell? ⟨w.heap.size, 0, none⟩ = some (.int .i64 (N : Int)) ∧ w'.cell? ⟨w.heap.size, 1, none⟩ = some (.slice A ps.length cap) ∧ w'.cell? ⟨wr.heap.size, 1, none⟩ = some (.int .i64 pp) ∧ w'.cell? ⟨wr.heap.size, 2, none⟩ = some (.int .i64 (u : Int)) ∧ w'.cell? ⟨GE, u, none⟩ = some (.bool false) ∧ ERow w' GE s) (by kernel_rfl) (by exact ⟨c0, c1, v1, v2, cu, EW.out⟩) (fun hHeld => ?_)
          refine wpAnyH_take (i := 0) (v := .agg #[.int .i64 (N : Int), .slice A ps.length cap]) rfl (by kernel_rfl) (by kernel_rfl) (by kernel_rfl) (fun _ _ _ h => h) (Or.inl ⟨by rfl, ?_⟩) (by assumption) ?_
          · (intro w hSw; (try dsimp only at hSw); go_simp)
          simp only [Act.put, List.setIfInBounds_toArray]
          refine wpAnyH_take (i := 1) (v := ev s) rfl (by kernel_rfl) (by kernel_rfl) (by kernel_rfl) (fun _ _ _ h => h) (Or.inl ⟨by rfl, fun w hSw => run_loadE rfl GE rfl s hSw.2.2.2.2.2⟩) (by assumption) ?_
          simp only [Act.put]
          refine wpAnyH_take (i := 2) (v := .pointer (some ⟨wr.heap.size, 1, none⟩)) rfl (by kernel_rfl) (by kernel_rfl) (by kernel_rfl) (fun _ _ _ h => h) (Or.inl ⟨by rfl, ?_⟩) (by assumption) ?_
          · (intro w hSw; (try dsimp only at hSw); go_simp)
          simp only [Act.put]
          refine wpAnyH_take (i := 3) (v := .int .i64 pp) rfl (by kernel_rfl) (by kernel_rfl) (by kernel_rfl) (fun _ _ _ h => h) (Or.inl ⟨by rfl, ?_⟩) (by assumption) ?_
          · (intro w hSw; (try dsimp only at hSw); go_simp)
          simp only [Act.put]
          refine wpAnyH_take (i := 5) (v := .pointer (some ⟨wr.heap.size, 2, none⟩)) rfl (by kernel_rfl) (by kernel_rfl) (by kernel_rfl) (fun _ _ _ h => h) (Or.inl ⟨by rfl, ?_⟩) (by assumption) ?_
          · (intro w hSw; (try dsimp only at hSw); go_simp)
          simp only [Act.put]
          refine wpAnyH_take (i := 6) (v := .int .i64 (u : Int)) rfl (by kernel_rfl) (by kernel_rfl) (by kernel_rfl) (fun _ _ _ h => h) (Or.inl ⟨by rfl, ?_⟩) (by assumption) ?_
          · (intro w hSw; (try dsimp only at hSw); go_simp)
          simp only [Act.put]
          refine wpAnyH_take (i := 7) (v := .pointer (some ⟨GE, 0, none⟩)) rfl (by kernel_rfl) (by kernel_rfl) (by kernel_rfl) (fun _ _ _ h => h) (Or.inl ⟨by rfl, ?_⟩) (by assumption) ?_
          · (intro w hSw; (try dsimp only at hSw); go_simp)
          simp only [Act.put]
          refine wpAnyH_take (i := 8) (v := .pointer (some ⟨GE, u, none⟩)) rfl (by kernel_rfl) (by kernel_rfl) (by kernel_rfl) (fun _ _ _ h => h) (Or.inl ⟨by rfl, ?_⟩) (by assumption) ?_
          · (intro w hSw; (try dsimp only at hSw); go_simp)
          simp only [Act.put]
          refine wpAnyH_take (i := 9) (v := .bool false) rfl (by kernel_rfl) (by kernel_rfl) (by kernel_rfl) (fun _ _ _ h => h) (Or.inl ⟨by rfl, ?_⟩) (by assumption) ?_
          · (intro w hSw; (try dsimp only at hSw); go_simp)
          simp only [Act.put]
          refine wpAnyH_ready (rs := [4]) (by kernel_rfl) (by simp) ?_
          refine AllReadyH.cons rfl (fun K hK => ?_) AllReadyH.nil
          go_simp
          go_at_call 74
          refine (HP.out _ (Below.refl W.heap.size W).drew).mono ?_
          rintro e w2 ⟨rfl, hb2d⟩
          have hb2 : Below W.heap.size W w2 := (Below.refl W.heap.size W).drew.trans hb2d
          refine hK.out _ _ (by rcases hHeld with ⟨q0, q1, q2, q3, q4, q5⟩; exact ⟨(hb2d.cell (p := ⟨w.heap.size, 0, none⟩) hlW).trans q0, (hb2d.cell (p := ⟨w.heap.size, 1, none⟩) hlW).trans q1, (hb2d.cell (p := ⟨wr.heap.size, 1, none⟩) hlW2).trans q2, (hb2d.cell (p := ⟨wr.heap.size, 2, none⟩) hlW2).trans q3, (hb2d.cell (p := ⟨GE, u, none⟩) hGW).trans q4, q5.kept hb2d q5.lt⟩) (fun hHeld => ?_)
          clear hK K
          refine wpAnyH_ready (rs := [10]) (by kernel_rfl) (by simp) ?_
          refine AllReadyH.cons rfl (fun K hK => ?_) AllReadyH.nil
          go_simp
          refine hK.out _ _ (by first | assumption | go_keep) (fun hHeld => ?_)
          clear hK K
          refine wpAnyH_done (by kernel_rfl) ?_ _
          clear hb2d
          have e0 := (hb2.cell (p := ⟨wr.heap.size, 0, none⟩) hlW2).trans v0
          have hzw2 := hb2.size
          have HO2 := Lib.hid (HOW.out.on hb2)
          have HB2 := Lib.hid (HBB.out.trans (hb2.mono (by have := HBE.out; have := HZ.out; omega)))
          clear hb2 v0 v1 v2 c0 c1
          have HN := Lib.hid (show selTo (arndB ps s) vs (k + 1) = selTo (arndB ps s) vs k ++ [id] by rw [HSEL.out, if_pos HQ.out])
          have ho := HO2.out
          unfold IOwn at ho
          go_wp2_with (at_builtin; go_must (refine wpList_append_own _ rfl _ _ 38 rfl B 3 i0 (.int .i64 0) 1 8 Try.underlying38 hi0 hz0 hz1 hz2 rfl (by decide) _ _ _ rfl (ho.alloc _) ⟨w2.heap.size, 0, none⟩ 1 1 [iv id] rfl rfl (cell_one_new _ _ _) ?z2c2 ?z2c3 ?z2c4 ?z2c5 ?_))
          case z2c2 => intro u hu; simp at hu; subst hu; rfl
          case z2c3 => unfold maxLen; omega
          case z2c4 => omega
          case z2c5 => have := HBE.out; have := HZ.out; simp; omega
          intro v' w3 hown' hgrow hnil
          have hown3 := Lib.hid (IOwn.push hown')
          rw [← HN.out] at hown3
          have hB3 := Lib.hid ((HB2.out.alloc (by have := HBE.out; have := HZ.out; omega) _).grown hgrow (by have := HBE.out; have := HZ.out; simp; omega) (fun g hg => (ho.lt g hg).1))
          have hvn3 := Lib.hid (show v' ≠ .slice none 0 0 from fun e => by simp [e] at hnil)
          clear hown' hgrow hnil ho
          go_wp2_with fail
          go_roundw
          case rel => exact ⟨k + 1, by omega, by go_num, hown3, hvn3, hB3⟩
          case measure => simp [intOf]; omega
      | false =>
        cases sb with
        | true =>
          have HQ2 := Lib.hid (show arndB ps s ⟨id, pp, (u : Int), sh⟩ = true from HQ.out)
          clear HQ
          have HQ := HQ2
          refine wp_region_held_drew (S := fun w' => w'.cell? ⟨w.heap.size, 0, none⟩ = some (.int .i64 (N : Int)) ∧ w'.cell? ⟨w.heap.size, 1, none⟩ = some (.slice A ps.length cap) ∧ w'.cell? ⟨wr.heap.size, 1, none⟩ = some (.int .i64 pp) ∧ w'.cell? ⟨wr.heap.size, 2, none⟩ = some (.int .i64 (u : Int)) ∧ w'.cell? ⟨GE, u, none⟩ = some (.bool true) ∧ ERow w' GE s) (by kernel_rfl) (by exact ⟨c0, c1, v1, v2, cu, EW.out⟩) (fun hHeld => ?_)
          refine wpAnyH_take (i := 0) (v := .agg #[.int .i64 (N : Int), .slice A ps.length cap]) rfl (by kernel_rfl) (by kernel_rfl) (by kernel_rfl) (fun _ _ _ h => h) (Or.inl ⟨by rfl, ?_⟩) (by assumption) ?_
          · (intro w hSw; (try dsimp only at hSw); go_simp)
          simp only [Act.put, List.setIfInBounds_toArray]
          refine wpAnyH_take (i := 1) (v := ev s) rfl (by kernel_rfl) (by kernel_rfl) (by kernel_rfl) (fun _ _ _ h => h) (Or.inl ⟨by rfl, fun w hSw => run_loadE rfl GE rfl s hSw.2.2.2.2.2⟩) (by assumption) ?_
          simp only [Act.put]
          refine wpAnyH_take (i := 2) (v := .pointer (some ⟨wr.heap.size, 1, none⟩)) rfl (by kernel_rfl) (by kernel_rfl) (by kernel_rfl) (fun _ _ _ h => h) (Or.inl ⟨by rfl, ?_⟩) (by assumption) ?_
          · (intro w hSw; (try dsimp only at hSw); go_simp)
          simp only [Act.put]
          refine wpAnyH_take (i := 3) (v := .int .i64 pp) rfl (by kernel_rfl) (by kernel_rfl) (by kernel_rfl) (fun _ _ _ h => h) (Or.inl ⟨by rfl, ?_⟩) (by assumption) ?_
          · (intro w hSw; (try dsimp only at hSw); go_simp)
          simp only [Act.put]
          refine wpAnyH_take (i := 5) (v := .pointer (some ⟨wr.heap.size, 2, none⟩)) rfl (by kernel_rfl) (by kernel_rfl) (by kernel_rfl) (fun _ _ _ h => h) (Or.inl ⟨by rfl, ?_⟩) (by assumption) ?_
          · (intro w hSw; (try dsimp only at hSw); go_simp)
          simp only [Act.put]
          refine wpAnyH_take (i := 6) (v := .int .i64 (u : Int)) rfl (by kernel_rfl) (by kernel_rfl) (by kernel_rfl) (fun _ _ _ h => h) (Or.inl ⟨by rfl, ?_⟩) (by assumption) ?_
          · (intro w hSw; (try dsimp only at hSw); go_simp)
          simp only [Act.put]
          refine wpAnyH_take (i := 7) (v := .pointer (some ⟨GE, 0, none⟩)) rfl (by kernel_rfl) (by kernel_rfl) (by kernel_rfl) (fun _ _ _ h => h) (Or.inl ⟨by rfl, ?_⟩) (by assumption) ?_
          · (intro w hSw; (try dsimp only at hSw); go_simp)
          simp only [Act.put]
          refine wpAnyH_take (i := 8) (v := .pointer (some ⟨GE, u, none⟩)) rfl (by kernel_rfl) (by kernel_rfl) (by kernel_rfl) (fun _ _ _ h => h) (Or.inl ⟨by rfl, ?_⟩) (by assumption) ?_
          · (intro w hSw; (try dsimp only at hSw); go_simp)
          simp only [Act.put]
          refine wpAnyH_take (i := 9) (v := .bool true) rfl (by kernel_rfl) (by kernel_rfl) (by kernel_rfl) (fun _ _ _ h => h) (Or.inl ⟨by rfl, ?_⟩) (by assumption) ?_
          · (intro w hSw; (try dsimp only at hSw); go_simp)
          simp only [Act.put]
          refine wpAnyH_ready (rs := [4]) (by kernel_rfl) (by simp) ?_
          refine AllReadyH.cons rfl (fun K hK => ?_) AllReadyH.nil
          go_simp
          go_at_call 74
          refine (HP.out _ (Below.refl W.heap.size W).drew).mono ?_
          rintro e w2 ⟨rfl, hb2d⟩
          have hb2 : Below W.heap.size W w2 := (Below.refl W.heap.size W).drew.trans hb2d
          refine hK.out _ _ (by rcases hHeld with ⟨q0, q1, q2, q3, q4, q5⟩; exact ⟨(hb2d.cell (p := ⟨w.heap.size, 0, none⟩) hlW).trans q0, (hb2d.cell (p := ⟨w.heap.size, 1, none⟩) hlW).trans q1, (hb2d.cell (p := ⟨wr.heap.size, 1, none⟩) hlW2).trans q2, (hb2d.cell (p := ⟨wr.heap.size, 2, none⟩) hlW2).trans q3, (hb2d.cell (p := ⟨GE, u, none⟩) hGW).trans q4, q5.kept hb2d q5.lt⟩) (fun hHeld => ?_)
          clear hK K
          refine wpAnyH_ready (rs := [10]) (by kernel_rfl) (by simp) ?_
          refine AllReadyH.cons rfl (fun K hK => ?_) AllReadyH.nil
          go_simp
          refine hK.out _ _ (by first | assumption | go_keep) (fun hHeld => ?_)
          clear hK K
          refine wpAnyH_done (by kernel_rfl) ?_ _
          clear hb2d
          have e0 := (hb2.cell (p := ⟨wr.heap.size, 0, none⟩) hlW2).trans v0
          have hzw2 := hb2.size
          have HO2 := Lib.hid (HOW.out.on hb2)
          have HB2 := Lib.hid (HBB.out.trans (hb2.mono (by have := HBE.out; have := HZ.out; omega)))
          clear hb2 v0 v1 v2 c0 c1
          have HN := Lib.hid (show selTo (arndB ps s) vs (k + 1) = selTo (arndB ps s) vs k ++ [id] by rw [HSEL.out, if_pos HQ.out])
          have ho := HO2.out
          unfold IOwn at ho
          go_wp2_with (at_builtin; go_must (refine wpList_append_own _ rfl _ _ 38 rfl B 3 i0 (.int .i64 0) 1 8 Try.underlying38 hi0 hz0 hz1 hz2 rfl (by decide) _ _ _ rfl (ho.alloc _) ⟨w2.heap.size, 0, none⟩ 1 1 [iv id] rfl rfl (cell_one_new _ _ _) ?z3c2 ?z3c3 ?z3c4 ?z3c5 ?_))
          case z3c2 => intro u hu; simp at hu; subst hu; rfl
          case z3c3 => unfold maxLen; omega
          case z3c4 => omega
          case z3c5 => have := HBE.out; have := HZ.out; simp; omega
          intro v' w3 hown' hgrow hnil
          have hown3 := Lib.hid (IOwn.push hown')
          rw [← HN.out] at hown3
          have hB3 := Lib.hid ((HB2.out.alloc (by have := HBE.out; have := HZ.out; omega) _).grown hgrow (by have := HBE.out; have := HZ.out; simp; omega) (fun g hg => (ho.lt g hg).1))
          have hvn3 := Lib.hid (show v' ≠ .slice none 0 0 from fun e => by simp [e] at hnil)
          clear hown' hgrow hnil ho
          go_wp2_with fail
          go_roundw
          case rel => exact ⟨k + 1, by omega, by go_num, hown3, hvn3, hB3⟩
          case measure => simp [intOf]; omega
        | false =>
          have HQ2 := Lib.hid (show arndB ps s ⟨id, pp, (u : Int), sh⟩ = false from HQ.out)
          clear HQ
          have HQ := HQ2
          refine wp_region_held_drew (S := fun w' => w'.cell? ⟨w.heap.size, 0, none⟩ = some (.int .i64 (N : Int)) ∧ w'.cell? ⟨w.heap.size, 1, none⟩ = some (.slice A ps.length cap) ∧ w'.cell? ⟨wr.heap.size, 1, none⟩ = some (.int .i64 pp) ∧ w'.cell? ⟨wr.heap.size, 2, none⟩ = some (.int .i64 (u : Int)) ∧ w'.cell? ⟨GE, u, none⟩ = some (.bool false) ∧ ERow w' GE s) (by kernel_rfl) (by exact ⟨c0, c1, v1, v2, cu, EW.out⟩) (fun hHeld => ?_)
          refine wpAnyH_take (i := 0) (v := .agg #[.int .i64 (N : Int), .slice A ps.length cap]) rfl (by kernel_rfl) (by kernel_rfl) (by kernel_rfl) (fun _ _ _ h => h) (Or.inl ⟨by rfl, ?_⟩) (by assumption) ?_
          · (intro w hSw; (try dsimp only at hSw); go_simp)
          simp only [Act.put, List.setIfInBounds_toArray]
          refine wpAnyH_take (i := 1) (v := ev s) rfl (by kernel_rfl) (by kernel_rfl) (by kernel_rfl) (fun _ _ _ h => h) (Or.inl ⟨by rfl, fun w hSw => run_loadE rfl GE rfl s hSw.2.2.2.2.2⟩) (by assumption) ?_
          simp only [Act.put]
          refine wpAnyH_take (i := 2) (v := .pointer (some ⟨wr.heap.size, 1, none⟩)) rfl (by kernel_rfl) (by kernel_rfl) (by kernel_rfl) (fun _ _ _ h => h) (Or.inl ⟨by rfl, ?_⟩) (by assumption) ?_
          · (intro w hSw; (try dsimp only at hSw); go_simp)
          simp only [Act.put]
          refine wpAnyH_take (i := 3) (v := .int .i64 pp) rfl (by kernel_rfl) (by kernel_rfl) (by kernel_rfl) (fun _ _ _ h => h) (Or.inl ⟨by rfl, ?_⟩) (by assumption) ?_
          · (intro w hSw; (try dsimp only at hSw); go_simp)
          simp only [Act.put]
          refine wpAnyH_take (i := 5) (v := .pointer (some ⟨wr.heap.size, 2, none⟩)) rfl (by kernel_rfl) (by kernel_rfl) (by kernel_rfl) (fun _ _ _ h => h) (Or.inl ⟨by rfl, ?_⟩) (by assumption) ?_
          · (intro w hSw; (try dsimp only at hSw); go_simp)
          simp only [Act.put]
          refine wpAnyH_take (i := 6) (v := .int .i64 (u : Int)) rfl (by kernel_rfl) (by kernel_rfl) (by kernel_rfl) (fun _ _ _ h => h) (Or.inl ⟨by rfl, ?_⟩) (by assumption) ?_
          · (intro w hSw; (try dsimp only at hSw); go_simp)
          simp only [Act.put]
          refine wpAnyH_take (i := 7) (v := .pointer (some ⟨GE, 0, none⟩)) rfl (by kernel_rfl) (by kernel_rfl) (by kernel_rfl) (fun _ _ _ h => h) (Or.inl ⟨by rfl, ?_⟩) (by assumption) ?_
          · (intro w hSw; (try dsimp only at hSw); go_simp)
          simp only [Act.put]
          refine wpAnyH_take (i := 8) (v := .pointer (some ⟨GE, u, none⟩)) rfl (by kernel_rfl) (by kernel_rfl) (by kernel_rfl) (fun _ _ _ h => h) (Or.inl ⟨by rfl, ?_⟩) (by assumption) ?_
          · (intro w hSw; (try dsimp only at hSw); go_simp)
          simp only [Act.put]
          refine wpAnyH_take (i := 9) (v := .bool false) rfl (by kernel_rfl) (by kernel_rfl) (by kernel_rfl) (fun _ _ _ h => h) (Or.inl ⟨by rfl, ?_⟩) (by assumption) ?_
          · (intro w hSw; (try dsimp only at hSw); go_simp)
          simp only [Act.put]
          refine wpAnyH_ready (rs := [4]) (by kernel_rfl) (by simp) ?_
          refine AllReadyH.cons rfl (fun K hK => ?_) AllReadyH.nil
          go_simp
          go_at_call 74
          refine (HP.out _ (Below.refl W.heap.size W).drew).mono ?_
          rintro e w2 ⟨rfl, hb2d⟩
          have hb2 : Below W.heap.size W w2 := (Below.refl W.heap.size W).drew.trans hb2d
          refine hK.out _ _ (by rcases hHeld with ⟨q0, q1, q2, q3, q4, q5⟩; exact ⟨(hb2d.cell (p := ⟨w.heap.size, 0, none⟩) hlW).trans q0, (hb2d.cell (p := ⟨w.heap.size, 1, none⟩) hlW).trans q1, (hb2d.cell (p := ⟨wr.heap.size, 1, none⟩) hlW2).trans q2, (hb2d.cell (p := ⟨wr.heap.size, 2, none⟩) hlW2).trans q3, (hb2d.cell (p := ⟨GE, u, none⟩) hGW).trans q4, q5.kept hb2d q5.lt⟩) (fun hHeld => ?_)
          clear hK K
          refine wpAnyH_ready (rs := [10]) (by kernel_rfl) (by simp) ?_
          refine AllReadyH.cons rfl (fun K hK => ?_) AllReadyH.nil
          go_simp
          refine hK.out _ _ (by first | assumption | go_keep) (fun hHeld => ?_)
          clear hK K
          refine wpAnyH_done (by kernel_rfl) ?_ _
          clear hb2d
          have e0 := (hb2.cell (p := ⟨wr.heap.size, 0, none⟩) hlW2).trans v0
          have hzw2 := hb2.size
          have HO2 := Lib.hid (HOW.out.on hb2)
          have HB2 := Lib.hid (HBB.out.trans (hb2.mono (by have := HBE.out; have := HZ.out; omega)))
          clear hb2 v0 v1 v2 c0 c1
          have HN := Lib.hid (show selTo (arndB ps s) vs (k + 1) = selTo (arndB ps s) vs k by rw [HSEL.out, if_neg (by rw [HQ.out]; simp)])
          have hown3 := HO2
          have hll : (selTo (arndB ps s) vs k).length = (selTo (arndB ps s) vs (k + 1)).length := by rw [HN.out]
          clear hown
          have HO3 := Lib.hid (show IOwn w2 B (.slice (some ⟨gv, 0, none⟩) (selTo (arndB ps s) vs k).length cv) (selTo (arndB ps s) vs (k + 1)) from by rw [HN.out]; exact HO2.out)
          clear hll hown3 HN
          go_wp2_with fail
          go_roundw
          case rel => exact ⟨k + 1, by omega, by go_num, HO3, hvn, HB2⟩
          case measure => simp [intOf]; omega
    · have hfin := selTo_all (arndB ps s) vs k (by omega)
      have hown2 := hown.out
      have HF := Lib.hid hfin
      clear hfin hBE
      go_wp2_with fail
      go_ret2
      rw [HF.out] at hown2
      exact ⟨gv, cv, by rw [HF.out]; rfl, by have := HBE.out; omega, own_lower hown2 (by have := HBE.out; omega), HB1.out.trans (hb.out.mono (by omega))⟩

end Go.Proofs.Ytmkpgkhfbhdhgaa.S2
