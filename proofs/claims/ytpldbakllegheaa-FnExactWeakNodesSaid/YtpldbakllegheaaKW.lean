/- HeadNeeded of the program and of the model: contracts. Conditions: each theorem's own premises. -/
import Derived.Test.YtpldbakllegheaaKP
namespace Go.Proofs.Ytpldbakllegheaa.S2
open Go.RowKit P2

/-- The places among the first k with less than is needed. -/
def wkTo (L : List Int) (need : Int) (k : Nat) : List Int := ((List.range k).filter fun i => decide (lA L i < need)).map fun i : Nat => (i : Int) + 1
theorem wkTo_yes {L : List Int} {need : Int} {k : Nat} (h : lA L k < need) : wkTo L need (k + 1) = wkTo L need k ++ [(k : Int) + 1] := by
  unfold wkTo; rw [List.range_succ, List.filter_append, List.map_append]; simp [h]
theorem wkTo_no {L : List Int} {need : Int} {k : Nat} (h : ¬ lA L k < need) : wkTo L need (k + 1) = wkTo L need k := by
  unfold wkTo; rw [List.range_succ, List.filter_append, List.map_append]; simp [h]
theorem wkTo_len (L : List Int) (need : Int) (k : Nat) : (wkTo L need k).length ≤ k := by
  unfold wkTo; rw [List.length_map]; exact Nat.le_trans (List.length_filter_le _ _) (by simp)
/-- What is asked for pressures. -/
noncomputable def askP (n : Int) (ps : List Pp) (x : Int) (dm : List Int) (h : Int) (hs : List Int) : Bool := askH n ps x dm h && hsB n hs
theorem askP_of {n : Int} {ps : List Pp} {x : Int} {dm : List Int} {h : Int} {hs : List Int} (hv : askP n ps x dm h hs = true) : askH n ps x dm h = true ∧ hsB n hs = true := by
  unfold askP at hv; rwa [Bool.and_eq_true] at hv
theorem askP_no {n : Int} {ps : List Pp} {x : Int} {dm : List Int} {h : Int} {hs : List Int} (hv : askP n ps x dm h hs = false) : askH n ps x dm h = false ∨ hsB n hs = false := by
  unfold askP at hv; rwa [Bool.and_eq_false_iff] at hv

theorem IAt.farO {w w' : World} {g o : Nat} {r : Option Nat} {l : List Int} (h : IAt w (some ⟨g, o, none⟩) l) (hb : w.grownBy w' r) (hg : r ≠ some g) : IAt w' (some ⟨g, o, none⟩) l := by
  rcases h with h | ⟨b, off, hA, hlt, h⟩
  · exact .inl h
  · simp only [Option.some.injEq, Addr.mk.injEq, and_true] at hA
    obtain ⟨rfl, rfl⟩ := hA
    exact .inr ⟨g, o, rfl, Nat.lt_of_lt_of_le hlt hb.size, fun i hi => (World.cell?_of_block (hb.block g hlt (fun e => hg e.symm))).trans (h i hi)⟩
set_option maxHeartbeats 1000000 in
theorem wk_no1 (n : Int) (A : Option Addr) (cap : Nat) (ps : List Pp) (x : Int) (AD : Option Addr) (dc : Nat) (dm : List Int) (h : Int) (AH : Option Addr) (hc : Nat) (hs : List Int) (need : Int) (w : World) (hT : ∀ w', Below w.heap.size w w' → Calls Try.prog 28 #[nv n A ps.length cap, .int .i64 x, .slice AD dm.length dc, .int .i64 h, .slice AH hs.length hc] w' (GivesI w' [] false)) :
    Calls Try.prog 30 #[nv n A ps.length cap, .int .i64 x, .slice AD dm.length dc, .int .i64 h, .slice AH hs.length hc, .int .i64 need] w (GivesI w [] false) := by
  have H := Lib.hid hT
  clear hT
  go_enter Try.func30, Try.ntmps30
  go_wp2_with (go_at_call 28; refine (H.out _ ((Below.refl _ _).alloc (Nat.le_refl _) _)).mono ?_; rintro e w1 ⟨g, c, rfl, hg, hO, hb1⟩)
  go_ret2
  exact gives_none (below_alloc_call hb1)
set_option maxHeartbeats 1000000 in
theorem wk_no2 (n : Int) (A : Option Addr) (cap : Nat) (ps : List Pp) (x : Int) (AD : Option Addr) (dc : Nat) (dm : List Int) (h : Int) (AH : Option Addr) (hc : Nat) (hs : List Int) (need : Int) (L : List Int) (w : World) (hv : hdR need = false) (hT : ∀ w', Below w.heap.size w w' → Calls Try.prog 28 #[nv n A ps.length cap, .int .i64 x, .slice AD dm.length dc, .int .i64 h, .slice AH hs.length hc] w' (GivesI w' L true)) :
    Calls Try.prog 30 #[nv n A ps.length cap, .int .i64 x, .slice AD dm.length dc, .int .i64 h, .slice AH hs.length hc, .int .i64 need] w (GivesI w [] false) := by
  have H := Lib.hid hT
  have H2 := Lib.hid (fun w' => ahd_one hv w')
  clear hT hv
  go_enter Try.func30, Try.ntmps30
  go_wp2_with (first
    | (go_at_call 28; refine (H.out _ ((Below.refl _ _).alloc (Nat.le_refl _) _)).mono ?_; rintro e w1 ⟨g, c, rfl, hg, hO, hb1⟩; have hB1 := Lib.hid (below_alloc_call hb1); clear hO hb1)
    | (go_at_call 63; refine (H2.out _).mono ?_; rintro e w2 ⟨rfl, hb2⟩))
  go_ret2
  exact gives_none (hB1.out.trans (hb2.mono hB1.out.size))
set_option maxHeartbeats 2000000 in
set_option maxRecDepth 100000 in
theorem wk_yes (n : Int) (A : Option Addr) (cap : Nat) (ps : List Pp) (x : Int) (AD : Option Addr) (dc : Nat) (dm : List Int) (h : Int) (AH : Option Addr) (hc : Nat) (hs : List Int) (need : Int) (L : List Int) (w : World) (hL8 : L.length ≤ 8) (hv : hdR need = true) (hT : ∀ w', Below w.heap.size w w' → Calls Try.prog 28 #[nv n A ps.length cap, .int .i64 x, .slice AD dm.length dc, .int .i64 h, .slice AH hs.length hc] w' (GivesI w' L true)) :
    Calls Try.prog 30 #[nv n A ps.length cap, .int .i64 x, .slice AD dm.length dc, .int .i64 h, .slice AH hs.length hc, .int .i64 need] w (GivesI w (wkTo L need L.length) true) := by
  have H := Lib.hid hT
  have H2 := Lib.hid (fun w' => ahd_one hv w')
  obtain ⟨i0, hi, hz0, hz1, hz2⟩ := info_parts infoI
  clear hT hv
  go_enter Try.func30, Try.ntmps30
  go_wp2_with (first
    | (go_at_call 28; refine (H.out _ ((Below.refl _ _).alloc (Nat.le_refl _) _)).mono ?_; rintro e w1 ⟨g, c, rfl, hg, hO, hb1⟩; have hB1 := Lib.hid (below_alloc_call hb1); have HI1 := Lib.hid hO.iat; clear hO hb1)
    | (go_at_call 63; refine (H2.out _).mono ?_; rintro e w2 ⟨rfl, hb2⟩; refine Hid.out ?_))
  have HB2 := Lib.hid (hB1.out.trans (hb2.mono hB1.out.size))
  have HI2 := Lib.hid (HI1.out.kept hb2 (Nat.le_refl _))
  have HIK := Lib.hid (fun w' (hb : Below w2.heap.size w2 w') => HI2.out.kept hb (Nat.le_refl _))
  have HO0 := Lib.hid (own_empty w2 w2.heap.size (Nat.le_refl _))
  have HB0 := Lib.hid (show Below w2.heap.size w2 (w2.alloc (.cells #[] 3)) from (Below.refl _ _).alloc (Nat.le_refl _) _)
  clear hb2 H H2 hB1 HI1 HI2
  refine Lib.hid ?_
  go_wp2
  go_loopw [16, 40] (fun v i wr => ∃ k : Nat, k ≤ L.length ∧ i = .int .i64 (k : Int) ∧ Hid (IOwn wr w2.heap.size v (wkTo L need k)) ∧ Hid (v ≠ .slice none 0 0) ∧ Hid (Below w2.heap.size w2 wr)) (fun _ i _ => L.length - (intOf i).toNat)
  case atStart => exact ⟨0, Nat.zero_le _, rfl, HO0, Lib.hid (by simp), HB0⟩
  case round =>
    clear HO0 HB0
    obtain ⟨k, hk, rfl, hown, hvn, hB⟩ := hrel
    by_cases hlt : k < L.length
    · obtain ⟨b, off, hA, hbl, p0⟩ := (HIK.out _ hB.out).at_ hlt
      simp only [Option.some.injEq, Addr.mk.injEq, and_true] at hA
      obtain ⟨rfl, rfl⟩ := hA
      rw [Nat.zero_add] at p0
      have hk0 : (0 : Int) ≤ (k : Int) := by omega
      have hkn : (k : Int) < (L.length : Int) := by omega
      have hla : L.getD k 0 = lA L k := rfl
      rw [hla] at p0
      have hdl := wkTo_len L need k
      clear hla
      by_cases hlow : lA L k < need
      · have hsn := Lib.hid (wkTo_yes hlow)
        have ho := hown.out
        unfold IOwn at ho
        generalize lA L k = y at *
        go_wp2_with (at_builtin; go_must (refine wpList_append_own _ rfl _ _ 25 rfl w2.heap.size 3 i0 (.int .i64 0) 1 8 Try.underlying25 hi hz0 hz1 hz2 rfl (by decide) _ _ _ rfl (ho.alloc _) ⟨wr.heap.size, 0, none⟩ 1 1 [iv ((k : Int) + 1)] rfl rfl (cell_one_new _ _ _) (by intro u hu; simp at hu; subst hu; rfl) (by unfold maxLen; omega) (by omega) (by have := hB.out.size; simp; omega) ?_); intro v' w7 hown' hgrow hnil)
        have hown3 := Lib.hid (IOwn.push hown')
        rw [← hsn.out] at hown3
        have hB7 := Lib.hid ((hB.out.alloc hB.out.size (.cells #[iv ((k : Int) + 1)] 3)).grown hgrow (by have := hB.out.size; simp; omega) (fun g hg => (ho.lt g hg).1))
        have hnil3 := Lib.hid (show v' ≠ .slice none 0 0 from fun e => by simp [e] at hnil)
        clear hown' hgrow hnil ho
        go_wp2
        go_roundw
        case rel => exact ⟨k + 1, by omega, by go_num, hown3, hnil3, hB7⟩
        case measure => simp [intOf]; omega
      · have hsn := Lib.hid (wkTo_no hlow)
        rw [← hsn.out] at hown
        generalize lA L k = y at *
        go_wp2
        go_roundw
        case rel => exact ⟨k + 1, by omega, by go_num, hown, hvn, hB⟩
        case measure => simp [intOf]; omega
    · have hkN : k = L.length := by omega
      have hown2 := hown.out
      rw [hkN] at hown2
      obtain ⟨g', capg, rfl, hg'⟩ := own_slice hown2 hvn.out
      have HO := Lib.hid hown2
      clear hkN hown2
      go_wp2
      go_ret2
      have := HB2.out.size
      exact ⟨g', capg, rfl, by omega, own_lower HO.out, HB2.out.trans (hB.out.mono HB2.out.size)⟩

/-! ### The model -/
set_option maxHeartbeats 2000000 in
theorem swk_no (n : Int) (A : Option Addr) (cap : Nat) (ps : List Pp) (x : Int) (AD : Option Addr) (dc : Nat) (dm : List Int) (h : Int) (AH : Option Addr) (hc : Nat) (hs : List Int) (need : Int) (w : World) (hp : PAt w A ps) (hm : ps.length ≤ maxLen) (hd : IAt w AD dm) (hdl : dm.length ≤ 1048576) (hi : IAt w AH hs) (hil : hs.length ≤ 1048576) (hv : askP n ps x dm h hs = false ∨ hdR need = false) :
    Calls Try.prog 29 #[nv n A ps.length cap, .int .i64 x, .slice AD dm.length dc, .int .i64 h, .slice AH hs.length hc, .int .i64 need] w (GivesA w [] false) := by
  obtain ⟨v1, hv1⟩ : ∃ v, askH n ps x dm h = v := ⟨_, rfl⟩
  obtain ⟨v2, hv2⟩ : ∃ v, hsB n hs = v := ⟨_, rfl⟩
  have H := Lib.hid (fun w' (hb : Below w.heap.size w w') => ask_v hv1 A cap AD dc w' (hp.kept hb (Nat.le_refl _)) hm (hd.kept hb (Nat.le_refl _)) hdl)
  have H2 := Lib.hid (fun w' (hb : Below w.heap.size w w') => shs_v hv2 A ps.length cap AH hc w' (hi.kept hb (Nat.le_refl _)) hil)
  have HV := Lib.hid (show v1 = true → v2 = true → hdR need = false from fun a b => by
    rcases hv with h | h
    · unfold askP at h; rw [hv1, hv2, a, b] at h; cases h
    · exact h)
  have HW0 := Lib.hid (show Below w.heap.size w ((w.alloc (nb n A ps.length cap)).alloc (.cells #[] 3)) from ((Below.refl _ _).alloc (Nat.le_refl _) _).alloc (by simp) _)
  have HB3 := Lib.hid (fun w1 (hb : Below ((w.alloc (nb n A ps.length cap)).alloc (.cells #[] 3)).heap.size ((w.alloc (nb n A ps.length cap)).alloc (.cells #[] 3)) w1) => (show Below (w.heap.size + 1) (w.alloc (nb n A ps.length cap)) w1 ∧ w.heap.size + 1 < w1.heap.size from ⟨((Below.refl _ _).alloc (by simp) _).trans (hb.mono (by simp)), by have := hb.size; simp at this; omega⟩))
  have HE := Lib.hid (fun w1 (hb : Below w.heap.size w w1) (hl : w.heap.size + 1 < w1.heap.size) => (show GivesA w [] false (.returned (.tuple #[.slice (some ⟨w.heap.size + 1, 0, none⟩) 0 0, .bool false])) w1 from ⟨_, 0, 0, rfl, by omega, .inl rfl, hb, hl⟩))
  clear hp hd hi hv hv1 hv2
  cases v1 with
  | false =>
    go_enter Try.func29, Try.ntmps29
    go_wp2_with (go_at_call 61; refine (H.out _ HW0.out).mono ?_; rintro e w1 ⟨rfl, hb1⟩; obtain ⟨hX1, hl1⟩ := HB3.out _ hb1)
    go_ret2
    exact HE.out _ (below_box hX1) hl1
  | true =>
    cases v2 with
    | false =>
      go_enter Try.func29, Try.ntmps29
      go_wp2_with (first
        | (go_at_call 61; refine (H.out _ HW0.out).mono ?_; rintro e w1 ⟨rfl, hb1⟩; obtain ⟨hX1, hl1⟩ := HB3.out _ hb1; have HX1 := Lib.hid hX1; clear hX1 hb1; obtain ⟨b0, b1⟩ := box2 HX1.out; have hy1 := box_lt HX1.out)
        | (go_at_call 65; refine (H2.out _ (below_box HX1.out)).mono ?_; rintro e w2 ⟨rfl, hb2⟩))
      go_ret2
      exact HE.out _ ((below_box HX1.out).trans (hb2.mono (below_box HX1.out).size)) (by have := hb2.size; omega)
    | true =>
      have H3 := Lib.hid (fun w' => shd_v (HV.out rfl rfl) w')
      go_enter Try.func29, Try.ntmps29
      go_wp2_with (first
        | (go_at_call 61; refine (H.out _ HW0.out).mono ?_; rintro e w1 ⟨rfl, hb1⟩; obtain ⟨hX1, hl1⟩ := HB3.out _ hb1; have HX1 := Lib.hid hX1; clear hX1 hb1; obtain ⟨b0, b1⟩ := box2 HX1.out; have hy1 := box_lt HX1.out)
        | (go_at_call 65; refine (H2.out _ (below_box HX1.out)).mono ?_; rintro e w2 ⟨rfl, hb2⟩)
        | (go_at_call 69; refine (H3.out _).mono ?_; rintro e w3 ⟨rfl, hw⟩; replace hw := hw.symm; subst hw))
      go_ret2
      exact HE.out _ ((below_box HX1.out).trans (hb2.mono (below_box HX1.out).size)) (by have := hb2.size; omega)

set_option maxHeartbeats 2000000 in
set_option maxRecDepth 100000 in
theorem swk_yes (N s : Nat) (A : Option Addr) (cap : Nat) (ps : List Pp) (AD : Option Addr) (dc : Nat) (dm : List Int) (h : Int) (AH : Option Addr) (hc : Nat) (hs : List Int) (need : Int) (w : World) (hp : PAt w A ps) (hm : ps.length ≤ maxLen) (hcap : ps.length = cap) (hd : IAt w AD dm) (hdl : dm.length ≤ 1048576) (hi : IAt w AH hs) (hil : hs.length ≤ 1048576) (ha : askH N ps s dm h = true) (hn : nodeB N ps s = true) (ht : treeB N ps = true) (hv : demB N ps dm = true) (hh : hdR h = true) (hvs : hsB N hs = true) (hne : hdR need = true) :
    Calls Try.prog 29 #[nv N A ps.length cap, .int .i64 (s : Int), .slice AD dm.length dc, .int .i64 h, .slice AH hs.length hc, .int .i64 need] w (GivesA w (wkTo (prL N ps s dm h hs) need (prL N ps s dm h hs).length) true) := by
  have hN8 := (nodeB_of hn).1.2.1
  have H := Lib.hid (fun w' (hb : Below w.heap.size w w') => ask_v ha A cap AD dc w' (hp.kept hb (Nat.le_refl _)) hm (hd.kept hb (Nat.le_refl _)) hdl)
  have H2 := Lib.hid (fun w' (hb : Below w.heap.size w w') => shs_v hvs A ps.length cap AH hc w' (hi.kept hb (Nat.le_refl _)) hil)
  have H3 := Lib.hid (fun w' => shd_v hne w')
  have H4 := Lib.hid (fun w' (hb : Below w.heap.size w w') => sprs_any N s A cap ps AD dc dm h AH hc hs w' (hp.kept hb (Nat.le_refl _)) hcap (hd.kept hb (Nat.le_refl _)) (hi.kept hb (Nat.le_refl _)) hn ht hv hh hvs)
  have hL8 : (prL N ps s dm h hs).length ≤ 8 := by rw [prL_len]; omega
  have HW0 := Lib.hid (show Below w.heap.size w ((w.alloc (nb N A ps.length cap)).alloc (.cells #[] 3)) from ((Below.refl _ _).alloc (Nat.le_refl _) _).alloc (by simp) _)
  have HB3 := Lib.hid (fun w1 (hb : Below ((w.alloc (nb N A ps.length cap)).alloc (.cells #[] 3)).heap.size ((w.alloc (nb N A ps.length cap)).alloc (.cells #[] 3)) w1) => (show Below (w.heap.size + 1) (w.alloc (nb N A ps.length cap)) w1 from ((Below.refl _ _).alloc (by simp) _).trans (hb.mono (by simp))))
  have HO0 := Lib.hid (show IOwn ((w.alloc (nb N A ps.length cap)).alloc (.cells #[] 3)) (w.heap.size + 1) (.slice (some ⟨w.heap.size + 1, 0, none⟩) 0 0) [] from by
    have := own_empty (w.alloc (nb N A ps.length cap)) (w.heap.size + 1) (by simp)
    simpa using this)
  obtain ⟨i0, hi0, hz0, hz1, hz2⟩ := info_parts infoI
  clear hp hd hi hv ha hn ht hh hcap hvs hne
  generalize prL N ps s dm h hs = L at *
  go_enter Try.func29, Try.ntmps29
  go_wp2_with (first
    | (go_at_call 61; refine (H.out _ HW0.out).mono ?_; rintro e w1 ⟨rfl, hb1⟩; have HX1 := Lib.hid (HB3.out _ hb1); have HO1 := Lib.hid (HO0.out.on hb1); have hl1 : w.heap.size + 1 < w1.heap.size := (by have h9 := hb1.size; simp at h9; omega); clear hb1; obtain ⟨b0, b1⟩ := box2 HX1.out; have hy1 := box_lt HX1.out)
    | (go_at_call 65; refine (H2.out _ (below_box HX1.out)).mono ?_; rintro e w2 ⟨rfl, hb2⟩; have HX2 := Lib.hid (on_call HX1.out hb2); have HO2 := Lib.hid (HO1.out.on hb2); have hl2 : w1.heap.size ≤ w2.heap.size := hb2.size; clear b0 b1 hb2; obtain ⟨b0, b1⟩ := box2 HX2.out; have hy2 := box_lt HX2.out)
    | (go_at_call 69; refine (H3.out _).mono ?_; rintro e w3 ⟨rfl, hw⟩; replace hw := hw.symm; subst hw)
    | (go_at_call 66; refine (H4.out _ (below_box HX2.out)).mono ?_; rintro e w4 ⟨g, c, rfl, hg4, hO, hb4⟩; have HX4 := Lib.hid (on_call HX2.out hb4); have HO4 := Lib.hid (HO2.out.on hb4); have HI4 := Lib.hid hO.iat; clear b0 b1 hb4 hO; refine Hid.out ?_))
  have HIK := Lib.hid (fun w' (hb : Below w4.heap.size w4 w') => HI4.out.kept hb (Nat.le_refl _))
  have HB0 := Lib.hid (Below.refl w4.heap.size w4)
  have hz4w := HX4.out.size
  simp at hz4w
  have hg1 : w.heap.size + 1 < g := by omega
  clear H H2 H3 H4 HX1 HX2 HO1 HO2 HO0 HI4
  refine Lib.hid ?_
  go_wp2
  go_loopw [14, 16] (fun v i wr => ∃ k : Nat, k ≤ L.length ∧ i = .int .i64 (k : Int) ∧ Hid (IOwn wr (w.heap.size + 1) v (wkTo L need k)) ∧ Hid (v ≠ .slice none 0 0) ∧ Hid (v.ownBlock ≠ some g) ∧ Hid (IAt wr (some ⟨g, 0, none⟩) L) ∧ Hid (Below (w.heap.size + 1) (w.alloc (nb N A ps.length cap)) wr)) (fun _ i _ => L.length - (intOf i).toNat)
  case atStart => exact ⟨0, Nat.zero_le _, rfl, HO4, Lib.hid (by simp), Lib.hid (by simp [Value.ownBlock]; omega), Lib.hid (HIK.out _ HB0.out), HX4⟩
  case round =>
    clear HO4 HX4 HB0
    obtain ⟨k, hk, rfl, hown, hvn, hfar, hia, hX⟩ := hrel
    have hzX := hX.out.size
    simp at hzX
    by_cases hlt : k < L.length
    · obtain ⟨b, off, hA, hbl, p0⟩ := hia.out.at_ hlt
      simp only [Option.some.injEq, Addr.mk.injEq, and_true] at hA
      obtain ⟨rfl, rfl⟩ := hA
      rw [Nat.zero_add] at p0
      have hk0 : (0 : Int) ≤ (k : Int) := by omega
      have hkn : (k : Int) < (L.length : Int) := by omega
      have hla : L.getD k 0 = lA L k := rfl
      rw [hla] at p0
      have hdl := wkTo_len L need k
      clear hla
      by_cases hlow : lA L k < need
      · have hsn := Lib.hid (wkTo_yes hlow)
        have ho := hown.out
        unfold IOwn at ho
        generalize lA L k = y at *
        go_wp2_with (at_builtin; go_must (refine wpList_append_lies _ rfl _ _ 25 rfl (w.heap.size + 1) 3 i0 (.int .i64 0) 1 8 Try.underlying25 hi0 hz0 hz1 hz2 rfl (by decide) _ _ _ rfl (ho.alloc _) ⟨wr.heap.size, 0, none⟩ 1 1 [iv ((k : Int) + 1)] rfl rfl (cell_one_new _ _ _) (by intro u hu; simp at hu; subst hu; rfl) (by omega) (by unfold maxLen; omega) (by omega) (by simp; omega) (wr.heap.size + 1) (by simp) ?_); intro gg cap' w7 hown' hgrow hat hlt1)
        have hown3 := Lib.hid (IOwn.push hown')
        rw [← hsn.out] at hown3
        have hX7 := Lib.hid ((hX.out.alloc (by omega) (.cells #[iv ((k : Int) + 1)] 3)).grown hgrow (by simp; omega) (fun g hg => (ho.lt g hg).1))
        have hia7 := Lib.hid (IAt.farO (hia.out.kept (alloc_belowE wr (.cells #[iv ((k : Int) + 1)] 3)) (Nat.le_refl _)) hgrow hfar.out)
        have hf7 : Hid ((Value.slice (some ⟨gg, 0, none⟩) ((wkTo L need k).length + 1) cap').ownBlock ≠ some g) := Lib.hid (by
          intro e
          have hgb : gg = g := by simpa [Value.ownBlock] using e
          subst hgb
          rcases hat with hat | hat
          · exact hfar.out hat
          · omega)
        clear hown' hgrow ho hat
        go_wp2
        go_roundw
        case rel => exact ⟨k + 1, by omega, by go_num, hown3, Lib.hid (by simp), hf7, hia7, hX7⟩
        case measure => simp [intOf]; omega
      · have hsn := Lib.hid (wkTo_no hlow)
        rw [← hsn.out] at hown
        generalize lA L k = y at *
        go_wp2
        go_roundw
        case rel => exact ⟨k + 1, by omega, by go_num, hown, hvn, hfar, hia, hX⟩
        case measure => simp [intOf]; omega
    · have hkN : k = L.length := by omega
      have hown2 := hown.out
      rw [hkN] at hown2
      obtain ⟨g', capg, rfl, hg'⟩ := own_slice hown2 hvn.out
      have HO := Lib.hid hown2
      clear hkN hown2
      go_wp2
      go_ret2
      exact ⟨g', 0, capg, rfl, by omega, HO.out.iat, below_box hX.out, iown_lt' HO.out⟩
end Go.Proofs.Ytpldbakllegheaa.S2

namespace Go.Proofs.Ytpldbakllegheaa.S2
open Go.RowKit P2

/-- The most that is lacking among the first k, or 0. -/
def mstK (L : List Int) (need : Int) : Nat → Int
  | 0 => 0
  | k + 1 => max (mstK L need k) (need - lA L k)
theorem mstK_lo (L : List Int) (need : Int) : ∀ k, mstK L need (k + 1) = max 0 (need - loK L (k + 1))
  | 0 => by simp only [mstK, loK]; omega
  | k + 1 => by
    have h := mstK_lo L need k
    have e : loK L (k + 1 + 1) = min (loK L (k + 1)) (lA L (k + 1)) := rfl
    rw [mstK, h, e]
    omega
theorem mstK_in {L : List Int} {need : Int} {a b : Int} (ha : 0 ≤ b) (h : ∀ i, i < L.length → a ≤ need - lA L i ∧ need - lA L i ≤ b) : ∀ k, k ≤ L.length → 0 ≤ mstK L need k ∧ mstK L need k ≤ b
  | 0, _ => ⟨Int.le_refl _, ha⟩
  | k + 1, hk => by
    have h1 := mstK_in ha h k (by omega)
    have h2 := h k (by omega)
    rw [mstK]
    omega
theorem loK_ex (L : List Int) : ∀ k, 0 < k → ∃ i, i < k ∧ loK L k = lA L i
  | 0, h => absurd h (by omega)
  | 1, _ => ⟨0, by omega, loK_one L⟩
  | k + 2, _ => by
    obtain ⟨i, hi, he⟩ := loK_ex L (k + 1) (by omega)
    rw [loK]
    by_cases h : loK L (k + 1) ≤ lA L (k + 1)
    · exact ⟨i, by omega, by omega⟩
    · exact ⟨k + 1, by omega, by omega⟩
/-- What the source lacks is what is needed at least. -/
theorem need_nn {N : Nat} {ps : List Pp} {s : Nat} {dm hs : List Int} {need : Int} (hn : 0 ≤ need) (h1 : 1 ≤ s) (h2 : s ≤ N) (hhs : allR 0 100000000000 hs = true) (hl : hs.length = N) : mstK (prL N ps s dm 0 hs) need (prL N ps s dm 0 hs).length = need - loK (prL N ps s dm 0 hs) (prL N ps s dm 0 hs).length := by
  obtain ⟨M, rfl⟩ : ∃ M, N = M + 1 := ⟨N - 1, by omega⟩
  rw [prL_len, mstK_lo]
  have h3 := loK_le (prL (M + 1) ps s dm 0 hs) (M + 1) (s - 1) (by omega)
  rw [prL_at (by omega)] at h3
  have h4 : hdF (M + 1) ps s dm 0 (s - 1) = 0 := by
    unfold hdF
    rw [show ((s - 1 : Nat) : Int) + 1 = (s : Int) by omega, fall_self]
    rfl
  have h5 := allR_at hhs (i := s - 1) (by omega)
  rw [h4] at h3
  unfold lA at h3
  omega

set_option maxHeartbeats 1000000 in
theorem nd_no1 (n : Int) (A : Option Addr) (cap : Nat) (ps : List Pp) (x : Int) (AD : Option Addr) (dc : Nat) (dm : List Int) (AH : Option Addr) (hc : Nat) (hs : List Int) (need : Int) (w : World) (hT : ∀ w', Below w.heap.size w w' → Calls Try.prog 28 #[nv n A ps.length cap, .int .i64 x, .slice AD dm.length dc, .int .i64 0, .slice AH hs.length hc] w' (GivesI w' [] false)) :
    Calls Try.prog 32 #[nv n A ps.length cap, .int .i64 x, .slice AD dm.length dc, .slice AH hs.length hc, .int .i64 need] w fun e w' => e = .returned (.tuple #[.int .i64 0, .bool false]) ∧ Below w.heap.size w w' := by
  have H := Lib.hid hT
  clear hT
  go_enter Try.func32, Try.ntmps32
  go_wp2_with (go_at_call 28; refine (H.out _ ((Below.refl _ _).alloc (Nat.le_refl _) _)).mono ?_; rintro e w1 ⟨g, c, rfl, hg, hO, hb1⟩)
  go_ret2
  exact ⟨rfl, below_alloc_call hb1⟩
set_option maxHeartbeats 1000000 in
theorem nd_no2 (n : Int) (A : Option Addr) (cap : Nat) (ps : List Pp) (x : Int) (AD : Option Addr) (dc : Nat) (dm : List Int) (AH : Option Addr) (hc : Nat) (hs : List Int) (need : Int) (L : List Int) (w : World) (hv : hdR need = false) (hT : ∀ w', Below w.heap.size w w' → Calls Try.prog 28 #[nv n A ps.length cap, .int .i64 x, .slice AD dm.length dc, .int .i64 0, .slice AH hs.length hc] w' (GivesI w' L true)) :
    Calls Try.prog 32 #[nv n A ps.length cap, .int .i64 x, .slice AD dm.length dc, .slice AH hs.length hc, .int .i64 need] w fun e w' => e = .returned (.tuple #[.int .i64 0, .bool false]) ∧ Below w.heap.size w w' := by
  have H := Lib.hid hT
  have H2 := Lib.hid (fun w' => ahd_one hv w')
  clear hT hv
  go_enter Try.func32, Try.ntmps32
  go_wp2_with (first
    | (go_at_call 28; refine (H.out _ ((Below.refl _ _).alloc (Nat.le_refl _) _)).mono ?_; rintro e w1 ⟨g, c, rfl, hg, hO, hb1⟩; have hB1 := Lib.hid (below_alloc_call hb1); clear hO hb1)
    | (go_at_call 63; refine (H2.out _).mono ?_; rintro e w2 ⟨rfl, hb2⟩))
  go_ret2
  exact ⟨rfl, hB1.out.trans (hb2.mono hB1.out.size)⟩
set_option maxHeartbeats 1000000 in
theorem nd_ok (n : Int) (A : Option Addr) (cap : Nat) (ps : List Pp) (x : Int) (AD : Option Addr) (dc : Nat) (dm : List Int) (AH : Option Addr) (hc : Nat) (hs : List Int) (need : Int) (L : List Int) (u : Int × Bool) (w : World) (hL0 : 0 < L.length) (hL8 : L.length ≤ 8) (hb : ∀ i, i < L.length → -1000000000000 ≤ lA L i ∧ lA L i ≤ 1000000000000) (hv : hdR need = true) (hu : u = if hdR (need - loK L L.length) = true then (need - loK L L.length, true) else (0, false)) (hT : ∀ w', Below w.heap.size w w' → Calls Try.prog 28 #[nv n A ps.length cap, .int .i64 x, .slice AD dm.length dc, .int .i64 0, .slice AH hs.length hc] w' (GivesI w' L true)) :
    Calls Try.prog 32 #[nv n A ps.length cap, .int .i64 x, .slice AD dm.length dc, .slice AH hs.length hc, .int .i64 need] w fun e w' => e = .returned (.tuple #[.int .i64 u.1, .bool u.2]) ∧ Below w.heap.size w w' := by
  have H := Lib.hid hT
  have H2 := Lib.hid (fun w' => ahd_one hv w')
  obtain ⟨hv1, hv2⟩ := hdR_of hv
  have hlo : -1000000000000 ≤ loK L L.length ∧ loK L L.length ≤ 1000000000000 := by
    obtain ⟨i, hi, he⟩ := loK_ex L L.length hL0
    rw [he]; exact hb i hi
  have H3 := Lib.hid (fun g c w' (hO : IAt w' (some ⟨g, 0, none⟩) L) => min_any (some ⟨g, 0, none⟩) c L w' hO hL0 (by omega))
  obtain ⟨v4, hv4⟩ : ∃ v, hdR (need - loK L L.length) = v := ⟨_, rfl⟩
  have H4 := Lib.hid (fun w' => ahd_one hv4 w')
  rw [hv4] at hu
  clear hT hv hv4 hb
  generalize loK L L.length = m at *
  have wS : IntKind.i64.wrap (need - m) = need - m := w64 _ (by omega)
  cases v4 with
  | false =>
    have HU := Lib.hid (show u = (0, false) from hu)
    clear hu
    go_enter Try.func32, Try.ntmps32
    go_wp2_with (first
      | (go_at_call 28; refine (H.out _ ((Below.refl _ _).alloc (Nat.le_refl _) _)).mono ?_; rintro e w1 ⟨g, c, rfl, hg, hO, hb1⟩; have hB1 := Lib.hid (below_alloc_call hb1); have HI1 := Lib.hid hO.iat; clear hO hb1)
      | (go_at_call_of 63 (Value.slice (some ⟨w1.heap.size, 0, none⟩) 1 1); refine (H2.out _).mono ?_; rintro e w2 ⟨rfl, hb2⟩; have hB2 := Lib.hid (hB1.out.trans (hb2.mono hB1.out.size)); have HI2 := Lib.hid (HI1.out.kept hb2 (Nat.le_refl _)); clear hb2)
      | (go_at_call 71; refine (H3.out _ _ _ HI2.out).mono ?_; rintro e w3 ⟨rfl, hw⟩; replace hw := hw.symm; subst hw)
      | (go_at_call_of 63 (Value.slice (some ⟨w2.heap.size, 0, none⟩) 1 1); refine (H4.out _).mono ?_; rintro e w4 ⟨rfl, hb4⟩))
    go_ret2
    exact ⟨by rw [HU.out]; rfl, hB2.out.trans (hb4.mono hB2.out.size)⟩
  | true =>
    have HU := Lib.hid (show u = (need - m, true) from hu)
    clear hu
    go_enter Try.func32, Try.ntmps32
    go_wp2_with (first
      | (go_at_call 28; refine (H.out _ ((Below.refl _ _).alloc (Nat.le_refl _) _)).mono ?_; rintro e w1 ⟨g, c, rfl, hg, hO, hb1⟩; have hB1 := Lib.hid (below_alloc_call hb1); have HI1 := Lib.hid hO.iat; clear hO hb1)
      | (go_at_call_of 63 (Value.slice (some ⟨w1.heap.size, 0, none⟩) 1 1); refine (H2.out _).mono ?_; rintro e w2 ⟨rfl, hb2⟩; have hB2 := Lib.hid (hB1.out.trans (hb2.mono hB1.out.size)); have HI2 := Lib.hid (HI1.out.kept hb2 (Nat.le_refl _)); clear hb2)
      | (go_at_call 71; refine (H3.out _ _ _ HI2.out).mono ?_; rintro e w3 ⟨rfl, hw⟩; replace hw := hw.symm; subst hw)
      | (go_at_call_of 63 (Value.slice (some ⟨w2.heap.size, 0, none⟩) 1 1); refine (H4.out _).mono ?_; rintro e w4 ⟨rfl, hb4⟩))
    go_ret2
    exact ⟨by rw [HU.out]; rfl, hB2.out.trans (hb4.mono hB2.out.size)⟩

/-! ### The model -/
set_option maxHeartbeats 2000000 in
theorem snd_no (n : Int) (A : Option Addr) (cap : Nat) (ps : List Pp) (x : Int) (AD : Option Addr) (dc : Nat) (dm : List Int) (AH : Option Addr) (hc : Nat) (hs : List Int) (need : Int) (w : World) (hp : PAt w A ps) (hm : ps.length ≤ maxLen) (hd : IAt w AD dm) (hdl : dm.length ≤ 1048576) (hi : IAt w AH hs) (hil : hs.length ≤ 1048576) (hv : askP n ps x dm 0 hs = false ∨ hdR need = false) :
    Calls Try.prog 31 #[nv n A ps.length cap, .int .i64 x, .slice AD dm.length dc, .slice AH hs.length hc, .int .i64 need] w fun e w' => e = .returned (.tuple #[.int .i64 0, .bool false]) ∧ Below w.heap.size w w' := by
  obtain ⟨v1, hv1⟩ : ∃ v, askH n ps x dm 0 = v := ⟨_, rfl⟩
  obtain ⟨v2, hv2⟩ : ∃ v, hsB n hs = v := ⟨_, rfl⟩
  have H := Lib.hid (fun w' (hb : Below w.heap.size w w') => ask_v hv1 A cap AD dc w' (hp.kept hb (Nat.le_refl _)) hm (hd.kept hb (Nat.le_refl _)) hdl)
  have H2 := Lib.hid (fun w' (hb : Below w.heap.size w w') => shs_v hv2 A ps.length cap AH hc w' (hi.kept hb (Nat.le_refl _)) hil)
  have HV := Lib.hid (show v1 = true → v2 = true → hdR need = false from fun a b => by
    rcases hv with h | h
    · unfold askP at h; rw [hv1, hv2, a, b] at h; cases h
    · exact h)
  clear hp hd hi hv hv1 hv2
  cases v1 with
  | false =>
    go_enter Try.func31, Try.ntmps31
    go_wp2_with (go_at_call 61; refine (H.out _ ((Below.refl _ _).alloc (Nat.le_refl _) _)).mono ?_; rintro e w1 ⟨rfl, hb1⟩)
    go_ret2
    exact ⟨rfl, below_alloc_call hb1⟩
  | true =>
    cases v2 with
    | false =>
      go_enter Try.func31, Try.ntmps31
      go_wp2_with (first
        | (go_at_call 61; refine (H.out _ ((Below.refl _ _).alloc (Nat.le_refl _) _)).mono ?_; rintro e w1 ⟨rfl, hb1⟩; have HX1 := Lib.hid (show Below (w.heap.size + 1) (w.alloc (nb n A ps.length cap)) w1 by simpa using hb1); clear hb1; obtain ⟨b0, b1⟩ := box2 HX1.out; have hy1 := box_lt HX1.out)
        | (go_at_call 65; refine (H2.out _ (below_box HX1.out)).mono ?_; rintro e w2 ⟨rfl, hb2⟩))
      go_ret2
      exact ⟨rfl, (below_box HX1.out).trans (hb2.mono (below_box HX1.out).size)⟩
    | true =>
      have H3 := Lib.hid (fun w' => shd_v (HV.out rfl rfl) w')
      go_enter Try.func31, Try.ntmps31
      go_wp2_with (first
        | (go_at_call 61; refine (H.out _ ((Below.refl _ _).alloc (Nat.le_refl _) _)).mono ?_; rintro e w1 ⟨rfl, hb1⟩; have HX1 := Lib.hid (show Below (w.heap.size + 1) (w.alloc (nb n A ps.length cap)) w1 by simpa using hb1); clear hb1; obtain ⟨b0, b1⟩ := box2 HX1.out; have hy1 := box_lt HX1.out)
        | (go_at_call 65; refine (H2.out _ (below_box HX1.out)).mono ?_; rintro e w2 ⟨rfl, hb2⟩)
        | (go_at_call 69; refine (H3.out _).mono ?_; rintro e w3 ⟨rfl, hw⟩; replace hw := hw.symm; subst hw))
      go_ret2
      exact ⟨rfl, (below_box HX1.out).trans (hb2.mono (below_box HX1.out).size)⟩

set_option maxHeartbeats 2000000 in
set_option maxRecDepth 100000 in
theorem snd_ok (N s : Nat) (A : Option Addr) (cap : Nat) (ps : List Pp) (AD : Option Addr) (dc : Nat) (dm : List Int) (AH : Option Addr) (hc : Nat) (hs : List Int) (need : Int) (u : Int × Bool) (w : World) (hp : PAt w A ps) (hm : ps.length ≤ maxLen) (hcap : ps.length = cap) (hd : IAt w AD dm) (hdl : dm.length ≤ 1048576) (hi : IAt w AH hs) (hil : hs.length ≤ 1048576) (ha : askH N ps s dm 0 = true) (hn : nodeB N ps s = true) (ht : treeB N ps = true) (hv : demB N ps dm = true) (hh : hdR 0 = true) (hvs : hsB N hs = true) (hne : hdR need = true) (hb : ∀ i, i < (prL N ps s dm 0 hs).length → -1000000000000 ≤ lA (prL N ps s dm 0 hs) i ∧ lA (prL N ps s dm 0 hs) i ≤ 1000000000000)
    (hu : u = if hdR (mstK (prL N ps s dm 0 hs) need (prL N ps s dm 0 hs).length) = true then (mstK (prL N ps s dm 0 hs) need (prL N ps s dm 0 hs).length, true) else (0, false)) :
    Calls Try.prog 31 #[nv N A ps.length cap, .int .i64 (s : Int), .slice AD dm.length dc, .slice AH hs.length hc, .int .i64 need] w fun e w' => e = .returned (.tuple #[.int .i64 u.1, .bool u.2]) ∧ Below w.heap.size w w' := by
  have hN8 := (nodeB_of hn).1.2.1
  obtain ⟨hn1, hn2⟩ := hdR_of hne
  have H := Lib.hid (fun w' (hb : Below w.heap.size w w') => ask_v ha A cap AD dc w' (hp.kept hb (Nat.le_refl _)) hm (hd.kept hb (Nat.le_refl _)) hdl)
  have H2 := Lib.hid (fun w' (hb : Below w.heap.size w w') => shs_v hvs A ps.length cap AH hc w' (hi.kept hb (Nat.le_refl _)) hil)
  have H3 := Lib.hid (fun w' => shd_v hne w')
  have H4 := Lib.hid (fun w' (hb : Below w.heap.size w w') => sprs_any N s A cap ps AD dc dm 0 AH hc hs w' (hp.kept hb (Nat.le_refl _)) hcap (hd.kept hb (Nat.le_refl _)) (hi.kept hb (Nat.le_refl _)) hn ht hv hh hvs)
  have hL8 : (prL N ps s dm 0 hs).length ≤ 8 := by rw [prL_len]; omega
  clear hp hd hi hv ha hn ht hh hcap hvs hne
  generalize prL N ps s dm 0 hs = L at *
  have HBD := Lib.hid hb
  have HMI := Lib.hid (mstK_in (L := L) (need := need) (a := -2000000000000) (b := 2000000000000) (by omega) (fun i hi => by have := hb i hi; omega))
  have HMS := Lib.hid (fun k => show mstK L need (k + 1) = max (mstK L need k) (need - lA L k) from rfl)
  have HU := Lib.hid hu
  clear hu hb
  go_enter Try.func31, Try.ntmps31
  go_wp2_with (first
    | (go_at_call 61; refine (H.out _ ((Below.refl _ _).alloc (Nat.le_refl _) _)).mono ?_; rintro e w1 ⟨rfl, hb1⟩; have HX1 := Lib.hid (show Below (w.heap.size + 1) (w.alloc (nb N A ps.length cap)) w1 by simpa using hb1); clear hb1; obtain ⟨b0, b1⟩ := box2 HX1.out; have hy1 := box_lt HX1.out)
    | (go_at_call 65; refine (H2.out _ (below_box HX1.out)).mono ?_; rintro e w2 ⟨rfl, hb2⟩; have HX2 := Lib.hid (on_call HX1.out hb2); clear b0 b1 hb2; obtain ⟨b0, b1⟩ := box2 HX2.out; have hy2 := box_lt HX2.out)
    | (go_at_call_of 69 (Value.int IntKind.i64 need); refine (H3.out _).mono ?_; rintro e w3 ⟨rfl, hw⟩; replace hw := hw.symm; subst hw)
    | (go_at_call 66; refine (H4.out _ (below_box HX2.out)).mono ?_; rintro e w4 ⟨g, c, rfl, hg4, hO, hb4⟩; have HB4 := Lib.hid ((below_box HX2.out).trans (hb4.mono (below_box HX2.out).size)); have HI4 := Lib.hid hO.iat; clear b0 b1 hb4 hO; refine Hid.out ?_))
  clear H H2 H3 H4 HX1 HX2
  refine Lib.hid ?_
  go_wp2
  go_loop [13, 14] (fun m i => ∃ k : Nat, k ≤ L.length ∧ i = .int .i64 (k : Int) ∧ m = .int .i64 (mstK L need k)) (fun _ i => L.length - (intOf i).toNat)
  case atStart => exact ⟨0, Nat.zero_le _, rfl, rfl⟩
  case round =>
    obtain ⟨k, hk, rfl, rfl⟩ := hrel
    have hmi := HMI.out k hk
    by_cases hlt : k < L.length
    · obtain ⟨b, off, hA, hbl, p0⟩ := HI4.out.at_ hlt
      simp only [Option.some.injEq, Addr.mk.injEq, and_true] at hA
      obtain ⟨rfl, rfl⟩ := hA
      rw [Nat.zero_add] at p0
      have hk0 : (0 : Int) ≤ (k : Int) := by omega
      have hkn : (k : Int) < (L.length : Int) := by omega
      have hla : L.getD k 0 = lA L k := rfl
      rw [hla] at p0
      have hbd := HBD.out k hlt
      have HM := Lib.hid (HMS.out k)
      clear hla
      generalize lA L k = y at *
      generalize mstK L need k = m at *
      have wS : IntKind.i64.wrap (need - y) = need - y := w64 _ (by omega)
      have HC := Lib.hid (fun w' => smost_any m (need - y) w')
      go_wp2_with (go_at_call 70; refine (HC.out _).mono ?_; rintro e w5 ⟨rfl, hw⟩; replace hw := hw.symm; subst hw)
      go_round
      case rel => exact ⟨k + 1, by omega, by go_num, by rw [HM.out]⟩
      case measure => simp [intOf]; omega
    · have hkN : k = L.length := by omega
      subst hkN
      obtain ⟨v4, hv4⟩ : ∃ v, hdR (mstK L need L.length) = v := ⟨_, rfl⟩
      have H5 := Lib.hid (fun w' => shd_v hv4 w')
      have HU2 := HU.out
      rw [hv4] at HU2
      have HU3 := Lib.hid HU2
      clear hv4 HU2
      generalize mstK L need L.length = m at *
      cases v4 with
      | false =>
        go_wp2_with (go_at_call 69; refine (H5.out _).mono ?_; rintro e w5 ⟨rfl, hw⟩; replace hw := hw.symm; subst hw)
        go_ret2
        exact ⟨by rw [HU3.out]; rfl, HB4.out⟩
      | true =>
        go_wp2_with (go_at_call 69; refine (H5.out _).mono ?_; rintro e w5 ⟨rfl, hw⟩; replace hw := hw.symm; subst hw)
        go_ret2
        exact ⟨by rw [HU3.out]; rfl, HB4.out⟩
end Go.Proofs.Ytpldbakllegheaa.S2
