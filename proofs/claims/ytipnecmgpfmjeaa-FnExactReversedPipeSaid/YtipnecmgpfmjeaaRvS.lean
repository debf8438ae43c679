/- ReversedPipe of the model: contracts. Conditions: each theorem's own premises. -/
import Derived.Test.YtipnecmgpfmjeaaRvI
import Derived.Test.YtipnecmgpfmjeaaSpS
namespace Go.Proofs.Ytipnecmgpfmjeaa.S2
open Go.RowKit P2

theorem pcs_set4 (ps : List Pp) : ∀ i, i < ps.length → ((((pcs ps).set (i * 4) (.int .i64 (pAt ps i).id)).set (i * 4 + 1) (.int .i64 (pAt ps i).to)).set (i * 4 + 2) (.int .i64 (pAt ps i).fr)).set (i * 4 + 3) (.int .i64 (pAt ps i).sz) = pcs (rvL ps i) := by
  induction ps with
  | nil => intro i h; simp at h
  | cons p ps ih =>
    intro i hi
    have e : pcs (p :: ps) = pcs4 p ++ pcs ps := rfl
    match i with
    | 0 =>
      have e2 : pAt (p :: ps) 0 = p := by simp [pAt, List.getD]
      unfold rvL
      rw [e2, e]
      simp [pcs4, pcs]
    | i + 1 =>
      have e2 : pAt (p :: ps) (i + 1) = pAt ps i := by simp [pAt, List.getD]
      have h1 := ih i (by simpa using hi)
      unfold rvL at h1 ⊢
      rw [e2, e, List.set_cons_succ]
      have e3 : ∀ (q : Pp) (l : List Pp), pcs (q :: l) = pcs4 q ++ pcs l := fun _ _ => rfl
      rw [e3, ← h1]
      have l4 : (pcs4 p).length = 4 := rfl
      rw [List.set_append_right _ _ (by omega), List.set_append_right _ _ (by omega), List.set_append_right _ _ (by omega), List.set_append_right _ _ (by omega), l4]
      congr 5 <;> omega
theorem find_one {ps : List Pp} {x r s : Int} (h : FindIs ps x r) (g : FindIs ps x s) : r = s := by
  rcases h with ⟨rfl, h⟩ | ⟨i, hi, rfl, hix, hif⟩
  · rcases g with ⟨rfl, _⟩ | ⟨j, hj, rfl, hjx, _⟩
    · rfl
    · exact absurd hjx (h j hj)
  · rcases g with ⟨rfl, g⟩ | ⟨j, hj, rfl, hjx, hjf⟩
    · exact absurd hix (g i hi)
    · have h1 : ¬ i < j := fun h => hjf i h hix
      have h2 : ¬ j < i := fun h => hif j h hjx
      have : i = j := by omega
      rw [this]
set_option maxHeartbeats 1000000 in
theorem l1own_any (A : Option Addr) (cap : Nat) (l : List Int) (w : World) (h : IAt w A l) (hn : 0 < l.length) (hl : l.length ≤ 10) :
    Calls Try.prog 77 #[.slice A l.length cap] w fun e w' => ∃ g c, e = .returned (.slice (some ⟨g, 0, none⟩) l.length c) ∧ w.heap.size ≤ g ∧ IOwn w' w.heap.size (.slice (some ⟨g, 0, none⟩) l.length c) l ∧ Below w.heap.size w w' := by
  obtain ⟨b, off, hA, hbl, _⟩ := h.at_ hn
  subst hA
  have hc : ∀ w', Below w.heap.size w w' → ∀ j u, (l.map iv)[j]? = some u → w'.cell? ((⟨b, off, none⟩ : Addr).add j) = some u := fun w' hb j u hu => by
    rw [List.getElem?_map] at hu
    obtain ⟨y, hy, rfl⟩ := Option.map_eq_some_iff.1 hu
    have hj : j < l.length := (List.getElem?_eq_some_iff.1 hy).1
    obtain ⟨b', off', hA', hbl', hx⟩ := (h.kept hb (Nat.le_refl _)).at_ hj
    simp only [Option.some.injEq, Addr.mk.injEq, and_true] at hA'
    obtain ⟨rfl, rfl⟩ := hA'
    rw [add_plus, hx]
    simp [List.getD, hy]
  have HC := Lib.hid hc
  obtain ⟨i0, hi, hz0, hz1, hz2⟩ := info_parts infoI
  have HO0 := Lib.hid (show (w.alloc (.cells #[] 3)).ownsRow w.heap.size 3 1 (.slice (some ⟨w.heap.size, 0, none⟩) 0 0) 0 [] from own_empty w w.heap.size (Nat.le_refl _))
  clear h hc
  go_enter Try.func77, Try.ntmps77
  go_wp2_with (at_builtin; go_must (refine wpList_append_own _ rfl _ _ 27 rfl w.heap.size 3 i0 (.int .i64 0) 1 8 Try.underlying27 hi hz0 hz1 hz2 rfl (by decide) _ _ _ rfl HO0.out ⟨b, off, none⟩ l.length cap (l.map iv) rfl (by simp) (HC.out _ ((Below.refl _ _).alloc (Nat.le_refl _) _)) (by intro u hu; obtain ⟨y, _, rfl⟩ := List.mem_map.1 hu; rfl) ?c3 ?c4 ?c5 ?_))
  case c3 => unfold maxLen; omega
  case c4 => omega
  case c5 => simp
  intro v' w3 hown' hgrow hnil
  obtain ⟨g, cg, rfl, hgg⟩ := own_sl4 hown' (by omega)
  have hB3 := Lib.hid (((Below.refl w.heap.size w).alloc (Nat.le_refl _) (.cells #[] 3)).grown hgrow (by simp) (fun g hg => (HO0.out.lt g hg).1))
  have HO3 := Lib.hid hown'
  clear hown' hgrow hnil HO0
  go_wp2_with fail
  go_ret
  exact ⟨g, cg, by simp, hgg, by unfold IOwn; simpa using HO3.out, hB3.out⟩

theorem own_lowerP {w : World} {B B' n : Nat} {v : Value} {xs : List Value} (h : w.ownsRow B 40 4 v n xs) (hB : B' ≤ B := by omega) : w.ownsRow B' 40 4 v n xs := by
  refine ⟨h.1, ?_⟩
  rcases h.2 with h2 | ⟨g, cap, cur, hv, hb, rest⟩
  · exact .inl h2
  · exact .inr ⟨g, cap, cur, hv, by omega, rest⟩
theorem TB.set0 {w : World} {T : Nat} {x v : Value} (h : TB w T x v) (u : Value) : TB (w.setCell ⟨T, 0, none⟩ u) T u v := by
  unfold TB at h ⊢
  simp [World.setCell, Array.getElem?_modify, h]
/-- The copy in a box: what the region that makes it leaves. -/
def RvC (w3 wx : World) (N : Nat) (ps : List Pp) (s : Value) : Prop :=
  ∃ T g c, s = .pointer (some ⟨T, 0, none⟩) ∧ TB wx T (.int .i64 N) (.slice (some ⟨g, 0, none⟩) ps.length c) ∧ wx.ownsRow w3.heap.size 40 4 (.slice (some ⟨g, 0, none⟩) ps.length c) ps.length (pcs ps) ∧ g ≠ T ∧ w3.heap.size ≤ T ∧ Below w3.heap.size w3 wx
set_option maxHeartbeats 2000000 in
theorem srev_bad (n : Int) (A : Option Addr) (cap : Nat) (ps : List Pp) (AD : Option Addr) (dc : Nat) (fl : List Int) (x : Int) (w : World) (h : PAt w A ps) (hm : ps.length ≤ 1048576) (hd : IAt w AD fl) (hdl : fl.length ≤ 1048576) (hv : floB n ps fl = false ∨ FindIs ps x (-1)) :
    Calls Try.prog 29 #[nv n A ps.length cap, .slice AD fl.length dc, .int .i64 x] w (GivesXA w 0 [] [] false) := by
  have HW0 := Lib.hid (show Below w.heap.size w ((w.alloc (nb n A ps.length cap)).alloc (nb 0 none 0 0)) from ((Below.refl _ _).alloc (Nat.le_refl _) _).alloc (by simp) _)
  have HB3 := Lib.hid (fun w1 (hb : Below ((w.alloc (nb n A ps.length cap)).alloc (nb 0 none 0 0)).heap.size ((w.alloc (nb n A ps.length cap)).alloc (nb 0 none 0 0)) w1) => (show Below (w.heap.size + 1) (w.alloc (nb n A ps.length cap)) w1 from ((Below.refl _ _).alloc (by simp) _).trans (hb.mono (by simp))))
  have HR0 := Lib.hid (show TB ((w.alloc (nb n A ps.length cap)).alloc (nb 0 none 0 0)) (w.heap.size + 1) (.int .i64 0) (.slice none 0 0) from by
    have := TB.made (w.alloc (nb n A ps.length cap)) (.int .i64 0) (.slice none 0 0)
    simpa using this)
  have HF := Lib.hid (fun w' (hb : Below w.heap.size w w') => find_any n A cap ps x w' (h.kept hb (Nat.le_refl _)) hm)
  obtain ⟨v1, hv1⟩ : ∃ v, goodB n ps = v := ⟨_, rfl⟩
  obtain ⟨v2, hv2⟩ : ∃ v, amtB fl ps.length (-8000) 8000 = v := ⟨_, rfl⟩
  have H1 := Lib.hid (fun w' (hb : Below w.heap.size w w') => sgood_v hv1 A cap w' (h.kept hb (Nat.le_refl _)) (by unfold maxLen; omega))
  have H2 := Lib.hid (fun w' (hb : Below w.heap.size w w') => sflo_v hv2 (n := n) A cap AD dc w' (hd.kept hb (Nat.le_refl _)) hdl)
  have HV := Lib.hid (show v1 = true → v2 = true → FindIs ps x (-1) from fun h1 h2 => by
    rcases hv with h | h
    · unfold floB at h
      rw [hv1, hv2, h1, h2] at h
      cases h
    · exact h)
  clear h hd hv hv1 hv2
  cases v1 with
  | false =>
    go_enter Try.func29, Try.ntmps29
    go_wp2_with (first
      | (go_at_call 74; refine (HF.out _ HW0.out).mono ?_; rintro e w1 ⟨⟨r, rfl, hr⟩, hb1⟩; have HB1 := Lib.hid (HB3.out _ hb1); have HT1 := Lib.hid (HR0.out.below hb1); obtain ⟨b0, b1⟩ := box2 HB1.out; have hz1 := HT1.out.lt; have hy1 : w.heap.size < w1.heap.size := (by omega))
      | (go_at_call 75; refine (H1.out _ (below_box HB1.out)).mono ?_; rintro e w2 ⟨rfl, hb2⟩; have HB2 := Lib.hid (on_call HB1.out hb2); have HT2 := Lib.hid (HT1.out.below hb2); clear b0 b1; obtain ⟨b0, b1⟩ := box2 HB2.out; have hz2 := HT2.out.lt; have hy2 : w.heap.size < w2.heap.size := (by omega); have hv2 : w1.heap.size ≤ w2.heap.size := hb2.size; obtain ⟨s0, s1⟩ := HT2.out.cell; have f0 := HT2.out.frozen 0; have f1 := HT2.out.frozen 1)
      | fail)
    have hB := (((below_box HB2.out).setCell (p := ⟨w.heap.size + 1, 0, none⟩) (by show w.heap.size ≤ w.heap.size + 1; omega) (.int .i64 0)).setCell (p := ⟨w.heap.size + 1, 1, none⟩) (by show w.heap.size ≤ w.heap.size + 1; omega) (.slice none 0 0))
    exact bodyPost_ret (v := .tuple #[nv 0 none 0 0, .slice (some ⟨w2.heap.size, 0, none⟩) 0 0, .bool false]) (by simp [results, Try.results29, go_sem, s0, s1, hz2]) rfl ⟨none, 0, w2.heap.size, 0, 0, rfl, Nat.le_refl _, .inl rfl, by omega, .inl rfl, hB.alloc hB.size _, by simp⟩
  | true =>
    cases v2 with
    | false =>
      go_enter Try.func29, Try.ntmps29
      go_wp2_with (first
        | (go_at_call 74; refine (HF.out _ HW0.out).mono ?_; rintro e w1 ⟨⟨r, rfl, hr⟩, hb1⟩; have HB1 := Lib.hid (HB3.out _ hb1); have HT1 := Lib.hid (HR0.out.below hb1); obtain ⟨b0, b1⟩ := box2 HB1.out; have hz1 := HT1.out.lt; have hy1 : w.heap.size < w1.heap.size := (by omega))
        | (go_at_call 75; refine (H1.out _ (below_box HB1.out)).mono ?_; rintro e w2 ⟨rfl, hb2⟩; have HB2 := Lib.hid (on_call HB1.out hb2); have HT2 := Lib.hid (HT1.out.below hb2); clear b0 b1; obtain ⟨b0, b1⟩ := box2 HB2.out; have hz2 := HT2.out.lt; have hy2 : w.heap.size < w2.heap.size := (by omega); have hv2 : w1.heap.size ≤ w2.heap.size := hb2.size)
        | (go_at_call 76; refine (H2.out _ (below_box HB2.out)).mono ?_; rintro e w3 ⟨rfl, hb3⟩; have HB3 := Lib.hid (on_call HB2.out hb3); have HT3 := Lib.hid (HT2.out.below hb3); clear b0 b1; obtain ⟨b0, b1⟩ := box2 HB3.out; have hz3 := HT3.out.lt; have hy3 : w.heap.size < w3.heap.size := (by omega); have hv3 : w2.heap.size ≤ w3.heap.size := hb3.size; obtain ⟨s0, s1⟩ := HT3.out.cell; have f0 := HT3.out.frozen 0; have f1 := HT3.out.frozen 1)
        | fail)
      have hB := (((below_box HB3.out).setCell (p := ⟨w.heap.size + 1, 0, none⟩) (by show w.heap.size ≤ w.heap.size + 1; omega) (.int .i64 0)).setCell (p := ⟨w.heap.size + 1, 1, none⟩) (by show w.heap.size ≤ w.heap.size + 1; omega) (.slice none 0 0))
      exact bodyPost_ret (v := .tuple #[nv 0 none 0 0, .slice (some ⟨w3.heap.size, 0, none⟩) 0 0, .bool false]) (by simp [results, Try.results29, go_sem, s0, s1, hz3]) rfl ⟨none, 0, w3.heap.size, 0, 0, rfl, Nat.le_refl _, .inl rfl, by omega, .inl rfl, hB.alloc hB.size _, by simp⟩
    | true =>
      have HX := Lib.hid (HV.out rfl rfl)
      go_enter Try.func29, Try.ntmps29
      go_wp2_with (first
        | (go_at_call 74; refine (HF.out _ HW0.out).mono ?_; rintro e w1 ⟨⟨r, rfl, hr⟩, hb1⟩; have HB1 := Lib.hid (HB3.out _ hb1); have HT1 := Lib.hid (HR0.out.below hb1); obtain ⟨b0, b1⟩ := box2 HB1.out; have hz1 := HT1.out.lt; have hy1 : w.heap.size < w1.heap.size := (by omega); obtain rfl := find_one hr HX.out)
        | (go_at_call 75; refine (H1.out _ (below_box HB1.out)).mono ?_; rintro e w2 ⟨rfl, hb2⟩; have HB2 := Lib.hid (on_call HB1.out hb2); have HT2 := Lib.hid (HT1.out.below hb2); clear b0 b1; obtain ⟨b0, b1⟩ := box2 HB2.out; have hz2 := HT2.out.lt; have hy2 : w.heap.size < w2.heap.size := (by omega); have hv2 : w1.heap.size ≤ w2.heap.size := hb2.size)
        | (go_at_call 76; refine (H2.out _ (below_box HB2.out)).mono ?_; rintro e w3 ⟨rfl, hb3⟩; have HB3 := Lib.hid (on_call HB2.out hb3); have HT3 := Lib.hid (HT2.out.below hb3); clear b0 b1; obtain ⟨b0, b1⟩ := box2 HB3.out; have hz3 := HT3.out.lt; have hy3 : w.heap.size < w3.heap.size := (by omega); have hv3 : w2.heap.size ≤ w3.heap.size := hb3.size; obtain ⟨s0, s1⟩ := HT3.out.cell; have f0 := HT3.out.frozen 0; have f1 := HT3.out.frozen 1)
        | fail)
      have hB := (((below_box HB3.out).setCell (p := ⟨w.heap.size + 1, 0, none⟩) (by show w.heap.size ≤ w.heap.size + 1; omega) (.int .i64 0)).setCell (p := ⟨w.heap.size + 1, 1, none⟩) (by show w.heap.size ≤ w.heap.size + 1; omega) (.slice none 0 0))
      exact bodyPost_ret (v := .tuple #[nv 0 none 0 0, .slice (some ⟨w3.heap.size, 0, none⟩) 0 0, .bool false]) (by simp [results, Try.results29, go_sem, s0, s1, hz3]) rfl ⟨none, 0, w3.heap.size, 0, 0, rfl, Nat.le_refl _, .inl rfl, by omega, .inl rfl, hB.alloc hB.size _, by simp⟩

set_option maxHeartbeats 4000000 in
set_option maxRecDepth 100000 in
theorem srev_yes (N i : Nat) (A : Option Addr) (cap : Nat) (ps : List Pp) (AD : Option Addr) (dc : Nat) (fl : List Int) (x : Int) (w : World) (h : PAt w A ps) (hm : ps.length ≤ 1048576) (hd : IAt w AD fl) (hdl : fl.length ≤ 1048576) (hv : floB N ps fl = true) (hi : i < ps.length) (hcap : ps.length = cap) (hf : FindIs ps x i) :
    Calls Try.prog 29 #[nv N A ps.length cap, .slice AD fl.length dc, .int .i64 x] w (GivesXA w N (rvL ps i) (ngL fl i) true) := by
  have HW0 := Lib.hid (show Below w.heap.size w ((w.alloc (nb N A ps.length cap)).alloc (nb 0 none 0 0)) from ((Below.refl _ _).alloc (Nat.le_refl _) _).alloc (by simp) _)
  have HB3 := Lib.hid (fun w1 (hb : Below ((w.alloc (nb N A ps.length cap)).alloc (nb 0 none 0 0)).heap.size ((w.alloc (nb N A ps.length cap)).alloc (nb 0 none 0 0)) w1) => (show Below (w.heap.size + 1) (w.alloc (nb N A ps.length cap)) w1 from ((Below.refl _ _).alloc (by simp) _).trans (hb.mono (by simp))))
  have HR0 := Lib.hid (show TB ((w.alloc (nb N A ps.length cap)).alloc (nb 0 none 0 0)) (w.heap.size + 1) (.int .i64 0) (.slice none 0 0) from by
    have := TB.made (w.alloc (nb N A ps.length cap)) (.int .i64 0) (.slice none 0 0)
    simpa using this)
  obtain ⟨hg, hfn, hfr⟩ := floB_of hv
  have hl10 := hg.2.2.1
  unfold floB at hv
  rw [Bool.and_eq_true] at hv
  have HF := Lib.hid (fun w' (hb : Below w.heap.size w w') => find_any N A cap ps x w' (h.kept hb (Nat.le_refl _)) hm)
  have H1 := Lib.hid (fun w' (hb : Below w.heap.size w w') => sgood_v hv.1 A cap w' (h.kept hb (Nat.le_refl _)) (by unfold maxLen; omega))
  have H2 := Lib.hid (fun w' (hb : Below w.heap.size w w') => sflo_v hv.2 (n := N) A cap AD dc w' (hd.kept hb (Nat.le_refl _)) hdl)
  have H4 := Lib.hid (fun w' (hb : Below w.heap.size w w') => l1own_any AD dc fl w' (hd.kept hb (Nat.le_refl _)) (by omega) (by omega))
  have HX := Lib.hid hf
  obtain ⟨b, off, hA, hbl, _⟩ := h.at_ hi
  subst hA
  have HPC := Lib.hid (fun w' (hb' : Below w.heap.size w w') => (show ∀ j u, (pcs ps)[j]? = some u → w'.cell? ((⟨b, off, none⟩ : Addr).add j) = some u from by have := pat_take h hbl hb' (Nat.le_refl ps.length); rwa [List.take_length] at this))
  obtain ⟨i0, hi0', hz0', hz1', hz2'⟩ := info_parts infoP
  have hq0 : -8000 ≤ fl.getD i 0 := (allR_at hfr (by omega)).1
  have hq1 : fl.getD i 0 ≤ 8000 := (allR_at hfr (by omega)).2
  have hif : i < fl.length := by omega
  have hi0 : (0 : Int) ≤ (i : Int) := by omega
  have hi1 : ¬ (i : Int) < 0 := by omega
  have hin : (i : Int) < (ps.length : Int) := by omega
  have hinf : (i : Int) < (fl.length : Int) := by omega
  have HPS := Lib.hid (pcs_set4 ps i hi)
  have HNG := Lib.hid (ng_set fl i)
  have HRL := Lib.hid (rvL_len ps i)
  have HNL := Lib.hid (ngL_len fl i)
  have HG0 := Lib.hid (pcs_get ps i hi 0 (by omega))
  have HG1 := Lib.hid (pcs_get ps i hi 1 (by omega))
  have HG2 := Lib.hid (pcs_get ps i hi 2 (by omega))
  have HG3 := Lib.hid (pcs_get ps i hi 3 (by omega))
  have HFG := Lib.hid (show (fl.map iv)[i]? = some (iv (fl.getD i 0)) from by simp [List.getD, hif])
  obtain ⟨ya, hya⟩ : ∃ ya, fl.getD i 0 = ya := ⟨_, rfl⟩
  rw [hya] at HFG HNG hq0 hq1
  clear h hd hv hf hg hm hdl hfr hfn hcap hya
  go_enter Try.func29, Try.ntmps29
  go_wp2_with (first
    | (go_at_call 74; refine (HF.out _ HW0.out).mono ?_; rintro e w1 ⟨⟨r, rfl, hr⟩, hb1⟩; have HB1 := Lib.hid (HB3.out _ hb1); have HT1 := Lib.hid (HR0.out.below hb1); obtain ⟨b0, b1⟩ := box2 HB1.out; have hz1 := HT1.out.lt; have hy1 : w.heap.size < w1.heap.size := (by omega); obtain rfl := find_one hr HX.out)
    | (go_at_call 75; refine (H1.out _ (below_box HB1.out)).mono ?_; rintro e w2 ⟨rfl, hb2⟩; have HB2 := Lib.hid (on_call HB1.out hb2); have HT2 := Lib.hid (HT1.out.below hb2); clear b0 b1; obtain ⟨b0, b1⟩ := box2 HB2.out; have hz2 := HT2.out.lt; have hy2 : w.heap.size < w2.heap.size := (by omega); have hv2 : w1.heap.size ≤ w2.heap.size := hb2.size)
    | (go_at_call 76; refine (H2.out _ (below_box HB2.out)).mono ?_; rintro e w3 ⟨rfl, hb3⟩; have HB3 := Lib.hid (on_call HB2.out hb3); have HT3 := Lib.hid (HT2.out.below hb3); clear b0 b1; obtain ⟨b0, b1⟩ := box2 HB3.out; have hz3 := HT3.out.lt; have hy3 : w.heap.size < w3.heap.size := (by omega); have hv3 : w2.heap.size ≤ w3.heap.size := hb3.size)
    | fail)
  have hy3' : w.heap.size < w3.heap.size := by omega
  go_upto_region 4 with (fail)
  go_cut [10] (fun s wx => RvC w3 wx N ps s)
  case first =>
    refine wp_region_held_drew (S := fun w' => w'.cell? ⟨w.heap.size, 0, none⟩ = some (.int .i64 N) ∧ w'.cell? ⟨w.heap.size, 1, none⟩ = some (.slice (some ⟨b, off, none⟩) ps.length cap)) (by kernel_rfl) (by go_keep) (fun hHeld => ?_)
    refine wpAnyH_take (i := 0) (v := .pointer (some ⟨w.heap.size, 0, none⟩)) rfl (by kernel_rfl) (by kernel_rfl) (by kernel_rfl) (fun _ _ _ h => h) (Or.inl ⟨by rfl, ?_⟩) (by assumption) ?_
    · (intro w hSw; (try dsimp only at hSw); go_simp)
    simp only [Act.put, List.setIfInBounds_toArray]
    refine wpAnyH_take (i := 1) (v := .int .i64 (N : Int)) rfl (by kernel_rfl) (by kernel_rfl) (by kernel_rfl) (fun _ _ _ h => h) (Or.inl ⟨by rfl, ?_⟩) (by assumption) ?_
    · (intro w hSw; (try dsimp only at hSw); go_simp)
    simp only [Act.put]
    refine wpAnyH_take (i := 3) (v := .pointer (some ⟨w.heap.size, 1, none⟩)) rfl (by kernel_rfl) (by kernel_rfl) (by kernel_rfl) (fun _ _ _ h => h) (Or.inl ⟨by rfl, ?_⟩) (by assumption) ?_
    · (intro w hSw; (try dsimp only at hSw); go_simp)
    simp only [Act.put]
    refine wpAnyH_take (i := 4) (v := .slice (some ⟨b, off, none⟩) ps.length cap) rfl (by kernel_rfl) (by kernel_rfl) (by kernel_rfl) (fun _ _ _ h => h) (Or.inl ⟨by rfl, ?_⟩) (by assumption) ?_
    · (intro w hSw; (try dsimp only at hSw); go_simp)
    simp only [Act.put]
    refine wpAnyH_ready (rs := [2, 7]) (by kernel_rfl) (by simp) ?_
    refine AllReadyH.cons rfl (fun K hK => ?_) (AllReadyH.cons rfl (fun K hK => ?_) AllReadyH.nil)
    · go_simp
      refine hK.out _ _ (by first | assumption | go_keep) (fun hHeld => ?_)
      clear hK K
      refine wpAnyH_ready (rs := [5, 7]) (by kernel_rfl) (by simp) ?_
      refine AllReadyH.cons rfl (fun K hK => ?_) (AllReadyH.cons rfl (fun K hK => ?_) AllReadyH.nil)
      · have hown5 := (show (w3.alloc (.cells #[] 40)).drew.ownsRow w3.heap.size 40 4 (.slice (some ⟨w3.heap.size, 0, none⟩) 0 0) 0 [] from own_emptyP w3 w3.heap.size (Nat.le_refl _))
        refine step_append_lies _ (by rfl) _ _ _ (by rfl) (w3.heap.size) 40 i0 _ 4 32 Try.underlying24 hi0' hz0' hz1' hz2' rfl (by omega) (.slice (some ⟨w3.heap.size, 0, none⟩) 0 0) 0 [] (by rfl) (hown5)
          ⟨b, off, none⟩ ps.length cap (pcs ps) (by rfl) (pcs_len ps) (HPC.out _ ((below_box HB3.out).trans ((((Below.refl w3.heap.size w3).alloc (Nat.le_refl _) (.cells #[] 40)).drew).mono (below_box HB3.out).size))) (pcs_one ps) (by omega) (by simp only [maxLen]; omega) (by omega) (by simp <;> omega) ((w3.alloc (.cells #[] 40)).drew.heap.size) rfl ?_
        intro g4 c4 w4 hown' hgrow hat hlt4
        have hHeld2 := hHeld
        refine hK.out _ _ (by rcases hHeld2 with ⟨q0, q1⟩; exact ⟨(hgrow.cell_far _ (by simp; omega) (by simp [Value.ownBlock]; omega)).trans q0, (hgrow.cell_far _ (by simp; omega) (by simp [Value.ownBlock]; omega)).trans q1⟩) (fun hHeld => ?_)
        clear hK K hHeld2
        simp only [Nat.zero_add, List.nil_append] at hown'
        have hz4 := hgrow.size
        simp at hz4
        have hB4 := (((Below.refl w3.heap.size w3).alloc (Nat.le_refl _) (.cells #[] 40)).drew).grown hgrow (by simp <;> omega) (fun y hy => by have hx2 : w3.heap.size = y := (by simpa [Value.ownBlock] using hy); omega)
        have hgT : g4 ≠ w4.heap.size := by omega
        have hzw : w.heap.size ≠ w4.heap.size := by omega
        have hzw2 : w4.heap.size ≠ w.heap.size := by omega
        refine wpAnyH_ready (rs := [6, 7]) (by kernel_rfl) (by simp) ?_
        refine AllReadyH.cons rfl (fun K hK => ?_) (AllReadyH.cons rfl (fun K hK => ?_) AllReadyH.nil)
        · go_simp
          refine hK.out _ _ (by first | assumption | go_keep) (fun hHeld => ?_)
          clear hK K
          refine wpAnyH_ready (rs := [7]) (by kernel_rfl) (by simp) ?_
          refine AllReadyH.cons rfl (fun K hK => ?_) AllReadyH.nil
          go_simp
          refine hK.out _ _ (by first | assumption | go_keep) (fun hHeld => ?_)
          clear hK K
          refine wpAnyH_ready (rs := [8]) (by kernel_rfl) (by simp) ?_
          refine AllReadyH.cons rfl (fun K hK => ?_) AllReadyH.nil
          go_simp
          refine hK.out _ _ (by first | assumption | go_keep) (fun hHeld => ?_)
          clear hK K
          refine wpAnyH_done (by kernel_rfl) ?_ _
          go_wp2_with fail
          go_meet
          refine ⟨w4.heap.size, g4, c4, rfl, ?_, ?_, hgT, by omega, ?_⟩
          · first | exact TB.made _ _ _ | exact ((TB.made w4 (.int .i64 0) (.slice none 0 0)).set0 _).set1 _
          · first | exact own_onP hown' (alloc_below _ _) | exact own_farP (own_farP (own_onP hown' (alloc_below _ (nb 0 none 0 0))) (grown_set (World.grownBy.refl _ _) 0 (.int .i64 N)) hgT) (grown_set (World.grownBy.refl _ _) 1 (.slice (some ⟨g4, 0, none⟩) ps.length c4)) hgT
          · first | exact hB4.alloc hB4.size _ | exact ((hB4.alloc hB4.size _).setCell (p := ⟨w4.heap.size, 0, none⟩) (by show w3.heap.size ≤ w4.heap.size; omega) _).setCell (p := ⟨w4.heap.size, 1, none⟩) (by show w3.heap.size ≤ w4.heap.size; omega) _
        · go_simp
          refine hK.out _ _ (by first | assumption | go_keep) (fun hHeld => ?_)
          clear hK K
          refine wpAnyH_ready (rs := [6]) (by kernel_rfl) (by simp) ?_
          refine AllReadyH.cons rfl (fun K hK => ?_) AllReadyH.nil
          go_simp
          refine hK.out _ _ (by first | assumption | go_keep) (fun hHeld => ?_)
          clear hK K
          refine wpAnyH_ready (rs := [8]) (by kernel_rfl) (by simp) ?_
          refine AllReadyH.cons rfl (fun K hK => ?_) AllReadyH.nil
          go_simp
          refine hK.out _ _ (by first | assumption | go_keep) (fun hHeld => ?_)
          clear hK K
          refine wpAnyH_done (by kernel_rfl) ?_ _
          go_wp2_with fail
          go_meet
          refine ⟨w4.heap.size, g4, c4, rfl, ?_, ?_, hgT, by omega, ?_⟩
          · first | exact TB.made _ _ _ | exact ((TB.made w4 (.int .i64 0) (.slice none 0 0)).set0 _).set1 _
          · first | exact own_onP hown' (alloc_below _ _) | exact own_farP (own_farP (own_onP hown' (alloc_below _ (nb 0 none 0 0))) (grown_set (World.grownBy.refl _ _) 0 (.int .i64 N)) hgT) (grown_set (World.grownBy.refl _ _) 1 (.slice (some ⟨g4, 0, none⟩) ps.length c4)) hgT
          · first | exact hB4.alloc hB4.size _ | exact ((hB4.alloc hB4.size _).setCell (p := ⟨w4.heap.size, 0, none⟩) (by show w3.heap.size ≤ w4.heap.size; omega) _).setCell (p := ⟨w4.heap.size, 1, none⟩) (by show w3.heap.size ≤ w4.heap.size; omega) _
      · go_simp
        refine hK.out _ _ (by first | assumption | go_keep) (fun hHeld => ?_)
        clear hK K
        have HT := (show TB ((w3.alloc (.cells #[] 40)).alloc (nb 0 none 0 0)).drew (w3.heap.size + 1) (.int .i64 0) (.slice none 0 0) from (show TB ((w3.alloc (.cells #[] 40)).alloc (nb 0 none 0 0)) (w3.heap.size + 1) (.int .i64 0) (.slice none 0 0) from by have := TB.made (w3.alloc (.cells #[] 40)) (.int .i64 0) (.slice none 0 0); simpa using this))
        refine wpAnyH_ready (rs := [5]) (by kernel_rfl) (by simp) ?_
        refine AllReadyH.cons rfl (fun K hK => ?_) AllReadyH.nil
        have hown5 := (show ((w3.alloc (.cells #[] 40)).alloc (nb 0 none 0 0)).drew.ownsRow w3.heap.size 40 4 (.slice (some ⟨w3.heap.size, 0, none⟩) 0 0) 0 [] from (show ((w3.alloc (.cells #[] 40)).alloc (nb 0 none 0 0)).ownsRow w3.heap.size 40 4 (.slice (some ⟨w3.heap.size, 0, none⟩) 0 0) 0 [] from own_onP (own_emptyP w3 w3.heap.size (Nat.le_refl _)) ((Below.refl _ _).alloc (Nat.le_refl _) (nb 0 none 0 0))))
        refine step_append_lies _ (by rfl) _ _ _ (by rfl) (w3.heap.size) 40 i0 _ 4 32 Try.underlying24 hi0' hz0' hz1' hz2' rfl (by omega) (.slice (some ⟨w3.heap.size, 0, none⟩) 0 0) 0 [] (by rfl) (hown5)
          ⟨b, off, none⟩ ps.length cap (pcs ps) (by rfl) (pcs_len ps) (HPC.out _ ((below_box HB3.out).trans (((((Below.refl w3.heap.size w3).alloc (Nat.le_refl _) (.cells #[] 40)).alloc (by simp) (nb 0 none 0 0)).drew).mono (below_box HB3.out).size))) (pcs_one ps) (by omega) (by simp only [maxLen]; omega) (by omega) (by simp <;> omega) (((w3.alloc (.cells #[] 40)).alloc (nb 0 none 0 0)).drew.heap.size) rfl ?_
        intro g4 c4 w4 hown' hgrow hat hlt4
        have hHeld2 := hHeld
        refine hK.out _ _ (by rcases hHeld2 with ⟨q0, q1⟩; exact ⟨(hgrow.cell_far _ (by simp; omega) (by simp [Value.ownBlock]; omega)).trans q0, (hgrow.cell_far _ (by simp; omega) (by simp [Value.ownBlock]; omega)).trans q1⟩) (fun hHeld => ?_)
        clear hK K hHeld2
        simp only [Nat.zero_add, List.nil_append] at hown'
        have hz4 := hgrow.size
        simp at hz4
        have HT4 := HT.grown (g := w3.heap.size) hgrow (by omega)
        obtain ⟨t0, t1⟩ := HT4.cell
        have tf0 := HT4.frozen 0
        have tf1 := HT4.frozen 1
        have htl := HT4.lt
        have hgT : g4 ≠ w3.heap.size + 1 := by
          rcases hat with h | h
          · have hx2 : w3.heap.size = g4 := (by simpa [Value.ownBlock] using h)
            omega
          · simp at h
            omega
        have hB4 := ((((Below.refl w3.heap.size w3).alloc (Nat.le_refl _) (.cells #[] 40)).alloc (by simp) (nb 0 none 0 0)).drew).grown hgrow (by simp <;> omega) (fun y hy => by have hx2 : w3.heap.size = y := (by simpa [Value.ownBlock] using hy); omega)
        have hwT : w.heap.size ≠ w3.heap.size + 1 := by omega
        have hTw : w3.heap.size + 1 ≠ w.heap.size := by omega
        refine wpAnyH_ready (rs := [6]) (by kernel_rfl) (by simp) ?_
        refine AllReadyH.cons rfl (fun K hK => ?_) AllReadyH.nil
        go_simp
        refine hK.out _ _ (by first | assumption | go_keep) (fun hHeld => ?_)
        clear hK K
        refine wpAnyH_ready (rs := [8]) (by kernel_rfl) (by simp) ?_
        refine AllReadyH.cons rfl (fun K hK => ?_) AllReadyH.nil
        go_simp
        refine hK.out _ _ (by first | assumption | go_keep) (fun hHeld => ?_)
        clear hK K
        refine wpAnyH_done (by kernel_rfl) ?_ _
        go_wp2_with fail
        go_meet
        refine ⟨w3.heap.size + 1, g4, c4, rfl, ?_, ?_, hgT, by omega, ?_⟩
        · exact (HT4.set0 _).set1 _
        · exact own_lowerP (own_farP (own_farP hown' (grown_set (World.grownBy.refl _ _) 0 (.int .i64 N)) hgT) (grown_set (World.grownBy.refl _ _) 1 (.slice (some ⟨g4, 0, none⟩) ps.length c4)) hgT)
        · exact (hB4.setCell (p := ⟨w3.heap.size + 1, 0, none⟩) (by show w3.heap.size ≤ w3.heap.size + 1; omega) _).setCell (p := ⟨w3.heap.size + 1, 1, none⟩) (by show w3.heap.size ≤ w3.heap.size + 1; omega) _
    · go_simp
      refine hK.out _ _ (by first | assumption | go_keep) (fun hHeld => ?_)
      clear hK K
      refine wpAnyH_ready (rs := [2]) (by kernel_rfl) (by simp) ?_
      refine AllReadyH.cons rfl (fun K hK => ?_) AllReadyH.nil
      go_simp
      refine hK.out _ _ (by first | assumption | go_keep) (fun hHeld => ?_)
      clear hK K
      have HT := (show TB ((w3.alloc (nb 0 none 0 0)).alloc (.cells #[] 40)).drew w3.heap.size (.int .i64 0) (.slice none 0 0) from (show TB ((w3.alloc (nb 0 none 0 0)).alloc (.cells #[] 40)) w3.heap.size (.int .i64 0) (.slice none 0 0) from (TB.made w3 (.int .i64 0) (.slice none 0 0)).below ((Below.refl _ _).alloc (Nat.le_refl _) (.cells #[] 40))))
      refine wpAnyH_ready (rs := [5]) (by kernel_rfl) (by simp) ?_
      refine AllReadyH.cons rfl (fun K hK => ?_) AllReadyH.nil
      have hown5 := (show ((w3.alloc (nb 0 none 0 0)).alloc (.cells #[] 40)).drew.ownsRow (w3.heap.size + 1) 40 4 (.slice (some ⟨w3.heap.size + 1, 0, none⟩) 0 0) 0 [] from (show ((w3.alloc (nb 0 none 0 0)).alloc (.cells #[] 40)).ownsRow (w3.heap.size + 1) 40 4 (.slice (some ⟨w3.heap.size + 1, 0, none⟩) 0 0) 0 [] from by have := own_emptyP (w3.alloc (nb 0 none 0 0)) (w3.heap.size + 1) (by simp); simpa using this))
      refine step_append_lies _ (by rfl) _ _ _ (by rfl) (w3.heap.size + 1) 40 i0 _ 4 32 Try.underlying24 hi0' hz0' hz1' hz2' rfl (by omega) (.slice (some ⟨w3.heap.size + 1, 0, none⟩) 0 0) 0 [] (by rfl) (hown5)
        ⟨b, off, none⟩ ps.length cap (pcs ps) (by rfl) (pcs_len ps) (HPC.out _ ((below_box HB3.out).trans (((((Below.refl w3.heap.size w3).alloc (Nat.le_refl _) (nb 0 none 0 0)).alloc (by simp) (.cells #[] 40)).drew).mono (below_box HB3.out).size))) (pcs_one ps) (by omega) (by simp only [maxLen]; omega) (by omega) (by simp <;> omega) (((w3.alloc (nb 0 none 0 0)).alloc (.cells #[] 40)).drew.heap.size) rfl ?_
      intro g4 c4 w4 hown' hgrow hat hlt4
      have hHeld2 := hHeld
      refine hK.out _ _ (by rcases hHeld2 with ⟨q0, q1⟩; exact ⟨(hgrow.cell_far _ (by simp; omega) (by simp [Value.ownBlock]; omega)).trans q0, (hgrow.cell_far _ (by simp; omega) (by simp [Value.ownBlock]; omega)).trans q1⟩) (fun hHeld => ?_)
      clear hK K hHeld2
      simp only [Nat.zero_add, List.nil_append] at hown'
      have hz4 := hgrow.size
      simp at hz4
      have HT4 := HT.grown (g := w3.heap.size + 1) hgrow (by omega)
      obtain ⟨t0, t1⟩ := HT4.cell
      have tf0 := HT4.frozen 0
      have tf1 := HT4.frozen 1
      have htl := HT4.lt
      have hgT : g4 ≠ w3.heap.size := by
        rcases hat with h | h
        · have hx2 : w3.heap.size + 1 = g4 := (by simpa [Value.ownBlock] using h)
          omega
        · simp at h
          omega
      have hB4 := ((((Below.refl w3.heap.size w3).alloc (Nat.le_refl _) (nb 0 none 0 0)).alloc (by simp) (.cells #[] 40)).drew).grown hgrow (by simp <;> omega) (fun y hy => by have hx2 : w3.heap.size + 1 = y := (by simpa [Value.ownBlock] using hy); omega)
      have hwT : w.heap.size ≠ w3.heap.size := by omega
      have hTw : w3.heap.size ≠ w.heap.size := by omega
      refine wpAnyH_ready (rs := [6]) (by kernel_rfl) (by simp) ?_
      refine AllReadyH.cons rfl (fun K hK => ?_) AllReadyH.nil
      go_simp
      refine hK.out _ _ (by first | assumption | go_keep) (fun hHeld => ?_)
      clear hK K
      refine wpAnyH_ready (rs := [8]) (by kernel_rfl) (by simp) ?_
      refine AllReadyH.cons rfl (fun K hK => ?_) AllReadyH.nil
      go_simp
      refine hK.out _ _ (by first | assumption | go_keep) (fun hHeld => ?_)
      clear hK K
      refine wpAnyH_done (by kernel_rfl) ?_ _
      go_wp2_with fail
      go_meet
      refine ⟨w3.heap.size, g4, c4, rfl, ?_, ?_, hgT, by omega, ?_⟩
      · exact (HT4.set0 _).set1 _
      · exact own_lowerP (own_farP (own_farP hown' (grown_set (World.grownBy.refl _ _) 0 (.int .i64 N)) hgT) (grown_set (World.grownBy.refl _ _) 1 (.slice (some ⟨g4, 0, none⟩) ps.length c4)) hgT)
      · exact (hB4.setCell (p := ⟨w3.heap.size, 0, none⟩) (by show w3.heap.size ≤ w3.heap.size; omega) _).setCell (p := ⟨w3.heap.size, 1, none⟩) (by show w3.heap.size ≤ w3.heap.size; omega) _
  case rest =>
    obtain ⟨T, g, c, rfl, hTB, hoP, hgT, hTl, hbc⟩ := hcut
    obtain ⟨w4, hw4⟩ : ∃ w4, w4 = wc := ⟨_, rfl⟩
    subst hw4
    have HB4 := Lib.hid (on_call HB3.out hbc)
    have HT4 := Lib.hid (HT3.out.below hbc)
    clear b0 b1
    obtain ⟨b0, b1⟩ := box2 HB4.out
    have hz4 := HT4.out.lt
    have hv4 : w3.heap.size ≤ w4.heap.size := hbc.size
    have hgl := (hoP.lt g rfl).2
    have hgb := (hoP.lt g rfl).1
    have hTlt := hTB.lt
    have HO4 := Lib.hid hoP
    have HTT := Lib.hid hTB
    obtain ⟨t0, t1⟩ := hTB.cell
    have l0 := (HO4.out.cellAt (i * 4) (by omega)).trans HG0.out
    have l1 := (HO4.out.cellAt (i * 4 + 1) (by omega)).trans HG1.out
    have l2 := (HO4.out.cellAt (i * 4 + 2) (by omega)).trans HG2.out
    have l3 := (HO4.out.cellAt (i * 4 + 3) (by omega)).trans HG3.out
    replace l0 : w4.cell? ⟨g, i * 4, none⟩ = some (.int .i64 (pAt ps i).id) := l0
    replace l1 : w4.cell? ⟨g, i * 4 + 1, none⟩ = some (.int .i64 (pAt ps i).fr) := l1
    replace l2 : w4.cell? ⟨g, i * 4 + 2, none⟩ = some (.int .i64 (pAt ps i).to) := l2
    replace l3 : w4.cell? ⟨g, i * 4 + 3, none⟩ = some (.int .i64 (pAt ps i).sz) := l3
    have fz0 := HO4.out.frozenAt (i * 4)
    have fz1 := HO4.out.frozenAt (i * 4 + 1)
    have fz2 := HO4.out.frozenAt (i * 4 + 2)
    have fz3 := HO4.out.frozenAt (i * 4 + 3)
    have hTg : T ≠ g := fun h => hgT h.symm
    have hTw : T ≠ w.heap.size := by omega
    have hwT : w.heap.size ≠ T := by omega
    have hgw : g ≠ w.heap.size := by omega
    have hwg : w.heap.size ≠ g := by omega
    clear hoP hTB hbc
    have HP5 := Lib.hid (((((HO4.out.stored (i * 4) (.int .i64 (pAt ps i).id)).1.stored (i * 4 + 1) (.int .i64 (pAt ps i).to)).1.stored (i * 4 + 2) (.int .i64 (pAt ps i).fr)).1.stored (i * 4 + 3) (.int .i64 (pAt ps i).sz)).1)
    rw [HPS.out] at HP5
    have HO5 := Lib.hid (show (((((w4.setCell ⟨g, i * 4, none⟩ (.int .i64 (pAt ps i).id)).setCell ⟨g, i * 4 + 1, none⟩ (.int .i64 (pAt ps i).to)).setCell ⟨g, i * 4 + 2, none⟩ (.int .i64 (pAt ps i).fr)).setCell ⟨g, i * 4 + 3, none⟩ (.int .i64 (pAt ps i).sz)).alloc (.cells #[.int .i64 (pAt ps i).id, .int .i64 (pAt ps i).fr, .int .i64 (pAt ps i).to, .int .i64 (pAt ps i).sz] 40)).ownsRow w3.heap.size 40 4 (.slice (some ⟨g, 0, none⟩) ps.length c) ps.length (pcs (rvL ps i)) from own_onP HP5.out (alloc_below _ _))
    have HTT5 := Lib.hid (show TB (((((w4.setCell ⟨g, i * 4, none⟩ (.int .i64 (pAt ps i).id)).setCell ⟨g, i * 4 + 1, none⟩ (.int .i64 (pAt ps i).to)).setCell ⟨g, i * 4 + 2, none⟩ (.int .i64 (pAt ps i).fr)).setCell ⟨g, i * 4 + 3, none⟩ (.int .i64 (pAt ps i).sz)).alloc (.cells #[.int .i64 (pAt ps i).id, .int .i64 (pAt ps i).fr, .int .i64 (pAt ps i).to, .int .i64 (pAt ps i).sz] 40)) T (.int .i64 N) (.slice (some ⟨g, 0, none⟩) ps.length c) from ((((HTT.out.other (p := ⟨g, i * 4, none⟩) _ hTg).other (p := ⟨g, i * 4 + 1, none⟩) _ hTg).other (p := ⟨g, i * 4 + 2, none⟩) _ hTg).other (p := ⟨g, i * 4 + 3, none⟩) _ hTg).below (alloc_below _ _))
    have hwg1 : w.heap.size + 1 ≠ g := by omega
    have HT5 := Lib.hid (show TB (((((w4.setCell ⟨g, i * 4, none⟩ (.int .i64 (pAt ps i).id)).setCell ⟨g, i * 4 + 1, none⟩ (.int .i64 (pAt ps i).to)).setCell ⟨g, i * 4 + 2, none⟩ (.int .i64 (pAt ps i).fr)).setCell ⟨g, i * 4 + 3, none⟩ (.int .i64 (pAt ps i).sz)).alloc (.cells #[.int .i64 (pAt ps i).id, .int .i64 (pAt ps i).fr, .int .i64 (pAt ps i).to, .int .i64 (pAt ps i).sz] 40)) (w.heap.size + 1) (.int .i64 0) (.slice none 0 0) from ((((HT4.out.other (p := ⟨g, i * 4, none⟩) _ hwg1).other (p := ⟨g, i * 4 + 1, none⟩) _ hwg1).other (p := ⟨g, i * 4 + 2, none⟩) _ hwg1).other (p := ⟨g, i * 4 + 3, none⟩) _ hwg1).below (alloc_below _ _))
    have HB5 := Lib.hid (show Below (w.heap.size + 1) (w.alloc (nb N (some ⟨b, off, none⟩) ps.length cap)) (((((w4.setCell ⟨g, i * 4, none⟩ (.int .i64 (pAt ps i).id)).setCell ⟨g, i * 4 + 1, none⟩ (.int .i64 (pAt ps i).to)).setCell ⟨g, i * 4 + 2, none⟩ (.int .i64 (pAt ps i).fr)).setCell ⟨g, i * 4 + 3, none⟩ (.int .i64 (pAt ps i).sz)).alloc (.cells #[.int .i64 (pAt ps i).id, .int .i64 (pAt ps i).fr, .int .i64 (pAt ps i).to, .int .i64 (pAt ps i).sz] 40)) from ((((HB4.out.setCell (p := ⟨g, i * 4, none⟩) (by show w.heap.size + 1 ≤ g; omega) _).setCell (p := ⟨g, i * 4 + 1, none⟩) (by show w.heap.size + 1 ≤ g; omega) _).setCell (p := ⟨g, i * 4 + 2, none⟩) (by show w.heap.size + 1 ≤ g; omega) _).setCell (p := ⟨g, i * 4 + 3, none⟩) (by show w.heap.size + 1 ≤ g; omega) _).alloc (by simp; omega) _)
    have hcc : ps.length ≤ c := by
      rcases HO4.out.2 with ⟨hv, _⟩ | ⟨g', cap', cur, hv, _, _, hcap, _⟩
      · cases hv
      · injection hv with h1 h2 h3
        omega
    go_wp2_with (first | (go_at_call 77; refine (H4.out _ (below_box HB5.out)).mono ?_; rintro e w6 ⟨gi, ci, rfl, hgi, hoI, hb6⟩; have HB6 := Lib.hid (on_call HB5.out hb6); have HT6 := Lib.hid (HT5.out.below hb6); have HTT6 := Lib.hid (HTT5.out.below hb6); have HO6 := Lib.hid (own_onP HO5.out hb6); have HI6 := Lib.hid hoI; have hzz := hb6.size; simp at hgi hzz; clear b0 b1 t0 t1; obtain ⟨t0, t1⟩ := HTT6.out.cell; obtain ⟨s0, s1⟩ := HT6.out.cell; have f0 := HT6.out.frozen 0; have f1 := HT6.out.frozen 1; have li := (World.ownsRow.cellAt HI6.out i (by omega)).trans HFG.out; have fzi := World.ownsRow.frozenAt HI6.out i; have hgil := iown_lt' hoI; have hTgi : T ≠ gi := (by omega); have hgiT : gi ≠ T := (by omega); have hwgi : w.heap.size + 1 ≠ gi := (by omega); have hgiw : gi ≠ w.heap.size + 1 := (by omega); have hggi : g ≠ gi := (by omega); have hs6 : w.heap.size + 1 < w6.heap.size := (by omega)) | fail)
    have hb7 := (((below_box HB6.out).setCell (p := ⟨gi, i, none⟩) (by show w.heap.size ≤ gi; omega) (iv (-ya))).setCell (p := ⟨w.heap.size + 1, 0, none⟩) (by show w.heap.size ≤ w.heap.size + 1; omega) (.int .i64 N)).setCell (p := ⟨w.heap.size + 1, 1, none⟩) (by show w.heap.size ≤ w.heap.size + 1; omega) (.slice (some ⟨g, 0, none⟩) ps.length c)
    have HI7 := Lib.hid (World.ownsRow.stored HI6.out i (iv (-ya))).1
    rw [HNG.out] at HI7
    refine bodyPost_ret (v := .tuple #[nv N (some ⟨g, 0, none⟩) ps.length c, .slice (some ⟨gi, 0, none⟩) fl.length ci, .bool true]) (by simp [results, Try.results29, go_sem, s0, s1]) rfl ⟨some ⟨g, 0, none⟩, c, gi, 0, ci, by rw [HRL.out, HNL.out], by rw [HRL.out]; exact hcc, ?_, by omega, ?_, hb7, by simp; omega⟩
    · have hpa : PAt w6 (some ⟨g, 0, none⟩) (rvL ps i) := own_patP (cap := c) (by rw [HRL.out]; exact HO6.out)
      exact pat_set1 (pat_set1 (pat_set1 hpa (by show gi ≠ g; omega)) (by show w.heap.size + 1 ≠ g; omega)) (by show w.heap.size + 1 ≠ g; omega)
    · have hx := ownsRow_setCell_below (ownsRow_setCell_below HI7.out (a := ⟨w.heap.size + 1, 0, none⟩) (by simp; omega) (.int .i64 N)) (a := ⟨w.heap.size + 1, 1, none⟩) (by simp; omega) (.slice (some ⟨g, 0, none⟩) ps.length c)
      exact IOwn.iat (cap := ci) (by unfold IOwn; rw [HNL.out]; exact hx)
end Go.Proofs.Ytipnecmgpfmjeaa.S2
