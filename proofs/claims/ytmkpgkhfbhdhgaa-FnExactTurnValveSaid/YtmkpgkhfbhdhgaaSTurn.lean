/- TurnValve of the model: contracts. Conditions: each theorem's own premises. -/
import Derived.Test.YtmkpgkhfbhdhgaaTurnKit
import Derived.Test.YtmkpgkhfbhdhgaaSSeg
import Derived.Deep.DeepCutAuto
namespace Go.Proofs.Ytmkpgkhfbhdhgaa.S2
open Go.RowKit P2 P4

theorem sgoodv_t {n : Int} {ps : List Pp} {vs : List Vv} {v : Bool} (hg : goodV n ps vs = v) (A : Option Addr) (cap : Nat) (AV : Option Addr) (capv : Nat) (w : World) (h : PAt w A ps) (hm : ps.length ≤ maxLen) (hv : VAt w AV vs) (hmv : vs.length ≤ maxLen) :
    Calls Try.prog 54 #[nv n A ps.length cap, .slice AV vs.length capv] w fun e w' => e = .returned (.bool v) ∧ Below w.heap.size w w' := by
  rw [← hg]; exact sgoodv_any n A cap ps AV capv vs w h hm hv hmv
set_option maxHeartbeats 2000000 in
theorem sfindv_any (A : Option Addr) (cap : Nat) (vs : List Vv) (x : Int) (w : World) (h : VAt w A vs) (hm : vs.length ≤ maxLen) :
    Calls Try.prog 75 #[.slice A vs.length cap, .int .i64 x] w fun e w' => (∃ r, e = .returned (.int .i64 r) ∧ FirstV vs (qi x) r) ∧ Below w.heap.size w w' := by
  unfold maxLen at hm
  have HA := Lib.hid h
  clear h
  go_enter Try.func75, Try.ntmps75
  go_wp2
  go_loop [5] (fun i => ∃ k : Nat, k ≤ vs.length ∧ i = .int .i64 (k : Int) ∧ Hid (∀ j, j < k → (qi x) (vAt vs j) = false)) (fun i => vs.length - (intOf i).toNat)
  case atStart => exact ⟨0, Nat.zero_le _, rfl, Lib.hid (fun j hj => absurd hj (by omega))⟩
  case round =>
    obtain ⟨k, hk, rfl, hno⟩ := hrel
    by_cases hlt : k < vs.length
    · obtain ⟨b, off, hA, hbl, h0, h1, h2, h3⟩ := HA.out.at_ hlt
      subst hA
      have hk0 : (0 : Int) ≤ (k : Int) := by omega
      have hkn : (k : Int) < (vs.length : Int) := by omega
      by_cases he : (vAt vs k).id = x
      · have g1 : ((vAt vs k).id == x) = true := beq_iff_eq.2 he
        have HFI := Lib.hid (show FirstV vs (qi x) (k : Int) from .inr ⟨k, hlt, rfl, by simp [qi, he], hno.out⟩)
        clear he hno
        generalize vAt vs k = y at *
        go_wp2
        go_ret
        exact ⟨⟨_, rfl, HFI.out⟩, Below.refl _ _⟩
      · have g1 : ((vAt vs k).id == x) = false := beq_eq_false_iff_ne.2 he
        have hno2 := Lib.hid (show ∀ j, j < k + 1 → (qi x) (vAt vs j) = false from fun j hj => by
          by_cases e : j = k
          · subst e; simp [qi, he]
          · exact hno.out j (by omega))
        clear he hno
        generalize vAt vs k = y at *
        go_wp2
        go_round
        case rel => exact ⟨k + 1, by omega, by go_num, hno2⟩
        case measure => simp [intOf]; omega
    · have HFI := Lib.hid (show FirstV vs (qi x) (-1) from .inl ⟨rfl, fun i hi => hno.out i (by omega)⟩)
      go_wp2
      go_ret
      exact ⟨⟨_, rfl, HFI.out⟩, Below.refl _ _⟩
theorem own_sl {w : World} {B n : Nat} {v : Value} {xs : List Value} (h : w.ownsRow B 59 4 v n xs) (hn : 0 < n) : ∃ g cap, v = .slice (some ⟨g, 0, none⟩) n cap ∧ B ≤ g := by
  obtain ⟨g, cap, hv, hb, _⟩ := h.form hn
  exact ⟨g, cap, hv, hb⟩
theorem vcl_set (vs : List Vv) (i : Nat) (sh : Bool) (hi : i < vs.length) : ((((vcl vs).set (i * 4) (.int .i64 (vAt vs i).id)).set (i * 4 + 1) (.int .i64 (vAt vs i).pp)).set (i * 4 + 2) (.int .i64 (vAt vs i).nd)).set (i * 4 + 3) (.bool sh) = vcl (turnL vs i sh) := by
  apply List.ext_getElem
  · simp [vcl_len, turnL_len]
  · intro j h1 h2
    have hj : j < vs.length * 4 := by simpa [vcl_len, turnL_len] using h2
    have e : (vcl (turnL vs i sh))[j]'h2 = vcell (turnL vs i sh) j := by simp [vcl]
    have e0 : (vcl vs)[j]'(by rw [vcl_len]; exact hj) = vcell vs j := by simp [vcl]
    rw [e, turnL_cell vs i sh hi]
    simp only [List.getElem_set]
    by_cases h3 : j = i * 4 + 3
    · rw [if_pos h3.symm, if_pos h3]
    · rw [if_neg (fun e => h3 e.symm), if_neg h3]
      by_cases h4 : j = i * 4 + 2
      · rw [if_pos h4.symm, h4, vcell2]
      · rw [if_neg (fun e => h4 e.symm)]
        by_cases h5 : j = i * 4 + 1
        · rw [if_pos h5.symm, h5, vcell1]
        · rw [if_neg (fun e => h5 e.symm)]
          by_cases h6 : j = i * 4
          · rw [if_pos h6.symm, h6, vcell0]
          · rw [if_neg (fun e => h6 e.symm), e0]
theorem own_vclat {w : World} {B g cap : Nat} {vs : List Vv} (h : w.ownsRow B 59 4 (.slice (some ⟨g, 0, none⟩) vs.length cap) vs.length (vcl vs)) : VAt w (some ⟨g, 0, none⟩) vs := by
  refine .inr ⟨g, 0, rfl, (h.lt g rfl).2, fun i hi => ?_⟩
  have hc : ∀ j, j < vs.length * 4 → w.cell? ⟨g, j, none⟩ = some (vcell vs j) := fun j hj => (h.cellAt j (by omega)).trans (by simp [vcl, hj])
  simp only [Nat.zero_add]
  rw [hc _ (by omega), hc _ (by omega), hc _ (by omega), hc _ (by omega), vcell0, vcell1, vcell2, vcell3]
  exact ⟨rfl, rfl, rfl, rfl⟩
set_option maxHeartbeats 4000000 in
set_option maxRecDepth 100000 in
theorem sturned_any (b off capv i : Nat) (vs : List Vv) (sh : Bool) (w : World) (hv : VAt w (some ⟨b, off, none⟩) vs) (hm : vs.length ≤ 10) (hi : i < vs.length) :
    Calls Try.prog 76 #[.slice (some ⟨b, off, none⟩) vs.length capv, .int .i64 (i : Int), .bool sh] w fun e w' => ∃ g cap, e = .returned (.slice (some ⟨g, 0, none⟩) vs.length cap) ∧ w.heap.size ≤ g ∧ VAt w' (some ⟨g, 0, none⟩) (turnL vs i sh) ∧ Below w.heap.size w w' ∧ g < w'.heap.size := by
  obtain ⟨i0, hi0, hz0, hz1, hz2⟩ := info_parts infoV
  have hk0 : (0 : Int) ≤ (i : Int) := by omega
  have hkn : (i : Int) < (vs.length : Int) := by omega
  have HV := Lib.hid (fun w' (hb' : Below w.heap.size w w') => hv.kept hb' (Nat.le_refl _))
  have HT := Lib.hid (vcl_set vs i sh hi)
  have HO0 := Lib.hid (own_emptyV w w.heap.size (Nat.le_refl _))
  clear hv
  go_enter Try.func76, Try.ntmps76
  go_wp2_with (at_builtin; go_must (refine wpList_append_own _ rfl _ _ 33 rfl w.heap.size 59 i0 _ 4 32 Try.underlying33 hi0 hz0 hz1 hz2 rfl (by omega) _ _ _ rfl HO0.out ⟨b, off, none⟩ vs.length capv (vcl vs) rfl (vcl_len vs) (vcl_at (HV.out _ ((Below.refl _ _).alloc (Nat.le_refl _) _))) (vcl_one vs) ?c3 ?c4 ?c5 ?_))
  case c3 => unfold maxLen; omega
  case c4 => omega
  case c5 => simp
  intro v' w3 hown' hgrow hnil
  obtain ⟨g, cg, rfl, hgg⟩ := own_sl hown' (by omega)
  have hB3 := Lib.hid (((Below.refl w.heap.size w).alloc (Nat.le_refl _) (.cells #[] 59)).grown hgrow (by simp) (fun g hg => (HO0.out.lt g hg).1))
  have hlt3 := (hown'.lt g rfl).2
  have HO3 := Lib.hid hown'
  have hz3 := hB3.out.size
  have hL : (vcl vs).length = vs.length * 4 := vcl_len vs
  have hcc : ∀ j, j < vs.length * 4 → w3.cell? ⟨g, j, none⟩ = some (vcell vs j) := fun j hj => (hown'.cellAt j (by omega)).trans (by simp [vcl, hj])
  have c0 := hcc (i * 4) (by omega)
  have c1 := hcc (i * 4 + 1) (by omega)
  have c2 := hcc (i * 4 + 2) (by omega)
  have c3 := hcc (i * 4 + 3) (by omega)
  rw [vcell0] at c0
  rw [vcell1] at c1
  rw [vcell2] at c2
  rw [vcell3] at c3
  have hfz := fun o => hown'.frozenAt o
  clear hown' hgrow hnil hcc HO0
  generalize (vAt vs i).id = y0 at *
  generalize (vAt vs i).pp = y1 at *
  generalize (vAt vs i).nd = y2 at *
  generalize (vAt vs i).sh = y3 at *
  go_wp2_with fail
  go_ret
  have s3 := (((((HO3.out.stored (i * 4) (.int .i64 y0)).1.stored (i * 4 + 1) (.int .i64 y1)).1.stored (i * 4 + 2) (.int .i64 y2)).1.stored (i * 4 + 3) (.bool sh))).1
  rw [HT.out] at s3
  refine ⟨g, cg, rfl, hgg, own_vclat (vs := turnL vs i sh) (by rw [turnL_len]; exact s3.alloc _), ?_, ?_⟩
  · exact (hB3.out.grown (grown_set (grown_set (grown_set (grown_set (World.grownBy.refl _ (some g)) _ _) _ _) _ _) _ _) hz3 (fun k hk => by simp at hk; omega)).alloc (by simp; omega) _
  · simp; omega
set_option maxHeartbeats 4000000 in
set_option maxRecDepth 100000 in
theorem sturn_bad (n : Int) (A : Option Addr) (cap : Nat) (ps : List Pp) (AV : Option Addr) (capv : Nat) (vs : List Vv) (x : Int) (sh : Bool) (w : World) (h : PAt w A ps) (hm : ps.length ≤ maxLen) (hv : VAt w AV vs) (hmv : vs.length ≤ maxLen) (hb : goodV n ps vs = false) :
    Calls Try.prog 35 #[nv n A ps.length cap, .slice AV vs.length capv, .int .i64 x, .bool sh] w (GivesVA w [] false) := by
  obtain ⟨r0, hf⟩ := first_ex vs (qi x)
  have H := Lib.hid (fun w' (hb' : Below w.heap.size w w') => sgoodv_t hb A cap AV capv w' (h.kept hb' (Nat.le_refl _)) hm (hv.kept hb' (Nat.le_refl _)) hmv)
  have HA := Lib.hid (fun w' (hb' : Below w.heap.size w w') => hv.kept hb' (Nat.le_refl _))
  have HF := Lib.hid hf
  have HM := Lib.hid hmv
  clear h hm hv hmv hb hf
  go_enter Try.func35, Try.ntmps35
  go_wp2_with (first
    | (go_at_call 75; refine (sfindv_any _ capv vs x _ (HA.out _ ((Below.refl w.heap.size w).alloc (Nat.le_refl _) (.cells #[.int .i64 n, .slice A ps.length cap] 31))) HM.out).mono ?_; rintro e w1 ⟨⟨r, rfl, hr⟩, hb1⟩; obtain rfl := first_one hr HF.out; have HB1 := Lib.hid (((Below.refl w.heap.size w).alloc (Nat.le_refl _) (.cells #[.int .i64 n, .slice A ps.length cap] 31)).trans (hb1.mono (by simp))); have a0 := (hb1.cell (p := ⟨w.heap.size, 0, none⟩) (by simp)).trans (show (w.alloc (.cells #[.int .i64 n, .slice A ps.length cap] 31)).cell? ⟨w.heap.size, 0, none⟩ = some (.int .i64 n) by go_simp); have a1 := (hb1.cell (p := ⟨w.heap.size, 1, none⟩) (by simp)).trans (show (w.alloc (.cells #[.int .i64 n, .slice A ps.length cap] 31)).cell? ⟨w.heap.size, 1, none⟩ = some (.slice A ps.length cap) by go_simp); clear hb1 hr)
    | (go_at_call 54; refine (H.out w1 HB1.out).mono ?_; rintro e w2 ⟨rfl, hb2⟩; have HB2 := Lib.hid (HB1.out.trans (hb2.mono HB1.out.size)); clear hb2))
  go_ret2
  exact (GivesVI.none HB2.out).any
set_option maxHeartbeats 4000000 in
set_option maxRecDepth 100000 in
theorem sturn_none (n : Int) (A : Option Addr) (cap : Nat) (ps : List Pp) (AV : Option Addr) (capv : Nat) (vs : List Vv) (x : Int) (sh : Bool) (w : World) (h : PAt w A ps) (hm : ps.length ≤ maxLen) (hv : VAt w AV vs) (hmv : vs.length ≤ maxLen) (hb : goodV n ps vs = true) (hf : FirstV vs (qi x) (-1)) :
    Calls Try.prog 35 #[nv n A ps.length cap, .slice AV vs.length capv, .int .i64 x, .bool sh] w (GivesVA w [] false) := by
  have H := Lib.hid (fun w' (hb' : Below w.heap.size w w') => sgoodv_t hb A cap AV capv w' (h.kept hb' (Nat.le_refl _)) hm (hv.kept hb' (Nat.le_refl _)) hmv)
  have HA := Lib.hid (fun w' (hb' : Below w.heap.size w w') => hv.kept hb' (Nat.le_refl _))
  have HF := Lib.hid hf
  have HM := Lib.hid hmv
  clear h hm hv hmv hb hf
  go_enter Try.func35, Try.ntmps35
  go_wp2_with (first
    | (go_at_call 75; refine (sfindv_any _ capv vs x _ (HA.out _ ((Below.refl w.heap.size w).alloc (Nat.le_refl _) (.cells #[.int .i64 n, .slice A ps.length cap] 31))) HM.out).mono ?_; rintro e w1 ⟨⟨r, rfl, hr⟩, hb1⟩; obtain rfl := first_one hr HF.out; have HB1 := Lib.hid (((Below.refl w.heap.size w).alloc (Nat.le_refl _) (.cells #[.int .i64 n, .slice A ps.length cap] 31)).trans (hb1.mono (by simp))); have a0 := (hb1.cell (p := ⟨w.heap.size, 0, none⟩) (by simp)).trans (show (w.alloc (.cells #[.int .i64 n, .slice A ps.length cap] 31)).cell? ⟨w.heap.size, 0, none⟩ = some (.int .i64 n) by go_simp); have a1 := (hb1.cell (p := ⟨w.heap.size, 1, none⟩) (by simp)).trans (show (w.alloc (.cells #[.int .i64 n, .slice A ps.length cap] 31)).cell? ⟨w.heap.size, 1, none⟩ = some (.slice A ps.length cap) by go_simp); clear hb1 hr)
    | (go_at_call 54; refine (H.out w1 HB1.out).mono ?_; rintro e w2 ⟨rfl, hb2⟩; have HB2 := Lib.hid (HB1.out.trans (hb2.mono HB1.out.size)); clear hb2))
  go_ret2
  exact (GivesVI.none HB2.out).any
set_option maxHeartbeats 4000000 in
set_option maxRecDepth 100000 in
theorem sturn_same (i : Nat) (n : Int) (A : Option Addr) (cap : Nat) (ps : List Pp) (AV : Option Addr) (capv : Nat) (vs : List Vv) (x : Int) (sh : Bool) (w : World) (h : PAt w A ps) (hm : ps.length ≤ maxLen) (hv : VAt w AV vs) (hmv : vs.length ≤ maxLen) (hb : goodV n ps vs = true) (hi : i < vs.length) (hf : FirstV vs (qi x) (i : Int)) (hs : (vAt vs i).sh = sh) :
    Calls Try.prog 35 #[nv n A ps.length cap, .slice AV vs.length capv, .int .i64 x, .bool sh] w (GivesVA w [] false) := by
  have hv10 : vs.length ≤ 10 := (goodV_of hb).2.1
  have hk0 : (0 : Int) ≤ (i : Int) := by omega
  have hkn : (i : Int) < (vs.length : Int) := by omega
  have H := Lib.hid (fun w' (hb' : Below w.heap.size w w') => sgoodv_t hb A cap AV capv w' (h.kept hb' (Nat.le_refl _)) hm (hv.kept hb' (Nat.le_refl _)) hmv)
  have HA := Lib.hid (fun w' (hb' : Below w.heap.size w w') => hv.kept hb' (Nat.le_refl _))
  have HF := Lib.hid hf
  have HM := Lib.hid hmv
  obtain ⟨b, off, hA, _, _, _, _, _⟩ := hv.at_ hi
  subst hA
  have HC := Lib.hid (fun w' (hb' : Below w.heap.size w w') => by
    obtain ⟨b', off', hA, _, _, _, _, h3⟩ := (hv.kept hb' (Nat.le_refl _)).at_ hi
    simp only [Option.some.injEq, Addr.mk.injEq, and_true] at hA
    obtain ⟨rfl, rfl⟩ := hA
    rw [hs] at h3
    exact (show w'.cell? ⟨b, off + i * 4 + 3, none⟩ = some (.bool sh) from h3))
  clear h hm hv hmv hb hf hs
  go_enter Try.func35, Try.ntmps35
  cases sh <;> (
    go_wp2_with (first
      | (go_at_call 75; refine (sfindv_any _ capv vs x _ (HA.out _ ((Below.refl w.heap.size w).alloc (Nat.le_refl _) (.cells #[.int .i64 n, .slice A ps.length cap] 31))) HM.out).mono ?_; rintro e w1 ⟨⟨r, rfl, hr⟩, hb1⟩; obtain rfl := first_one hr HF.out; have HB1 := Lib.hid (((Below.refl w.heap.size w).alloc (Nat.le_refl _) (.cells #[.int .i64 n, .slice A ps.length cap] 31)).trans (hb1.mono (by simp))); have a0 := (hb1.cell (p := ⟨w.heap.size, 0, none⟩) (by simp)).trans (show (w.alloc (.cells #[.int .i64 n, .slice A ps.length cap] 31)).cell? ⟨w.heap.size, 0, none⟩ = some (.int .i64 n) by go_simp); have a1 := (hb1.cell (p := ⟨w.heap.size, 1, none⟩) (by simp)).trans (show (w.alloc (.cells #[.int .i64 n, .slice A ps.length cap] 31)).cell? ⟨w.heap.size, 1, none⟩ = some (.slice A ps.length cap) by go_simp); clear hb1 hr)
      | (go_at_call 54; refine (H.out w1 HB1.out).mono ?_; rintro e w2 ⟨rfl, hb2⟩; have HB2 := Lib.hid (HB1.out.trans (hb2.mono HB1.out.size)); clear hb2; have c3 := HC.out w2 HB2.out))
    go_ret2
    exact (GivesVI.none HB2.out).any)
set_option maxHeartbeats 4000000 in
set_option maxRecDepth 100000 in
theorem sturn_yes (i : Nat) (n : Int) (A : Option Addr) (cap : Nat) (ps : List Pp) (AV : Option Addr) (capv : Nat) (vs : List Vv) (x : Int) (sh : Bool) (w : World) (h : PAt w A ps) (hm : ps.length ≤ maxLen) (hv : VAt w AV vs) (hmv : vs.length ≤ maxLen) (hb : goodV n ps vs = true) (hi : i < vs.length) (hf : FirstV vs (qi x) (i : Int)) (hs : (vAt vs i).sh = !sh) :
    Calls Try.prog 35 #[nv n A ps.length cap, .slice AV vs.length capv, .int .i64 x, .bool sh] w (GivesVA w (turnL vs i sh) true) := by
  have hv10 : vs.length ≤ 10 := (goodV_of hb).2.1
  have hk0 : (0 : Int) ≤ (i : Int) := by omega
  have hkn : (i : Int) < (vs.length : Int) := by omega
  have H := Lib.hid (fun w' (hb' : Below w.heap.size w w') => sgoodv_t hb A cap AV capv w' (h.kept hb' (Nat.le_refl _)) hm (hv.kept hb' (Nat.le_refl _)) hmv)
  have HA := Lib.hid (fun w' (hb' : Below w.heap.size w w') => hv.kept hb' (Nat.le_refl _))
  have HF := Lib.hid hf
  have HM := Lib.hid hmv
  obtain ⟨b, off, hA, _, _, _, _, _⟩ := hv.at_ hi
  subst hA
  have HC := Lib.hid (fun w' (hb' : Below w.heap.size w w') => by
    obtain ⟨b', off', hA, _, _, _, _, h3⟩ := (hv.kept hb' (Nat.le_refl _)).at_ hi
    simp only [Option.some.injEq, Addr.mk.injEq, and_true] at hA
    obtain ⟨rfl, rfl⟩ := hA
    rw [hs] at h3
    exact (show w'.cell? ⟨b, off + i * 4 + 3, none⟩ = some (.bool (!sh)) from h3))
  have HS := Lib.hid (fun (w' : World) (hb' : Below w.heap.size w w') => sturned_any b off capv i vs sh w' (hv.kept hb' (Nat.le_refl _)) hv10 hi)
  clear h hm hv hmv hb hf hs
  go_enter Try.func35, Try.ntmps35
  cases sh <;> (
    go_wp2_with (first
      | (go_at_call 75; refine (sfindv_any _ capv vs x _ (HA.out _ ((Below.refl w.heap.size w).alloc (Nat.le_refl _) (.cells #[.int .i64 n, .slice A ps.length cap] 31))) HM.out).mono ?_; rintro e w1 ⟨⟨r, rfl, hr⟩, hb1⟩; obtain rfl := first_one hr HF.out; have HB1 := Lib.hid (((Below.refl w.heap.size w).alloc (Nat.le_refl _) (.cells #[.int .i64 n, .slice A ps.length cap] 31)).trans (hb1.mono (by simp))); have a0 := (hb1.cell (p := ⟨w.heap.size, 0, none⟩) (by simp)).trans (show (w.alloc (.cells #[.int .i64 n, .slice A ps.length cap] 31)).cell? ⟨w.heap.size, 0, none⟩ = some (.int .i64 n) by go_simp); have a1 := (hb1.cell (p := ⟨w.heap.size, 1, none⟩) (by simp)).trans (show (w.alloc (.cells #[.int .i64 n, .slice A ps.length cap] 31)).cell? ⟨w.heap.size, 1, none⟩ = some (.slice A ps.length cap) by go_simp); clear hb1 hr)
      | (go_at_call 54; refine (H.out w1 HB1.out).mono ?_; rintro e w2 ⟨rfl, hb2⟩; have HB2 := Lib.hid (HB1.out.trans (hb2.mono HB1.out.size)); clear hb2; have c3 := HC.out w2 HB2.out)
      | (go_at_call 76; refine (HS.out w2 HB2.out).mono ?_; rintro e w3 ⟨g, cg, rfl, hg, hv3, hb3, hl3⟩; have HB3 := Lib.hid (HB2.out.trans (hb3.mono HB2.out.size)); have hg9 := Nat.le_trans HB2.out.size hg; clear hb3))
    go_ret2
    exact ⟨g, cg, by rw [turnL_len]; rfl, hg9, hv3, HB3.out, hl3⟩)
end Go.Proofs.Ytmkpgkhfbhdhgaa.S2
