/- TurnValve of the program: contracts. Conditions: each theorem's own premises. -/
import Derived.Test.YtmkpgkhfbhdhgaaTurnKit
import Derived.Test.YtmkpgkhfbhdhgaaSegTwo
import Derived.Shelf.Spec.SlicesInsert
import Derived.Deep.DeepCutAuto
namespace Go.Proofs.Ytmkpgkhfbhdhgaa.S2
open Go.RowKit P2 P4

theorem mkv (w : World) (vs : List Vv) (hn : vs.length ≤ 1048576) : ∃ w1 : World, (Instr.makeSlice 33 (.int .i64 (vs.length : Int)) (.int .i64 (vs.length : Int))).run Try.prog w = .ok (.slice (some ⟨w.heap.size, 0, none⟩) vs.length vs.length) w1 ∧ w1.rowIs w.heap.size 59 (vs.length * 4) (vfill vs 0) ∧ Below w.heap.size w w1 := by
  obtain ⟨i0, hi, hz0, hz1, hz2⟩ := info_parts infoV
  have hr := run_make (P := Try.prog) w 33 59 i0 _ Try.underlying33 hi hz0 .i64 .i64 vs.length vs.length (by omega) (Int.le_refl _) (by rw [hz2]; omega) (by omega)
  simp only [Int.toNat_natCast] at hr
  rw [hz1] at hr
  exact ⟨_, hr, made_valves _ _, (Below.refl _ _).alloc (Nat.le_refl _) _⟩
set_option maxHeartbeats 4000000 in
set_option maxRecDepth 100000 in
theorem turn_bad (n : Int) (A : Option Addr) (cap : Nat) (ps : List Pp) (AV : Option Addr) (capv : Nat) (vs : List Vv) (x : Int) (sh : Bool) (w : World) (h : PAt w A ps) (hm : ps.length ≤ maxLen) (hv : VAt w AV vs) (hmv : vs.length ≤ maxLen) (hcv : vs.length ≤ capv) (hcm : capv ≤ maxLen) (hb : goodV n ps vs = false) :
    Calls Try.prog 36 #[nv n A ps.length cap, .slice AV vs.length capv, .int .i64 x, .bool sh] w (GivesVI w [] false) := by
  have H := Lib.hid (fun w' (hb' : Below w.heap.size w w') => validv_v hb A cap AV capv w' (h.kept hb' (Nat.le_refl _)) hm (hv.kept hb' (Nat.le_refl _)) hmv hcv hcm)
  have HA := Lib.hid (fun w' (hb' : Below w.heap.size w w') => hv.kept hb' (Nat.le_refl _))
  clear h hm hv hmv hcv hcm hb
  go_enter Try.func36, Try.ntmps36
  go_wp2_with (go_at_call 19; refine (H.out _ (((Below.refl _ _).alloc (Nat.le_refl _) _).alloc (by simp) _)).mono ?_; rintro e w1 ⟨rfl, hb1⟩; have HB1 := Lib.hid ((((Below.refl w.heap.size w).alloc (Nat.le_refl _) (.cells #[.int .i64 n, .slice A ps.length cap] 31)).alloc (by simp) (.cells #[.int .i64 x] 3)).trans (hb1.mono (by simp; omega))); have c0 := Lib.hid ((hb1.cell (p := ⟨w.heap.size + 1, 0, none⟩) (by simp)).trans (show ((w.alloc (.cells #[.int .i64 n, .slice A ps.length cap] 31)).alloc (.cells #[.int .i64 x] 3)).cell? ⟨w.heap.size + 1, 0, none⟩ = some (.int .i64 x) by go_simp)); clear hb1)
  go_ret2
  exact GivesVI.none HB1.out
set_option maxHeartbeats 4000000 in
set_option maxRecDepth 100000 in
theorem turn_none (n : Int) (A : Option Addr) (cap : Nat) (ps : List Pp) (AV : Option Addr) (capv : Nat) (vs : List Vv) (x : Int) (sh : Bool) (w : World) (h : PAt w A ps) (hm : ps.length ≤ maxLen) (hv : VAt w AV vs) (hmv : vs.length ≤ maxLen) (hcv : vs.length ≤ capv) (hcm : capv ≤ maxLen) (hb : goodV n ps vs = true) (hf : FirstV vs (qi x) (-1)) :
    Calls Try.prog 36 #[nv n A ps.length cap, .slice AV vs.length capv, .int .i64 x, .bool sh] w (GivesVI w [] false) := by
  have hv10 : vs.length ≤ 10 := (goodV_of hb).2.1
  have H := Lib.hid (fun w' (hb' : Below w.heap.size w w') => validv_v hb A cap AV capv w' (h.kept hb' (Nat.le_refl _)) hm (hv.kept hb' (Nat.le_refl _)) hmv hcv hcm)
  have HA := Lib.hid (fun w' (hb' : Below w.heap.size w w') => hv.kept hb' (Nat.le_refl _))
  have HF := Lib.hid hf
  clear h hm hv hmv hcv hcm hb hf
  go_enter Try.func36, Try.ntmps36
  go_wp2_with (first
    | (go_at_call 19; refine (H.out _ (((Below.refl _ _).alloc (Nat.le_refl _) _).alloc (by simp) _)).mono ?_; rintro e w1 ⟨rfl, hb1⟩; have HB1 := Lib.hid ((((Below.refl w.heap.size w).alloc (Nat.le_refl _) (.cells #[.int .i64 n, .slice A ps.length cap] 31)).alloc (by simp) (.cells #[.int .i64 x] 3)).trans (hb1.mono (by simp; omega))); have c0 := Lib.hid ((hb1.cell (p := ⟨w.heap.size + 1, 0, none⟩) (by simp)).trans (show ((w.alloc (.cells #[.int .i64 n, .slice A ps.length cap] 31)).alloc (.cells #[.int .i64 x] 3)).cell? ⟨w.heap.size + 1, 0, none⟩ = some (.int .i64 x) by go_simp)); clear hb1)
    | (go_at_call 77; refine (tidx_any _ capv vs _ x w1 (HA.out w1 HB1.out) (by omega) c0.out).mono ?_; rintro e w2 ⟨⟨r, rfl, hr⟩, hb2⟩; obtain rfl := first_one hr HF.out; have HB2 := Lib.hid (HB1.out.trans (hb2.mono HB1.out.size)); clear hb2 hr))
  go_ret2
  exact GivesVI.none HB2.out
set_option maxHeartbeats 4000000 in
set_option maxRecDepth 100000 in
theorem turn_same (i : Nat) (n : Int) (A : Option Addr) (cap : Nat) (ps : List Pp) (AV : Option Addr) (capv : Nat) (vs : List Vv) (x : Int) (sh : Bool) (w : World) (h : PAt w A ps) (hm : ps.length ≤ maxLen) (hv : VAt w AV vs) (hmv : vs.length ≤ maxLen) (hcv : vs.length ≤ capv) (hcm : capv ≤ maxLen) (hb : goodV n ps vs = true) (hi : i < vs.length) (hf : FirstV vs (qi x) (i : Int)) (hs : (vAt vs i).sh = sh) :
    Calls Try.prog 36 #[nv n A ps.length cap, .slice AV vs.length capv, .int .i64 x, .bool sh] w (GivesVI w [] false) := by
  have hv10 : vs.length ≤ 10 := (goodV_of hb).2.1
  have hk0 : (0 : Int) ≤ (i : Int) := by omega
  have hkn : (i : Int) < (vs.length : Int) := by omega
  have H := Lib.hid (fun w' (hb' : Below w.heap.size w w') => validv_v hb A cap AV capv w' (h.kept hb' (Nat.le_refl _)) hm (hv.kept hb' (Nat.le_refl _)) hmv hcv hcm)
  have HA := Lib.hid (fun w' (hb' : Below w.heap.size w w') => hv.kept hb' (Nat.le_refl _))
  have HF := Lib.hid hf
  obtain ⟨b, off, hA, _, _, _, _, _⟩ := hv.at_ hi
  subst hA
  have HC := Lib.hid (fun w' (hb' : Below w.heap.size w w') => by
    obtain ⟨b', off', hA, _, _, _, _, h3⟩ := (hv.kept hb' (Nat.le_refl _)).at_ hi
    simp only [Option.some.injEq, Addr.mk.injEq, and_true] at hA
    obtain ⟨rfl, rfl⟩ := hA
    rw [hs] at h3
    exact (show w'.cell? ⟨b, off + i * 4 + 3, none⟩ = some (.bool sh) from h3))
  clear h hm hv hmv hcv hcm hb hf hs
  go_enter Try.func36, Try.ntmps36
  cases sh <;> (
    go_wp2_with (first
      | (go_at_call 19; refine (H.out _ (((Below.refl _ _).alloc (Nat.le_refl _) _).alloc (by simp) _)).mono ?_; rintro e w1 ⟨rfl, hb1⟩; have HB1 := Lib.hid ((((Below.refl w.heap.size w).alloc (Nat.le_refl _) (.cells #[.int .i64 n, .slice A ps.length cap] 31)).alloc (by simp) (.cells #[.int .i64 x] 3)).trans (hb1.mono (by simp; omega))); have c0 := Lib.hid ((hb1.cell (p := ⟨w.heap.size + 1, 0, none⟩) (by simp)).trans (show ((w.alloc (.cells #[.int .i64 n, .slice A ps.length cap] 31)).alloc (.cells #[.int .i64 x] 3)).cell? ⟨w.heap.size + 1, 0, none⟩ = some (.int .i64 x) by go_simp)); clear hb1)
      | (go_at_call 77; refine (tidx_any _ capv vs _ x w1 (HA.out w1 HB1.out) (by omega) c0.out).mono ?_; rintro e w2 ⟨⟨r, rfl, hr⟩, hb2⟩; obtain rfl := first_one hr HF.out; have HB2 := Lib.hid (HB1.out.trans (hb2.mono HB1.out.size)); clear hb2 hr; have c3 := HC.out w2 HB2.out))
    go_ret2
    exact GivesVI.none HB2.out)
set_option maxHeartbeats 4000000 in
set_option maxRecDepth 100000 in
theorem turn_yes (i : Nat) (n : Int) (A : Option Addr) (cap : Nat) (ps : List Pp) (AV : Option Addr) (capv : Nat) (vs : List Vv) (x : Int) (sh : Bool) (w : World) (h : PAt w A ps) (hm : ps.length ≤ maxLen) (hv : VAt w AV vs) (hmv : vs.length ≤ maxLen) (hcv : vs.length ≤ capv) (hcm : capv ≤ maxLen) (hb : goodV n ps vs = true) (hi : i < vs.length) (hf : FirstV vs (qi x) (i : Int)) (hs : (vAt vs i).sh = !sh) :
    Calls Try.prog 36 #[nv n A ps.length cap, .slice AV vs.length capv, .int .i64 x, .bool sh] w (GivesVI w (turnL vs i sh) true) := by
  have hv10 : vs.length ≤ 10 := (goodV_of hb).2.1
  have hk0 : (0 : Int) ≤ (i : Int) := by omega
  have hkn : (i : Int) < (vs.length : Int) := by omega
  have H := Lib.hid (fun w' (hb' : Below w.heap.size w w') => validv_v hb A cap AV capv w' (h.kept hb' (Nat.le_refl _)) hm (hv.kept hb' (Nat.le_refl _)) hmv hcv hcm)
  have HA := Lib.hid (fun w' (hb' : Below w.heap.size w w') => hv.kept hb' (Nat.le_refl _))
  have HF := Lib.hid hf
  have HT := Lib.hid (turnL_cell vs i sh hi)
  obtain ⟨b, off, hA, _, _, _, _, _⟩ := hv.at_ hi
  subst hA
  have HC := Lib.hid (fun w' (hb' : Below w.heap.size w w') => by
    obtain ⟨b', off', hA, _, _, _, _, h3⟩ := (hv.kept hb' (Nat.le_refl _)).at_ hi
    simp only [Option.some.injEq, Addr.mk.injEq, and_true] at hA
    obtain ⟨rfl, rfl⟩ := hA
    rw [hs] at h3
    exact (show w'.cell? ⟨b, off + i * 4 + 3, none⟩ = some (.bool (!sh)) from h3))
  have key : ∀ w2 : World, Below w.heap.size w w2 → ∃ w3 w4, (Instr.makeSlice 33 (.int .i64 (vs.length : Int)) (.int .i64 (vs.length : Int))).run Try.prog w2 = .ok (.slice (some ⟨w2.heap.size, 0, none⟩) vs.length vs.length) w3 ∧ (∀ ty, (Builtin.copy_ #[33, 33] ty #[.slice (some ⟨w2.heap.size, 0, none⟩) vs.length vs.length, .slice (some ⟨b, off, none⟩) vs.length capv]).run Try.prog w3 = .ok (goInt vs.length) w4) ∧ VRow w4 w2.heap.size vs ∧ Below w.heap.size w w4 := by
    intro w2 hb2
    obtain ⟨w3, hmk, hrow, hb3⟩ := mkv w2 vs (by omega)
    have hbz := hb2.trans (hb3.mono hb2.size)
    obtain ⟨w4, hcp, hrow4, hg4⟩ := run_copyV w3 3 w2.heap.size vs b off capv (hv.kept hbz (Nat.le_refl _)) _ hrow
    exact ⟨w3, w4, hmk, fun ty => hcp, hrow4, hbz.grown hg4 hbz.size (fun k hk => by simp at hk; have := hb2.size; omega)⟩
  have HK := Lib.hid key
  clear h hm hv hmv hcv hcm hb hf hs key
  go_enter Try.func36, Try.ntmps36
  cases sh <;> (
    go_wp2_with (first
      | (go_at_call 19; refine (H.out _ (((Below.refl _ _).alloc (Nat.le_refl _) _).alloc (by simp) _)).mono ?_; rintro e w1 ⟨rfl, hb1⟩; have HB1 := Lib.hid ((((Below.refl w.heap.size w).alloc (Nat.le_refl _) (.cells #[.int .i64 n, .slice A ps.length cap] 31)).alloc (by simp) (.cells #[.int .i64 x] 3)).trans (hb1.mono (by simp; omega))); have c0 := Lib.hid ((hb1.cell (p := ⟨w.heap.size + 1, 0, none⟩) (by simp)).trans (show ((w.alloc (.cells #[.int .i64 n, .slice A ps.length cap] 31)).alloc (.cells #[.int .i64 x] 3)).cell? ⟨w.heap.size + 1, 0, none⟩ = some (.int .i64 x) by go_simp)); clear hb1)
      | (go_at_call 77; refine (tidx_any _ capv vs _ x w1 (HA.out w1 HB1.out) (by omega) c0.out).mono ?_; rintro e w2 ⟨⟨r, rfl, hr⟩, hb2⟩; obtain rfl := first_one hr HF.out; have HB2 := Lib.hid (HB1.out.trans (hb2.mono HB1.out.size)); clear hb2 hr; have c3 := HC.out w2 HB2.out; have hz2 := HB2.out.size; obtain ⟨w3, w4, hmk, hcp, hrow4, hb4⟩ := HK.out w2 HB2.out; have HCP := Lib.hid hcp; have HR4 := Lib.hid hrow4; have HB4 := Lib.hid hb4; have hl4 := hrow4.lt; have d3 := hrow4.cell (i := i * 4 + 3) (by omega); rw [vcell3] at d3; have fz := hrow4.frozen (i * 4 + 3); clear hcp hrow4 hb4)
      | (with_reducible refine wpList_copy_runI _ rfl (.tmp 35) (.tmp 36) 33 33 rfl _ _ rfl rfl (HCP.out _) ?_))
    go_ret2
    refine ⟨w2.heap.size, by rw [turnL_len]; rfl, hz2, ?_, ?_⟩
    · unfold VRow
      rw [turnL_len]
      exact (World.rowIs.set HR4.out (i * 4 + 3) _).congr fun j _ => (HT.out j).symm
    · exact HB4.out.grown (grown_set (World.grownBy.refl _ (some w2.heap.size)) _ _) HB4.out.size (fun k hk => by simp at hk; omega))
end Go.Proofs.Ytmkpgkhfbhdhgaa.S2
