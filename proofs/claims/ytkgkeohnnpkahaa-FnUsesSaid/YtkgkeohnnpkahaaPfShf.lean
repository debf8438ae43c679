/- The shifted profile, the program's and the model's: contracts. Conditions: each theorem's own premises. -/
import Derived.Test.YtkgkeohnnpkahaaPfBox
import Derived.Test.YtkgkeohnnpkahaaPfUse
import Derived.Deep.RegionLaw
import Derived.Deep.RegionHeld3
namespace Go.Proofs.Ytkgkeohnnpkahaa.S6
open Go.RowKit P6

theorem two_below (w : World) (o o2 : Obj) : Below w.heap.size w ((w.alloc o).alloc o2) := ((Below.refl _ _).alloc (Nat.le_refl _) _).alloc (by simp) _
theorem two_cells {w w1 : World} {x y : Value} {t u : TypeId} (hb : Below ((w.alloc (.cells #[x] t)).alloc (.cells #[y] u)).heap.size ((w.alloc (.cells #[x] t)).alloc (.cells #[y] u)) w1) :
    Below (w.heap.size + 2) ((w.alloc (.cells #[x] t)).alloc (.cells #[y] u)) w1 ∧ w1.cell? ⟨w.heap.size, 0, none⟩ = some x ∧ w1.cell? ⟨w.heap.size + 1, 0, none⟩ = some y ∧ w1.frozen? ⟨w.heap.size + 1, 0, none⟩ = false ∧ w.heap.size + 2 ≤ w1.heap.size := by
  have h : Below (w.heap.size + 2) ((w.alloc (.cells #[x] t)).alloc (.cells #[y] u)) w1 := by simpa using hb
  obtain ⟨h0, h1⟩ := box21 h
  refine ⟨h, h0, h1, ?_, by have := h.size; simp at this; omega⟩
  rw [h.frozen (p := ⟨w.heap.size + 1, 0, none⟩) (by show w.heap.size + 1 < w.heap.size + 2; omega)]
  rw [show w.heap.size + 1 = (w.alloc (.cells #[x] t)).heap.size by simp]
  simp only [World.frozen?_alloc_new]
set_option maxHeartbeats 2000000 in
theorem shf_no (A : Option Addr) (cap : Nat) (l : List Int) (x : Int) (w : World) (h : IAt w A l) (hm : l.length ≤ 1048576) (hn : (gdB l && hoB x) = false) :
    Calls Try.prog 17 #[dv A l.length cap, .int .i64 x] w (GivesPN w) := by
  obtain ⟨v, hv⟩ : ∃ v, gdB l = v := ⟨_, rfl⟩
  have HV := Lib.hid (fun w' (hb : Below w.heap.size w w') => valid_v hv A cap w' (h.kept hb (Nat.le_refl _)) hm)
  have HH := Lib.hid (fun w => hour_any x w)
  rw [hv] at hn
  clear h hv
  generalize hoB x = vx at *
  go_enter Try.func17, Try.ntmps17
  cases v <;> cases vx <;> first | (exact absurd hn (by decide)) | skip
  all_goals
    clear hn
    go_wp2_with (first
      | (go_at_call 21; refine (HV.out _ (two_below _ _ _)).mono ?_; rintro e w1 ⟨rfl, hb1⟩; obtain ⟨hB, c0, c1, f1, hz⟩ := two_cells hb1)
      | (go_at_call 56; refine (HH.out _).mono ?_; rintro e w1y ⟨rfl, hw⟩; replace hw := hw.symm; subst hw))
    refine bodyPost_ret (v := .tuple #[dv none 0 0, .bool false]) (by simp [results, Try.results17, go_sem, c1]) rfl ⟨rfl, (under2 hB).setCell (p := ⟨w.heap.size + 1, 0, none⟩) (by show w.heap.size ≤ w.heap.size + 1; omega) _⟩
set_option maxHeartbeats 2000000 in
theorem sshf_no (A : Option Addr) (cap : Nat) (l : List Int) (x : Int) (w : World) (h : IAt w A l) (hm : l.length ≤ 1048576) (hn : (gdB l && hoB x) = false) :
    Calls Try.prog 18 #[dv A l.length cap, .int .i64 x] w (GivesPN w) := by
  obtain ⟨v, hv⟩ : ∃ v, gdB l = v := ⟨_, rfl⟩
  have HV := Lib.hid (fun w' (hb : Below w.heap.size w w') => sgood_v hv A cap w' (h.kept hb (Nat.le_refl _)) hm)
  have HH := Lib.hid (fun w => shour_any x w)
  rw [hv] at hn
  clear h hv
  generalize hoB x = vx at *
  go_enter Try.func18, Try.ntmps18
  cases v <;> cases vx <;> first | (exact absurd hn (by decide)) | skip
  all_goals
    clear hn
    go_wp2_with (first
      | (go_at_call 57; refine (HV.out _ (two_below _ _ _)).mono ?_; rintro e w1 ⟨rfl, hb1⟩; obtain ⟨hB, c0, c1, f1, hz⟩ := two_cells hb1)
      | (go_at_call 58; refine (HH.out _).mono ?_; rintro e w1y ⟨rfl, hw⟩; replace hw := hw.symm; subst hw))
    refine bodyPost_ret (v := .tuple #[dv none 0 0, .bool false]) (by simp [results, Try.results18, go_sem, c1]) rfl ⟨rfl, (under2 hB).setCell (p := ⟨w.heap.size + 1, 0, none⟩) (by show w.heap.size ≤ w.heap.size + 1; omega) _⟩

abbrev tB (w : World) (A : Option Addr) (cap : Nat) (wr : World) : Prop := Below (w.heap.size + 2) ((w.alloc (.cells #[.slice A 24 cap] 26)).alloc (.cells #[.slice none 0 0] 26)) wr
theorem tB.parts {w wr : World} {A : Option Addr} {cap : Nat} (h : tB w A cap wr) : wr.cell? ⟨w.heap.size, 0, none⟩ = some (.slice A 24 cap) ∧ wr.cell? ⟨w.heap.size + 1, 0, none⟩ = some (.slice none 0 0) ∧ wr.frozen? ⟨w.heap.size + 1, 0, none⟩ = false ∧ w.heap.size + 2 ≤ wr.heap.size := by
  obtain ⟨_, b, c, d, e⟩ := two_cells (w := w) (w1 := wr) (x := .slice A 24 cap) (y := .slice none 0 0) (t := 26) (u := 26) (by simpa using h)
  exact ⟨b, c, d, e⟩
theorem fi_end (l : List Int) (n : Nat) (h : l.length = n) : (fiI l n) = l.map iv := by rw [← h]; exact fiI_full l
/-- The cells of a row of 24 numbers, made of zeros. -/
theorem made24 (w : World) : (w.alloc (.cells (madeCells #[.int .i64 0] 24) 3)).ownsRow w.heap.size 3 1 (.slice (some ⟨w.heap.size, 0, none⟩) 24 24) 24 ((List.replicate 24 (0 : Int)).map iv) := by
  have h := made_own (List.replicate 24 0) w (by simp)
  rw [List.length_replicate] at h
  have e : fiI (List.replicate 24 0) 0 = (List.replicate 24 (0 : Int)).map iv := by simp [fiI]
  rw [e] at h
  exact h
theorem map_set (l : List Int) (i : Nat) (x : Int) : (l.map iv).set i (iv x) = (l.set i x).map iv := by rw [List.map_set]
set_option maxHeartbeats 4000000 in
theorem shf_yes (A : Option Addr) (cap : Nat) (l : List Int) (hh : Nat) (w : World) (h : IAt w A l) (g : Gd l) (hx : hh < 24) :
    Calls Try.prog 17 #[dv A l.length cap, .int .i64 (hh : Int)] w (GivesPI w (shL l hh) true) := by
  have hl := g.1
  have HV := Lib.hid (fun w' (hb : Below w.heap.size w w') => valid_v (gd_mk g) A cap w' (h.kept hb (Nat.le_refl _)) (by omega))
  rw [hl] at HV ⊢
  have HH := Lib.hid (fun w => hour_any (hh : Int) w)
  rw [show hoB (hh : Int) = true by simp [hoB]; omega] at HH
  have hmk := run_make_row' (P := Try.prog) 24 3 (.int .i64 0) 8 Try.underlying24 infoI rfl .i64 .i64 24 (by omega) (by omega)
  simp only [show ((24 : Nat) : Int) = 24 from rfl] at hmk
  obtain ⟨bb, off, hA, hbl, hcell⟩ : ∃ b off, A = some ⟨b, off, none⟩ ∧ b < w.heap.size ∧ ∀ i, i < 24 → w.cell? ⟨b, off + i, none⟩ = some (iv (at0 l i)) := by
    rcases h with h | ⟨b, off, hA, hlt, h⟩
    · subst h; simp at hl
    · exact ⟨b, off, hA, hlt, fun i hi => h i (by omega)⟩
  subst hA
  have HC := Lib.hid hcell
  clear h g hl hcell
  go_enter Try.func17, Try.ntmps17
  go_wp2_with (first
    | (go_at_call 21; refine (HV.out _ (two_below _ _ _)).mono ?_; rintro e w1 ⟨rfl, hb1⟩; obtain ⟨hB, c0, c1, f1, hz⟩ := two_cells hb1; have hzl : w.heap.size < w1.heap.size := (by omega); have hzl1 : w.heap.size + 1 < w1.heap.size := (by omega))
    | (go_at_call 56; refine (HH.out _).mono ?_; rintro e w1y ⟨rfl, hw⟩; replace hw := hw.symm; subst hw))
  have HO := Lib.hid (made24 w1)
  have HB := Lib.hid (show tB w (some ⟨bb, off, none⟩) cap (w1.alloc (.cells (madeCells #[.int .i64 0] 24) 3)) from hB.alloc (by omega) _)
  have HZ := Lib.hid (shP_zero l hh)
  clear hmk hB c0 c1 f1 hb1
  go_loopw [22] (fun i wr => ∃ k : Nat, k ≤ 24 ∧ i = .int .i64 k ∧ Hid (IOwn wr w1.heap.size (.slice (some ⟨w1.heap.size, 0, none⟩) 24 24) (shP l hh k)) ∧ tB w (some ⟨bb, off, none⟩) cap wr) (fun i _ => 24 - (intOf i).toNat)
  case atStart => exact ⟨0, by omega, rfl, Lib.hid (by unfold IOwn; rw [shP_len, HZ.out]; exact HO.out), HB.out⟩
  case round =>
    clear HO HB
    obtain ⟨k, hk, rfl, hown, hb⟩ := hrel
    obtain ⟨c0, c1, f1, hz3⟩ := tB.parts hb
    by_cases hlt : k < 24
    · have h1 := (hb.cell (p := ⟨bb, off + k, none⟩) (by show bb < _; omega)).trans ((World.cell?_alloc_past (w := w.alloc _) _ _ _ (by simp; omega)).trans ((World.cell?_alloc_past _ _ _ hbl).trans (HC.out k hlt)))
      have hm := tmod_nat (k + hh) 24
      have hM : (k + hh) % 24 < 24 := Nat.mod_lt _ (by omega)
      rw [Int.natCast_add, show ((24 : Nat) : Int) = 24 from rfl] at hm
      have HN := Lib.hid (shP_next l hh k hx hlt)
      generalize at0 l k = x at *
      generalize (k + hh) % 24 = M at *
      have ho := hown.out
      unfold IOwn at ho
      rw [shP_len] at ho
      have hcell := (ho.cellAt M (by omega)).trans (List.getElem?_eq_getElem (by simp [shP_len]; exact hM))
      generalize ((shP l hh k).map iv)[M]'(by simp [shP_len]; exact hM) = u at hcell
      have hfz := ho.frozenAt M
      have hst0 := Lib.hid (ho.stored M (iv x))
      rw [map_set, HN.out] at hst0
      clear ho hown HN
      go_wp2
      go_roundw
      case rel => exact ⟨k + 1, by omega, by go_num, Lib.hid (by unfold IOwn; rw [shP_len]; exact hst0.out.1), hb.setCell (p := ⟨w1.heap.size, M, none⟩) (by show w.heap.size + 2 ≤ w1.heap.size; omega) _⟩
      case measure => simp [intOf]; omega
    · have e : k = 24 := by omega
      subst e
      rw [shP_all] at hown
      go_wp2_with fail
      refine bodyPost_ret (v := .tuple #[dv (some ⟨w1.heap.size, 0, none⟩) (shL l hh).length 24, .bool true]) (by simp [results, Try.results17, go_sem, c1, shL_len]) rfl ⟨w1.heap.size, 24, rfl, by omega, ?_, (under2 hb).setCell (p := ⟨w.heap.size + 1, 0, none⟩) (by show w.heap.size ≤ w.heap.size + 1; omega) _⟩
      have e2 : (shL l hh).length = 24 := shL_len _ _
      rw [e2]
      exact own_lower (ownsRow_setCell_below hown.out (show w.heap.size + 1 < w1.heap.size by omega) _) (by omega)
theorem at_taken (l : List Int) (k : Nat) (h : k < l.length) : l.take (k + 1) = l.take k ++ [at0 l k] := by
  rw [List.take_succ_eq_append_getElem h, at_lt h]
set_option maxHeartbeats 8000000 in
theorem sshf_yes (A : Option Addr) (cap : Nat) (l : List Int) (hh : Nat) (w : World) (h : IAt w A l) (g : Gd l) (hx : hh < 24) :
    Calls Try.prog 18 #[dv A l.length cap, .int .i64 (hh : Int)] w (GivesPA w (shL l hh) true) := by
  have hl := g.1
  have HV := Lib.hid (fun w' (hb : Below w.heap.size w w') => sgood_v (gd_mk g) A cap w' (h.kept hb (Nat.le_refl _)) (by omega))
  rw [hl] at HV ⊢
  have HH := Lib.hid (fun w => shour_any (hh : Int) w)
  rw [show hoB (hh : Int) = true by simp [hoB]; omega] at HH
  obtain ⟨i0, hi, hz0, hz1, hz2⟩ := info_parts infoI
  obtain ⟨bb, off, hA, hbl, hcell⟩ : ∃ b off, A = some ⟨b, off, none⟩ ∧ b < w.heap.size ∧ ∀ i, i < 24 → w.cell? ⟨b, off + i, none⟩ = some (iv (at0 l i)) := by
    rcases h with h | ⟨b, off, hA, hlt, h⟩
    · subst h; simp at hl
    · exact ⟨b, off, hA, hlt, fun i hi => h i (by omega)⟩
  subst hA
  have HC := Lib.hid hcell
  clear h g hl hcell
  refine Calls.mono ?_ (fun e w' h => GivesPI.any h)
  go_enter Try.func18, Try.ntmps18
  go_wp2_with (first
    | (go_at_call 57; refine (HV.out _ (two_below _ _ _)).mono ?_; rintro e w1 ⟨rfl, hb1⟩; obtain ⟨hB, c0, c1, f1, hz⟩ := two_cells hb1)
    | (go_at_call 58; refine (HH.out _).mono ?_; rintro e w1y ⟨rfl, hw⟩; replace hw := hw.symm; subst hw))
  have HO := Lib.hid (OB.start w1 26)
  have HB := Lib.hid (show tB w (some ⟨bb, off, none⟩) cap (w1.alloc (.cells #[.slice none 0 0] 26)) from hB.alloc (by omega) _)
  have HT := Lib.hid (fun k (hk : k < 24) => at_taken (shL l hh) k (by rw [shL_len]; exact hk))
  have HTL := Lib.hid (fun k (hk : k ≤ 24) => (show ((shL l hh).take k).length = k by rw [List.length_take, shL_len]; omega))
  have HTA := Lib.hid (show (shL l hh).take 24 = shL l hh from List.take_of_length_le (by rw [shL_len]; omega))
  clear hB c0 c1 f1 hb1
  go_loopw [7] (fun i wr => ∃ (k : Nat) (v : Value), k ≤ 24 ∧ i = .int .i64 k ∧ Hid (OB wr w1.heap.size v ((shL l hh).take k)) ∧ Hid (tB w (some ⟨bb, off, none⟩) cap wr)) (fun i _ => 24 - (intOf i).toNat)
  case atStart => exact ⟨0, _, by omega, rfl, HO, HB⟩
  case round =>
    clear HO HB
    obtain ⟨k, v, hk, rfl, hO, hb⟩ := hrel
    obtain ⟨c0, c1, f1, hz3⟩ := tB.parts hb.out
    have c2 := hO.out.cell
    have f2 := hO.out.froz
    have hlt0 := hO.out.lt
    by_cases hlt : k < 24
    · have h1 := (hb.out.cell (p := ⟨bb, off + (k + 24 - hh) % 24, none⟩) (by show bb < _; omega)).trans ((World.cell?_alloc_past (w := w.alloc _) _ _ _ (by simp; omega)).trans ((World.cell?_alloc_past _ _ _ hbl).trans (HC.out ((k + 24 - hh) % 24) (by omega))))
      have hm := tmod_nat (k + 24 - hh) 24
      have hM : (k + 24 - hh) % 24 < 24 := Nat.mod_lt _ (by omega)
      rw [show ((k + 24 - hh : Nat) : Int) = (k : Int) + 24 - (hh : Int) by omega, show ((24 : Nat) : Int) = 24 from rfl] at hm
      have HE := Lib.hid (HT.out k hlt)
      rw [shL_at l hh k hlt] at HE
      generalize at0 l ((k + 24 - hh) % 24) = x at *
      generalize (k + 24 - hh) % 24 = M at *
      have hne : some w1.heap.size ≠ v.ownBlock := fun e => by have := (World.ownsRow.lt hO.out.own w1.heap.size e.symm).1; omega
      have hne0 : some w.heap.size ≠ v.ownBlock := fun e => by have := (World.ownsRow.lt hO.out.own w.heap.size e.symm).1; omega
      have hneb : some bb ≠ v.ownBlock := fun e => by have := (World.ownsRow.lt hO.out.own bb e.symm).1; omega
      have hW := Lib.hid (((Below.refl wr.heap.size wr).alloc (Nat.le_refl _) (.cells #[iv x] 3)).drew)
      have hlk := HTL.out k (by omega)
      have hw1 : IntKind.i64.wrap ((k : Int) + 24) = (k : Int) + 24 := IntWalk.i64_in _ (by omega)
      have hw2 : IntKind.i64.wrap ((k : Int) + 24 - (hh : Int)) = (k : Int) + 24 - (hh : Int) := IntWalk.i64_in _ (by omega)
      have hw3 : IntKind.i64.wrap (M : Int) = (M : Int) := IntWalk.i64_in _ (by omega)
      have hM0 : (0 : Int) ≤ (M : Int) := by omega
      have hM9 : (M : Int) < 24 := by omega
      go_wp2_with fail
      refine wp_region_held_drew (S := fun w' => w'.cell? ⟨w.heap.size, 0, none⟩ = some (.slice (some ⟨bb, off, none⟩) 24 cap) ∧ w'.cell? ⟨bb, off + M, none⟩ = some (iv x)) (by kernel_rfl) (by exact ⟨c0, h1⟩) (fun hHeld => ?_)
      refine wpAnyH_take (i := 0) (v := .pointer (some ⟨w1.heap.size, 0, none⟩)) rfl (by kernel_rfl) (by kernel_rfl) (by kernel_rfl) (fun _ _ _ h => h) (Or.inl ⟨by rfl, ?_⟩) (by assumption) ?_
      · (intro w hSw; (try dsimp only at hSw); go_simp)
      simp only [Act.put, List.setIfInBounds_toArray]
      refine wpAnyH_take (i := 2) (v := .pointer (some ⟨w.heap.size, 0, none⟩)) rfl (by kernel_rfl) (by kernel_rfl) (by kernel_rfl) (fun _ _ _ h => h) (Or.inl ⟨by rfl, ?_⟩) (by assumption) ?_
      · (intro w hSw; (try dsimp only at hSw); go_simp)
      simp only [Act.put]
      refine wpAnyH_take (i := 3) (v := .slice (some ⟨bb, off, none⟩) 24 cap) rfl (by kernel_rfl) (by kernel_rfl) (by kernel_rfl) (fun _ _ _ h => h) (Or.inl ⟨by rfl, ?_⟩) (by assumption) ?_
      · (intro w hSw; (try dsimp only at hSw); go_simp)
      simp only [Act.put]
      refine wpAnyH_take (i := 4) (v := .int .i64 (k : Int)) rfl (by kernel_rfl) (by kernel_rfl) (by kernel_rfl) (fun _ _ _ h => h) (Or.inl ⟨by rfl, ?_⟩) (by assumption) ?_
      · (intro w hSw; (try dsimp only at hSw); go_simp)
      simp only [Act.put]
      refine wpAnyH_take (i := 5) (v := .int .i64 ((k : Int) + 24)) rfl (by kernel_rfl) (by kernel_rfl) (by kernel_rfl) (fun _ _ _ h => h) (Or.inl ⟨by rfl, ?_⟩) (by assumption) ?_
      · (intro w hSw; (try dsimp only at hSw); go_simp)
      simp only [Act.put]
      refine wpAnyH_take (i := 6) (v := .int .i64 (hh : Int)) rfl (by kernel_rfl) (by kernel_rfl) (by kernel_rfl) (fun _ _ _ h => h) (Or.inl ⟨by rfl, ?_⟩) (by assumption) ?_
      · (intro w hSw; (try dsimp only at hSw); go_simp)
      simp only [Act.put]
      refine wpAnyH_take (i := 7) (v := .int .i64 ((k : Int) + 24 - (hh : Int))) rfl (by kernel_rfl) (by kernel_rfl) (by kernel_rfl) (fun _ _ _ h => h) (Or.inl ⟨by rfl, ?_⟩) (by assumption) ?_
      · (intro w hSw; (try dsimp only at hSw); go_simp)
      simp only [Act.put]
      refine wpAnyH_take (i := 8) (v := .int .i64 (M : Int)) rfl (by kernel_rfl) (by kernel_rfl) (by kernel_rfl) (fun _ _ _ h => h) (Or.inl ⟨by rfl, ?_⟩) (by assumption) ?_
      · (intro w hSw; (try dsimp only at hSw); go_simp)
      simp only [Act.put]
      refine wpAnyH_take (i := 9) (v := .pointer (some ⟨bb, off + M, none⟩)) rfl (by kernel_rfl) (by kernel_rfl) (by kernel_rfl) (fun _ _ _ h => h) (Or.inl ⟨by rfl, ?_⟩) (by assumption) ?_
      · (intro w hSw; (try dsimp only at hSw); go_simp)
      simp only [Act.put]
      refine wpAnyH_take (i := 10) (v := iv x) rfl (by kernel_rfl) (by kernel_rfl) (by kernel_rfl) (fun _ _ _ h => h) (Or.inl ⟨by rfl, ?_⟩) (by assumption) ?_
      · (intro w hSw; (try dsimp only at hSw); go_simp)
      simp only [Act.put]
      refine wpAnyH_ready (rs := [1, 11]) (by kernel_rfl) (by simp) ?_
      refine AllReadyH.cons rfl (fun K hK => ?_) (AllReadyH.cons rfl (fun K hK => ?_) AllReadyH.nil)
      · go_simp
        refine hK.out _ _ (by first | assumption | go_keep) (fun hHeld => ?_)
        clear hK K
        refine wpAnyH_ready (rs := [11]) (by kernel_rfl) (by simp) ?_
        refine AllReadyH.cons rfl (fun K hK => ?_) AllReadyH.nil
        go_simp
        refine hK.out _ _ (by first | assumption | go_keep) (fun hHeld => ?_)
        clear hK K
        refine wpAnyH_ready (rs := [12]) (by kernel_rfl) (by simp) ?_
        refine AllReadyH.cons rfl (fun K hK => ?_) AllReadyH.nil
        refine step_append_lies _ (by rfl) _ _ _ (by rfl) (w1.heap.size + 1) 3 i0 (.int .i64 0) 1 8 Try.underlying24 hi hz0 hz1 hz2 rfl (by decide) v ((shL l hh).take k).length (((shL l hh).take k).map iv) (by rfl) ((hO.out.own.alloc _).drew)
          ⟨wr.heap.size, 0, none⟩ 1 1 [iv x] (by rfl) (by rfl) (World.news_of_block (cs := #[iv x]) (t := 3) (fr := (0, 0)) (by exact heap_alloc_new wr (.cells #[iv x] 3))) (by simp [Value.oneCell'])
          (by omega) (by simp only [maxLen]; omega) (by omega) (by simp; omega) (wr.heap.size + 1) (by simp) ?_
        intro gg cap' w4 hown4 hgrow _ _
        have cell4 : w4.cell? ⟨w1.heap.size, 0, none⟩ = some v := (hgrow.cell_far ⟨w1.heap.size, 0, none⟩ (by show w1.heap.size < _; simp; omega) hne).trans ((hW.out.cell (p := ⟨w1.heap.size, 0, none⟩) hlt0).trans c2)
        have froz4 : w4.frozen? ⟨w1.heap.size, 0, none⟩ = false := (World.frozen?_of_block (hgrow.block w1.heap.size (by simp; omega) hne)).trans ((hW.out.frozen (p := ⟨w1.heap.size, 0, none⟩) hlt0).trans f2)
        have c04 : w4.cell? ⟨w.heap.size, 0, none⟩ = some (.slice (some ⟨bb, off, none⟩) 24 cap) := (hgrow.cell_far ⟨w.heap.size, 0, none⟩ (by show w.heap.size < _; simp; omega) hne0).trans ((hW.out.cell (p := ⟨w.heap.size, 0, none⟩) (by show w.heap.size < _; omega)).trans c0)
        have h14 : w4.cell? ⟨bb, off + M, none⟩ = some (iv x) := (hgrow.cell_far ⟨bb, off + M, none⟩ (by show bb < _; simp; omega) hneb).trans ((hW.out.cell (p := ⟨bb, off + M, none⟩) (by show bb < _; omega)).trans h1)
        refine hK.out _ _ ⟨c04, h14⟩ (fun hHeld => ?_)
        clear hK K
        refine wpAnyH_ready (rs := [13]) (by kernel_rfl) (by simp) ?_
        refine AllReadyH.cons rfl (fun K hK => ?_) AllReadyH.nil
        go_simp
        refine hK.out _ _ (by first | assumption | go_keep) (fun hHeld => ?_)
        clear hK K
        refine wpAnyH_ready (rs := [14]) (by kernel_rfl) (by simp) ?_
        refine AllReadyH.cons rfl (fun K hK => ?_) AllReadyH.nil
        go_simp
        refine hK.out _ _ ⟨(World.cell?_setCell_far _ _ _ _ (by show w1.heap.size ≠ w.heap.size; omega)).trans c04, (World.cell?_setCell_far _ _ _ _ (by show w1.heap.size ≠ bb; omega)).trans h14⟩ (fun hHeld => ?_)
        clear hK K
        refine wpAnyH_done (by kernel_rfl) ?_ _
        have hpush := Lib.hid (hO.out.push hW.out (x := x) hown4 hgrow)
        have hB4 := Lib.hid (hO.out.below (v' := .slice (some ⟨gg, 0, none⟩) (((shL l hh).take k).length + 1) cap') hb.out hW.out hgrow (show w.heap.size + 2 ≤ w1.heap.size from hz))
        rw [← HE.out, hlk] at hpush
        rw [hlk] at hB4
        go_wp2
        go_roundw
        case rel => exact ⟨k + 1, _, by omega, by go_num, hpush, hB4⟩
        case measure => simp [intOf]; omega
      · go_simp
        refine hK.out _ _ (by first | assumption | go_keep) (fun hHeld => ?_)
        clear hK K
        refine wpAnyH_ready (rs := [1]) (by kernel_rfl) (by simp) ?_
        refine AllReadyH.cons rfl (fun K hK => ?_) AllReadyH.nil
        go_simp
        refine hK.out _ _ (by first | assumption | go_keep) (fun hHeld => ?_)
        clear hK K
        refine wpAnyH_ready (rs := [12]) (by kernel_rfl) (by simp) ?_
        refine AllReadyH.cons rfl (fun K hK => ?_) AllReadyH.nil
        refine step_append_lies _ (by rfl) _ _ _ (by rfl) (w1.heap.size + 1) 3 i0 (.int .i64 0) 1 8 Try.underlying24 hi hz0 hz1 hz2 rfl (by decide) v ((shL l hh).take k).length (((shL l hh).take k).map iv) (by rfl) ((hO.out.own.alloc _).drew)
          ⟨wr.heap.size, 0, none⟩ 1 1 [iv x] (by rfl) (by rfl) (World.news_of_block (cs := #[iv x]) (t := 3) (fr := (0, 0)) (by exact heap_alloc_new wr (.cells #[iv x] 3))) (by simp [Value.oneCell'])
          (by omega) (by simp only [maxLen]; omega) (by omega) (by simp; omega) (wr.heap.size + 1) (by simp) ?_
        intro gg cap' w4 hown4 hgrow _ _
        have cell4 : w4.cell? ⟨w1.heap.size, 0, none⟩ = some v := (hgrow.cell_far ⟨w1.heap.size, 0, none⟩ (by show w1.heap.size < _; simp; omega) hne).trans ((hW.out.cell (p := ⟨w1.heap.size, 0, none⟩) hlt0).trans c2)
        have froz4 : w4.frozen? ⟨w1.heap.size, 0, none⟩ = false := (World.frozen?_of_block (hgrow.block w1.heap.size (by simp; omega) hne)).trans ((hW.out.frozen (p := ⟨w1.heap.size, 0, none⟩) hlt0).trans f2)
        have c04 : w4.cell? ⟨w.heap.size, 0, none⟩ = some (.slice (some ⟨bb, off, none⟩) 24 cap) := (hgrow.cell_far ⟨w.heap.size, 0, none⟩ (by show w.heap.size < _; simp; omega) hne0).trans ((hW.out.cell (p := ⟨w.heap.size, 0, none⟩) (by show w.heap.size < _; omega)).trans c0)
        have h14 : w4.cell? ⟨bb, off + M, none⟩ = some (iv x) := (hgrow.cell_far ⟨bb, off + M, none⟩ (by show bb < _; simp; omega) hneb).trans ((hW.out.cell (p := ⟨bb, off + M, none⟩) (by show bb < _; omega)).trans h1)
        refine hK.out _ _ ⟨c04, h14⟩ (fun hHeld => ?_)
        clear hK K
        refine wpAnyH_ready (rs := [13]) (by kernel_rfl) (by simp) ?_
        refine AllReadyH.cons rfl (fun K hK => ?_) AllReadyH.nil
        go_simp
        refine hK.out _ _ (by first | assumption | go_keep) (fun hHeld => ?_)
        clear hK K
        refine wpAnyH_ready (rs := [14]) (by kernel_rfl) (by simp) ?_
        refine AllReadyH.cons rfl (fun K hK => ?_) AllReadyH.nil
        go_simp
        refine hK.out _ _ ⟨(World.cell?_setCell_far _ _ _ _ (by show w1.heap.size ≠ w.heap.size; omega)).trans c04, (World.cell?_setCell_far _ _ _ _ (by show w1.heap.size ≠ bb; omega)).trans h14⟩ (fun hHeld => ?_)
        clear hK K
        refine wpAnyH_done (by kernel_rfl) ?_ _
        have hpush := Lib.hid (hO.out.push hW.out (x := x) hown4 hgrow)
        have hB4 := Lib.hid (hO.out.below (v' := .slice (some ⟨gg, 0, none⟩) (((shL l hh).take k).length + 1) cap') hb.out hW.out hgrow (show w.heap.size + 2 ≤ w1.heap.size from hz))
        rw [← HE.out, hlk] at hpush
        rw [hlk] at hB4
        go_wp2
        go_roundw
        case rel => exact ⟨k + 1, _, by omega, by go_num, hpush, hB4⟩
        case measure => simp [intOf]; omega
    · have e : k = 24 := by omega
      subst e
      rw [HTA.out] at hO
      obtain ⟨g, capg, rfl, hg⟩ := own_forms hO.out.own (by rw [shL_len]; omega)
      go_wp2_with fail
      refine bodyPost_ret (v := .tuple #[dv (some ⟨g, 0, none⟩) (shL l hh).length capg, .bool true]) (by simp [results, Try.results18, go_sem, c1]) rfl ⟨g, capg, rfl, by omega, ?_, (under2 hb.out).setCell (p := ⟨w.heap.size + 1, 0, none⟩) (by show w.heap.size ≤ w.heap.size + 1; omega) _⟩
      exact own_lower (ownsRow_setCell_below hO.out.own (show w.heap.size + 1 < w1.heap.size + 1 by omega) _) (by omega)
end Go.Proofs.Ytkgkeohnnpkahaa.S6
