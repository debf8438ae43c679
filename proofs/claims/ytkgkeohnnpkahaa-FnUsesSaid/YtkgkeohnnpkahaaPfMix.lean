/- The mixed profile, the program's and the model's: contracts. Conditions: each theorem's own premises. -/
import Derived.Test.YtkgkeohnnpkahaaPfShf
import Derived.Test.YtkgkeohnnpkahaaPfPeak
namespace Go.Proofs.Ytkgkeohnnpkahaa.S6
open Go.RowKit P6

def scB (x : Int) : Bool := decide (0 ≤ x ∧ x ≤ 100)
abbrev uB (w : World) (A : Option Addr) (n c : Nat) (A2 : Option Addr) (n2 c2 : Nat) (wr : World) : Prop := Below (w.heap.size + 2) ((w.alloc (.cells #[.slice A n c] 26)).alloc (.cells #[.slice A2 n2 c2] 26)) wr
theorem uB.on {w a b : World} {A A2 : Option Addr} {n c n2 c2 : Nat} (h : uB w A n c A2 n2 c2 a) (hb : Below a.heap.size a b) : uB w A n c A2 n2 c2 b := on_base h (by simp) hb
theorem uB.lt {w a : World} {A A2 : Option Addr} {n c n2 c2 : Nat} (h : uB w A n c A2 n2 c2 a) : w.heap.size < a.heap.size ∧ w.heap.size + 1 < a.heap.size ∧ w.heap.size + 2 ≤ a.heap.size := by have := h.size; simp at this; omega
theorem nil_gives {w a : World} {g : Nat} (hg : w.heap.size ≤ g) (ho : IOwn a w.heap.size (.slice (some ⟨g, 0, none⟩) 0 0) []) (hb : Below w.heap.size w a) : GivesI w [] false (.returned (.tuple #[.slice (some ⟨g, 0, none⟩) 0 0, .bool false])) a := ⟨g, 0, rfl, hg, ho, hb⟩
set_option maxHeartbeats 4000000 in
theorem mix_no (A : Option Addr) (c : Nat) (l : List Int) (A2 : Option Addr) (c2 : Nat) (l2 : List Int) (s : Int) (w : World) (h : IAt w A l) (hm : l.length ≤ 1048576) (h2 : IAt w A2 l2) (hm2 : l2.length ≤ 1048576) (hn : (gdB l && gdB l2 && scB s) = false) :
    Calls Try.prog 38 #[dv A l.length c, dv A2 l2.length c2, .int .i64 s] w (GivesI w [] false) := by
  obtain ⟨v, hv⟩ : ∃ v, gdB l = v := ⟨_, rfl⟩
  obtain ⟨u, hu⟩ : ∃ u, gdB l2 = u := ⟨_, rfl⟩
  have HV := Lib.hid (fun w' (hb : Below w.heap.size w w') => valid_v hv A c w' (h.kept hb (Nat.le_refl _)) hm)
  have HV2 := Lib.hid (fun w' (hb : Below w.heap.size w w') => valid_v hu A2 c2 w' (h2.kept hb (Nat.le_refl _)) hm2)
  rw [hv, hu] at hn
  clear h h2 hv hu
  have hy : v = false ∨ u = false ∨ ¬ (0 ≤ s ∧ s ≤ 100) := by revert hn; unfold scB; cases v <;> cases u <;> simp
  clear hn
  go_enter Try.func38, Try.ntmps38
  cases v <;> cases u
  case true.true =>
    have hy2 : ¬ (0 ≤ s ∧ s ≤ 100) := by simpa using hy
    clear hy
    by_cases hy0 : s < 0
    · clear hy2
      go_wp2_with (first
        | (go_at_call_of 21 (Value.agg #[Value.slice A l.length c]); refine (HV.out _ (two_below _ _ _)).mono ?_; rintro e w1 ⟨rfl, hb1⟩; have hB : uB w A l.length c A2 l2.length c2 w1 := (by simpa using hb1); obtain ⟨c0, c1⟩ := box21 hB; obtain ⟨hz0, hz1, hz2⟩ := hB.lt)
        | (go_at_call_of 21 (Value.agg #[Value.slice A2 l2.length c2]); refine (HV2.out _ (under2 hB)).mono ?_; rintro e w2 ⟨rfl, hb2⟩; have hB := hB.on hb2; obtain ⟨hz0, hz1, hz2⟩ := hB.lt))
      go_ret2
      exact nil_gives (by omega) (own_empty _ w.heap.size (by omega)) ((under2 hB).trans ((alloc_below _ _).mono (by omega)))
    · have hy9 : 100 < s := by omega
      clear hy2
      go_wp2_with (first
        | (go_at_call_of 21 (Value.agg #[Value.slice A l.length c]); refine (HV.out _ (two_below _ _ _)).mono ?_; rintro e w1 ⟨rfl, hb1⟩; have hB : uB w A l.length c A2 l2.length c2 w1 := (by simpa using hb1); obtain ⟨c0, c1⟩ := box21 hB; obtain ⟨hz0, hz1, hz2⟩ := hB.lt)
        | (go_at_call_of 21 (Value.agg #[Value.slice A2 l2.length c2]); refine (HV2.out _ (under2 hB)).mono ?_; rintro e w2 ⟨rfl, hb2⟩; have hB := hB.on hb2; obtain ⟨hz0, hz1, hz2⟩ := hB.lt))
      go_ret2
      exact nil_gives (by omega) (own_empty _ w.heap.size (by omega)) ((under2 hB).trans ((alloc_below _ _).mono (by omega)))
  all_goals
    clear hy
    go_wp2_with (first
      | (go_at_call_of 21 (Value.agg #[Value.slice A l.length c]); refine (HV.out _ (two_below _ _ _)).mono ?_; rintro e w1 ⟨rfl, hb1⟩; have hB : uB w A l.length c A2 l2.length c2 w1 := (by simpa using hb1); obtain ⟨c0, c1⟩ := box21 hB; obtain ⟨hz0, hz1, hz2⟩ := hB.lt)
      | (go_at_call_of 21 (Value.agg #[Value.slice A2 l2.length c2]); refine (HV2.out _ (under2 hB)).mono ?_; rintro e w2 ⟨rfl, hb2⟩; have hB := hB.on hb2; obtain ⟨hz0, hz1, hz2⟩ := hB.lt))
    go_ret2
    exact nil_gives (by omega) (own_empty _ w.heap.size (by omega)) ((under2 hB).trans ((alloc_below _ _).mono (by omega)))
set_option maxHeartbeats 4000000 in
theorem smix_no (A : Option Addr) (c : Nat) (l : List Int) (A2 : Option Addr) (c2 : Nat) (l2 : List Int) (s : Int) (w : World) (h : IAt w A l) (hm : l.length ≤ 1048576) (h2 : IAt w A2 l2) (hm2 : l2.length ≤ 1048576) (hn : (gdB l && gdB l2 && scB s) = false) :
    Calls Try.prog 39 #[dv A l.length c, dv A2 l2.length c2, .int .i64 s] w (GivesA w [] false) := by
  obtain ⟨v, hv⟩ : ∃ v, gdB l = v := ⟨_, rfl⟩
  obtain ⟨u, hu⟩ : ∃ u, gdB l2 = u := ⟨_, rfl⟩
  have HV := Lib.hid (fun w' (hb : Below w.heap.size w w') => sgood_v hv A c w' (h.kept hb (Nat.le_refl _)) hm)
  have HV2 := Lib.hid (fun w' (hb : Below w.heap.size w w') => sgood_v hu A2 c2 w' (h2.kept hb (Nat.le_refl _)) hm2)
  have HI := Lib.hid (fun w => in_any s 0 100 w)
  rw [hv, hu] at hn
  clear h h2 hv hu
  unfold scB at hn
  generalize decide (0 ≤ s ∧ s ≤ 100) = vs at *
  refine Calls.mono ?_ (fun e w' h => GivesI.any h)
  go_enter Try.func39, Try.ntmps39
  cases v <;> cases u <;> cases vs <;> first | (exact absurd hn (by decide)) | skip
  all_goals
    clear hn
    go_wp2_with (first
      | (go_at_call_of 57 (Value.agg #[Value.slice A l.length c]); refine (HV.out _ ((two_below _ _ _).trans ((alloc_below _ _).mono (by simp; omega)))).mono ?_; rintro e w1 ⟨rfl, hb1⟩; have hbb : Below (w.heap.size + 2 + 1) (((w.alloc (.cells #[.slice A l.length c] 26)).alloc (.cells #[.slice A2 l2.length c2] 26)).alloc (.cells #[] 3)) w1 := (by simpa using hb1); have hB : uB w A l.length c A2 l2.length c2 w1 := (((Below.refl _ _).alloc (by simp) _).trans (hbb.mono (by omega))); obtain ⟨c0, c1⟩ := box21 hB; obtain ⟨hz0, hz1, hz2⟩ := hB.lt; have ho := (own_empty ((w.alloc (.cells #[.slice A l.length c] 26)).alloc (.cells #[.slice A2 l2.length c2] 26)) w.heap.size (by simp; omega)).on hb1)
      | (go_at_call_of 57 (Value.agg #[Value.slice A2 l2.length c2]); refine (HV2.out _ (under2 hB)).mono ?_; rintro e w2 ⟨rfl, hb2⟩; have hB := hB.on hb2; obtain ⟨hz0, hz1, hz2⟩ := hB.lt; have ho := ho.on hb2)
      | (go_at_call 65; refine (HI.out _).mono ?_; rintro e w1z ⟨rfl, hw⟩; replace hw := hw.symm; subst hw))
    go_ret2
    exact nil_gives (by omega) (by simpa using ho) (under2 hB)
theorem mix_bd {a s : Int} (h0 : 0 ≤ a) (h9 : a ≤ 1000) (s0 : 0 ≤ s) (s9 : s ≤ 100) : 0 ≤ a * s ∧ a * s ≤ 100000 := by
  refine ⟨Int.mul_nonneg h0 s0, ?_⟩
  have a1 := Int.mul_le_mul_of_nonneg_right h9 s0
  omega
/-- The row of 24 while it is filled. -/
def mxP (a b : List Int) (s : Int) (k : Nat) : List Int := mxL a b s k ++ List.replicate (24 - k) 0
theorem mxP_len (a b : List Int) (s : Int) (k : Nat) (h : k ≤ 24) : (mxP a b s k).length = 24 := by simp [mxP, mxL]; omega
theorem mxP_set (a b : List Int) (s : Int) (k : Nat) (h : k < 24) : (mxP a b s k).set k (at0 a k * s + at0 b k * (100 - s)) = mxP a b s (k + 1) := by
  unfold mxP
  rw [List.set_append_right _ _ (by rw [mxL_len]; omega), mxL_len, Nat.sub_self, mxL_next, show 24 - k = (24 - (k + 1)) + 1 by omega, List.replicate_succ, List.set_cons_zero, List.append_assoc]
  rfl
set_option maxHeartbeats 8000000 in
theorem mix_yes (A : Option Addr) (c : Nat) (l : List Int) (A2 : Option Addr) (c2 : Nat) (l2 : List Int) (s : Int) (w : World) (h : IAt w A l) (g : Gd l) (h2 : IAt w A2 l2) (g2 : Gd l2) (hs1 : 0 ≤ s) (hs9 : s ≤ 100) :
    Calls Try.prog 38 #[dv A l.length c, dv A2 l2.length c2, .int .i64 s] w (GivesI w (mxL l l2 s 24) true) := by
  have hl := g.1
  have hl2 := g2.1
  have HV := Lib.hid (fun w' (hb : Below w.heap.size w w') => valid_v (gd_mk g) A c w' (h.kept hb (Nat.le_refl _)) (by omega))
  have HV2 := Lib.hid (fun w' (hb : Below w.heap.size w w') => valid_v (gd_mk g2) A2 c2 w' (h2.kept hb (Nat.le_refl _)) (by omega))
  rw [hl] at HV ⊢
  rw [hl2] at HV2 ⊢
  obtain ⟨b1, o1, hA, hbl, hcell⟩ := at_of h hl
  subst hA
  obtain ⟨b2, o2, hA, hbl2, hcell2⟩ := at_of h2 hl2
  subst hA
  have HC := Lib.hid hcell
  have HC2 := Lib.hid hcell2
  have HG := Lib.hid g
  have HG2 := Lib.hid g2
  have hmk := run_make_row' (P := Try.prog) 24 3 (.int .i64 0) 8 Try.underlying24 infoI rfl .i64 .i64 24 (by omega) (by omega)
  simp only [show ((24 : Nat) : Int) = 24 from rfl] at hmk
  clear h g hl hcell h2 g2 hl2 hcell2
  go_enter Try.func38, Try.ntmps38
  go_wp2_with (first
    | (go_at_call_of 21 (Value.agg #[Value.slice (some ⟨b1, o1, none⟩) 24 c]); refine (HV.out _ (two_below _ _ _)).mono ?_; rintro e w1 ⟨rfl, hb1⟩; have hB : uB w (some ⟨b1, o1, none⟩) 24 c (some ⟨b2, o2, none⟩) 24 c2 w1 := (by simpa using hb1); obtain ⟨c0, c1⟩ := box21 hB; obtain ⟨hz0, hz1, hz2⟩ := hB.lt)
    | (go_at_call_of 21 (Value.agg #[Value.slice (some ⟨b2, o2, none⟩) 24 c2]); refine (HV2.out _ (under2 hB)).mono ?_; rintro e w2 ⟨rfl, hb2⟩; have hB2 := hB.on hb2; obtain ⟨hz20, hz21, hz22⟩ := hB2.lt))
  have HO := Lib.hid (made24 w2)
  have HB := Lib.hid (show uB w (some ⟨b1, o1, none⟩) 24 c (some ⟨b2, o2, none⟩) 24 c2 (w2.alloc (.cells (madeCells #[.int .i64 0] 24) 3)) from hB2.on (alloc_below _ _))
  have HZ := Lib.hid (show mxP l l2 s 0 = List.replicate 24 0 by simp [mxP, mxL])
  clear hmk hB hB2 c0 c1 hb1 hb2
  go_loopw [30] (fun i wr => ∃ k : Nat, k ≤ 24 ∧ i = .int .i64 k ∧ Hid (IOwn wr w2.heap.size (.slice (some ⟨w2.heap.size, 0, none⟩) 24 24) (mxP l l2 s k)) ∧ Hid (uB w (some ⟨b1, o1, none⟩) 24 c (some ⟨b2, o2, none⟩) 24 c2 wr)) (fun i _ => 24 - (intOf i).toNat)
  case atStart => exact ⟨0, by omega, rfl, Lib.hid (by unfold IOwn; rw [mxP_len _ _ _ _ (by omega), HZ.out]; exact HO.out), HB⟩
  case round =>
    clear HO HB
    obtain ⟨k, hk, rfl, hown, hb⟩ := hrel
    obtain ⟨c0, c1⟩ := box21 hb.out
    by_cases hlt : k < 24
    · have HST := Lib.hid (mxP_set l l2 s k hlt)
      have h1 := ((under2 hb.out).cell (p := ⟨b1, o1 + k, none⟩) (by show b1 < _; omega)).trans (HC.out k hlt)
      have h3 := ((under2 hb.out).cell (p := ⟨b2, o2 + k, none⟩) (by show b2 < _; omega)).trans (HC2.out k hlt)
      have bx := HG.out.2.1 k hlt
      have by_ := HG2.out.2.1 k hlt
      have HN := Lib.hid (mxL_next l l2 s k)
      obtain ⟨m1, m2⟩ := mix_bd bx.1 bx.2 hs1 hs9
      obtain ⟨m3, m4⟩ := mix_bd by_.1 by_.2 (show 0 ≤ 100 - s by omega) (by omega)
      generalize at0 l k = x at *
      generalize at0 l2 k = y at *
      have hw1 : IntKind.i64.wrap (x * s) = x * s := IntWalk.i64_in _ (by omega)
      have hw2 : IntKind.i64.wrap (100 - s) = 100 - s := IntWalk.i64_in _ (by omega)
      have hw3 : IntKind.i64.wrap (y * (100 - s)) = y * (100 - s) := IntWalk.i64_in _ (by omega)
      have hw4 : IntKind.i64.wrap (x * s + y * (100 - s)) = x * s + y * (100 - s) := IntWalk.i64_in _ (by omega)
      have hk0 : (0 : Int) ≤ (k : Int) := by omega
      have hk9 : (k : Int) < 24 := by omega
      have ho := hown.out
      unfold IOwn at ho
      rw [mxP_len _ _ _ _ hk] at ho
      have hcell := (ho.cellAt k (by omega)).trans (List.getElem?_eq_getElem (by simp [mxP_len _ _ _ _ hk]; omega))
      generalize ((mxP l l2 s k).map iv)[k]'(by simp [mxP_len _ _ _ _ hk]; omega) = u at hcell
      have hfz := ho.frozenAt k
      have hst0 := Lib.hid (ho.stored k (iv (x * s + y * (100 - s))))
      rw [map_set, HST.out] at hst0
      clear ho hown HST
      have hbx := Lib.hid (hb.out.setCell (p := ⟨w2.heap.size, k, none⟩) (by show w.heap.size + 2 ≤ w2.heap.size; omega) (iv (x * s + y * (100 - s))))
      clear hb
      go_wp2_with fail
      refine wp_region_held_drew (S := fun w' => w'.cell? ⟨w.heap.size, 0, none⟩ = some (.slice (some ⟨b1, o1, none⟩) 24 c) ∧ w'.cell? ⟨w.heap.size + 1, 0, none⟩ = some (.slice (some ⟨b2, o2, none⟩) 24 c2) ∧ w'.cell? ⟨b1, o1 + k, none⟩ = some (iv x) ∧ w'.cell? ⟨b2, o2 + k, none⟩ = some (iv y)) (by kernel_rfl) (by exact ⟨c0, c1, h1, h3⟩) (fun hHeld => ?_)
      refine wpAnyH_take (i := 0) (v := .slice (some ⟨w2.heap.size, 0, none⟩) 24 24) rfl (by kernel_rfl) (by kernel_rfl) (by kernel_rfl) (fun _ _ _ h => h) (Or.inl ⟨by rfl, ?_⟩) (by assumption) ?_
      · (intro w hSw; (try dsimp only at hSw); go_simp)
      simp only [Act.put, List.setIfInBounds_toArray]
      refine wpAnyH_take (i := 1) (v := .int .i64 (k : Int)) rfl (by kernel_rfl) (by kernel_rfl) (by kernel_rfl) (fun _ _ _ h => h) (Or.inl ⟨by rfl, ?_⟩) (by assumption) ?_
      · (intro w hSw; (try dsimp only at hSw); go_simp)
      simp only [Act.put]
      refine wpAnyH_take (i := 2) (v := .pointer (some ⟨w.heap.size, 0, none⟩)) rfl (by kernel_rfl) (by kernel_rfl) (by kernel_rfl) (fun _ _ _ h => h) (Or.inl ⟨by rfl, ?_⟩) (by assumption) ?_
      · (intro w hSw; (try dsimp only at hSw); go_simp)
      simp only [Act.put]
      refine wpAnyH_take (i := 3) (v := .slice (some ⟨b1, o1, none⟩) 24 c) rfl (by kernel_rfl) (by kernel_rfl) (by kernel_rfl) (fun _ _ _ h => h) (Or.inl ⟨by rfl, ?_⟩) (by assumption) ?_
      · (intro w hSw; (try dsimp only at hSw); go_simp)
      simp only [Act.put]
      refine wpAnyH_take (i := 4) (v := .int .i64 (k : Int)) rfl (by kernel_rfl) (by kernel_rfl) (by kernel_rfl) (fun _ _ _ h => h) (Or.inl ⟨by rfl, ?_⟩) (by assumption) ?_
      · (intro w hSw; (try dsimp only at hSw); go_simp)
      simp only [Act.put]
      refine wpAnyH_take (i := 5) (v := .pointer (some ⟨b1, o1 + k, none⟩)) rfl (by kernel_rfl) (by kernel_rfl) (by kernel_rfl) (fun _ _ _ h => h) (Or.inl ⟨by rfl, ?_⟩) (by assumption) ?_
      · (intro w hSw; (try dsimp only at hSw); go_simp)
      simp only [Act.put]
      refine wpAnyH_take (i := 6) (v := iv x) rfl (by kernel_rfl) (by kernel_rfl) (by kernel_rfl) (fun _ _ _ h => h) (Or.inl ⟨by rfl, ?_⟩) (by assumption) ?_
      · (intro w hSw; (try dsimp only at hSw); go_simp)
      simp only [Act.put]
      refine wpAnyH_take (i := 7) (v := .int .i64 s) rfl (by kernel_rfl) (by kernel_rfl) (by kernel_rfl) (fun _ _ _ h => h) (Or.inl ⟨by rfl, ?_⟩) (by assumption) ?_
      · (intro w hSw; (try dsimp only at hSw); go_simp)
      simp only [Act.put]
      refine wpAnyH_take (i := 8) (v := .int .i64 (x * s)) rfl (by kernel_rfl) (by kernel_rfl) (by kernel_rfl) (fun _ _ _ h => h) (Or.inl ⟨by rfl, ?_⟩) (by assumption) ?_
      · (intro w hSw; (try dsimp only at hSw); go_simp)
      simp only [Act.put]
      refine wpAnyH_take (i := 9) (v := .pointer (some ⟨w.heap.size + 1, 0, none⟩)) rfl (by kernel_rfl) (by kernel_rfl) (by kernel_rfl) (fun _ _ _ h => h) (Or.inl ⟨by rfl, ?_⟩) (by assumption) ?_
      · (intro w hSw; (try dsimp only at hSw); go_simp)
      simp only [Act.put]
      refine wpAnyH_take (i := 10) (v := .slice (some ⟨b2, o2, none⟩) 24 c2) rfl (by kernel_rfl) (by kernel_rfl) (by kernel_rfl) (fun _ _ _ h => h) (Or.inl ⟨by rfl, ?_⟩) (by assumption) ?_
      · (intro w hSw; (try dsimp only at hSw); go_simp)
      simp only [Act.put]
      refine wpAnyH_take (i := 11) (v := .int .i64 (k : Int)) rfl (by kernel_rfl) (by kernel_rfl) (by kernel_rfl) (fun _ _ _ h => h) (Or.inl ⟨by rfl, ?_⟩) (by assumption) ?_
      · (intro w hSw; (try dsimp only at hSw); go_simp)
      simp only [Act.put]
      refine wpAnyH_take (i := 12) (v := .pointer (some ⟨b2, o2 + k, none⟩)) rfl (by kernel_rfl) (by kernel_rfl) (by kernel_rfl) (fun _ _ _ h => h) (Or.inl ⟨by rfl, ?_⟩) (by assumption) ?_
      · (intro w hSw; (try dsimp only at hSw); go_simp)
      simp only [Act.put]
      refine wpAnyH_take (i := 13) (v := iv y) rfl (by kernel_rfl) (by kernel_rfl) (by kernel_rfl) (fun _ _ _ h => h) (Or.inl ⟨by rfl, ?_⟩) (by assumption) ?_
      · (intro w hSw; (try dsimp only at hSw); go_simp)
      simp only [Act.put]
      refine wpAnyH_take (i := 14) (v := .int .i64 s) rfl (by kernel_rfl) (by kernel_rfl) (by kernel_rfl) (fun _ _ _ h => h) (Or.inl ⟨by rfl, ?_⟩) (by assumption) ?_
      · (intro w hSw; (try dsimp only at hSw); go_simp)
      simp only [Act.put]
      refine wpAnyH_take (i := 15) (v := .int .i64 (100 - s)) rfl (by kernel_rfl) (by kernel_rfl) (by kernel_rfl) (fun _ _ _ h => h) (Or.inl ⟨by rfl, ?_⟩) (by assumption) ?_
      · (intro w hSw; (try dsimp only at hSw); go_simp)
      simp only [Act.put]
      refine wpAnyH_take (i := 16) (v := .int .i64 (y * (100 - s))) rfl (by kernel_rfl) (by kernel_rfl) (by kernel_rfl) (fun _ _ _ h => h) (Or.inl ⟨by rfl, ?_⟩) (by assumption) ?_
      · (intro w hSw; (try dsimp only at hSw); go_simp)
      simp only [Act.put]
      refine wpAnyH_take (i := 17) (v := .int .i64 (x * s + y * (100 - s))) rfl (by kernel_rfl) (by kernel_rfl) (by kernel_rfl) (fun _ _ _ h => h) (Or.inl ⟨by rfl, ?_⟩) (by assumption) ?_
      · (intro w hSw; (try dsimp only at hSw); go_simp)
      simp only [Act.put]
      refine wpAnyH_ready (rs := [18]) (by kernel_rfl) (by simp) ?_
      refine AllReadyH.cons rfl (fun K hK => ?_) AllReadyH.nil
      go_simp
      refine hK.out _ _ (by first | assumption | go_keep) (fun hHeld => ?_)
      clear hK K
      refine wpAnyH_ready (rs := [19]) (by kernel_rfl) (by simp) ?_
      refine AllReadyH.cons rfl (fun K hK => ?_) AllReadyH.nil
      go_simp
      refine hK.out _ _ ⟨(World.cell?_setCell_far _ ⟨w2.heap.size, k, none⟩ _ _ (by show w2.heap.size ≠ w.heap.size; omega)).trans c0, (World.cell?_setCell_far _ ⟨w2.heap.size, k, none⟩ _ _ (by show w2.heap.size ≠ w.heap.size + 1; omega)).trans c1, (World.cell?_setCell_far _ ⟨w2.heap.size, k, none⟩ _ _ (by show w2.heap.size ≠ b1; omega)).trans h1, (World.cell?_setCell_far _ ⟨w2.heap.size, k, none⟩ _ _ (by show w2.heap.size ≠ b2; omega)).trans h3⟩ (fun hHeld => ?_)
      clear hK K
      refine wpAnyH_done (by kernel_rfl) ?_ _
      go_wp2_with fail
      go_roundw
      case rel => exact ⟨k + 1, by omega, by go_num, Lib.hid (by unfold IOwn; rw [mxP_len _ _ _ _ (by omega)]; exact hst0.out.1.drew), Lib.hid hbx.out.drew⟩
      case measure => simp [intOf]; omega
    · have e : k = 24 := by omega
      subst e
      have HF := Lib.hid (show mxP l l2 s 24 = mxL l l2 s 24 by simp [mxP])
      rw [HF.out] at hown
      have hlen : (mxL l l2 s 24).length = 24 := mxL_len _ _ _ _
      go_wp2_with fail
      go_ret2
      exact ⟨w2.heap.size, 24, by rw [hlen]; rfl, by omega, by rw [hlen]; exact own_lower hown.out (by omega), under2 hb.out⟩
set_option maxHeartbeats 8000000 in
theorem smix_yes (A : Option Addr) (c : Nat) (l : List Int) (A2 : Option Addr) (c2 : Nat) (l2 : List Int) (s : Int) (w : World) (h : IAt w A l) (g : Gd l) (h2 : IAt w A2 l2) (g2 : Gd l2) (hs1 : 0 ≤ s) (hs9 : s ≤ 100) :
    Calls Try.prog 39 #[dv A l.length c, dv A2 l2.length c2, .int .i64 s] w (GivesA w (mxL l l2 s 24) true) := by
  have hl := g.1
  have hl2 := g2.1
  have HV := Lib.hid (fun w' (hb : Below w.heap.size w w') => sgood_v (gd_mk g) A c w' (h.kept hb (Nat.le_refl _)) (by omega))
  have HV2 := Lib.hid (fun w' (hb : Below w.heap.size w w') => sgood_v (gd_mk g2) A2 c2 w' (h2.kept hb (Nat.le_refl _)) (by omega))
  rw [hl] at HV ⊢
  rw [hl2] at HV2 ⊢
  obtain ⟨b1, o1, hA, hbl, hcell⟩ := at_of h hl
  subst hA
  obtain ⟨b2, o2, hA, hbl2, hcell2⟩ := at_of h2 hl2
  subst hA
  have HC := Lib.hid hcell
  have HC2 := Lib.hid hcell2
  have HG := Lib.hid g
  have HG2 := Lib.hid g2
  have HI := Lib.hid (fun w => in_eq s 0 100 true (by simp; omega) w)
  obtain ⟨i0, hi, hz0i, hz1i, hz2i⟩ := info_parts infoI
  clear h g hl hcell h2 g2 hl2 hcell2
  refine Calls.mono ?_ (fun e w' h => GivesI.any h)
  go_enter Try.func39, Try.ntmps39
  go_wp2_with (first
    | (go_at_call_of 57 (Value.agg #[Value.slice (some ⟨b1, o1, none⟩) 24 c]); refine (HV.out _ ((two_below _ _ _).trans ((alloc_below _ _).mono (by simp; omega)))).mono ?_; rintro e w1 ⟨rfl, hb1⟩; have hbb : Below (w.heap.size + 2 + 1) (((w.alloc (.cells #[.slice (some ⟨b1, o1, none⟩) 24 c] 26)).alloc (.cells #[.slice (some ⟨b2, o2, none⟩) 24 c2] 26)).alloc (.cells #[] 3)) w1 := (by simpa using hb1); have hB : uB w (some ⟨b1, o1, none⟩) 24 c (some ⟨b2, o2, none⟩) 24 c2 w1 := (((Below.refl _ _).alloc (by simp) _).trans (hbb.mono (by omega))); obtain ⟨c0, c1⟩ := box21 hB; obtain ⟨hz0, hz1, hz2⟩ := hB.lt; have ho := (own_empty ((w.alloc (.cells #[.slice (some ⟨b1, o1, none⟩) 24 c] 26)).alloc (.cells #[.slice (some ⟨b2, o2, none⟩) 24 c2] 26)) (w.heap.size + 2) (by simp)).on hb1)
    | (go_at_call_of 57 (Value.agg #[Value.slice (some ⟨b2, o2, none⟩) 24 c2]); refine (HV2.out _ (under2 hB)).mono ?_; rintro e w2 ⟨rfl, hb2⟩; have hB2 := hB.on hb2; obtain ⟨hz20, hz21, hz22⟩ := hB2.lt; have ho2 := ho.on hb2)
    | (go_at_call 65; refine (HI.out _).mono ?_; rintro e w1z ⟨rfl, hw⟩; replace hw := hw.symm; subst hw))
  have HO := Lib.hid (show IOwn w2 (w.heap.size + 2) (.slice (some ⟨w.heap.size + 2, 0, none⟩) 0 0) (mxL l l2 s 0) by simpa [mxL] using ho2)
  have HB := Lib.hid hB2
  clear hB hB2 c0 c1 hb1 hb2 hbb ho ho2 hz0 hz1 hz2 hz20 hz21 hz22
  go_loopw [8, 9] (fun v i wr => ∃ k : Nat, k ≤ 24 ∧ i = .int .i64 k ∧ Hid (IOwn wr (w.heap.size + 2) v (mxL l l2 s k)) ∧ Hid (v ≠ .slice none 0 0) ∧ Hid (uB w (some ⟨b1, o1, none⟩) 24 c (some ⟨b2, o2, none⟩) 24 c2 wr)) (fun _ i _ => 24 - (intOf i).toNat)
  case atStart => exact ⟨0, by omega, rfl, HO, Lib.hid (by simp), HB⟩
  case round =>
    clear HO HB
    obtain ⟨k, hk, rfl, hown, hvn, hb⟩ := hrel
    obtain ⟨c0, c1⟩ := box21 hb.out
    obtain ⟨hz0, hz1, hz2⟩ := hb.out.lt
    by_cases hlt : k < 24
    · have hz0 := hz0i
      have hz1 := hz1i
      have hz2 := hz2i
      have hzl := hb.out.lt
      have h1 := ((under2 hb.out).cell (p := ⟨b1, o1 + k, none⟩) (by show b1 < _; omega)).trans (HC.out k hlt)
      have h3 := ((under2 hb.out).cell (p := ⟨b2, o2 + k, none⟩) (by show b2 < _; omega)).trans (HC2.out k hlt)
      have bx := HG.out.2.1 k hlt
      have by_ := HG2.out.2.1 k hlt
      have HN := Lib.hid (mxL_next l l2 s k)
      obtain ⟨m1, m2⟩ := mix_bd bx.1 bx.2 hs1 hs9
      obtain ⟨m3, m4⟩ := mix_bd by_.1 by_.2 (show 0 ≤ 100 - s by omega) (by omega)
      generalize at0 l k = x at *
      generalize at0 l2 k = y at *
      have hw1 : IntKind.i64.wrap (x * s) = x * s := IntWalk.i64_in _ (by omega)
      have hw2 : IntKind.i64.wrap (100 - s) = 100 - s := IntWalk.i64_in _ (by omega)
      have hw3 : IntKind.i64.wrap (y * (100 - s)) = y * (100 - s) := IntWalk.i64_in _ (by omega)
      have hw4 : IntKind.i64.wrap (x * s + y * (100 - s)) = x * s + y * (100 - s) := IntWalk.i64_in _ (by omega)
      have hk0 : (0 : Int) ≤ (k : Int) := by omega
      have hk9 : (k : Int) < 24 := by omega
      have hne0 : some w.heap.size ≠ u8.ownBlock := fun e => by have := (World.ownsRow.lt hown.out w.heap.size e.symm).1; omega
      have hne1 : some (w.heap.size + 1) ≠ u8.ownBlock := fun e => by have := (World.ownsRow.lt hown.out (w.heap.size + 1) e.symm).1; omega
      have hne2 : some b1 ≠ u8.ownBlock := fun e => by have := (World.ownsRow.lt hown.out b1 e.symm).1; omega
      have hne3 : some b2 ≠ u8.ownBlock := fun e => by have := (World.ownsRow.lt hown.out b2 e.symm).1; omega
      have hW := Lib.hid (((Below.refl wr.heap.size wr).alloc (Nat.le_refl _) (.cells #[iv (x * s + y * (100 - s))] 3)).drew)
      have hlk : (mxL l l2 s k).length = k := mxL_len _ _ _ _
      go_wp2_with fail
      refine wp_region_held_drew (S := fun w' => w'.cell? ⟨w.heap.size, 0, none⟩ = some (.slice (some ⟨b1, o1, none⟩) 24 c) ∧ w'.cell? ⟨w.heap.size + 1, 0, none⟩ = some (.slice (some ⟨b2, o2, none⟩) 24 c2) ∧ w'.cell? ⟨b1, o1 + k, none⟩ = some (iv x) ∧ w'.cell? ⟨b2, o2 + k, none⟩ = some (iv y)) (by kernel_rfl) (by exact ⟨c0, c1, h1, h3⟩) (fun hHeld => ?_)
      refine wpAnyH_take (i := 0) (v := u8) rfl (by kernel_rfl) (by kernel_rfl) (by kernel_rfl) (fun _ _ _ h => h) (Or.inl ⟨by rfl, ?_⟩) (by assumption) ?_
      · (intro w hSw; (try dsimp only at hSw); go_simp)
      simp only [Act.put, List.setIfInBounds_toArray]
      refine wpAnyH_take (i := 1) (v := .pointer (some ⟨w.heap.size, 0, none⟩)) rfl (by kernel_rfl) (by kernel_rfl) (by kernel_rfl) (fun _ _ _ h => h) (Or.inl ⟨by rfl, ?_⟩) (by assumption) ?_
      · (intro w hSw; (try dsimp only at hSw); go_simp)
      simp only [Act.put]
      refine wpAnyH_take (i := 2) (v := .slice (some ⟨b1, o1, none⟩) 24 c) rfl (by kernel_rfl) (by kernel_rfl) (by kernel_rfl) (fun _ _ _ h => h) (Or.inl ⟨by rfl, ?_⟩) (by assumption) ?_
      · (intro w hSw; (try dsimp only at hSw); go_simp)
      simp only [Act.put]
      refine wpAnyH_take (i := 3) (v := .int .i64 (k : Int)) rfl (by kernel_rfl) (by kernel_rfl) (by kernel_rfl) (fun _ _ _ h => h) (Or.inl ⟨by rfl, ?_⟩) (by assumption) ?_
      · (intro w hSw; (try dsimp only at hSw); go_simp)
      simp only [Act.put]
      refine wpAnyH_take (i := 4) (v := .pointer (some ⟨b1, o1 + k, none⟩)) rfl (by kernel_rfl) (by kernel_rfl) (by kernel_rfl) (fun _ _ _ h => h) (Or.inl ⟨by rfl, ?_⟩) (by assumption) ?_
      · (intro w hSw; (try dsimp only at hSw); go_simp)
      simp only [Act.put]
      refine wpAnyH_take (i := 5) (v := iv x) rfl (by kernel_rfl) (by kernel_rfl) (by kernel_rfl) (fun _ _ _ h => h) (Or.inl ⟨by rfl, ?_⟩) (by assumption) ?_
      · (intro w hSw; (try dsimp only at hSw); go_simp)
      simp only [Act.put]
      refine wpAnyH_take (i := 6) (v := .int .i64 s) rfl (by kernel_rfl) (by kernel_rfl) (by kernel_rfl) (fun _ _ _ h => h) (Or.inl ⟨by rfl, ?_⟩) (by assumption) ?_
      · (intro w hSw; (try dsimp only at hSw); go_simp)
      simp only [Act.put]
      refine wpAnyH_take (i := 7) (v := .int .i64 (x * s)) rfl (by kernel_rfl) (by kernel_rfl) (by kernel_rfl) (fun _ _ _ h => h) (Or.inl ⟨by rfl, ?_⟩) (by assumption) ?_
      · (intro w hSw; (try dsimp only at hSw); go_simp)
      simp only [Act.put]
      refine wpAnyH_take (i := 8) (v := .pointer (some ⟨w.heap.size + 1, 0, none⟩)) rfl (by kernel_rfl) (by kernel_rfl) (by kernel_rfl) (fun _ _ _ h => h) (Or.inl ⟨by rfl, ?_⟩) (by assumption) ?_
      · (intro w hSw; (try dsimp only at hSw); go_simp)
      simp only [Act.put]
      refine wpAnyH_take (i := 9) (v := .slice (some ⟨b2, o2, none⟩) 24 c2) rfl (by kernel_rfl) (by kernel_rfl) (by kernel_rfl) (fun _ _ _ h => h) (Or.inl ⟨by rfl, ?_⟩) (by assumption) ?_
      · (intro w hSw; (try dsimp only at hSw); go_simp)
      simp only [Act.put]
      refine wpAnyH_take (i := 10) (v := .int .i64 (k : Int)) rfl (by kernel_rfl) (by kernel_rfl) (by kernel_rfl) (fun _ _ _ h => h) (Or.inl ⟨by rfl, ?_⟩) (by assumption) ?_
      · (intro w hSw; (try dsimp only at hSw); go_simp)
      simp only [Act.put]
      refine wpAnyH_take (i := 11) (v := .pointer (some ⟨b2, o2 + k, none⟩)) rfl (by kernel_rfl) (by kernel_rfl) (by kernel_rfl) (fun _ _ _ h => h) (Or.inl ⟨by rfl, ?_⟩) (by assumption) ?_
      · (intro w hSw; (try dsimp only at hSw); go_simp)
      simp only [Act.put]
      refine wpAnyH_take (i := 12) (v := iv y) rfl (by kernel_rfl) (by kernel_rfl) (by kernel_rfl) (fun _ _ _ h => h) (Or.inl ⟨by rfl, ?_⟩) (by assumption) ?_
      · (intro w hSw; (try dsimp only at hSw); go_simp)
      simp only [Act.put]
      refine wpAnyH_take (i := 13) (v := .int .i64 s) rfl (by kernel_rfl) (by kernel_rfl) (by kernel_rfl) (fun _ _ _ h => h) (Or.inl ⟨by rfl, ?_⟩) (by assumption) ?_
      · (intro w hSw; (try dsimp only at hSw); go_simp)
      simp only [Act.put]
      refine wpAnyH_take (i := 14) (v := .int .i64 (100 - s)) rfl (by kernel_rfl) (by kernel_rfl) (by kernel_rfl) (fun _ _ _ h => h) (Or.inl ⟨by rfl, ?_⟩) (by assumption) ?_
      · (intro w hSw; (try dsimp only at hSw); go_simp)
      simp only [Act.put]
      refine wpAnyH_take (i := 15) (v := .int .i64 (y * (100 - s))) rfl (by kernel_rfl) (by kernel_rfl) (by kernel_rfl) (fun _ _ _ h => h) (Or.inl ⟨by rfl, ?_⟩) (by assumption) ?_
      · (intro w hSw; (try dsimp only at hSw); go_simp)
      simp only [Act.put]
      refine wpAnyH_take (i := 16) (v := .int .i64 (x * s + y * (100 - s))) rfl (by kernel_rfl) (by kernel_rfl) (by kernel_rfl) (fun _ _ _ h => h) (Or.inl ⟨by rfl, ?_⟩) (by assumption) ?_
      · (intro w hSw; (try dsimp only at hSw); go_simp)
      simp only [Act.put]
      refine wpAnyH_ready (rs := [17]) (by kernel_rfl) (by simp) ?_
      refine AllReadyH.cons rfl (fun K hK => ?_) AllReadyH.nil
      go_simp
      refine hK.out _ _ (by first | assumption | go_keep) (fun hHeld => ?_)
      clear hK K
      refine wpAnyH_ready (rs := [18]) (by kernel_rfl) (by simp) ?_
      refine AllReadyH.cons rfl (fun K hK => ?_) AllReadyH.nil
      refine step_append_lies _ (by rfl) _ _ _ (by rfl) (w.heap.size + 2) 3 i0 (.int .i64 0) 1 8 Try.underlying24 hi hz0 hz1 hz2 rfl (by decide) u8 (mxL l l2 s k).length ((mxL l l2 s k).map iv) (by rfl) ((hown.out.alloc _).drew)
        ⟨wr.heap.size, 0, none⟩ 1 1 [iv (x * s + y * (100 - s))] (by rfl) (by rfl) (World.news_of_block (cs := #[iv (x * s + y * (100 - s))]) (t := 3) (fr := (0, 0)) (by exact heap_alloc_new wr (.cells #[iv (x * s + y * (100 - s))] 3))) (by simp [Value.oneCell'])
        (by omega) (by simp only [maxLen]; omega) (by omega) (by simp; omega) (wr.heap.size + 1) (by simp) ?_
      intro gg cap' w4 hown4 hgrow _ _
      have c04 := (hgrow.cell_far ⟨w.heap.size, 0, none⟩ (by show w.heap.size < _; simp; omega) hne0).trans ((hW.out.cell (p := ⟨w.heap.size, 0, none⟩) (by show w.heap.size < _; omega)).trans c0)
      have c14 := (hgrow.cell_far ⟨w.heap.size + 1, 0, none⟩ (by show w.heap.size + 1 < _; simp; omega) hne1).trans ((hW.out.cell (p := ⟨w.heap.size + 1, 0, none⟩) (by show w.heap.size + 1 < _; omega)).trans c1)
      have h14 := (hgrow.cell_far ⟨b1, o1 + k, none⟩ (by show b1 < _; simp; omega) hne2).trans ((hW.out.cell (p := ⟨b1, o1 + k, none⟩) (by show b1 < _; omega)).trans h1)
      have h34 := (hgrow.cell_far ⟨b2, o2 + k, none⟩ (by show b2 < _; simp; omega) hne3).trans ((hW.out.cell (p := ⟨b2, o2 + k, none⟩) (by show b2 < _; omega)).trans h3)
      refine hK.out _ _ ⟨c04, c14, h14, h34⟩ (fun hHeld => ?_)
      clear hK K
      refine wpAnyH_ready (rs := [19]) (by kernel_rfl) (by simp) ?_
      refine AllReadyH.cons rfl (fun K hK => ?_) AllReadyH.nil
      go_simp
      refine hK.out _ _ (by first | assumption | go_keep) (fun hHeld => ?_)
      clear hK K
      refine wpAnyH_done (by kernel_rfl) ?_ _
      have hpush := Lib.hid (IOwn.push hown4)
      rw [← HN.out, hlk] at hpush
      have hB4 := Lib.hid (((hb.out.trans (hW.out.mono (by omega))).grown hgrow (by simp; omega) (fun g hg => (World.ownsRow.lt hown.out g hg).1)))
      go_wp2_with fail
      go_roundw
      case rel => exact ⟨k + 1, by omega, by go_num, hpush, Lib.hid (by simp), hB4⟩
      case measure => simp [intOf]; omega
    · have e : k = 24 := by omega
      subst e
      obtain ⟨g, capg, rfl, hg⟩ := own_forms hown.out (by rw [mxL_len]; omega)
      go_wp2_with fail
      go_ret2
      exact ⟨g, capg, rfl, by omega, own_lower hown.out (by omega), under2 hb.out⟩
end Go.Proofs.Ytkgkeohnnpkahaa.S6
