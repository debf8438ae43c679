/- The storage for a day, the program's and the model's: contracts. Conditions: each theorem's own premises. -/
import Derived.Test.YtkgkeohnnpkahaaPfUse
namespace Go.Proofs.Ytkgkeohnnpkahaa.S6
open Go.RowKit P6

theorem least_any (a b : Int) (w : World) : Calls Try.prog 77 #[.int .i64 a, .int .i64 b] w fun e w' => e = .returned (.int .i64 (min a b)) ∧ w' = w := by
  by_cases h : a < b
  · rw [show min a b = a by omega]
    go_enter Try.func77, Try.ntmps77
    go_wp2
    go_ret
    exact ⟨rfl, rfl⟩
  · rw [show min a b = b by omega]
    go_enter Try.func77, Try.ntmps77
    go_wp2
    go_ret
    exact ⟨rfl, rfl⟩
theorem most_any (a b : Int) (w : World) : Calls Try.prog 78 #[.int .i64 a, .int .i64 b] w fun e w' => e = .returned (.int .i64 (max a b)) ∧ w' = w := by
  by_cases h : b < a
  · rw [show max a b = a by omega]
    go_enter Try.func78, Try.ntmps78
    go_wp2
    go_ret
    exact ⟨rfl, rfl⟩
  · rw [show max a b = b by omega]
    go_enter Try.func78, Try.ntmps78
    go_wp2
    go_ret
    exact ⟨rfl, rfl⟩
set_option maxHeartbeats 2000000 in
theorem sto_no (A : Option Addr) (cap : Nat) (l : List Int) (b : Int) (w : World) (h : IAt w A l) (hm : l.length ≤ 1048576) (hn : (gdB l && baB b) = false) :
    Calls Try.prog 35 #[dv A l.length cap, .int .i64 b] w (Gives3 0 0 false w) := by
  obtain ⟨v, hv⟩ : ∃ v, gdB l = v := ⟨_, rfl⟩
  have HV := Lib.hid (fun w' (hb : Below w.heap.size w w') => valid_v hv A cap w' (h.kept hb (Nat.le_refl _)) hm)
  have HB := Lib.hid (fun w => base_any b w)
  rw [hv] at hn
  clear h hv
  generalize baB b = vb at *
  go_enter Try.func35, Try.ntmps35
  cases v <;> cases vb <;> first | (exact absurd hn (by decide)) | skip
  all_goals
    clear hn
    go_wp2_with (first
      | (go_at_call 21; refine (HV.out _ ((Below.refl _ _).alloc (Nat.le_refl _) _)).mono ?_; rintro e w1 ⟨rfl, hb1⟩)
      | (go_at_call 73; refine (HB.out _).mono ?_; rintro e w1x ⟨rfl, hw⟩; replace hw := hw.symm; subst hw))
    go_ret3
    exact ⟨rfl, ((Below.refl _ _).alloc (Nat.le_refl _) _).trans (hb1.mono (by simp))⟩
set_option maxHeartbeats 2000000 in
theorem ssto_no (A : Option Addr) (cap : Nat) (l : List Int) (b : Int) (w : World) (h : IAt w A l) (hm : l.length ≤ 1048576) (hn : (gdB l && baB b) = false) :
    Calls Try.prog 36 #[dv A l.length cap, .int .i64 b] w (Gives3 0 0 false w) := by
  obtain ⟨v, hv⟩ : ∃ v, gdB l = v := ⟨_, rfl⟩
  have HV := Lib.hid (fun w' (hb : Below w.heap.size w w') => sgood_v hv A cap w' (h.kept hb (Nat.le_refl _)) hm)
  have HB := Lib.hid (fun w => sbase_any b w)
  rw [hv] at hn
  clear h hv
  generalize baB b = vb at *
  go_enter Try.func36, Try.ntmps36
  cases v <;> cases vb <;> first | (exact absurd hn (by decide)) | skip
  all_goals
    clear hn
    go_wp2_with (first
      | (go_at_call 57; refine (HV.out _ ((Below.refl _ _).alloc (Nat.le_refl _) _)).mono ?_; rintro e w1 ⟨rfl, hb1⟩)
      | (go_at_call 75; refine (HB.out _).mono ?_; rintro e w1x ⟨rfl, hw⟩; replace hw := hw.symm; subst hw))
    go_ret3
    exact ⟨rfl, ((Below.refl _ _).alloc (Nat.le_refl _) _).trans (hb1.mono (by simp))⟩

abbrev sB (w : World) (A : Option Addr) (cap : Nat) (wr : World) : Prop := Below (w.heap.size + 1) (w.alloc (.cells #[.slice A 24 cap] 26)) wr
def stoN (l : List Int) (b : Nat) : Nat := b * 60 * (gM l 24 - gL l 24).toNat
theorem sto_fit {l : List Int} {b : Nat} (g : Gd l) (hb : b ≤ 100000) : stoN l b ≤ 600000000000 ∧ ∃ p : Nat, p ≤ 26400 ∧ gM l 24 - gL l 24 = (p : Int) ∧ stoN l b = b * 60 * p ∧ (60 * (b : Int)) * (sM l 24 - sL l 24) = (stoN l b : Int) := by
  have h1 := gM_bound g.2.1 (Nat.le_refl _)
  have h2 := gL_bound g.2.1 (Nat.le_refl _)
  have h3 := gML (l := l) (k := 24)
  obtain ⟨n, hn⟩ := nat_of (show 0 ≤ gM l 24 - gL l 24 by omega)
  unfold stoN
  rw [store_same g, hn]
  refine ⟨?_, n, by omega, rfl, by simp, ?_⟩
  · calc b * 60 * ((n : Int)).toNat ≤ (100000 * 60) * 26400 := Nat.mul_le_mul (by omega) (by omega)
      _ ≤ 600000000000 := by omega
  · rw [Int.toNat_natCast, Int.natCast_mul, Int.natCast_mul, Int.mul_comm 60 (b : Int)]; rfl
theorem st_next (l : List Int) (k : Nat) : st l (k + 1) = st l k + (100 - at0 l k) ∧ st l (k + 1) = st l k + 100 - at0 l k := by
  unfold st; simp only [sm]; omega
theorem gM_if (l : List Int) (k : Nat) : gM l (k + 1) = if gM l k < st l (k + 1) then st l (k + 1) else gM l k := by
  simp only [gM]; split <;> omega
theorem gL_if (l : List Int) (k : Nat) : gL l (k + 1) = if st l (k + 1) < gL l k then st l (k + 1) else gL l k := by
  simp only [gL]; split <;> omega
set_option maxHeartbeats 4000000 in
theorem sto_yes (A : Option Addr) (cap : Nat) (l : List Int) (b : Nat) (w : World) (h : IAt w A l) (g : Gd l) (hb0 : b ≤ 100000) :
    Calls Try.prog 35 #[dv A l.length cap, .int .i64 (b : Int)] w (Gives3 (lowN (stoN l b) 100) (lowD (stoN l b) 100) true w) := by
  have hl := g.1
  have HV := Lib.hid (fun w' (hb : Below w.heap.size w w') => valid_v (gd_mk g) A cap w' (h.kept hb (Nat.le_refl _)) (by omega))
  rw [hl] at HV ⊢
  have HB := Lib.hid (fun w => base_any (b : Int) w)
  rw [show baB (b : Int) = true by simp [baB]; omega] at HB
  obtain ⟨hu, p, hp, hpe, hv, _⟩ := sto_fit (b := b) g hb0
  have H := Lib.hid (fun w => liters_any b p w hb0 (by omega))
  rw [← hv] at H
  unfold lowV at H
  have HPE := Lib.hid hpe
  have HG := Lib.hid g
  obtain ⟨bb, off, hA, hbl, hcell⟩ : ∃ b off, A = some ⟨b, off, none⟩ ∧ b < w.heap.size ∧ ∀ i, i < 24 → w.cell? ⟨b, off + i, none⟩ = some (iv (at0 l i)) := by
    rcases h with h | ⟨b, off, hA, hlt, h⟩
    · subst h; simp at hl
    · exact ⟨b, off, hA, hlt, fun i hi => h i (by omega)⟩
  subst hA
  have HC := Lib.hid hcell
  generalize lowN (stoN l b) 100 = u at *
  generalize lowD (stoN l b) 100 = v at *
  clear h g hl hu hpe hv hcell
  go_enter Try.func35, Try.ntmps35
  go_wp2_with (first
    | (go_at_call 21; refine (HV.out _ ((Below.refl _ _).alloc (Nat.le_refl _) _)).mono ?_; rintro e w1 ⟨rfl, hb1⟩; have hB := (show sB w (some ⟨bb, off, none⟩) cap w1 by simpa using hb1); have hbx := box1 hB)
    | (go_at_call 73; refine (HB.out _).mono ?_; rintro e w1x ⟨rfl, hw⟩; replace hw := hw.symm; subst hw))
  have HB2 := Lib.hid hB
  clear hB hb1 hbx
  go_loopw [7, 8, 9, 25] (fun s g1 g2 i wr => ∃ k : Nat, k ≤ 24 ∧ s = .int .i64 (st l k) ∧ g1 = .int .i64 (gM l k) ∧ g2 = .int .i64 (gL l k) ∧ i = .int .i64 k ∧ sB w (some ⟨bb, off, none⟩) cap wr) (fun _ _ _ i _ => 24 - (intOf i).toNat)
  case atStart => exact ⟨0, by omega, rfl, rfl, rfl, rfl, HB2.out⟩
  case round =>
    obtain ⟨k, hk, rfl, rfl, rfl, rfl, hb⟩ := hrel
    have hin : ∀ j, j ≤ 24 → In l j := fun j hj i hi => HG.out.2.1 i (by omega)
    have bM := gM_bound (hin k hk) hk
    have bL := gL_bound (hin k hk) hk
    have bS := st_bound (hin k hk) hk
    by_cases hlt : k < 24
    · obtain ⟨hc, hf⟩ := bcell (W := w.alloc (.cells #[.slice (some ⟨bb, off, none⟩) 24 cap] 26)) (by simpa using hb)
      have h1 := HC.out k hlt
      have bx := HG.out.2.1 k hlt
      have hn := st_next l k
      have bN := st_bound (hin (k + 1) (by omega)) (by omega)
      have EM := Lib.hid (gM_if l k)
      have EL := Lib.hid (gL_if l k)
      have EN := Lib.hid hn.1
      rw [hn.1] at bN EM EL
      clear hn hin
      generalize at0 l k = x at *
      generalize hS : st l k = S at *
      generalize hM : gM l k = M at *
      generalize hL : gL l k = L at *
      clear hS hM hL
      go_wp2
      go_roundw
      case rel => exact ⟨k + 1, by omega, by rw [EN.out], by rw [EM.out], by rw [EL.out], by go_num, hb⟩
      case measure => simp [intOf]; omega
    · have e : k = 24 := by omega
      subst e
      have hw : IntKind.i64.wrap (gM l 24 - gL l 24) = (p : Int) := by rw [HPE.out]; exact IntWalk.i64_in _ (by omega)
      go_wp2_with (go_at_call 74; refine (H.out _).mono ?_; rintro e w3 ⟨rfl, hb3⟩)
      go_ret3
      exact ⟨rfl, below_box (on_call hb hb3)⟩
set_option maxHeartbeats 4000000 in
theorem ssto_yes (A : Option Addr) (cap : Nat) (l : List Int) (b : Nat) (w : World) (h : IAt w A l) (g : Gd l) (hb0 : b ≤ 100000) :
    Calls Try.prog 36 #[dv A l.length cap, .int .i64 (b : Int)] w (Gives3 (lowN (stoN l b) 100) (lowD (stoN l b) 100) true w) := by
  have hl := g.1
  have HV := Lib.hid (fun w' (hb : Below w.heap.size w w') => sgood_v (gd_mk g) A cap w' (h.kept hb (Nat.le_refl _)) (by omega))
  rw [hl] at HV ⊢
  have HB := Lib.hid (fun w => sbase_any (b : Int) w)
  rw [show baB (b : Int) = true by simp [baB]; omega] at HB
  obtain ⟨hu, p, hp, hpe, hv, hq⟩ := sto_fit (b := b) g hb0
  have H := Lib.hid (fun w => reduce_any (stoN l b) 100 w (by omega) (by omega) (by omega))
  unfold lowV at H
  have HPE := Lib.hid hpe
  have HQ := Lib.hid hq
  have HG := Lib.hid g
  have HU := Lib.hid hu
  have HSS := Lib.hid (store_same g)
  obtain ⟨bb, off, hA, hbl, hcell⟩ : ∃ b off, A = some ⟨b, off, none⟩ ∧ b < w.heap.size ∧ ∀ i, i < 24 → w.cell? ⟨b, off + i, none⟩ = some (iv (at0 l i)) := by
    rcases h with h | ⟨b, off, hA, hlt, h⟩
    · subst h; simp at hl
    · exact ⟨b, off, hA, hlt, fun i hi => h i (by omega)⟩
  subst hA
  have HC := Lib.hid hcell
  generalize lowN (stoN l b) 100 = u at *
  generalize lowD (stoN l b) 100 = v at *
  clear h g hl hu hpe hv hcell hq
  go_enter Try.func36, Try.ntmps36
  go_wp2_with (first
    | (go_at_call 57; refine (HV.out _ ((Below.refl _ _).alloc (Nat.le_refl _) _)).mono ?_; rintro e w1 ⟨rfl, hb1⟩; have hB := (show sB w (some ⟨bb, off, none⟩) cap w1 by simpa using hb1); have hbx := box1 hB)
    | (go_at_call 75; refine (HB.out _).mono ?_; rintro e w1x ⟨rfl, hw⟩; replace hw := hw.symm; subst hw))
  have HB2 := Lib.hid hB
  clear hB hb1 hbx
  go_loopw [7, 8, 9, 10] (fun g2 g1 s i wr => ∃ k : Nat, k ≤ 24 ∧ s = .int .i64 (st l k) ∧ g1 = .int .i64 (sM l k) ∧ g2 = .int .i64 (sL l k) ∧ i = .int .i64 k ∧ sB w (some ⟨bb, off, none⟩) cap wr) (fun _ _ _ i _ => 24 - (intOf i).toNat)
  case atStart => exact ⟨0, by omega, rfl, rfl, rfl, rfl, HB2.out⟩
  case round =>
    obtain ⟨k, hk, rfl, rfl, rfl, rfl, hb⟩ := hrel
    have hbx := box1 hb
    have hin : ∀ j, j ≤ 24 → In l j := fun j hj i hi => HG.out.2.1 i (by omega)
    have bM := sM_bound (hin k hk) hk
    have bL := sL_bound (hin k hk) hk
    have bS := st_bound (hin k hk) hk
    by_cases hlt : k < 24
    · obtain ⟨hc, hf⟩ := bcell (W := w.alloc (.cells #[.slice (some ⟨bb, off, none⟩) 24 cap] 26)) (by simpa using hb)
      have h1 := HC.out k hlt
      have bx := HG.out.2.1 k hlt
      have hn := st_next l k
      have EM := Lib.hid (show sM l (k + 1) = max (sM l k) (st l (k + 1)) from rfl)
      have EL := Lib.hid (show sL l (k + 1) = min (sL l k) (st l (k + 1)) from rfl)
      have EN := Lib.hid hn.2
      rw [hn.2] at EM EL
      clear hn hin
      generalize at0 l k = x at *
      generalize hS : st l k = S at *
      generalize hM : sM l k = M at *
      generalize hL : sL l k = L at *
      have HLe := Lib.hid (fun w => least_any L (S + 100 - x) w)
      have HMo := Lib.hid (fun w => most_any M (S + 100 - x) w)
      rw [← EL.out] at HLe
      rw [← EM.out] at HMo
      clear hS hM hL
      go_wp2_with (first
        | (go_at_call 77; refine (HLe.out _).mono ?_; rintro e w2 ⟨rfl, hw⟩; replace hw := hw.symm; subst hw)
        | (go_at_call 78; refine (HMo.out _).mono ?_; rintro e w2 ⟨rfl, hw⟩; replace hw := hw.symm; subst hw))
      go_roundw
      case rel => exact ⟨k + 1, by omega, by rw [EN.out], rfl, rfl, by go_num, hb⟩
      case measure => simp [intOf]; omega
    · have e : k = 24 := by omega
      subst e
      have bD : 0 ≤ sM l 24 - sL l 24 := by rw [HSS.out, HPE.out]; omega
      have bU := HU.out
      have hw0 : IntKind.i64.wrap (sM l 24 - sL l 24) = sM l 24 - sL l 24 := IntWalk.i64_in _ (by omega)
      have hw1 : IntKind.i64.wrap (60 * (b : Int)) = 60 * (b : Int) := IntWalk.i64_in _ (by omega)
      have hw : IntKind.i64.wrap (60 * (b : Int) * (sM l 24 - sL l 24)) = (stoN l b : Int) := by rw [HQ.out]; exact IntWalk.i64_in _ (by omega)
      go_wp2_with (go_at_call 76; refine (H.out _).mono ?_; rintro e w3 ⟨rfl, hb3⟩)
      go_ret3
      exact ⟨rfl, below_box (on_call hb hb3)⟩
end Go.Proofs.Ytkgkeohnnpkahaa.S6
