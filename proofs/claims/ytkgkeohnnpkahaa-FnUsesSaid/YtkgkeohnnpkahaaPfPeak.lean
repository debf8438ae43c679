/- The hour with the greatest percentage, the program's and the model's: contracts. Conditions: each theorem's own premises. -/
import Derived.Test.YtkgkeohnnpkahaaPfPk
namespace Go.Proofs.Ytkgkeohnnpkahaa.S6
open Go.RowKit P6

theorem at_of {w : World} {A : Option Addr} {l : List Int} (h : IAt w A l) (hl : l.length = 24) : ∃ b off, A = some ⟨b, off, none⟩ ∧ b < w.heap.size ∧ ∀ i, i < 24 → w.cell? ⟨b, off + i, none⟩ = some (iv (at0 l i)) := by
  rcases h with h | ⟨b, off, hA, hlt, h⟩
  · subst h; simp at hl
  · exact ⟨b, off, hA, hlt, fun i hi => h i (by omega)⟩
set_option maxHeartbeats 2000000 in
theorem peak_no (A : Option Addr) (cap : Nat) (l : List Int) (w : World) (h : IAt w A l) (hm : l.length ≤ 1048576) (hn : gdB l = false) :
    Calls Try.prog 20 #[dv A l.length cap] w (Gives3 0 0 false w) := by
  have HV := Lib.hid (fun w' (hb : Below w.heap.size w w') => valid_v hn A cap w' (h.kept hb (Nat.le_refl _)) hm)
  clear h hn
  go_enter Try.func20, Try.ntmps20
  go_wp2_with (go_at_call 21; refine (HV.out _ ((Below.refl _ _).alloc (Nat.le_refl _) _)).mono ?_; rintro e w1 ⟨rfl, hb1⟩)
  go_ret3
  exact ⟨rfl, ((Below.refl _ _).alloc (Nat.le_refl _) _).trans (hb1.mono (by simp))⟩
set_option maxHeartbeats 2000000 in
theorem speak_no (A : Option Addr) (cap : Nat) (l : List Int) (w : World) (h : IAt w A l) (hm : l.length ≤ 1048576) (hn : gdB l = false) :
    Calls Try.prog 29 #[dv A l.length cap] w (Gives3 0 0 false w) := by
  have HV := Lib.hid (fun w' (hb : Below w.heap.size w w') => sgood_v hn A cap w' (h.kept hb (Nat.le_refl _)) hm)
  clear h hn
  go_enter Try.func29, Try.ntmps29
  go_wp2_with (go_at_call 57; refine (HV.out _ ((Below.refl _ _).alloc (Nat.le_refl _) _)).mono ?_; rintro e w1 ⟨rfl, hb1⟩)
  go_ret3
  exact ⟨rfl, ((Below.refl _ _).alloc (Nat.le_refl _) _).trans (hb1.mono (by simp))⟩
set_option maxHeartbeats 2000000 in
theorem peak_yes (A : Option Addr) (cap : Nat) (l : List Int) (w : World) (h : IAt w A l) (g : Gd l) :
    Calls Try.prog 20 #[dv A l.length cap] w (Gives3 (pk l 24 : Int) (at0 l (pk l 24)) true w) := by
  have hl := g.1
  have HV := Lib.hid (fun w' (hb : Below w.heap.size w w') => valid_v (gd_mk g) A cap w' (h.kept hb (Nat.le_refl _)) (by omega))
  rw [hl] at HV ⊢
  have HM := Lib.hid (fun w' (hb : Below w.heap.size w w') => max_any A cap l w' (h.kept hb (Nat.le_refl _)) hl)
  have HI := Lib.hid (fun w' (hb : Below w.heap.size w w') => index_any A cap l (at0 l (pk l 24)) (pk l 24) w' (h.kept hb (Nat.le_refl _)) hl (pk_lt l 24 (by omega)) rfl (fun j hj he => by have := (pk_most l 24 j (by have := pk_lt l 24 (by omega); omega)).2 hj; omega))
  generalize at0 l (pk l 24) = M at *
  generalize pk l 24 = K at *
  clear h g hl
  go_enter Try.func20, Try.ntmps20
  go_wp2_with (first
    | (go_at_call 21; refine (HV.out _ ((Below.refl _ _).alloc (Nat.le_refl _) _)).mono ?_; rintro e w1 ⟨rfl, hb1⟩; have hB := (show Below (w.heap.size + 1) (w.alloc (.cells #[.slice A 24 cap] 26)) w1 by simpa using hb1); have hbx := box1 hB)
    | (go_at_call 59; refine (HM.out _ (below_box hB)).mono ?_; rintro e w2 ⟨rfl, hw⟩; replace hw := hw.symm; subst hw)
    | (go_at_call 60; refine (HI.out _ (below_box hB)).mono ?_; rintro e w2 ⟨rfl, hw⟩; replace hw := hw.symm; subst hw))
  go_ret3
  exact ⟨rfl, below_box hB⟩
set_option maxHeartbeats 2000000 in
theorem speak_yes (A : Option Addr) (cap : Nat) (l : List Int) (w : World) (h : IAt w A l) (g : Gd l) :
    Calls Try.prog 29 #[dv A l.length cap] w (Gives3 (pk l 24 : Int) (at0 l (pk l 24)) true w) := by
  have hl := g.1
  have HV := Lib.hid (fun w' (hb : Below w.heap.size w w') => sgood_v (gd_mk g) A cap w' (h.kept hb (Nat.le_refl _)) (by omega))
  rw [hl] at HV ⊢
  have HM := Lib.hid (fun w' (hb : Below w.heap.size w w') => speak_any A cap l w' (h.kept hb (Nat.le_refl _)) hl)
  have hK := pk_lt l 24 (by omega)
  obtain ⟨b, off, hA, hbl, hcell⟩ := at_of h hl
  subst hA
  have h0 := hcell (pk l 24) hK
  generalize at0 l (pk l 24) = M at *
  generalize pk l 24 = K at *
  have hK0 : (0 : Int) ≤ (K : Int) := by omega
  clear h g hl hcell
  go_enter Try.func29, Try.ntmps29
  go_wp2_with (first
    | (go_at_call 57; refine (HV.out _ ((Below.refl _ _).alloc (Nat.le_refl _) _)).mono ?_; rintro e w1 ⟨rfl, hb1⟩; have hB := (show Below (w.heap.size + 1) (w.alloc (.cells #[.slice (some ⟨b, off, none⟩) 24 cap] 26)) w1 by simpa using hb1); have hbx := box1 hB)
    | (go_at_call 67; refine (HM.out _ (below_box hB)).mono ?_; rintro e w2 ⟨rfl, hb2⟩; have hB2 := on_call hB hb2; have hbx2 := box1 hB2; obtain ⟨hc, hf⟩ := bcell (below_box hB2); have hz2 := box_lt hB2))
  have hG := @cell_g
  have hbw : b < w2.heap.size := by omega
  have h2 := (hc b (off + K) hbl).trans h0
  refine region_below (by kernel_rfl) (by kernel_rfl) ?_
  repeat (first | go_big_quiet_step (fail))
  refine wpQuiet_nil ?_
  intro w3 hb3
  go_wp2
  go_ret3
  exact ⟨rfl, below_box (on_call hB2 hb3)⟩
end Go.Proofs.Ytkgkeohnnpkahaa.S6
