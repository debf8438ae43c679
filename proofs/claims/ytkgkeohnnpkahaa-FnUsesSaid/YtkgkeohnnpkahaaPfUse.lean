/- The flow in an hour, the program's and the model's: contracts. Conditions: each theorem's own premises. -/
import Derived.Test.YtkgkeohnnpkahaaPfSum
namespace Go.Proofs.Ytkgkeohnnpkahaa.S6
open Go.RowKit P6

theorem nat_of {x : Int} (h : 0 ≤ x) : ∃ n : Nat, x = (n : Int) := ⟨x.toNat, by omega⟩
/-- Two numbers and a bool. -/
abbrev ret3 (n d : Int) (ok : Bool) : Value := .tuple #[.int .i64 n, .int .i64 d, .bool ok]
abbrev Gives3 (n d : Int) (ok : Bool) (w : World) (e : Ending) (w' : World) : Prop := e = .returned (ret3 n d ok) ∧ Below w.heap.size w w'

set_option maxHeartbeats 2000000 in
theorem use_no (A : Option Addr) (cap : Nat) (l : List Int) (b x : Int) (w : World) (h : IAt w A l) (hm : l.length ≤ 1048576) (hn : (gdB l && baB b && hoB x) = false) :
    Calls Try.prog 42 #[dv A l.length cap, .int .i64 b, .int .i64 x] w (Gives3 0 0 false w) := by
  obtain ⟨v, hv⟩ : ∃ v, gdB l = v := ⟨_, rfl⟩
  have HV := Lib.hid (fun w' (hb : Below w.heap.size w w') => valid_v hv A cap w' (h.kept hb (Nat.le_refl _)) hm)
  have HB := Lib.hid (fun w => base_any b w)
  have HH := Lib.hid (fun w => hour_any x w)
  rw [hv] at hn
  clear h hv
  generalize baB b = vb at *
  generalize hoB x = vx at *
  go_enter Try.func42, Try.ntmps42
  cases v <;> cases vb <;> cases vx <;> first | (exact absurd hn (by decide)) | skip
  all_goals
    clear hn
    go_wp2_with (first
      | (go_at_call 21; refine (HV.out _ ((Below.refl _ _).alloc (Nat.le_refl _) _)).mono ?_; rintro e w1 ⟨rfl, hb1⟩)
      | (go_at_call 73; refine (HB.out _).mono ?_; rintro e w1x ⟨rfl, hw⟩; replace hw := hw.symm; subst hw)
      | (go_at_call 56; refine (HH.out _).mono ?_; rintro e w1y ⟨rfl, hw⟩; replace hw := hw.symm; subst hw))
    go_ret3
    exact ⟨rfl, ((Below.refl _ _).alloc (Nat.le_refl _) _).trans (hb1.mono (by simp))⟩
set_option maxHeartbeats 2000000 in
theorem suse_no (A : Option Addr) (cap : Nat) (l : List Int) (b x : Int) (w : World) (h : IAt w A l) (hm : l.length ≤ 1048576) (hn : (gdB l && baB b && hoB x) = false) :
    Calls Try.prog 43 #[dv A l.length cap, .int .i64 b, .int .i64 x] w (Gives3 0 0 false w) := by
  obtain ⟨v, hv⟩ : ∃ v, gdB l = v := ⟨_, rfl⟩
  have HV := Lib.hid (fun w' (hb : Below w.heap.size w w') => sgood_v hv A cap w' (h.kept hb (Nat.le_refl _)) hm)
  have HB := Lib.hid (fun w => sbase_any b w)
  have HH := Lib.hid (fun w => shour_any x w)
  rw [hv] at hn
  clear h hv
  generalize baB b = vb at *
  generalize hoB x = vx at *
  go_enter Try.func43, Try.ntmps43
  cases v <;> cases vb <;> cases vx <;> first | (exact absurd hn (by decide)) | skip
  all_goals
    clear hn
    go_wp2_with (first
      | (go_at_call 57; refine (HV.out _ ((Below.refl _ _).alloc (Nat.le_refl _) _)).mono ?_; rintro e w1 ⟨rfl, hb1⟩)
      | (go_at_call 75; refine (HB.out _).mono ?_; rintro e w1x ⟨rfl, hw⟩; replace hw := hw.symm; subst hw)
      | (go_at_call 58; refine (HH.out _).mono ?_; rintro e w1y ⟨rfl, hw⟩; replace hw := hw.symm; subst hw))
    go_ret3
    exact ⟨rfl, ((Below.refl _ _).alloc (Nat.le_refl _) _).trans (hb1.mono (by simp))⟩

/-- The flow of a valid hour. -/
def useN (l : List Int) (b x : Nat) : Nat := b * (at0 l x).toNat
theorem use_fit {l : List Int} {b x : Nat} (g : Gd l) (hb : b ≤ 100000) (hx : x < 24) : useN l b x ≤ 100000000 ∧ (b : Int) * at0 l x = (useN l b x : Int) := by
  have h1 := g.2.1 x hx
  unfold useN
  obtain ⟨n, hn⟩ := nat_of h1.1
  rw [hn]
  refine ⟨?_, by simp⟩
  calc b * ((n : Int)).toNat ≤ 100000 * 1000 := Nat.mul_le_mul hb (by omega)
    _ ≤ 100000000 := by omega
set_option maxHeartbeats 2000000 in
theorem use_yes (A : Option Addr) (cap : Nat) (l : List Int) (b x : Nat) (w : World) (h : IAt w A l) (g : Gd l) (hb0 : b ≤ 100000) (hx : x < 24) :
    Calls Try.prog 42 #[dv A l.length cap, .int .i64 (b : Int), .int .i64 (x : Int)] w (Gives3 (lowN (useN l b x) 100) (lowD (useN l b x) 100) true w) := by
  have hl := g.1
  have HV := Lib.hid (fun w' (hb : Below w.heap.size w w') => valid_v (gd_mk g) A cap w' (h.kept hb (Nat.le_refl _)) (by omega))
  rw [hl] at HV ⊢
  have HB := Lib.hid (fun w => base_any (b : Int) w)
  have HH := Lib.hid (fun w => hour_any (x : Int) w)
  rw [show baB (b : Int) = true by simp [baB]; omega] at HB
  rw [show hoB (x : Int) = true by simp [hoB]; omega] at HH
  obtain ⟨bb, off, hA, hbl, h0⟩ := h.at_ (i := x) (by omega)
  subst hA
  obtain ⟨hu, he⟩ := use_fit (b := b) g hb0 hx
  have hat : l.getD x 0 = at0 l x := rfl
  rw [hat] at h0
  have hx1 := g.2.1 x hx
  have H := Lib.hid (fun w => low_any (useN l b x) 100 w (by omega) (by omega) (by omega))
  have hw : IntKind.i64.wrap ((b : Int) * at0 l x) = (useN l b x : Int) := by rw [he]; exact IntWalk.i64_in _ (by omega)
  unfold lowV at H
  generalize lowN (useN l b x) 100 = u at *
  generalize lowD (useN l b x) 100 = v at *
  generalize useN l b x = z at *
  generalize at0 l x = p at *
  clear h he g hl hat
  go_enter Try.func42, Try.ntmps42
  go_wp2_with (first
    | (go_at_call 21; refine (HV.out _ ((Below.refl _ _).alloc (Nat.le_refl _) _)).mono ?_; rintro e w1 ⟨rfl, hb1⟩; have hB := (show Below (w.heap.size + 1) (w.alloc (.cells #[.slice (some ⟨bb, off, none⟩) 24 cap] 26)) w1 by simpa using hb1); have hbx := box1 hB; obtain ⟨hc, hfz⟩ := bcell (W := w.alloc (.cells #[.slice (some ⟨bb, off, none⟩) 24 cap] 26)) (by simpa using hB))
    | (go_at_call 73; refine (HB.out _).mono ?_; rintro e w1x ⟨rfl, hw⟩; replace hw := hw.symm; subst hw)
    | (go_at_call 56; refine (HH.out _).mono ?_; rintro e w1y ⟨rfl, hw⟩; replace hw := hw.symm; subst hw)
    | (go_at_call 79; refine (H.out _).mono ?_; rintro e w2 ⟨rfl, hb2⟩))
  go_ret3
  exact ⟨rfl, below_box (on_call hB hb2)⟩
set_option maxHeartbeats 2000000 in
theorem suse_yes (A : Option Addr) (cap : Nat) (l : List Int) (b x : Nat) (w : World) (h : IAt w A l) (g : Gd l) (hb0 : b ≤ 100000) (hx : x < 24) :
    Calls Try.prog 43 #[dv A l.length cap, .int .i64 (b : Int), .int .i64 (x : Int)] w (Gives3 (lowN (useN l b x) 100) (lowD (useN l b x) 100) true w) := by
  have hl := g.1
  have HV := Lib.hid (fun w' (hb : Below w.heap.size w w') => sgood_v (gd_mk g) A cap w' (h.kept hb (Nat.le_refl _)) (by omega))
  rw [hl] at HV ⊢
  have HB := Lib.hid (fun w => sbase_any (b : Int) w)
  have HH := Lib.hid (fun w => shour_any (x : Int) w)
  rw [show baB (b : Int) = true by simp [baB]; omega] at HB
  rw [show hoB (x : Int) = true by simp [hoB]; omega] at HH
  obtain ⟨bb, off, hA, hbl, h0⟩ := h.at_ (i := x) (by omega)
  subst hA
  obtain ⟨hu, he⟩ := use_fit (b := b) g hb0 hx
  have hat : l.getD x 0 = at0 l x := rfl
  rw [hat] at h0
  have hx1 := g.2.1 x hx
  have H := Lib.hid (fun w => reduce_any (useN l b x) 100 w (by omega) (by omega) (by omega))
  have hw : IntKind.i64.wrap ((b : Int) * at0 l x) = (useN l b x : Int) := by rw [he]; exact IntWalk.i64_in _ (by omega)
  unfold lowV at H
  generalize lowN (useN l b x) 100 = u at *
  generalize lowD (useN l b x) 100 = v at *
  generalize useN l b x = z at *
  generalize at0 l x = p at *
  clear h he g hl hat
  go_enter Try.func43, Try.ntmps43
  go_wp2_with (first
    | (go_at_call 57; refine (HV.out _ ((Below.refl _ _).alloc (Nat.le_refl _) _)).mono ?_; rintro e w1 ⟨rfl, hb1⟩; have hB := (show Below (w.heap.size + 1) (w.alloc (.cells #[.slice (some ⟨bb, off, none⟩) 24 cap] 26)) w1 by simpa using hb1); have hbx := box1 hB; obtain ⟨hc, hfz⟩ := bcell (W := w.alloc (.cells #[.slice (some ⟨bb, off, none⟩) 24 cap] 26)) (by simpa using hB))
    | (go_at_call 75; refine (HB.out _).mono ?_; rintro e w1x ⟨rfl, hw⟩; replace hw := hw.symm; subst hw)
    | (go_at_call 58; refine (HH.out _).mono ?_; rintro e w1y ⟨rfl, hw⟩; replace hw := hw.symm; subst hw)
    | (go_at_call 76; refine (H.out _).mono ?_; rintro e w2 ⟨rfl, hb2⟩))
  go_ret3
  exact ⟨rfl, below_box (on_call hB hb2)⟩
end Go.Proofs.Ytkgkeohnnpkahaa.S6
