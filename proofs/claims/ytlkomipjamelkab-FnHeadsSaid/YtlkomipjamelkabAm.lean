/- Demands and flows of a network, and sums of them, for the program and the model: contracts. Conditions: each theorem's own premises. -/
import Derived.Test.YtlkomipjamelkabNodeOne
import Derived.Test.YtlkomipjamelkabIntsOne
import Derived.Deep.DeepCutAuto
namespace Go.Proofs.Ytlkomipjamelkab.S2
open Go.RowKit P2

def inR (a b x : Int) : Bool := decide (a ≤ x ∧ x ≤ b)
def allR (a b : Int) (l : List Int) : Bool := l.all fun x => inR a b x
/-- As many numbers as asked, all from a to b. -/
def amtB (l : List Int) (n a b : Int) : Bool := decide ((l.length : Int) = n) && allR a b l
theorem allR_at {a b : Int} {l : List Int} (h : allR a b l = true) {i : Nat} (hi : i < l.length) : a ≤ l.getD i 0 ∧ l.getD i 0 ≤ b := by
  unfold allR at h
  rw [List.all_eq_true] at h
  have := h _ (List.getElem_mem hi)
  have e : l.getD i 0 = l[i] := by simp [List.getD, hi]
  rw [e]
  simpa [inR] using this
theorem allR_mk {a b : Int} {l : List Int} (h : ∀ j, j < l.length → inR a b (l.getD j 0) = true) : allR a b l = true := by
  unfold allR
  rw [List.all_eq_true]
  intro x hx
  obtain ⟨j, hj⟩ := List.getElem?_of_mem hx
  have hl := (List.getElem?_eq_some_iff.1 hj).1
  have := h j hl
  have e : l.getD j 0 = x := by simp [List.getD, hj]
  rwa [e] at this
theorem allR_no {a b : Int} {l : List Int} {k : Nat} (hk : k < l.length) (h : inR a b (l.getD k 0) = false) : allR a b l = false := by
  unfold allR
  rw [List.all_eq_false]
  exact ⟨l.getD k 0, by simp [List.getD, hk], by rw [h]; simp⟩
theorem inR_snoc {a b : Int} {l : List Int} {k : Nat} (h : ∀ j, j < k → inR a b (l.getD j 0) = true) (hx : inR a b (l.getD k 0) = true) : ∀ j, j < k + 1 → inR a b (l.getD j 0) = true := by
  intro j hj
  by_cases e : j = k
  · subst e; exact hx
  · exact h j (by omega)

theorem amc_any (x a b : Int) (b1 b2 : Nat) (w : World) (h1 : w.cell? ⟨b1, 0, none⟩ = some (.int .i64 a)) (h2 : w.cell? ⟨b2, 0, none⟩ = some (.int .i64 b)) :
    Calls Try.prog 150 #[.int .i64 x, .pointer (some ⟨b1, 0, none⟩), .pointer (some ⟨b2, 0, none⟩)] w fun e w' => e = .returned (.bool (!(inR a b x))) ∧ w' = w := by
  by_cases g1 : x < a
  · have e : inR a b x = false := by simp [inR]; omega
    rw [e]; clear e
    go_enter Try.func150, Try.ntmps150
    go_wp2
    go_ret
    exact ⟨rfl, rfl⟩
  · by_cases g2 : b < x
    · have e : inR a b x = false := by simp [inR]; omega
      rw [e]; clear e
      have d1 : decide (x < a) = false := by simpa using g1
      have d2 : decide (b < x) = true := by simpa using g2
      clear g1 g2
      go_enter Try.func150, Try.ntmps150
      go_wp2
      go_ret
      exact ⟨rfl, rfl⟩
    · have e : inR a b x = true := by simp [inR]; omega
      rw [e]; clear e
      have d1 : decide (x < a) = false := by simpa using g1
      have d2 : decide (b < x) = false := by simpa using g2
      clear g1 g2
      go_enter Try.func150, Try.ntmps150
      go_wp2
      go_ret
      exact ⟨rfl, rfl⟩
/-- The first number out of the range, or -1. -/
def FirstR (a b : Int) (l : List Int) (r : Int) : Prop := (r = -1 ∧ allR a b l = true) ∨ (0 ≤ r ∧ allR a b l = false)
theorem am_idx (A : Option Addr) (cap : Nat) (l : List Int) (a b : Int) (b1 b2 : Nat) (w : World) (h : IAt w A l) (hl : l.length ≤ 1048576) (h1 : w.cell? ⟨b1, 0, none⟩ = some (.int .i64 a)) (h2 : w.cell? ⟨b2, 0, none⟩ = some (.int .i64 b)) :
    Calls Try.prog 170 #[.slice A l.length cap, .func (.func 150) #[] #[.pointer (some ⟨b1, 0, none⟩), .pointer (some ⟨b2, 0, none⟩)]] w fun e w' => (∃ r, e = .returned (.int .i64 r) ∧ FirstR a b l r) ∧ w' = w := by
  have HA := Lib.hid h
  have HC := Lib.hid (fun x => amc_any x a b b1 b2 w h1 h2)
  clear h h1 h2
  go_enter Try.func170, Try.ntmps170
  go_wp2
  go_loop [8] (fun i => ∃ k : Nat, k ≤ l.length ∧ i = .int .i64 (k : Int) ∧ Hid (∀ j, j < k → inR a b (l.getD j 0) = true)) (fun i => l.length - (intOf i).toNat)
  case atStart => exact ⟨0, Nat.zero_le _, rfl, Lib.hid (fun j hj => absurd hj (by omega))⟩
  case round =>
    obtain ⟨k, hk, rfl, hno⟩ := hrel
    by_cases hlt : k < l.length
    · obtain ⟨bb, off, hA, hbl, h0⟩ := HA.out.at_ hlt
      subst hA
      have hk0 : (0 : Int) ≤ (k : Int) := by omega
      have hkn : (k : Int) < (l.length : Int) := by omega
      have HC1 := Lib.hid (HC.out (l.getD k 0))
      cases hv : inR a b (l.getD k 0) with
      | false =>
        have HFI := Lib.hid (show FirstR a b l (k : Int) from .inr ⟨by omega, allR_no hlt hv⟩)
        rw [hv] at HC1
        clear hv hno HC
        generalize l.getD k 0 = y at *
        go_wp2_with (go_at_call 150; refine HC1.out.mono ?_; rintro e w1 ⟨rfl, hw⟩; replace hw := hw.symm; subst hw)
        go_ret
        exact ⟨⟨_, rfl, HFI.out⟩, rfl⟩
      | true =>
        have hno2 := Lib.hid (inR_snoc hno.out hv)
        rw [hv] at HC1
        clear hv hno
        generalize l.getD k 0 = y at *
        go_wp2_with (go_at_call 150; refine HC1.out.mono ?_; rintro e w1 ⟨rfl, hw⟩; replace hw := hw.symm; subst hw)
        go_round
        case rel => exact ⟨k + 1, by omega, by go_num, hno2⟩
        case measure => simp [intOf]; omega
    · have HFI := Lib.hid (show FirstR a b l (-1) from .inl ⟨rfl, allR_mk (fun i hi => hno.out i (by omega))⟩)
      go_wp2
      go_ret
      exact ⟨⟨_, rfl, HFI.out⟩, rfl⟩
theorem am_con (A : Option Addr) (cap : Nat) (l : List Int) (a b : Int) (b1 b2 : Nat) (w : World) (h : IAt w A l) (hl : l.length ≤ 1048576) (h1 : w.cell? ⟨b1, 0, none⟩ = some (.int .i64 a)) (h2 : w.cell? ⟨b2, 0, none⟩ = some (.int .i64 b)) :
    Calls Try.prog 149 #[.slice A l.length cap, .func (.func 150) #[] #[.pointer (some ⟨b1, 0, none⟩), .pointer (some ⟨b2, 0, none⟩)]] w fun e w' => e = .returned (.bool (!(allR a b l))) ∧ w' = w := by
  have H := Lib.hid (am_idx A cap l a b b1 b2 w h hl h1 h2)
  clear h h1 h2
  cases ha : allR a b l with
  | true =>
    have H2 := Lib.hid (H.out.mono (R' := fun e w' => e = .returned (.int .i64 (-1)) ∧ w' = w) fun _ _ ⟨⟨r, he, hr⟩, hw⟩ => ⟨by
      rcases hr with ⟨h, _⟩ | ⟨_, h⟩
      · rw [he, h]
      · exact absurd (h.symm.trans ha) (by simp), hw⟩)
    clear ha H
    go_enter Try.func149, Try.ntmps149
    go_wp2_with (go_at_call 170; refine H2.out.mono ?_; rintro e w1 ⟨rfl, hw⟩; replace hw := hw.symm; subst hw)
    go_ret
    exact ⟨rfl, rfl⟩
  | false =>
    have H2 := Lib.hid (H.out.mono (R' := fun e w' => (∃ r : Int, e = .returned (.int .i64 r) ∧ 0 ≤ r) ∧ w' = w) fun _ _ ⟨⟨r, he, hr⟩, hw⟩ => ⟨⟨r, he, by
      rcases hr with ⟨_, h⟩ | ⟨h, _⟩
      · rw [h] at ha; cases ha
      · exact h⟩, hw⟩)
    clear ha H
    go_enter Try.func149, Try.ntmps149
    go_wp2_with (go_at_call 170; refine H2.out.mono ?_; rintro e w1 ⟨⟨r, rfl, hr⟩, hw⟩; replace hw := hw.symm; subst hw)
    go_ret
    exact ⟨rfl, rfl⟩

set_option maxHeartbeats 1000000 in
theorem am_any (A : Option Addr) (cap : Nat) (l : List Int) (n a b : Int) (w : World) (h : IAt w A l) (hl : l.length ≤ 1048576) :
    Calls Try.prog 102 #[.slice A l.length cap, .int .i64 n, .int .i64 a, .int .i64 b] w fun e w' => e = .returned (.bool (amtB l n a b)) ∧ Below w.heap.size w w' := by
  have H := Lib.hid (fun b1 b2 w' (hb : Below w.heap.size w w') h1 h2 => am_con A cap l a b b1 b2 w' (h.kept hb (Nat.le_refl _)) hl h1 h2)
  have HB0 := Lib.hid (show Below w.heap.size w ((w.alloc (.cells #[.int .i64 a] 3)).alloc (.cells #[.int .i64 b] 3)) from ((Below.refl _ _).alloc (Nat.le_refl _) _).alloc (by simp) _)
  clear h
  unfold amtB
  by_cases he : (l.length : Int) = n
  · have g1 : ((l.length : Int) == n) = true := beq_iff_eq.2 he
    have e : decide ((l.length : Int) = n) = true := by simp [he]
    rw [e, Bool.true_and]
    clear e he
    generalize allR a b l = v at *
    go_enter Try.func102, Try.ntmps102
    go_wp2_with (go_at_call 149; refine (H.out _ _ _ HB0.out ?_ ?_).mono ?_; go_simp; go_simp; rintro e w1 ⟨rfl, hw⟩; replace hw := hw.symm; subst hw)
    go_ret
    exact ⟨by simp, HB0.out⟩
  · have g1 : ((l.length : Int) == n) = false := beq_eq_false_iff_ne.2 he
    have e : decide ((l.length : Int) = n) = false := by simp [he]
    rw [e, Bool.false_and]
    clear e he
    go_enter Try.func102, Try.ntmps102
    go_wp2
    go_ret
    exact ⟨rfl, HB0.out⟩
theorem am_v {l : List Int} {n a b : Int} {v : Bool} (hv : amtB l n a b = v) (A : Option Addr) (cap : Nat) (w : World) (h : IAt w A l) (hl : l.length ≤ 1048576) :
    Calls Try.prog 102 #[.slice A l.length cap, .int .i64 n, .int .i64 a, .int .i64 b] w fun e w' => e = .returned (.bool v) ∧ Below w.heap.size w w' := by
  rw [← hv]; exact am_any A cap l n a b w h hl
end Go.Proofs.Ytlkomipjamelkab.S2
