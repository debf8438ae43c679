/- Validity of rules, lists of places and levels; which level suits a place, for the program and the model: contracts. Conditions: each theorem's own premises. -/
import Derived.Test.YtjfpimldiokpbaaZnKit
import Derived.Deep.DeepCutAuto
namespace Go.Proofs.Ytjfpimldiokpbaa.S12
open Go.RowKit P12

set_option maxHeartbeats 1000000 in
theorem rule_any (a b : Int) (w : World) : Calls Try.prog 16 #[rv a b] w fun e w' => e = .returned (.bool (rlB a b)) ∧ Below w.heap.size w w' := by
  unfold rlB
  by_cases h1 : 1 ≤ a
  · by_cases h2 : a ≤ b
    · by_cases h3 : b ≤ 200
      · rw [show decide (1 ≤ a ∧ a ≤ b ∧ b ≤ 200) = true by simp [h1, h2, h3]]
        have g1 : decide (1 ≤ a) = true := by simp [h1]
        have g2 : decide (a ≤ b) = true := by simp [h2]
        have g3 : decide (b ≤ 200) = true := by simp [h3]
        go_enter Try.func16, Try.ntmps16
        go_wp2
        go_ret
        exact ⟨rfl, alloc_below w _⟩
      · rw [show decide (1 ≤ a ∧ a ≤ b ∧ b ≤ 200) = false by simp [h3]]
        have g1 : decide (1 ≤ a) = true := by simp [h1]
        have g2 : decide (a ≤ b) = true := by simp [h2]
        have g3 : decide (b ≤ 200) = false := by simp [h3]
        go_enter Try.func16, Try.ntmps16
        go_wp2
        go_ret
        exact ⟨rfl, alloc_below w _⟩
    · rw [show decide (1 ≤ a ∧ a ≤ b ∧ b ≤ 200) = false by simp [h2]]
      have g1 : decide (1 ≤ a) = true := by simp [h1]
      have g2 : decide (a ≤ b) = false := by simp [h2]
      go_enter Try.func16, Try.ntmps16
      go_wp2
      go_ret
      exact ⟨rfl, alloc_below w _⟩
  · rw [show decide (1 ≤ a ∧ a ≤ b ∧ b ≤ 200) = false by simp [h1]]
    have g1 : decide (1 ≤ a) = false := by simp [h1]
    go_enter Try.func16, Try.ntmps16
    go_wp2
    go_ret
    exact ⟨rfl, alloc_below w _⟩
theorem rule_v {a b : Int} {v : Bool} (h : rlB a b = v) (w : World) : Calls Try.prog 16 #[rv a b] w fun e w' => e = .returned (.bool v) ∧ Below w.heap.size w w' := by
  rw [← h]; exact rule_any a b w
set_option maxHeartbeats 1000000 in
theorem srule_any (a b : Int) (w : World) : Calls Try.prog 45 #[rv a b] w fun e w' => e = .returned (.bool (rlB a b)) ∧ Below w.heap.size w w' := by
  unfold rlB
  by_cases h1 : 1 ≤ a
  · by_cases h2 : a ≤ b
    · by_cases h3 : b ≤ 200
      · rw [show decide (1 ≤ a ∧ a ≤ b ∧ b ≤ 200) = true by simp [h1, h2, h3]]
        have g1 : decide (1 ≤ a) = true := by simp [h1]
        have g2 : decide (a ≤ b) = true := by simp [h2]
        have g3 : decide (b ≤ 200) = true := by simp [h3]
        go_enter Try.func45, Try.ntmps45
        go_wp2
        go_ret
        exact ⟨rfl, alloc_below w _⟩
      · rw [show decide (1 ≤ a ∧ a ≤ b ∧ b ≤ 200) = false by simp [h3]]
        have g1 : decide (1 ≤ a) = true := by simp [h1]
        have g2 : decide (a ≤ b) = true := by simp [h2]
        have g3 : decide (b ≤ 200) = false := by simp [h3]
        go_enter Try.func45, Try.ntmps45
        go_wp2
        go_ret
        exact ⟨rfl, alloc_below w _⟩
    · rw [show decide (1 ≤ a ∧ a ≤ b ∧ b ≤ 200) = false by simp [h2]]
      have g1 : decide (1 ≤ a) = true := by simp [h1]
      have g2 : decide (a ≤ b) = false := by simp [h2]
      go_enter Try.func45, Try.ntmps45
      go_wp2
      go_ret
      exact ⟨rfl, alloc_below w _⟩
  · rw [show decide (1 ≤ a ∧ a ≤ b ∧ b ≤ 200) = false by simp [h1]]
    have g1 : decide (1 ≤ a) = false := by simp [h1]
    go_enter Try.func45, Try.ntmps45
    go_wp2
    go_ret
    exact ⟨rfl, alloc_below w _⟩
theorem srule_v {a b : Int} {v : Bool} (h : rlB a b = v) (w : World) : Calls Try.prog 45 #[rv a b] w fun e w' => e = .returned (.bool v) ∧ Below w.heap.size w w' := by
  rw [← h]; exact srule_any a b w
theorem svalid_any (a b : Int) (w : World) : Calls Try.prog 14 #[rv a b] w fun e w' => e = .returned (.bool (rlB a b)) ∧ Below w.heap.size w w' := by
  have H := Lib.hid (fun w => srule_any a b w)
  generalize rlB a b = v at *
  go_enter Try.func14, Try.ntmps14
  go_wp2_with (go_at_call 45; refine (H.out _).mono ?_; rintro e w1 ⟨rfl, hb1⟩)
  go_ret
  exact ⟨rfl, (alloc_below w _).trans (hb1.mono (by simp))⟩
theorem sel_any (x : Int) (w : World) : Calls Try.prog 64 #[.int .i64 x] w fun e w' => e = .returned (.bool (inR 0 1000 x)) ∧ w' = w := by
  have H := Lib.hid (fun w => in_eq x 0 1000 (inR 0 1000 x) rfl w)
  generalize inR 0 1000 x = v at *
  go_enter Try.func64, Try.ntmps64
  go_wp2_with (go_at_call 65; refine (H.out _).mono ?_; rintro e w1 ⟨rfl, rfl⟩)
  go_ret
  exact ⟨rfl, rfl⟩
theorem sel_v {x : Int} {v : Bool} (h : inR 0 1000 x = v) (w : World) : Calls Try.prog 64 #[.int .i64 x] w fun e w' => e = .returned (.bool v) ∧ w' = w := by
  rw [← h]; exact sel_any x w
theorem slv_any (x : Int) (w : World) : Calls Try.prog 47 #[.int .i64 x] w fun e w' => e = .returned (.bool (lvB x)) ∧ w' = w := by
  have H := Lib.hid (fun w => in_eq x 0 2000 (lvB x) rfl w)
  generalize lvB x = v at *
  go_enter Try.func47, Try.ntmps47
  go_wp2_with (go_at_call 65; refine (H.out _).mono ?_; rintro e w1 ⟨rfl, rfl⟩)
  go_ret
  exact ⟨rfl, rfl⟩
theorem lv_any (x : Int) (w : World) : Calls Try.prog 50 #[.int .i64 x] w fun e w' => e = .returned (.bool (lvB x)) ∧ w' = w := by
  unfold lvB inR
  by_cases h1 : 0 ≤ x
  · have e : decide (0 ≤ x ∧ x ≤ 2000) = decide (x ≤ 2000) := by simp [h1]
    rw [e]
    go_enter Try.func50, Try.ntmps50
    go_wp2
    go_ret
    exact ⟨rfl, rfl⟩
  · have e : decide (0 ≤ x ∧ x ≤ 2000) = false := by simp [h1]
    rw [e]
    go_enter Try.func50, Try.ntmps50
    go_wp2
    go_ret
    exact ⟨rfl, rfl⟩
theorem amc_any (x a b : Int) (b1 b2 : Nat) (w : World) (h1 : w.cell? ⟨b1, 0, none⟩ = some (.int .i64 a)) (h2 : w.cell? ⟨b2, 0, none⟩ = some (.int .i64 b)) :
    Calls Try.prog 80 #[.int .i64 x, .pointer (some ⟨b1, 0, none⟩), .pointer (some ⟨b2, 0, none⟩)] w fun e w' => e = .returned (.bool (!(inR a b x))) ∧ w' = w := by
  by_cases g1 : x < a
  · have e : inR a b x = false := by simp [inR]; omega
    rw [e]; clear e
    go_enter Try.func80, Try.ntmps80
    go_wp2
    go_ret
    exact ⟨rfl, rfl⟩
  · by_cases g2 : b < x
    · have e : inR a b x = false := by simp [inR]; omega
      rw [e]; clear e
      have d1 : decide (x < a) = false := by simpa using g1
      have d2 : decide (b < x) = true := by simpa using g2
      clear g1 g2
      go_enter Try.func80, Try.ntmps80
      go_wp2
      go_ret
      exact ⟨rfl, rfl⟩
    · have e : inR a b x = true := by simp [inR]; omega
      rw [e]; clear e
      have d1 : decide (x < a) = false := by simpa using g1
      have d2 : decide (b < x) = false := by simpa using g2
      clear g1 g2
      go_enter Try.func80, Try.ntmps80
      go_wp2
      go_ret
      exact ⟨rfl, rfl⟩
/-- The first number out of the range, or -1. -/
def FirstR (a b : Int) (l : List Int) (r : Int) : Prop := (r = -1 ∧ allR a b l = true) ∨ (0 ≤ r ∧ allR a b l = false)
theorem am_idx (A : Option Addr) (cap : Nat) (l : List Int) (a b : Int) (b1 b2 : Nat) (w : World) (h : IAt w A l) (hl : l.length ≤ 1048576) (h1 : w.cell? ⟨b1, 0, none⟩ = some (.int .i64 a)) (h2 : w.cell? ⟨b2, 0, none⟩ = some (.int .i64 b)) :
    Calls Try.prog 61 #[.slice A l.length cap, .func (.func 80) #[] #[.pointer (some ⟨b1, 0, none⟩), .pointer (some ⟨b2, 0, none⟩)]] w fun e w' => (∃ r, e = .returned (.int .i64 r) ∧ FirstR a b l r) ∧ w' = w := by
  have HA := Lib.hid h
  have HC := Lib.hid (fun x => amc_any x a b b1 b2 w h1 h2)
  clear h h1 h2
  go_enter Try.func61, Try.ntmps61
  go_wp2
  go_loop [8] (fun i => ∃ k : Nat, k ≤ l.length ∧ i = .int .i64 (k : Int) ∧ Hid (∀ j, j < k → inR a b (l.getD j 0) = true)) (fun i => l.length - (intOf i).toNat)
  case atStart => exact ⟨0, Nat.zero_le _, rfl, Lib.hid (fun j hj => absurd hj (by omega))⟩
  case round =>
    obtain ⟨k, hk, rfl, hno⟩ := hrel
    by_cases hlt : k < l.length
    · obtain ⟨bb, off, hA, hbl, h0⟩ := HA.out.at_ hlt
      subst hA
      have hk0 : (0 : Int) ≤ (k : Int) := by omega
      have hkn : (k : Int) < (l.length : Int) := by omega
      have HC1 := Lib.hid (HC.out (l.getD k 0))
      cases hv : inR a b (l.getD k 0) with
      | false =>
        have HFI := Lib.hid (show FirstR a b l (k : Int) from .inr ⟨by omega, allR_no hlt hv⟩)
        rw [hv] at HC1
        clear hv hno HC
        generalize l.getD k 0 = y at *
        go_wp2_with (go_at_call 80; refine HC1.out.mono ?_; rintro e w1 ⟨rfl, hw⟩; replace hw := hw.symm; subst hw)
        go_ret
        exact ⟨⟨_, rfl, HFI.out⟩, rfl⟩
      | true =>
        have hno2 := Lib.hid (inR_snoc hno.out hv)
        rw [hv] at HC1
        clear hv hno
        generalize l.getD k 0 = y at *
        go_wp2_with (go_at_call 80; refine HC1.out.mono ?_; rintro e w1 ⟨rfl, hw⟩; replace hw := hw.symm; subst hw)
        go_round
        case rel => exact ⟨k + 1, by omega, by go_num, hno2⟩
        case measure => simp [intOf]; omega
    · have HFI := Lib.hid (show FirstR a b l (-1) from .inl ⟨rfl, allR_mk (fun i hi => hno.out i (by omega))⟩)
      go_wp2
      go_ret
      exact ⟨⟨_, rfl, HFI.out⟩, rfl⟩
theorem am_con (A : Option Addr) (cap : Nat) (l : List Int) (a b : Int) (b1 b2 : Nat) (w : World) (h : IAt w A l) (hl : l.length ≤ 1048576) (h1 : w.cell? ⟨b1, 0, none⟩ = some (.int .i64 a)) (h2 : w.cell? ⟨b2, 0, none⟩ = some (.int .i64 b)) :
    Calls Try.prog 79 #[.slice A l.length cap, .func (.func 80) #[] #[.pointer (some ⟨b1, 0, none⟩), .pointer (some ⟨b2, 0, none⟩)]] w fun e w' => e = .returned (.bool (!(allR a b l))) ∧ w' = w := by
  have H := Lib.hid (am_idx A cap l a b b1 b2 w h hl h1 h2)
  clear h h1 h2
  cases ha : allR a b l with
  | true =>
    have H2 := Lib.hid (H.out.mono (R' := fun e w' => e = .returned (.int .i64 (-1)) ∧ w' = w) fun _ _ ⟨⟨r, he, hr⟩, hw⟩ => ⟨by
      rcases hr with ⟨h, _⟩ | ⟨_, h⟩
      · rw [he, h]
      · exact absurd (h.symm.trans ha) (by simp), hw⟩)
    clear ha H
    go_enter Try.func79, Try.ntmps79
    go_wp2_with (go_at_call 61; refine H2.out.mono ?_; rintro e w1 ⟨rfl, hw⟩; replace hw := hw.symm; subst hw)
    go_ret
    exact ⟨rfl, rfl⟩
  | false =>
    have H2 := Lib.hid (H.out.mono (R' := fun e w' => (∃ r : Int, e = .returned (.int .i64 r) ∧ 0 ≤ r) ∧ w' = w) fun _ _ ⟨⟨r, he, hr⟩, hw⟩ => ⟨⟨r, he, by
      rcases hr with ⟨_, h⟩ | ⟨h, _⟩
      · rw [h] at ha; cases ha
      · exact h⟩, hw⟩)
    clear ha H
    go_enter Try.func79, Try.ntmps79
    go_wp2_with (go_at_call 61; refine H2.out.mono ?_; rintro e w1 ⟨⟨r, rfl, hr⟩, hw⟩; replace hw := hw.symm; subst hw)
    go_ret
    exact ⟨rfl, rfl⟩

set_option maxHeartbeats 1000000 in
theorem am_any (A : Option Addr) (cap : Nat) (l : List Int) (n a b : Int) (w : World) (h : IAt w A l) (hl : l.length ≤ 1048576) :
    Calls Try.prog 74 #[.slice A l.length cap, .int .i64 n, .int .i64 a, .int .i64 b] w fun e w' => e = .returned (.bool (amtB l n a b)) ∧ Below w.heap.size w w' := by
  have H := Lib.hid (fun b1 b2 w' (hb : Below w.heap.size w w') h1 h2 => am_con A cap l a b b1 b2 w' (h.kept hb (Nat.le_refl _)) hl h1 h2)
  have HB0 := Lib.hid (show Below w.heap.size w ((w.alloc (.cells #[.int .i64 a] 3)).alloc (.cells #[.int .i64 b] 3)) from ((Below.refl _ _).alloc (Nat.le_refl _) _).alloc (by simp) _)
  clear h
  unfold amtB
  by_cases he : (l.length : Int) = n
  · have g1 : ((l.length : Int) == n) = true := beq_iff_eq.2 he
    have e : decide ((l.length : Int) = n) = true := by simp [he]
    rw [e, Bool.true_and]
    clear e he
    generalize allR a b l = v at *
    go_enter Try.func74, Try.ntmps74
    go_wp2_with (go_at_call 79; refine (H.out _ _ _ HB0.out ?_ ?_).mono ?_; go_simp; go_simp; rintro e w1 ⟨rfl, hw⟩; replace hw := hw.symm; subst hw)
    go_ret
    exact ⟨by simp, HB0.out⟩
  · have g1 : ((l.length : Int) == n) = false := beq_eq_false_iff_ne.2 he
    have e : decide ((l.length : Int) = n) = false := by simp [he]
    rw [e, Bool.false_and]
    clear e he
    go_enter Try.func74, Try.ntmps74
    go_wp2
    go_ret
    exact ⟨rfl, HB0.out⟩
theorem am_v {l : List Int} {n a b : Int} {v : Bool} (hv : amtB l n a b = v) (A : Option Addr) (cap : Nat) (w : World) (h : IAt w A l) (hl : l.length ≤ 1048576) :
    Calls Try.prog 74 #[.slice A l.length cap, .int .i64 n, .int .i64 a, .int .i64 b] w fun e w' => e = .returned (.bool v) ∧ Below w.heap.size w w' := by
  rw [← hv]; exact am_any A cap l n a b w h hl
theorem pl_eq (l : List Int) : plB l = (decide ((l.length : Int) ≤ 12) && amtB l l.length 0 1000) := by
  unfold plB amtB
  rw [show decide ((l.length : Int) = (l.length : Int)) = true by simp, Bool.true_and, show decide (l.length ≤ 12) = decide ((l.length : Int) ≤ 12) from decide_eq_decide.2 (by omega)]
set_option maxHeartbeats 1000000 in
theorem pl_any (A : Option Addr) (cap : Nat) (l : List Int) (w : World) (h : IAt w A l) (hl : l.length ≤ 1048576) :
    Calls Try.prog 63 #[.slice A l.length cap] w fun e w' => e = .returned (.bool (plB l)) ∧ Below w.heap.size w w' := by
  rw [pl_eq]
  have H := Lib.hid (am_any A cap l l.length 0 1000 w h hl)
  clear h
  generalize amtB l l.length 0 1000 = v at *
  by_cases hn : (l.length : Int) ≤ 12
  · have g1 : decide ((l.length : Int) ≤ 12) = true := by simp only [decide_eq_true_eq]; exact hn
    rw [g1, Bool.true_and]
    go_enter Try.func63, Try.ntmps63
    go_wp2_with (go_at_call 74; refine H.out.mono ?_; rintro e w1 ⟨rfl, hb⟩)
    go_ret
    exact ⟨rfl, hb⟩
  · have g1 : decide ((l.length : Int) ≤ 12) = false := by simp only [decide_eq_false_iff_not]; exact hn
    rw [g1, Bool.false_and]
    go_enter Try.func63, Try.ntmps63
    go_wp2
    go_ret
    exact ⟨rfl, Below.refl _ _⟩
theorem pl_v {l : List Int} {v : Bool} (hv : plB l = v) (A : Option Addr) (cap : Nat) (w : World) (h : IAt w A l) (hl : l.length ≤ 1048576) :
    Calls Try.prog 63 #[.slice A l.length cap] w fun e w' => e = .returned (.bool v) ∧ Below w.heap.size w w' := by
  rw [← hv]; exact pl_any A cap l w h hl
set_option maxHeartbeats 1000000 in
theorem spl_any (A : Option Addr) (cap : Nat) (l : List Int) (w : World) (h : IAt w A l) (hl : l.length ≤ 1048576) :
    Calls Try.prog 62 #[.slice A l.length cap] w fun e w' => e = .returned (.bool (plB l)) ∧ Below w.heap.size w w' := by
  have HA := Lib.hid h
  clear h
  go_enter Try.func62, Try.ntmps62
  go_wp2
  go_loop [3] (fun i => ∃ k : Nat, k ≤ l.length ∧ i = .int .i64 (k : Int) ∧ Hid (∀ j, j < k → inR 0 1000 (l.getD j 0) = true)) (fun i => l.length - (intOf i).toNat)
  case atStart => exact ⟨0, Nat.zero_le _, rfl, Lib.hid (fun j hj => absurd hj (by omega))⟩
  case round =>
    obtain ⟨k, hk, rfl, hno⟩ := hrel
    by_cases hlt : k < l.length
    · obtain ⟨bb, off, hA, hbl, h0⟩ := HA.out.at_ hlt
      subst hA
      have hk0 : (0 : Int) ≤ (k : Int) := by omega
      have hkn : (k : Int) < (l.length : Int) := by omega
      have HC1 := Lib.hid (fun w => sel_any (l.getD k 0) w)
      cases hv : inR 0 1000 (l.getD k 0) with
      | false =>
        have HFI := Lib.hid (show plB l = false by unfold plB; rw [allR_no hlt hv, Bool.and_false])
        rw [hv] at HC1
        clear hv hno
        generalize l.getD k 0 = y at *
        go_wp2_with (go_at_call 64; refine (HC1.out _).mono ?_; rintro e w1 ⟨rfl, hw⟩; replace hw := hw.symm; subst hw)
        go_ret
        exact ⟨by rw [HFI.out]; rfl, Below.refl _ _⟩
      | true =>
        have hno2 := Lib.hid (inR_snoc hno.out hv)
        rw [hv] at HC1
        clear hv hno
        generalize l.getD k 0 = y at *
        go_wp2_with (go_at_call 64; refine (HC1.out _).mono ?_; rintro e w1 ⟨rfl, hw⟩; replace hw := hw.symm; subst hw)
        go_round
        case rel => exact ⟨k + 1, by omega, by go_num, hno2⟩
        case measure => simp [intOf]; omega
    · have HFI := Lib.hid (show plB l = decide ((l.length : Int) ≤ 12) by unfold plB; rw [allR_mk (fun i hi => hno.out i (by omega)), Bool.and_true]; exact decide_eq_decide.2 (by omega))
      go_wp2
      go_ret
      exact ⟨by rw [HFI.out]; rfl, Below.refl _ _⟩
theorem spl_v {l : List Int} {v : Bool} (hv : plB l = v) (A : Option Addr) (cap : Nat) (w : World) (h : IAt w A l) (hl : l.length ≤ 1048576) :
    Calls Try.prog 62 #[.slice A l.length cap] w fun e w' => e = .returned (.bool v) ∧ Below w.heap.size w w' := by
  rw [← hv]; exact spl_any A cap l w h hl
set_option maxHeartbeats 1000000 in
theorem ask_any (A : Option Addr) (cap : Nat) (l : List Int) (a b : Int) (w : World) (h : IAt w A l) (hl : l.length ≤ 1048576) :
    Calls Try.prog 49 #[.slice A l.length cap, rv a b] w fun e w' => e = .returned (.bool (askB l a b)) ∧ Below w.heap.size w w' := by
  unfold askB
  have HB0 := Lib.hid (alloc_below w (rb 25 a b))
  have HP := Lib.hid (fun w' (hb : Below w.heap.size w w') => pl_any A cap l w' (h.kept hb (Nat.le_refl _)) hl)
  have HR := Lib.hid (fun w => rule_any a b w)
  clear h
  generalize plB l = v1 at *
  generalize rlB a b = v2 at *
  cases v1 with
  | false =>
    go_enter Try.func49, Try.ntmps49
    go_wp2_with (go_at_call 63; refine (HP.out _ HB0.out).mono ?_; rintro e w1 ⟨rfl, hb1⟩)
    go_ret
    exact ⟨rfl, HB0.out.trans (hb1.mono HB0.out.size)⟩
  | true =>
    go_enter Try.func49, Try.ntmps49
    refine Hid.out ?_
    have hx := Lib.hid (BT.new w 25 a b)
    refine Lib.hid ?_
    go_wp2_with (first | (go_at_call 63; refine (HP.out _ HB0.out).mono ?_; rintro e w1 ⟨rfl, hb1⟩; refine Hid.out ?_) | fail)
    have hB1 := HB0.out.trans (hb1.mono HB0.out.size)
    obtain ⟨q0, q1, q2⟩ := hx.out.kept hb1
    clear hb1
    refine Lib.hid ?_
    go_wp2_with (first | (go_at_call 16; refine (HR.out _).mono ?_; rintro e w2 ⟨rfl, hb2⟩) | fail)
    go_ret
    exact ⟨by simp, hB1.trans (hb2.mono hB1.size)⟩
theorem ask_v {l : List Int} {a b : Int} {v : Bool} (hv : askB l a b = v) (A : Option Addr) (cap : Nat) (w : World) (h : IAt w A l) (hl : l.length ≤ 1048576) :
    Calls Try.prog 49 #[.slice A l.length cap, rv a b] w fun e w' => e = .returned (.bool v) ∧ Below w.heap.size w w' := by
  rw [← hv]; exact ask_any A cap l a b w h hl
set_option maxHeartbeats 1000000 in
theorem sask_any (A : Option Addr) (cap : Nat) (l : List Int) (a b : Int) (w : World) (h : IAt w A l) (hl : l.length ≤ 1048576) :
    Calls Try.prog 46 #[.slice A l.length cap, rv a b] w fun e w' => e = .returned (.bool (askB l a b)) ∧ Below w.heap.size w w' := by
  unfold askB
  have HB0 := Lib.hid (alloc_below w (rb 25 a b))
  have HP := Lib.hid (fun w' (hb : Below w.heap.size w w') => spl_any A cap l w' (h.kept hb (Nat.le_refl _)) hl)
  have HR := Lib.hid (fun w => srule_any a b w)
  clear h
  generalize plB l = v1 at *
  generalize rlB a b = v2 at *
  cases v1 with
  | false =>
    go_enter Try.func46, Try.ntmps46
    go_wp2_with (go_at_call 62; refine (HP.out _ HB0.out).mono ?_; rintro e w1 ⟨rfl, hb1⟩)
    go_ret
    exact ⟨rfl, HB0.out.trans (hb1.mono HB0.out.size)⟩
  | true =>
    go_enter Try.func46, Try.ntmps46
    refine Hid.out ?_
    have hx := Lib.hid (BT.new w 25 a b)
    refine Lib.hid ?_
    go_wp2_with (first | (go_at_call 62; refine (HP.out _ HB0.out).mono ?_; rintro e w1 ⟨rfl, hb1⟩; refine Hid.out ?_) | fail)
    have hB1 := HB0.out.trans (hb1.mono HB0.out.size)
    obtain ⟨q0, q1, q2⟩ := hx.out.kept hb1
    clear hb1
    refine Lib.hid ?_
    go_wp2_with (first | (go_at_call 45; refine (HR.out _).mono ?_; rintro e w2 ⟨rfl, hb2⟩) | fail)
    go_ret
    exact ⟨by simp, hB1.trans (hb2.mono hB1.size)⟩
theorem sask_v {l : List Int} {a b : Int} {v : Bool} (hv : askB l a b = v) (A : Option Addr) (cap : Nat) (w : World) (h : IAt w A l) (hl : l.length ≤ 1048576) :
    Calls Try.prog 46 #[.slice A l.length cap, rv a b] w fun e w' => e = .returned (.bool v) ∧ Below w.heap.size w w' := by
  rw [← hv]; exact sask_any A cap l a b w h hl
/-- The levels of a place. -/
theorem lev_any (x a b : Int) (w : World) (hx : 0 ≤ x ∧ x ≤ 1000) (ha : 0 ≤ a ∧ a ≤ 200) (hb : 0 ≤ b ∧ b ≤ 200) :
    Calls Try.prog 54 #[.int .i64 x, rv a b] w fun e w' => e = .returned (rv (x + a) (x + b)) ∧ Below w.heap.size w w' := by
  obtain ⟨x0, x1⟩ := hx
  obtain ⟨a0, a1⟩ := ha
  obtain ⟨b0, b1⟩ := hb
  go_enter Try.func54, Try.ntmps54
  go_wp2
  refine bodyPost_ret (v := rv (x + a) (x + b)) (by simp [results, Try.results54, go_sem]) rfl ⟨rfl, ?_⟩
  exact ((Below.refl _ _).alloc (Nat.le_refl _) _).alloc (by simp) _
theorem su_rng (x a b h : Int) : suB x a b h = decide (x + a ≤ h ∧ h ≤ x + b) := by
  rw [Bool.eq_iff_iff, suB_iff, decide_eq_true_iff]
theorem has_any (lo hi h : Int) (w : World) : Calls Try.prog 59 #[rv lo hi, .int .i64 h] w fun e w' => e = .returned (.bool (decide (lo ≤ h ∧ h ≤ hi))) ∧ Below w.heap.size w w' := by
  by_cases h1 : lo ≤ h
  · have e : decide (lo ≤ h ∧ h ≤ hi) = decide (h ≤ hi) := by simp [h1]
    rw [e]
    go_enter Try.func59, Try.ntmps59
    go_wp2
    go_ret
    exact ⟨rfl, alloc_below w _⟩
  · have e : decide (lo ≤ h ∧ h ≤ hi) = false := by simp [h1]
    rw [e]
    go_enter Try.func59, Try.ntmps59
    go_wp2
    go_ret
    exact ⟨rfl, alloc_below w _⟩
theorem has_su (x a b h : Int) (w : World) : Calls Try.prog 59 #[rv (x + a) (x + b), .int .i64 h] w fun e w' => e = .returned (.bool (suB x a b h)) ∧ Below w.heap.size w w' := by
  rw [su_rng]; exact has_any (x + a) (x + b) h w
theorem ssu_any (x a b h : Int) (w : World) (hx : 0 ≤ x ∧ x ≤ 1000) (hh : -5000 ≤ h ∧ h ≤ 5000) :
    Calls Try.prog 60 #[.int .i64 x, rv a b, .int .i64 h] w fun e w' => e = .returned (.bool (suB x a b h)) ∧ Below w.heap.size w w' := by
  obtain ⟨x0, x1⟩ := hx
  obtain ⟨h0, h1⟩ := hh
  have H := Lib.hid (fun w => in_eq (h - x) a b (suB x a b h) rfl w)
  generalize suB x a b h = v at *
  go_enter Try.func60, Try.ntmps60
  go_wp2_with (go_at_call 65; refine (H.out _).mono ?_; rintro e w1 ⟨rfl, rfl⟩)
  go_ret
  exact ⟨rfl, alloc_below w _⟩
end Go.Proofs.Ytjfpimldiokpbaa.S12
