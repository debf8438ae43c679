/- Demands and flows of a valid network; sums: what the program and the model return: contracts. Conditions: each theorem's own premises. -/
import Derived.Test.YtlkomipjamelkabAm
namespace Go.Proofs.Ytlkomipjamelkab.S2
open Go.RowKit P2

noncomputable def demB (n : Int) (ps : List Pp) (dm : List Int) : Bool := goodB n ps && amtB dm n 0 1000
noncomputable def floB (n : Int) (ps : List Pp) (fl : List Int) : Bool := goodB n ps && amtB fl ps.length (-8000) 8000

set_option maxHeartbeats 1000000 in
theorem dem_any (n : Int) (A : Option Addr) (cap : Nat) (ps : List Pp) (AD : Option Addr) (dc : Nat) (dm : List Int) (w : World) (h : PAt w A ps) (hm : ps.length ≤ maxLen) (hd : IAt w AD dm) (hdl : dm.length ≤ 1048576) :
    Calls Try.prog 58 #[nv n A ps.length cap, .slice AD dm.length dc] w fun e w' => e = .returned (.bool (demB n ps dm)) ∧ Below w.heap.size w w' := by
  unfold demB
  obtain ⟨v, hv⟩ : ∃ v, goodB n ps = v := ⟨_, rfl⟩
  obtain ⟨u, hu⟩ : ∃ u, amtB dm n 0 1000 = u := ⟨_, rfl⟩
  have H := Lib.hid (fun w' (hb : Below w.heap.size w w') => valid_v hv A cap w' (h.kept hb (Nat.le_refl _)) hm)
  have HD := Lib.hid (fun w' (hb : Below w.heap.size w w') => am_v hu AD dc w' (hd.kept hb (Nat.le_refl _)) hdl)
  rw [hv, hu]
  clear hv hu h hd
  cases v
  · go_enter Try.func58, Try.ntmps58
    go_wp2_with (go_at_call 66; refine (H.out _ ((Below.refl _ _).alloc (Nat.le_refl _) _)).mono ?_; rintro e w1 ⟨rfl, hb1⟩)
    go_ret
    exact ⟨rfl, below_alloc_call hb1⟩
  · go_enter Try.func58, Try.ntmps58
    go_wp2_with (first
      | (go_at_call 66; refine (H.out _ ((Below.refl _ _).alloc (Nat.le_refl _) _)).mono ?_; rintro e w1 ⟨rfl, hb1⟩; obtain ⟨hc1, hf1⟩ := bcell hb1; have hz1 := hb1.size; simp at hz1; have hb2 := Lib.hid (below_alloc_call hb1))
      | (go_at_call 102; refine (HD.out _ hb2.out).mono ?_; rintro e w2 ⟨rfl, hb3⟩))
    go_ret
    exact ⟨rfl, hb2.out.trans (hb3.mono hb2.out.size)⟩
theorem dem_v {n : Int} {ps : List Pp} {dm : List Int} {v : Bool} (hv : demB n ps dm = v) (A : Option Addr) (cap : Nat) (AD : Option Addr) (dc : Nat) (w : World) (h : PAt w A ps) (hm : ps.length ≤ maxLen) (hd : IAt w AD dm) (hdl : dm.length ≤ 1048576) :
    Calls Try.prog 58 #[nv n A ps.length cap, .slice AD dm.length dc] w fun e w' => e = .returned (.bool v) ∧ Below w.heap.size w w' := by
  rw [← hv]; exact dem_any n A cap ps AD dc dm w h hm hd hdl

set_option maxHeartbeats 1000000 in
theorem flo_any (n : Int) (A : Option Addr) (cap : Nat) (ps : List Pp) (AD : Option Addr) (dc : Nat) (dm : List Int) (w : World) (h : PAt w A ps) (hm : ps.length ≤ maxLen) (hd : IAt w AD dm) (hdl : dm.length ≤ 1048576) :
    Calls Try.prog 78 #[nv n A ps.length cap, .slice AD dm.length dc] w fun e w' => e = .returned (.bool (floB n ps dm)) ∧ Below w.heap.size w w' := by
  unfold floB
  obtain ⟨v, hv⟩ : ∃ v, goodB n ps = v := ⟨_, rfl⟩
  obtain ⟨u, hu⟩ : ∃ u, amtB dm ps.length (-8000) 8000 = u := ⟨_, rfl⟩
  have H := Lib.hid (fun w' (hb : Below w.heap.size w w') => valid_v hv A cap w' (h.kept hb (Nat.le_refl _)) hm)
  have HD := Lib.hid (fun w' (hb : Below w.heap.size w w') => am_v hu AD dc w' (hd.kept hb (Nat.le_refl _)) hdl)
  rw [hv, hu]
  clear hv hu h hd
  cases v
  · go_enter Try.func78, Try.ntmps78
    go_wp2_with (go_at_call 66; refine (H.out _ ((Below.refl _ _).alloc (Nat.le_refl _) _)).mono ?_; rintro e w1 ⟨rfl, hb1⟩)
    go_ret
    exact ⟨rfl, below_alloc_call hb1⟩
  · go_enter Try.func78, Try.ntmps78
    go_wp2_with (first
      | (go_at_call 66; refine (H.out _ ((Below.refl _ _).alloc (Nat.le_refl _) _)).mono ?_; rintro e w1 ⟨rfl, hb1⟩; obtain ⟨hc1, hf1⟩ := bcell hb1; have hz1 := hb1.size; simp at hz1; have hb2 := Lib.hid (below_alloc_call hb1))
      | (go_at_call 102; refine (HD.out _ hb2.out).mono ?_; rintro e w2 ⟨rfl, hb3⟩))
    go_ret
    exact ⟨rfl, hb2.out.trans (hb3.mono hb2.out.size)⟩
theorem flo_v {n : Int} {ps : List Pp} {dm : List Int} {v : Bool} (hv : floB n ps dm = v) (A : Option Addr) (cap : Nat) (AD : Option Addr) (dc : Nat) (w : World) (h : PAt w A ps) (hm : ps.length ≤ maxLen) (hd : IAt w AD dm) (hdl : dm.length ≤ 1048576) :
    Calls Try.prog 78 #[nv n A ps.length cap, .slice AD dm.length dc] w fun e w' => e = .returned (.bool v) ∧ Below w.heap.size w w' := by
  rw [← hv]; exact flo_any n A cap ps AD dc dm w h hm hd hdl

/-! ### The model -/
set_option maxHeartbeats 1000000 in
theorem sdem_any (n : Int) (A : Option Addr) (len cap : Nat) (AU : Option Addr) (cc : Nat) (l : List Int) (w : World) (h : IAt w AU l) (hl : l.length ≤ 1048576) :
    Calls Try.prog 62 #[nv n A len cap, .slice AU l.length cc] w fun e w' => e = .returned (.bool (amtB l n 0 1000)) ∧ Below w.heap.size w w' := by
  have HA := Lib.hid (h.kept (show Below w.heap.size w (w.alloc (.cells #[.int .i64 n, .slice A len cap] 26)) from (Below.refl _ _).alloc (Nat.le_refl _) _) (Nat.le_refl _))
  clear h
  go_enter Try.func62, Try.ntmps62
  go_wp2
  go_loop [5] (fun i => ∃ k : Nat, k ≤ l.length ∧ i = .int .i64 (k : Int) ∧ Hid (∀ j, j < k → inR 0 1000 (l.getD j 0) = true)) (fun i => l.length - (intOf i).toNat)
  case atStart => exact ⟨0, Nat.zero_le _, rfl, Lib.hid (fun j hj => absurd hj (by omega))⟩
  case round =>
    obtain ⟨k, hk, rfl, hno⟩ := hrel
    by_cases hlt : k < l.length
    · obtain ⟨b, off, hA, hbl, h0⟩ := HA.out.at_ hlt
      subst hA
      have hk0 : (0 : Int) ≤ (k : Int) := by omega
      have hkn : (k : Int) < (l.length : Int) := by omega
      obtain ⟨v, hv⟩ : ∃ v, inR 0 1000 (l.getD k 0) = v := ⟨_, rfl⟩
      have HC := Lib.hid (fun w' => in_eq (l.getD k 0) 0 1000 v hv w')
      cases v with
      | false =>
        have HR := Lib.hid (show amtB l n 0 1000 = false from by rw [amtB, allR_no hlt hv, Bool.and_false])
        clear hv hno
        generalize l.getD k 0 = y at *
        go_wp2_with (go_at_call 116; refine (HC.out _).mono ?_; rintro e w1 ⟨rfl, hw⟩; replace hw := hw.symm; subst hw)
        go_ret
        exact ⟨by rw [HR.out]; rfl, (Below.refl _ _).alloc (Nat.le_refl _) _⟩
      | true =>
        have hno2 := Lib.hid (inR_snoc hno.out hv)
        clear hv hno
        generalize l.getD k 0 = y at *
        go_wp2_with (go_at_call 116; refine (HC.out _).mono ?_; rintro e w1 ⟨rfl, hw⟩; replace hw := hw.symm; subst hw)
        go_round
        case rel => exact ⟨k + 1, by omega, by go_num, hno2⟩
        case measure => simp [intOf]; omega
    · have HALL := Lib.hid (show allR 0 1000 l = true from allR_mk (fun i hi => hno.out i (by omega)))
      by_cases he : (l.length : Int) = n
      · have g1 : ((l.length : Int) == n) = true := beq_iff_eq.2 he
        have HR := Lib.hid (show amtB l n 0 1000 = true from by rw [amtB, HALL.out]; simp [he])
        clear he
        go_wp2
        go_ret
        exact ⟨by rw [HR.out]; rfl, (Below.refl _ _).alloc (Nat.le_refl _) _⟩
      · have g1 : ((l.length : Int) == n) = false := beq_eq_false_iff_ne.2 he
        have HR := Lib.hid (show amtB l n 0 1000 = false from by rw [amtB, HALL.out]; simp [he])
        clear he
        go_wp2
        go_ret
        exact ⟨by rw [HR.out]; rfl, (Below.refl _ _).alloc (Nat.le_refl _) _⟩
theorem sdem_v {n : Int} {l : List Int} {v : Bool} (hv : amtB l n 0 1000 = v) (A : Option Addr) (len cap : Nat) (AU : Option Addr) (cc : Nat) (w : World) (h : IAt w AU l) (hl : l.length ≤ 1048576) :
    Calls Try.prog 62 #[nv n A len cap, .slice AU l.length cc] w fun e w' => e = .returned (.bool v) ∧ Below w.heap.size w w' := by
  rw [← hv]; exact sdem_any n A len cap AU cc l w h hl

set_option maxHeartbeats 1000000 in
theorem sflo_any (n : Int) (A : Option Addr) (len cap : Nat) (AU : Option Addr) (cc : Nat) (l : List Int) (w : World) (h : IAt w AU l) (hl : l.length ≤ 1048576) :
    Calls Try.prog 119 #[nv n A len cap, .slice AU l.length cc] w fun e w' => e = .returned (.bool (amtB l len (-8000) 8000)) ∧ Below w.heap.size w w' := by
  have HA := Lib.hid (h.kept (show Below w.heap.size w (w.alloc (.cells #[.int .i64 n, .slice A len cap] 26)) from (Below.refl _ _).alloc (Nat.le_refl _) _) (Nat.le_refl _))
  clear h
  go_enter Try.func119, Try.ntmps119
  go_wp2
  go_loop [5] (fun i => ∃ k : Nat, k ≤ l.length ∧ i = .int .i64 (k : Int) ∧ Hid (∀ j, j < k → inR (-8000) 8000 (l.getD j 0) = true)) (fun i => l.length - (intOf i).toNat)
  case atStart => exact ⟨0, Nat.zero_le _, rfl, Lib.hid (fun j hj => absurd hj (by omega))⟩
  case round =>
    obtain ⟨k, hk, rfl, hno⟩ := hrel
    by_cases hlt : k < l.length
    · obtain ⟨b, off, hA, hbl, h0⟩ := HA.out.at_ hlt
      subst hA
      have hk0 : (0 : Int) ≤ (k : Int) := by omega
      have hkn : (k : Int) < (l.length : Int) := by omega
      obtain ⟨v, hv⟩ : ∃ v, inR (-8000) 8000 (l.getD k 0) = v := ⟨_, rfl⟩
      have HC := Lib.hid (fun w' => in_eq (l.getD k 0) (-8000) 8000 v hv w')
      cases v with
      | false =>
        have HR := Lib.hid (show amtB l len (-8000) 8000 = false from by rw [amtB, allR_no hlt hv, Bool.and_false])
        clear hv hno
        generalize l.getD k 0 = y at *
        go_wp2_with (go_at_call 116; refine (HC.out _).mono ?_; rintro e w1 ⟨rfl, hw⟩; replace hw := hw.symm; subst hw)
        go_ret
        exact ⟨by rw [HR.out]; rfl, (Below.refl _ _).alloc (Nat.le_refl _) _⟩
      | true =>
        have hno2 := Lib.hid (inR_snoc hno.out hv)
        clear hv hno
        generalize l.getD k 0 = y at *
        go_wp2_with (go_at_call 116; refine (HC.out _).mono ?_; rintro e w1 ⟨rfl, hw⟩; replace hw := hw.symm; subst hw)
        go_round
        case rel => exact ⟨k + 1, by omega, by go_num, hno2⟩
        case measure => simp [intOf]; omega
    · have HALL := Lib.hid (show allR (-8000) 8000 l = true from allR_mk (fun i hi => hno.out i (by omega)))
      by_cases he : (l.length : Int) = (len : Int)
      · have g1 : ((l.length : Int) == (len : Int)) = true := beq_iff_eq.2 he
        have HR := Lib.hid (show amtB l len (-8000) 8000 = true from by rw [amtB, HALL.out]; simp [he])
        clear he
        go_wp2
        go_ret
        exact ⟨by rw [HR.out]; rfl, (Below.refl _ _).alloc (Nat.le_refl _) _⟩
      · have g1 : ((l.length : Int) == (len : Int)) = false := beq_eq_false_iff_ne.2 he
        have HR := Lib.hid (show amtB l len (-8000) 8000 = false from by rw [amtB, HALL.out]; simp [he])
        clear he
        go_wp2
        go_ret
        exact ⟨by rw [HR.out]; rfl, (Below.refl _ _).alloc (Nat.le_refl _) _⟩
theorem sflo_v {n : Int} {len : Nat} {l : List Int} {v : Bool} (hv : amtB l len (-8000) 8000 = v) (A : Option Addr) (cap : Nat) (AU : Option Addr) (cc : Nat) (w : World) (h : IAt w AU l) (hl : l.length ≤ 1048576) :
    Calls Try.prog 119 #[nv n A len cap, .slice AU l.length cc] w fun e w' => e = .returned (.bool v) ∧ Below w.heap.size w w' := by
  rw [← hv]; exact sflo_any n A len cap AU cc l w h hl

/-! ### Sums -/
def sumK (f : Nat → Int) : Nat → Int
  | 0 => 0
  | k + 1 => sumK f k + f k
theorem sumK_le {f : Nat → Int} {B : Int} (hB : 0 ≤ B) : ∀ {k : Nat}, (∀ i, i < k → -B ≤ f i ∧ f i ≤ B) → -(B * k) ≤ sumK f k ∧ sumK f k ≤ B * k
  | 0, _ => by simp [sumK]
  | k + 1, h => by
    have h1 := sumK_le hB (k := k) (fun i hi => h i (by omega))
    have h2 := h k (by omega)
    have e : B * ((k + 1 : Nat) : Int) = B * k + B := by rw [Int.natCast_add, Int.mul_add]; simp
    rw [e]
    show -(B * k + B) ≤ sumK f k + f k ∧ sumK f k + f k ≤ B * k + B
    omega
def lA (l : List Int) (i : Nat) : Int := l.getD i 0
def sumL (l : List Int) : Int := sumK (lA l) l.length
theorem sum_in {l : List Int} {a b : Int} (h : allR a b l = true) (ha : -8000 ≤ a) (hb : b ≤ 8000) {k : Nat} (hk : k ≤ l.length) (hk10 : k ≤ 10) : -80000 ≤ sumK (lA l) k ∧ sumK (lA l) k ≤ 80000 := by
  have h1 := sumK_le (f := lA l) (B := 8000) (by omega) (k := k) (fun i hi => by
    have := allR_at h (i := i) (by omega)
    unfold lA
    omega)
  have : (k : Int) ≤ 10 := by omega
  have : (8000 : Int) * k ≤ 8000 * 10 := Int.mul_le_mul_of_nonneg_left this (by omega)
  omega

set_option maxHeartbeats 1000000 in
theorem ssum_any (AU : Option Addr) (cc : Nat) (l : List Int) (a b : Int) (w : World) (h : IAt w AU l) (hl : l.length ≤ 10) (hr : allR a b l = true) (ha : -8000 ≤ a) (hb : b ≤ 8000) :
    Calls Try.prog 97 #[.slice AU l.length cc] w fun e w' => e = .returned (.int .i64 (sumL l)) ∧ w' = w := by
  have HA := Lib.hid h
  have HB := Lib.hid (fun k (hk : k ≤ l.length) => sum_in hr ha hb hk (by omega))
  have HE := Lib.hid (fun k (hk : k < l.length) => allR_at hr hk)
  have HS := Lib.hid (show sumL l = sumK (lA l) l.length from rfl)
  clear h hr
  go_enter Try.func97, Try.ntmps97
  go_wp2
  go_loop [3, 4] (fun s i => ∃ k : Nat, k ≤ l.length ∧ i = .int .i64 (k : Int) ∧ s = .int .i64 (sumK (lA l) k)) (fun _ i => l.length - (intOf i).toNat)
  case atStart => exact ⟨0, Nat.zero_le _, rfl, rfl⟩
  case round =>
    obtain ⟨k, hk, rfl, rfl⟩ := hrel
    have hb1 := HB.out k hk
    by_cases hlt : k < l.length
    · obtain ⟨bb, off, hA, hbl, h0⟩ := HA.out.at_ hlt
      subst hA
      have hk0 : (0 : Int) ≤ (k : Int) := by omega
      have hkn : (k : Int) < (l.length : Int) := by omega
      have hy0 : -8000 ≤ l.getD k 0 := by have := HE.out k hlt; omega
      have hy1 : l.getD k 0 ≤ 8000 := by have := HE.out k hlt; omega
      obtain ⟨hs0, hs1⟩ := hb1
      have hsn := Lib.hid (show sumK (lA l) (k + 1) = sumK (lA l) k + l.getD k 0 from rfl)
      generalize l.getD k 0 = y at *
      generalize sumK (lA l) k = s at *
      go_wp2
      go_round
      case rel => exact ⟨k + 1, by omega, by go_num, by rw [hsn.out]⟩
      case measure => simp [intOf]; omega
    · have hkk : k = l.length := by omega
      have hf := Lib.hid (show sumK (lA l) k = sumL l by rw [hkk]; rfl)
      clear hkk
      go_wp2
      go_ret
      exact ⟨by rw [hf.out]; rfl, rfl⟩
end Go.Proofs.Ytlkomipjamelkab.S2
