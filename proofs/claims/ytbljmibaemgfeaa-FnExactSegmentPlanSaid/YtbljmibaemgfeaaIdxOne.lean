/- slices.IndexFunc and slices.ContainsFunc over valves, as the program calls them; hasValveAt: contracts. Conditions: each theorem's own premises. -/
import Derived.Test.YtbljmibaemgfeaaBoxOne
import Derived.Test.YtbljmibaemgfeaaValTwo
namespace Go.Proofs.Ytbljmibaemgfeaa.S2
open Go.RowKit P2 P4

theorem VAt.take {w : World} {A : Option Addr} {vs : List Vv} (h : VAt w A vs) (i : Nat) : VAt w A (vs.take i) := by
  rcases h with h | ⟨b, off, hA, hlt, h⟩
  · exact .inl (by rw [h]; simp)
  · refine .inr ⟨b, off, hA, hlt, fun j hj => ?_⟩
    rw [List.length_take] at hj
    rw [vAt_take vs i j (by omega)]
    exact h j (by omega)
/-- The valve sits there; the valve has this Id. -/
def qv (p n : Int) (v : Vv) : Bool := decide (v.pp = p ∧ v.nd = n)
def qi (p : Int) (v : Vv) : Bool := decide (v.id = p)
/-- The first valve for which q holds. -/
def FirstV (vs : List Vv) (q : Vv → Bool) (r : Int) : Prop := (r = -1 ∧ ∀ i, i < vs.length → q (vAt vs i) = false) ∨ ∃ i : Nat, i < vs.length ∧ r = (i : Int) ∧ q (vAt vs i) = true ∧ ∀ j, j < i → q (vAt vs j) = false

set_option maxHeartbeats 1000000 in
theorem hc_any (v : Vv) (b1 b2 : Nat) (p n : Int) (w : World) (h1 : w.cell? ⟨b1, 0, none⟩ = some (.int .i64 p)) (h2 : w.cell? ⟨b2, 0, none⟩ = some (.int .i64 n)) :
    Calls Try.prog 170 #[vvl v, .pointer (some ⟨b1, 0, none⟩), .pointer (some ⟨b2, 0, none⟩)] w fun e w' => e = .returned (.bool ((qv p n) v)) ∧ Below w.heap.size w w' := by
  obtain ⟨id, pp, nd, sh⟩ := v
  have l1 := block_lt_of_cell h1
  have l2 := block_lt_of_cell h2
  by_cases e1 : pp = p
  · by_cases e2 : nd = n
    · have g1 : (pp == p) = true := beq_iff_eq.2 e1
      have g2 : (nd == n) = true := beq_iff_eq.2 e2
      have hr : decide (pp = p ∧ nd = n) = true := by simp [e1, e2]
      show Calls _ _ _ _ fun e w' => e = .returned (.bool (decide (pp = p ∧ nd = n))) ∧ _
      rw [hr]
      clear hr e1 e2
      go_enter Try.func170, Try.ntmps170
      go_wp2
      go_ret
      exact ⟨rfl, (Below.refl _ _).alloc (Nat.le_refl _) _⟩
    · have g1 : (pp == p) = true := beq_iff_eq.2 e1
      have g2 : (nd == n) = false := beq_eq_false_iff_ne.2 e2
      have hr : decide (pp = p ∧ nd = n) = false := by simp [e2]
      show Calls _ _ _ _ fun e w' => e = .returned (.bool (decide (pp = p ∧ nd = n))) ∧ _
      rw [hr]
      clear hr e1 e2
      go_enter Try.func170, Try.ntmps170
      go_wp2
      go_ret
      exact ⟨rfl, (Below.refl _ _).alloc (Nat.le_refl _) _⟩
  · have g1 : (pp == p) = false := beq_eq_false_iff_ne.2 e1
    have hr : decide (pp = p ∧ nd = n) = false := by simp [e1]
    show Calls _ _ _ _ fun e w' => e = .returned (.bool (decide (pp = p ∧ nd = n))) ∧ _
    rw [hr]
    clear hr e1
    go_enter Try.func170, Try.ntmps170
    go_wp2
    go_ret
    exact ⟨rfl, (Below.refl _ _).alloc (Nat.le_refl _) _⟩

set_option maxHeartbeats 2000000 in
theorem hidx_any (A : Option Addr) (cap : Nat) (vs : List Vv) (b1 b2 : Nat) (p n : Int) (w : World) (h : VAt w A vs) (hm : vs.length ≤ 1048576) (h1 : w.cell? ⟨b1, 0, none⟩ = some (.int .i64 p)) (h2 : w.cell? ⟨b2, 0, none⟩ = some (.int .i64 n)) :
    Calls Try.prog 131 #[.slice A vs.length cap, .func (.func 170) #[] #[.pointer (some ⟨b1, 0, none⟩), .pointer (some ⟨b2, 0, none⟩)]] w fun e w' => (∃ r, e = .returned (.int .i64 r) ∧ FirstV vs (qv p n) r) ∧ Below w.heap.size w w' := by
  have HA := Lib.hid h
  have l1 := block_lt_of_cell h1
  have H1 := Lib.hid h1
  have l2 := block_lt_of_cell h2
  have H2 := Lib.hid h2
  clear h h1 h2
  go_enter Try.func131, Try.ntmps131
  go_wp2
  go_loopw [8] (fun i wr => ∃ k : Nat, k ≤ vs.length ∧ i = .int .i64 (k : Int) ∧ Hid (∀ j, j < k → (qv p n) (vAt vs j) = false) ∧ Below w.heap.size w wr) (fun i _ => vs.length - (intOf i).toNat)
  case atStart => exact ⟨0, Nat.zero_le _, rfl, Lib.hid (fun j hj => absurd hj (by omega)), Below.refl _ _⟩
  case round =>
    obtain ⟨k, hk, rfl, hno, hb⟩ := hrel
    by_cases hlt : k < vs.length
    · obtain ⟨b, off, hA, hbl, h0, h1, h2, h3⟩ := (HA.out.kept hb (Nat.le_refl _)).at_ hlt
      subst hA
      have hk0 : (0 : Int) ≤ (k : Int) := by omega
      have hkn : (k : Int) < (vs.length : Int) := by omega
      have HC := Lib.hid (hc_any (vAt vs k) b1 b2 p n wr ((hb.cell (p := ⟨b1, 0, none⟩) l1).trans H1.out) ((hb.cell (p := ⟨b2, 0, none⟩) l2).trans H2.out))
      by_cases he : (qv p n) (vAt vs k) = true
      · have HFI := Lib.hid (show FirstV vs (qv p n) (k : Int) from .inr ⟨k, hlt, rfl, he, hno.out⟩)
        rw [he] at HC
        clear he hno
        generalize vAt vs k = y at *
        go_wp2_with (go_at_call 170; refine HC.out.mono ?_; rintro e w1 ⟨rfl, hb1⟩)
        go_ret
        exact ⟨⟨_, rfl, HFI.out⟩, hb.trans (hb1.mono hb.size)⟩
      · rw [Bool.not_eq_true] at he
        have hno2 := Lib.hid (show ∀ j, j < k + 1 → (qv p n) (vAt vs j) = false from fun j hj => by
          by_cases e : j = k
          · subst e; exact he
          · exact hno.out j (by omega))
        rw [he] at HC
        clear he hno
        generalize vAt vs k = y at *
        go_wp2_with (go_at_call 170; refine HC.out.mono ?_; rintro e w1 ⟨rfl, hb1⟩)
        go_roundw
        case rel => exact ⟨k + 1, by omega, by go_num, hno2, hb.trans (hb1.mono hb.size)⟩
        case measure => simp [intOf]; omega
    · have HFI := Lib.hid (show FirstV vs (qv p n) (-1) from .inl ⟨rfl, fun i hi => hno.out i (by omega)⟩)
      go_wp2
      go_ret
      exact ⟨⟨_, rfl, HFI.out⟩, hb⟩

set_option maxHeartbeats 1000000 in
theorem tc_any (v : Vv) (b1 : Nat) (p : Int) (w : World) (h1 : w.cell? ⟨b1, 0, none⟩ = some (.int .i64 p)) :
    Calls Try.prog 132 #[vvl v, .pointer (some ⟨b1, 0, none⟩)] w fun e w' => e = .returned (.bool ((qi p) v)) ∧ Below w.heap.size w w' := by
  obtain ⟨id, pp, nd, sh⟩ := v
  have l1 := block_lt_of_cell h1
  obtain ⟨d, hd⟩ : ∃ d, (id == p) = d := ⟨_, rfl⟩
  have hr : decide (id = p) = d := by rw [← hd, Bool.eq_iff_iff]; simp
  show Calls _ _ _ _ fun e w' => e = .returned (.bool (decide (id = p))) ∧ _
  rw [hr]
  clear hr
  go_enter Try.func132, Try.ntmps132
  go_wp2
  go_ret
  exact ⟨rfl, (Below.refl _ _).alloc (Nat.le_refl _) _⟩

set_option maxHeartbeats 2000000 in
theorem tidx_any (A : Option Addr) (cap : Nat) (vs : List Vv) (b1 : Nat) (p : Int) (w : World) (h : VAt w A vs) (hm : vs.length ≤ 1048576) (h1 : w.cell? ⟨b1, 0, none⟩ = some (.int .i64 p)) :
    Calls Try.prog 131 #[.slice A vs.length cap, .func (.func 132) #[] #[.pointer (some ⟨b1, 0, none⟩)]] w fun e w' => (∃ r, e = .returned (.int .i64 r) ∧ FirstV vs (qi p) r) ∧ Below w.heap.size w w' := by
  have HA := Lib.hid h
  have l1 := block_lt_of_cell h1
  have H1 := Lib.hid h1
  clear h h1
  go_enter Try.func131, Try.ntmps131
  go_wp2
  go_loopw [8] (fun i wr => ∃ k : Nat, k ≤ vs.length ∧ i = .int .i64 (k : Int) ∧ Hid (∀ j, j < k → (qi p) (vAt vs j) = false) ∧ Below w.heap.size w wr) (fun i _ => vs.length - (intOf i).toNat)
  case atStart => exact ⟨0, Nat.zero_le _, rfl, Lib.hid (fun j hj => absurd hj (by omega)), Below.refl _ _⟩
  case round =>
    obtain ⟨k, hk, rfl, hno, hb⟩ := hrel
    by_cases hlt : k < vs.length
    · obtain ⟨b, off, hA, hbl, h0, h1, h2, h3⟩ := (HA.out.kept hb (Nat.le_refl _)).at_ hlt
      subst hA
      have hk0 : (0 : Int) ≤ (k : Int) := by omega
      have hkn : (k : Int) < (vs.length : Int) := by omega
      have HC := Lib.hid (tc_any (vAt vs k) b1 p wr ((hb.cell (p := ⟨b1, 0, none⟩) l1).trans H1.out))
      by_cases he : (qi p) (vAt vs k) = true
      · have HFI := Lib.hid (show FirstV vs (qi p) (k : Int) from .inr ⟨k, hlt, rfl, he, hno.out⟩)
        rw [he] at HC
        clear he hno
        generalize vAt vs k = y at *
        go_wp2_with (go_at_call 132; refine HC.out.mono ?_; rintro e w1 ⟨rfl, hb1⟩)
        go_ret
        exact ⟨⟨_, rfl, HFI.out⟩, hb.trans (hb1.mono hb.size)⟩
      · rw [Bool.not_eq_true] at he
        have hno2 := Lib.hid (show ∀ j, j < k + 1 → (qi p) (vAt vs j) = false from fun j hj => by
          by_cases e : j = k
          · subst e; exact he
          · exact hno.out j (by omega))
        rw [he] at HC
        clear he hno
        generalize vAt vs k = y at *
        go_wp2_with (go_at_call 132; refine HC.out.mono ?_; rintro e w1 ⟨rfl, hb1⟩)
        go_roundw
        case rel => exact ⟨k + 1, by omega, by go_num, hno2, hb.trans (hb1.mono hb.size)⟩
        case measure => simp [intOf]; omega
    · have HFI := Lib.hid (show FirstV vs (qi p) (-1) from .inl ⟨rfl, fun i hi => hno.out i (by omega)⟩)
      go_wp2
      go_ret
      exact ⟨⟨_, rfl, HFI.out⟩, hb⟩

theorem first_has {vs : List Vv} {p n r : Int} (h : FirstV vs (qv p n) r) : hasV vs p n = decide (0 ≤ r) := by
  rcases h with ⟨rfl, h⟩ | ⟨i, hi, rfl, h, _⟩
  · exact (hasV_no vs p n).2 fun m hm hc => by have := h m hm; simp [qv] at this; exact this hc.1 hc.2
  · rw [(hasV_iff vs p n).2 ⟨i, hi, by simpa [qv] using h⟩]; simp

set_option maxHeartbeats 1000000 in
theorem contains_any (A : Option Addr) (cap : Nat) (vs : List Vv) (b1 b2 : Nat) (p n : Int) (w : World) (h : VAt w A vs) (hm : vs.length ≤ 1048576) (h1 : w.cell? ⟨b1, 0, none⟩ = some (.int .i64 p)) (h2 : w.cell? ⟨b2, 0, none⟩ = some (.int .i64 n)) :
    Calls Try.prog 169 #[.slice A vs.length cap, .func (.func 170) #[] #[.pointer (some ⟨b1, 0, none⟩), .pointer (some ⟨b2, 0, none⟩)]] w fun e w' => e = .returned (.bool (hasV vs p n)) ∧ Below w.heap.size w w' := by
  have H := Lib.hid (hidx_any A cap vs b1 b2 p n w h hm h1 h2)
  clear h h1 h2 hm
  go_enter Try.func169, Try.ntmps169
  go_wp2_with (go_at_call 131; refine H.out.mono ?_; rintro e w1 ⟨⟨r, rfl, hr⟩, hb1⟩; have HR := Lib.hid (first_has hr); clear hr)
  go_ret
  exact ⟨by rw [HR.out]; rfl, hb1⟩

set_option maxHeartbeats 1000000 in
theorem hasv_any (A : Option Addr) (cap : Nat) (vs : List Vv) (p n : Int) (w : World) (h : VAt w A vs) (hm : vs.length ≤ 1048576) :
    Calls Try.prog 127 #[.slice A vs.length cap, .int .i64 p, .int .i64 n] w fun e w' => e = .returned (.bool (hasV vs p n)) ∧ Below w.heap.size w w' := by
  have HA := Lib.hid (fun w' (hb : Below w.heap.size w w') => h.kept hb (Nat.le_refl _))
  clear h
  go_enter Try.func127, Try.ntmps127
  go_wp2_with (go_at_call 169; refine (contains_any A cap vs _ _ p n _ (HA.out _ ?_) hm ?_ ?_).mono ?_; (exact ((Below.refl _ _).alloc (Nat.le_refl _) _).alloc (by simp) _); go_simp; go_simp; rintro e w1 ⟨rfl, hb1⟩)
  go_ret
  exact ⟨rfl, (((Below.refl _ _).alloc (Nat.le_refl _) _).alloc (by simp) _).trans (hb1.mono (by simp; omega))⟩
end Go.Proofs.Ytbljmibaemgfeaa.S2
