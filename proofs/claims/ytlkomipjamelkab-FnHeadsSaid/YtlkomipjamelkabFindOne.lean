/- Where a pipe with an Id stands: the model's l2Find; the search by halves of the program: contracts. Conditions: each theorem's own premises. -/
import Derived.Test.YtlkomipjamelkabBoxOne
namespace Go.Proofs.Ytlkomipjamelkab.S2
open Go.RowKit P2

/-- r is the index of the first pipe with the Id x, or -1. -/
def FindIs (ps : List Pp) (x r : Int) : Prop := (r = -1 ∧ ∀ i, i < ps.length → (pAt ps i).id ≠ x) ∨ ∃ i : Nat, i < ps.length ∧ r = (i : Int) ∧ (pAt ps i).id = x ∧ ∀ j, j < i → (pAt ps j).id ≠ x

set_option maxHeartbeats 2000000 in
theorem find_any (n : Int) (A : Option Addr) (cap : Nat) (ps : List Pp) (x : Int) (w : World) (h : PAt w A ps) (hm : ps.length ≤ 1048576) :
    Calls Try.prog 146 #[nv n A ps.length cap, .int .i64 x] w fun e w' => (∃ r, e = .returned (.int .i64 r) ∧ FindIs ps x r) ∧ Below w.heap.size w w' := by
  have HA := Lib.hid h
  clear h
  go_enter Try.func146, Try.ntmps146
  go_wp2
  go_loopw [5] (fun i wr => ∃ k : Nat, k ≤ ps.length ∧ i = .int .i64 (k : Int) ∧ Hid (∀ j, j < k → (pAt ps j).id ≠ x) ∧ Below (w.heap.size + 1) (w.alloc (.cells #[.int .i64 n, .slice A ps.length cap] 26)) wr) (fun i _ => ps.length - (intOf i).toNat)
  case atStart => exact ⟨0, Nat.zero_le _, rfl, Lib.hid (fun j hj => absurd hj (by omega)), Below.refl _ _⟩
  case round =>
    obtain ⟨k, hk, rfl, hno, hb⟩ := hrel
    obtain ⟨b0, b1⟩ := box2 hb
    by_cases hlt : k < ps.length
    · obtain ⟨b, off, hA, hbl, h0, h1, h2, h3⟩ := (HA.out.kept (below_box hb) (Nat.le_refl _)).at_ hlt
      subst hA
      have hk0 : (0 : Int) ≤ (k : Int) := by omega
      have hkn : (k : Int) < (ps.length : Int) := by omega
      by_cases he : (pAt ps k).id = x
      · have HFI := Lib.hid (show FindIs ps x (k : Int) from .inr ⟨k, hlt, rfl, he, hno.out⟩)
        have hE : ((pAt ps k).id == x) = true := beq_iff_eq.2 he
        clear he hno h1 h2 h3
        generalize (pAt ps k).id = y at *
        go_wp2
        go_ret
        exact ⟨⟨_, rfl, HFI.out⟩, below_box hb⟩
      · have hno2 := Lib.hid (show ∀ j, j < k + 1 → (pAt ps j).id ≠ x from fun j hj => by
          by_cases e : j = k
          · subst e; exact he
          · exact hno.out j (by omega))
        have hE : ((pAt ps k).id == x) = false := beq_eq_false_iff_ne.2 he
        clear he hno h1 h2 h3
        generalize (pAt ps k).id = y at *
        go_wp2
        go_roundw
        case rel => exact ⟨k + 1, by omega, by go_num, hno2, hb⟩
        case measure => simp [intOf]; omega
    · have HFI := Lib.hid (show FindIs ps x (-1) from .inl ⟨rfl, fun i hi => hno.out i (by omega)⟩)
      go_wp2
      go_ret
      exact ⟨⟨_, rfl, HFI.out⟩, below_box hb⟩

def cmpI (a b : Int) : Int := if a < b then -1 else if b < a then 1 else 0
theorem nan_int (x : Int) (w : World) : Calls Try.prog 155 #[.int .i64 x] w fun e w' => e = .returned (.bool false) ∧ w' = w := by
  go_enter Try.func155, Try.ntmps155
  go_wp2
  go_ret
  exact ⟨rfl, rfl⟩
theorem cmp_int (x y : Int) (w : World) : Calls Try.prog 133 #[.int .i64 x, .int .i64 y] w fun e w' => e = .returned (.int .i64 (cmpI x y)) ∧ w' = w := by
  have hN := Lib.hid (fun x w => nan_int x w)
  by_cases h1 : x < y
  · have e : cmpI x y = -1 := by unfold cmpI; rw [if_pos h1]
    rw [e]; clear e
    go_enter Try.func133, Try.ntmps133
    go_wp2_with (go_at_call 155; refine (hN.out _ _).mono ?_; rintro e w1 ⟨rfl, hw⟩; replace hw := hw.symm; subst hw)
    go_ret
    exact ⟨rfl, rfl⟩
  · by_cases h2 : y < x
    · have e : cmpI x y = 1 := by unfold cmpI; rw [if_neg h1, if_pos h2]
      rw [e]; clear e
      go_enter Try.func133, Try.ntmps133
      go_wp2_with (go_at_call 155; refine (hN.out _ _).mono ?_; rintro e w1 ⟨rfl, hw⟩; replace hw := hw.symm; subst hw)
      go_ret
      exact ⟨rfl, rfl⟩
    · have e : cmpI x y = 0 := by unfold cmpI; rw [if_neg h1, if_neg h2]
      rw [e]; clear e
      go_enter Try.func133, Try.ntmps133
      go_wp2_with (go_at_call 155; refine (hN.out _ _).mono ?_; rintro e w1 ⟨rfl, hw⟩; replace hw := hw.symm; subst hw)
      go_ret
      exact ⟨rfl, rfl⟩

theorem cmp_any (p : Pp) (x : Int) (w : World) :
    Calls Try.prog 132 #[pv p, .int .i64 x] w fun e w' => e = .returned (.int .i64 (cmpI p.id x)) ∧ Below w.heap.size w w' := by
  obtain ⟨id, fr, to_, sz⟩ := p
  have HC := Lib.hid (fun w => cmp_int id x w)
  go_enter Try.func132, Try.ntmps132
  go_wp2_with (go_at_call 133; refine (HC.out _).mono ?_; rintro e w1 ⟨rfl, rfl⟩)
  go_ret
  exact ⟨rfl, (Below.refl _ _).alloc (Nat.le_refl _) _⟩

theorem cmp_lt {x y : Int} (h : x < y) : cmpI x y = -1 := by unfold cmpI; rw [if_pos h]
theorem cmp_eq {x y : Int} (h : x = y) : cmpI x y = 0 := by unfold cmpI; rw [if_neg (by omega), if_neg (by omega)]
theorem cmp_gt {x y : Int} (h : y < x) : cmpI x y = 1 := by unfold cmpI; rw [if_neg (by omega), if_pos h]
/-- The place at which an Id stands or would stand. -/
structure Place (ps : List Pp) (x : Int) (i : Nat) (f : Bool) : Prop where
  le : i ≤ ps.length
  low : ∀ k, k < i → (pAt ps k).id < x
  high : ∀ k, i ≤ k → k < ps.length → x ≤ (pAt ps k).id
  found : f = true ↔ i < ps.length ∧ (pAt ps i).id = x

set_option maxHeartbeats 2000000 in
set_option maxRecDepth 100000 in
theorem search_any (A : Option Addr) (cap : Nat) (ps : List Pp) (x : Int) (w : World) (h : PAt w A ps) (hl : ps.length ≤ 10) (hs : ∀ i j, i < j → j < ps.length → (pAt ps i).id < (pAt ps j).id) :
    Calls Try.prog 131 #[.slice A ps.length cap, .int .i64 x, .func (.func 132) #[] #[]] w fun e w' => (∃ i f, e = .returned (.tuple #[.int .i64 ((i : Nat) : Int), .bool f]) ∧ Place ps x i f) ∧ Below w.heap.size w w' := by
  have HA := Lib.hid h
  have HS := Lib.hid hs
  clear h hs
  go_enter Try.func131, Try.ntmps131
  go_wp2
  go_loopw [9, 10, 11] (fun i j _ wr => ∃ I J : Nat, I ≤ J ∧ J ≤ ps.length ∧ i = .int .i64 (I : Int) ∧ j = .int .i64 (J : Int) ∧ Hid (∀ k, k < I → (pAt ps k).id < x) ∧ Hid (∀ k, J ≤ k → k < ps.length → x ≤ (pAt ps k).id) ∧ Below w.heap.size w wr) (fun i j _ _ => (intOf j).toNat - (intOf i).toNat)
  case atStart => exact ⟨0, ps.length, Nat.zero_le _, Nat.le_refl _, rfl, rfl, Lib.hid (fun k hk => absurd hk (by omega)), Lib.hid (fun k h1 h2 => absurd h2 (by omega)), Below.refl _ _⟩
  case round =>
    obtain ⟨I, J, hIJ, hJ, rfl, rfl, hlow, hhigh, hb⟩ := hrel
    by_cases hlt : I < J
    · obtain ⟨M, hM⟩ : ∃ M, M = (I + J) / 2 := ⟨_, rfl⟩
      have hM1 : I ≤ M := by omega
      have hM2 : M < J := by omega
      have hMi : ((I : Int) + (J : Int)) / 2 = (M : Int) := by omega
      have hu : IntKind.u64.wrap ((I : Int) + (J : Int)) = (I : Int) + (J : Int) := by rw [IntKind.wrap_u64]; omega
      have huM : IntKind.u64.wrap (M : Int) = (M : Int) := by rw [IntKind.wrap_u64]; omega
      have hM0 : (0 : Int) ≤ (M : Int) := by omega
      have hMn : (M : Int) < (ps.length : Int) := by omega
      obtain ⟨b, off, hA, hbl, h0, h1, h2, h3⟩ := (HA.out.kept hb (Nat.le_refl _)).at_ (i := M) (by omega)
      subst hA
      clear hM
      by_cases hc : (pAt ps M).id < x
      · have HC := Lib.hid (fun w => cmp_any (pAt ps M) x w)
        rw [cmp_lt hc] at HC
        have hlow2 := Lib.hid (show ∀ k, k < M + 1 → (pAt ps k).id < x from fun k hk => by
          by_cases e : k = M
          · rw [e]; exact hc
          · exact Int.lt_trans (HS.out k M (by omega) (by omega)) hc)
        clear hc
        go_wp2_with (go_at_call 132; refine (HC.out _).mono ?_; rintro e w1 ⟨rfl, hb1⟩)
        go_roundw
        case rel => exact ⟨M + 1, J, by omega, hJ, by go_num, rfl, hlow2, hhigh, hb.trans (hb1.mono hb.size)⟩
        case measure => simp [intOf]; omega
      · by_cases he : (pAt ps M).id = x
        · have HC := Lib.hid (fun w => cmp_any (pAt ps M) x w)
          rw [cmp_eq he] at HC
          have hhigh2 := Lib.hid (show ∀ k, M ≤ k → k < ps.length → x ≤ (pAt ps k).id from fun k h1 h2 => by
            by_cases e : k = M
            · rw [e]; omega
            · exact Int.le_trans (show x ≤ (pAt ps M).id by omega) (Int.le_of_lt (HS.out M k (by omega) h2)))
          clear hc he
          go_wp2_with (go_at_call 132; refine (HC.out _).mono ?_; rintro e w1 ⟨rfl, hb1⟩)
          go_roundw
          case rel => exact ⟨I, M, hM1, by omega, rfl, rfl, hlow, hhigh2, hb.trans (hb1.mono hb.size)⟩
          case measure => simp [intOf]; omega
        · have hg : x < (pAt ps M).id := by omega
          have HC := Lib.hid (fun w => cmp_any (pAt ps M) x w)
          rw [cmp_gt hg] at HC
          have hhigh2 := Lib.hid (show ∀ k, M ≤ k → k < ps.length → x ≤ (pAt ps k).id from fun k h1 h2 => by
            by_cases e : k = M
            · rw [e]; omega
            · exact Int.le_trans (show x ≤ (pAt ps M).id by omega) (Int.le_of_lt (HS.out M k (by omega) h2)))
          clear hc he hg
          go_wp2_with (go_at_call 132; refine (HC.out _).mono ?_; rintro e w1 ⟨rfl, hb1⟩)
          go_roundw
          case rel => exact ⟨I, M, hM1, by omega, rfl, rfl, hlow, hhigh2, hb.trans (hb1.mono hb.size)⟩
          case measure => simp [intOf]; omega
    · have hIJe : I = J := by omega
      subst hIJe
      by_cases hn : I < ps.length
      · have hI0 : (0 : Int) ≤ (I : Int) := by omega
        have hIn : (I : Int) < (ps.length : Int) := by omega
        have hle := hhigh.out I (by omega) hn
        obtain ⟨b, off, hA, hbl, h0, h1, h2, h3⟩ := (HA.out.kept hb (Nat.le_refl _)).at_ (i := I) hn
        subst hA
        by_cases hh : (pAt ps I).id = x
        · have HC := Lib.hid (fun w => cmp_any (pAt ps I) x w)
          rw [cmp_eq hh] at HC
          have HP := Lib.hid (show Place ps x I true from ⟨by omega, hlow.out, fun k h1 h2 => hhigh.out k (by omega) h2, by simp; omega⟩)
          clear hh
          go_wp2_with (go_at_call 132; refine (HC.out _).mono ?_; rintro e w1 ⟨rfl, hb1⟩)
          go_ret2
          exact ⟨⟨I, _, rfl, HP.out⟩, hb.trans (hb1.mono hb.size)⟩
        · have HC := Lib.hid (fun w => cmp_any (pAt ps I) x w)
          rw [cmp_gt (show x < (pAt ps I).id by omega)] at HC
          have HP := Lib.hid (show Place ps x I false from ⟨by omega, hlow.out, fun k h1 h2 => hhigh.out k (by omega) h2, by simp; omega⟩)
          clear hh
          go_wp2_with (go_at_call 132; refine (HC.out _).mono ?_; rintro e w1 ⟨rfl, hb1⟩)
          go_ret2
          exact ⟨⟨I, _, rfl, HP.out⟩, hb.trans (hb1.mono hb.size)⟩
      · have HP := Lib.hid (show Place ps x I false from ⟨by omega, hlow.out, fun k h1 h2 => hhigh.out k (by omega) h2, by simp; omega⟩)
        have hIn : (ps.length : Int) ≤ (I : Int) := by omega
        go_wp2
        go_ret2
        exact ⟨⟨I, _, rfl, HP.out⟩, hb⟩

theorem good_ids {n : Int} {ps : List Pp} (h : P2.Good n ps) : ∀ i j, i < j → j < ps.length → (pAt ps i).id < (pAt ps j).id := by
  intro i j hij hj
  induction j with
  | zero => omega
  | succ j ih =>
    have h1 := (h.2.2.2 (j + 1) hj (pAt ps (j + 1)) (pAt_get ps _ hj)).2 (pAt ps j) (by omega) (by rw [Nat.add_sub_cancel]; exact pAt_get ps _ (by omega))
    by_cases e : i = j
    · subst e; exact h1
    · exact Int.lt_trans (ih (by omega) (by omega)) h1
theorem place_any (n : Int) (A : Option Addr) (cap : Nat) (ps : List Pp) (x : Int) (w : World) (h : PAt w A ps) (hg : P2.Good n ps) :
    Calls Try.prog 68 #[nv n A ps.length cap, .int .i64 x] w fun e w' => (∃ i f, e = .returned (.tuple #[.int .i64 ((i : Nat) : Int), .bool f]) ∧ Place ps x i f) ∧ Below w.heap.size w w' := by
  have HS := Lib.hid (fun w' (hb : Below w.heap.size w w') => search_any A cap ps x w' (h.kept hb (Nat.le_refl _)) hg.2.2.1 (good_ids hg))
  clear h hg
  go_enter Try.func68, Try.ntmps68
  go_wp2_with (go_at_call 131; refine (HS.out _ ((Below.refl _ _).alloc (Nat.le_refl _) _)).mono ?_; rintro e w1 ⟨⟨i, f, rfl, hp⟩, hb1⟩)
  go_ret2
  exact ⟨⟨i, f, rfl, hp⟩, ((Below.refl w.heap.size w).alloc (Nat.le_refl _) _).trans (hb1.mono (by simp))⟩
/-- The model finds what the program finds. -/
theorem place_find {ps : List Pp} {x r : Int} {i : Nat} {f : Bool} (hs : ∀ i j, i < j → j < ps.length → (pAt ps i).id < (pAt ps j).id) (h : Place ps x i f) (hr : FindIs ps x r) : (f = true → r = (i : Int) ∧ i < ps.length) ∧ (f = false → r = -1) := by
  constructor
  · intro hf
    obtain ⟨hi, he⟩ := h.found.1 hf
    rcases hr with ⟨_, hno⟩ | ⟨k, hk, hrk, hkx, hfirst⟩
    · exact absurd he (hno i hi)
    · refine ⟨?_, hi⟩
      have h1 : ¬ k < i := fun hlt => by have := h.low k hlt; omega
      have h2 : ¬ i < k := fun hlt => hfirst i hlt he
      rw [hrk]; omega
  · intro hf
    rcases hr with ⟨e, _⟩ | ⟨k, hk, hrk, hkx, hfirst⟩
    · exact e
    · exfalso
      by_cases hki : k < i
      · have := h.low k hki; omega
      · have hik : i < ps.length := by omega
        by_cases e : (pAt ps i).id = x
        · have := h.found.2 ⟨hik, e⟩; rw [hf] at this; cases this
        · have h3 := h.high i (Nat.le_refl _) hik
          by_cases e2 : k = i
          · rw [e2] at hkx; exact e hkx
          · have := hs i k (by omega) hk; omega
theorem find_one {ps : List Pp} {x r s : Int} (h : FindIs ps x r) (g : FindIs ps x s) : r = s := by
  rcases h with ⟨rfl, h⟩ | ⟨i, hi, rfl, hix, hif⟩
  · rcases g with ⟨rfl, _⟩ | ⟨j, hj, rfl, hjx, _⟩
    · rfl
    · exact absurd hjx (h j hj)
  · rcases g with ⟨rfl, g⟩ | ⟨j, hj, rfl, hjx, hjf⟩
    · exact absurd hix (g i hi)
    · have h1 : ¬ i < j := fun h => hjf i h hix
      have h2 : ¬ j < i := fun h => hif j h hjx
      have : i = j := by omega
      rw [this]
theorem find_ex (ps : List Pp) (x : Int) : ∃ r, FindIs ps x r := by
  by_cases h : ∃ i, i < ps.length ∧ (pAt ps i).id = x
  · obtain ⟨i, hi, hx, hn⟩ : ∃ i, i < ps.length ∧ (pAt ps i).id = x ∧ ∀ j, j < i → (pAt ps j).id ≠ x := by
      obtain ⟨i, hi, hx⟩ := h
      induction i using Nat.strongRecOn with
      | ind i ih =>
        by_cases hc : ∃ j, j < i ∧ (pAt ps j).id = x
        · obtain ⟨j, hj, hxj⟩ := hc
          exact ih j hj (by omega) hxj
        · exact ⟨i, hi, hx, fun j hj he => hc ⟨j, hj, he⟩⟩
    exact ⟨(i : Int), .inr ⟨i, hi, rfl, hx, hn⟩⟩
  · exact ⟨-1, .inl ⟨rfl, fun i hi he => h ⟨i, hi, he⟩⟩⟩
end Go.Proofs.Ytlkomipjamelkab.S2
