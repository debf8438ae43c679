/- PressuresOf of the program where it fails: contracts. Conditions: each theorem's own premises. -/
import Derived.Test.YtpldbakllegheaaKT
import Derived.Test.YtpldbakllegheaaNetKit
import Derived.Test.YtpldbakllegheaaKA
namespace Go.Proofs.Ytpldbakllegheaa.S2
open Go.RowKit P2

/-- The first of the first k that is greatest. -/
def fstG (f : Nat → Int) : Nat → Nat
  | 0 => 0
  | k + 1 => if f (fstG f k) < f k then k else fstG f k
theorem fstG_lt (f : Nat → Int) : ∀ k, 0 < k → fstG f k < k
  | 0, h => absurd h (by omega)
  | 1, _ => by unfold fstG; split <;> simp [fstG]
  | k + 2, _ => by
    have := fstG_lt f (k + 1) (by omega)
    rw [fstG]
    split <;> omega
theorem fstG_one (f : Nat → Int) : fstG f 1 = 0 := by have := fstG_lt f 1 (by omega); omega
theorem fstG_val (f : Nat → Int) (k : Nat) : f (fstG f (k + 1)) = max (f (fstG f k)) (f k) := by
  rw [fstG]
  split <;> omega
theorem fstG_top (f : Nat → Int) : ∀ k j, j < k → f j ≤ f (fstG f k)
  | 0, j, h => absurd h (by omega)
  | k + 1, j, h => by
    rw [fstG_val f k]
    by_cases e : j = k
    · subst e; omega
    · have := fstG_top f k j (by omega); omega
theorem fstG_first (f : Nat → Int) : ∀ k j, j < fstG f k → f j < f (fstG f k)
  | 0, j, h => absurd h (by simp [fstG])
  | k + 1, j, h => by
    by_cases e : f (fstG f k) < f k
    · rw [fstG, if_pos e] at h ⊢
      have := fstG_top f k j h
      omega
    · rw [fstG, if_neg e] at h ⊢
      exact fstG_first f k j h
/-- The smallest of the first k. -/
def loK (l : List Int) : Nat → Int
  | 0 => lA l 0
  | k + 1 => min (loK l k) (lA l k)
theorem loK_le (l : List Int) : ∀ k j, j < k → loK l k ≤ lA l j
  | 0, j, h => absurd h (by omega)
  | k + 1, j, h => by
    rw [loK]
    by_cases e : j = k
    · subst e; omega
    · have := loK_le l k j (by omega); omega
theorem loK_one (l : List Int) : loK l 1 = lA l 0 := by simp [loK]

set_option maxHeartbeats 1000000 in
theorem max_any (A : Option Addr) (cap : Nat) (l : List Int) (w : World) (h : IAt w A l) (hl : 0 < l.length) (hl2 : l.length ≤ 1048576) :
    Calls Try.prog 84 #[.slice A l.length cap] w fun e w' => e = .returned (.int .i64 (lA l (fstG (lA l) l.length))) ∧ w' = w := by
  have HA := Lib.hid h
  obtain ⟨b, off, hA, hbl, h0⟩ := h.at_ (i := 0) hl
  subst hA
  rw [Nat.add_zero] at h0
  have hat : l.getD 0 0 = lA l 0 := rfl
  rw [hat] at h0
  have HX := Lib.hid (show lA l (fstG (lA l) 1) = lA l 0 by rw [fstG_one])
  have g0 : decide ((l.length : Int) < 1) = false := decide_eq_false (by omega)
  generalize lA l 0 = x0 at *
  clear h hat
  go_enter Try.func84, Try.ntmps84
  go_wp2
  go_loopw [3, 4] (fun m i wr => ∃ k : Nat, 1 ≤ k ∧ k ≤ l.length ∧ m = .int .i64 (lA l (fstG (lA l) k)) ∧ i = .int .i64 k ∧ wr = w) (fun _ i _ => l.length - (intOf i).toNat)
  case atStart => exact ⟨1, Nat.le_refl _, by omega, by rw [HX.out], rfl, rfl⟩
  case round =>
    obtain ⟨k, hk1, hk, rfl, rfl, hw⟩ := hrel
    replace hw := hw.symm
    subst hw
    by_cases hlt : k < l.length
    · obtain ⟨b', off', hA', hbl', h1⟩ := HA.out.at_ (i := k) hlt
      simp only [Option.some.injEq, Addr.mk.injEq, and_true] at hA'
      obtain ⟨rfl, rfl⟩ := hA'
      have hk0 : (0 : Int) ≤ (k : Int) := by omega
      have hkn : (k : Int) < (l.length : Int) := by omega
      have hat : l.getD k 0 = lA l k := rfl
      rw [hat] at h1
      have HN := Lib.hid (fstG_val (lA l) k)
      generalize lA l k = x at *
      generalize hM : lA l (fstG (lA l) k) = M at *
      clear hM h0 hat
      go_wp2
      go_roundw
      case rel => exact ⟨k + 1, by omega, by omega, by rw [HN.out], by go_num, trivial⟩
      case measure => simp [intOf]; omega
    · have HF := Lib.hid (show lA l (fstG (lA l) k) = lA l (fstG (lA l) l.length) by rw [show k = l.length by omega])
      clear h0
      go_wp2
      go_ret
      exact ⟨by rw [← HF.out]; rfl, rfl⟩
set_option maxHeartbeats 1000000 in
theorem min_any (A : Option Addr) (cap : Nat) (l : List Int) (w : World) (h : IAt w A l) (hl : 0 < l.length) (hl2 : l.length ≤ 1048576) :
    Calls Try.prog 71 #[.slice A l.length cap] w fun e w' => e = .returned (.int .i64 (loK l l.length)) ∧ w' = w := by
  have HA := Lib.hid h
  obtain ⟨b, off, hA, hbl, h0⟩ := h.at_ (i := 0) hl
  subst hA
  rw [Nat.add_zero] at h0
  have hat : l.getD 0 0 = lA l 0 := rfl
  rw [hat] at h0
  have HX := Lib.hid (loK_one l)
  have g0 : decide ((l.length : Int) < 1) = false := decide_eq_false (by omega)
  generalize lA l 0 = x0 at *
  clear h hat
  go_enter Try.func71, Try.ntmps71
  go_wp2
  go_loopw [3, 4] (fun m i wr => ∃ k : Nat, 1 ≤ k ∧ k ≤ l.length ∧ m = .int .i64 (loK l k) ∧ i = .int .i64 k ∧ wr = w) (fun _ i _ => l.length - (intOf i).toNat)
  case atStart => exact ⟨1, Nat.le_refl _, by omega, by rw [HX.out], rfl, rfl⟩
  case round =>
    obtain ⟨k, hk1, hk, rfl, rfl, hw⟩ := hrel
    replace hw := hw.symm
    subst hw
    by_cases hlt : k < l.length
    · obtain ⟨b', off', hA', hbl', h1⟩ := HA.out.at_ (i := k) hlt
      simp only [Option.some.injEq, Addr.mk.injEq, and_true] at hA'
      obtain ⟨rfl, rfl⟩ := hA'
      have hk0 : (0 : Int) ≤ (k : Int) := by omega
      have hkn : (k : Int) < (l.length : Int) := by omega
      have hat : l.getD k 0 = lA l k := rfl
      rw [hat] at h1
      have HN := Lib.hid (show loK l (k + 1) = min (loK l k) (lA l k) from rfl)
      generalize lA l k = x at *
      generalize hM : loK l k = M at *
      clear hM h0 hat
      go_wp2
      go_roundw
      case rel => exact ⟨k + 1, by omega, by omega, by rw [HN.out], by go_num, trivial⟩
      case measure => simp [intOf]; omega
    · have HF := Lib.hid (show loK l k = loK l l.length by rw [show k = l.length by omega])
      clear h0
      go_wp2
      go_ret
      exact ⟨by rw [← HF.out]; rfl, rfl⟩
set_option maxHeartbeats 1000000 in
theorem index_any (A : Option Addr) (cap : Nat) (l : List Int) (v : Int) (i0 : Nat) (w : World) (h : IAt w A l) (hl : l.length ≤ 1048576) (hi : i0 < l.length) (hv : lA l i0 = v) (hn : ∀ j, j < i0 → lA l j ≠ v) :
    Calls Try.prog 85 #[.slice A l.length cap, .int .i64 v] w fun e w' => e = .returned (.int .i64 (i0 : Int)) ∧ w' = w := by
  have HA := Lib.hid h
  have HN := Lib.hid hn
  have HV := Lib.hid hv
  clear h hn hv
  go_enter Try.func85, Try.ntmps85
  go_wp2
  go_loopw [8] (fun i wr => ∃ k : Nat, k ≤ i0 ∧ i = .int .i64 k ∧ wr = w) (fun i _ => l.length - (intOf i).toNat)
  case atStart => exact ⟨0, by omega, rfl, rfl⟩
  case round =>
    obtain ⟨k, hk, rfl, hw⟩ := hrel
    replace hw := hw.symm
    subst hw
    have hlt : k < l.length := by omega
    obtain ⟨b, off, hA, hbl, h1⟩ := HA.out.at_ (i := k) hlt
    subst hA
    have hk0 : (0 : Int) ≤ (k : Int) := by omega
    have hkn : (k : Int) < (l.length : Int) := by omega
    have hat : l.getD k 0 = lA l k := rfl
    rw [hat] at h1
    by_cases he : k = i0
    · subst he
      rw [HV.out] at h1
      clear hat
      go_wp2
      go_ret
      exact ⟨rfl, rfl⟩
    · have hne : ¬ v = lA l k := fun e => HN.out k (by omega) e.symm
      generalize lA l k = x at *
      clear hat
      go_wp2
      go_roundw
      case rel => exact ⟨k + 1, by omega, by go_num, trivial⟩
      case measure => simp [intOf]; omega
end Go.Proofs.Ytpldbakllegheaa.S2

namespace Go.Proofs.Ytpldbakllegheaa.S2
open Go.RowKit P2

def stF (ps : List Pp) (fl : List Int) (k : Nat) : Int := absI (lossI (pAt ps k) (lA fl k))
def stL (ps : List Pp) (fl : List Int) : List Int := (List.range ps.length).map (stF ps fl)
theorem stL_len (ps : List Pp) (fl : List Int) : (stL ps fl).length = ps.length := by simp [stL]
theorem stL_at {ps : List Pp} {fl : List Int} {k : Nat} (h : k < ps.length) : lA (stL ps fl) k = stF ps fl k := by simp [lA, stL, List.getD, h]
theorem stF_in {n : Int} {ps : List Pp} (hg : P2.Good n ps) {fl : List Int} (hr : allR (-8000) 8000 fl = true) (hl : fl.length = ps.length) {k : Nat} (hk : k < fl.length) : 0 ≤ stF ps fl k ∧ stF ps fl k ≤ 576000000 := by
  have h2 := allR_at hr hk
  have h3 := (loss_in (good_pp hg (pAt_mem (show k < ps.length by omega))) h2.1 h2.2).2
  exact ⟨absI_nn _, absI_le (by unfold lA; omega) (by unfold lA; omega)⟩
theorem fst_same {f g : Nat → Int} : ∀ k, (∀ j, j < k → f j = g j) → fstG f k = fstG g k
  | 0, _ => rfl
  | k + 1, h => by
    have e := fst_same k (fun j hj => h j (by omega))
    rw [fstG, fstG, e]
    by_cases h0 : k = 0
    · subst h0; simp [fstG]
    · rw [h _ (show fstG g k < k + 1 by have := fstG_lt g k (by omega); omega), h k (by omega)]
/-- The place of the greatest. -/
def stI (ps : List Pp) (fl : List Int) : Nat := fstG (stF ps fl) ps.length
theorem stI_list (ps : List Pp) (fl : List Int) : fstG (lA (stL ps fl)) (stL ps fl).length = stI ps fl := by
  rw [stL_len]
  exact fst_same _ fun j hj => stL_at hj
theorem stI_lt {ps : List Pp} (fl : List Int) (h : 0 < ps.length) : stI ps fl < ps.length := fstG_lt _ _ h

/-! ### The losses of all pipes -/
set_option maxHeartbeats 1000000 in
theorem stc_any {n : Int} {p : Pp} (hp : PpOk n p) {f : Int} (h0 : -8000 ≤ f) (h1 : f ≤ 8000) (w : World) :
    Calls Try.prog 83 #[pv p, .int .i64 f] w fun e w' => e = .returned (.int .i64 (absI (lossI p f))) ∧ Below w.heap.size w w' := by
  have HLO := Lib.hid (fun w' => loss_any hp h0 h1 w')
  have a4 := (loss_in hp h0 h1).2
  have HA := Lib.hid (show absI (lossI p f) = max (lossI p f) (-lossI p f) from rfl)
  rw [HA.out]
  clear hp
  generalize lossI p f = L at *
  go_enter Try.func83, Try.ntmps83
  go_wp2_with (go_at_call 59; refine (HLO.out _).mono ?_; rintro e w1 ⟨rfl, hb1⟩)
  go_ret
  exact ⟨rfl, below_alloc_call hb1⟩

theorem made_row (l : List Int) (w : World) (hn : l.length ≤ 1048576) : Hid ((w.alloc (.cells (madeCells #[.int .i64 0] l.length) 3)).ownsRow w.heap.size 3 1 (.slice (some ⟨w.heap.size, 0, none⟩) l.length l.length) l.length (fiI l 0)) := Lib.hid (made_own l w hn)
set_option maxHeartbeats 3000000 in
set_option maxRecDepth 100000 in
theorem stp_any {n : Int} (A : Option Addr) (cap : Nat) (ps : List Pp) (AD : Option Addr) (dc : Nat) (fl : List Int) (w : World) (h : PAt w A ps) (hd : IAt w AD fl) (hg : P2.Good n ps) (hr : allR (-8000) 8000 fl = true) (hl : fl.length = ps.length) :
    Calls Try.prog 82 #[.slice A ps.length cap, .slice AD fl.length dc, .func (.func 83) #[] #[]] w fun e w' => (∃ g, e = .returned (.slice (some ⟨g, 0, none⟩) ps.length ps.length) ∧ w.heap.size ≤ g ∧ IOwn w' w.heap.size (.slice (some ⟨g, 0, none⟩) ps.length ps.length) (stL ps fl)) ∧ Below w.heap.size w w' := by
  have hl10 := hg.2.2.1
  have HA := Lib.hid (fun w' (hb : Below w.heap.size w w') => h.kept hb (Nat.le_refl _))
  have HI := Lib.hid (fun w' (hb : Below w.heap.size w w') => hd.kept hb (Nat.le_refl _))
  have HE := Lib.hid (fun k (hk : k < fl.length) => allR_at hr hk)
  have HG := Lib.hid (fun k (hk : k < ps.length) => good_pp hg (pAt_mem hk))
  have HL := Lib.hid hl
  have HSL := Lib.hid (stL_len ps fl)
  have HSA := Lib.hid (fun k (hk : k < ps.length) => stL_at (fl := fl) hk)
  have hmk := run_make_row' (P := Try.prog) 25 3 (.int .i64 0) 8 Try.underlying25 infoI rfl .i64 .i64 ps.length (by omega) (by omega)
  have HO := made_row (stL ps fl) w (by rw [stL_len]; omega)
  have HF := Lib.hid (fiI_full (stL ps fl))
  rw [HSL.out] at HO HF
  clear h hd hg hr hl
  go_enter Try.func82, Try.ntmps82
  go_wp2
  clear hmk
  go_loopw [15] (fun i wr => ∃ k : Nat, k ≤ ps.length ∧ i = .int .i64 k ∧ Hid (wr.ownsRow w.heap.size 3 1 (.slice (some ⟨w.heap.size, 0, none⟩) ps.length ps.length) ps.length (fiI (stL ps fl) k)) ∧ Hid (Below w.heap.size w wr)) (fun i _ => ps.length - (intOf i).toNat)
  case atStart => exact ⟨0, Nat.zero_le _, rfl, HO, Lib.hid ((Below.refl _ _).alloc (Nat.le_refl _) _)⟩
  case round =>
    obtain ⟨k, hk, rfl, hown, hB⟩ := hrel
    clear HO
    by_cases hlt : k < ps.length
    · obtain ⟨b, off, hA, hbl, p0, p1, p2, p3⟩ := (HA.out _ hB.out).at_ hlt
      subst hA
      have hkf : k < fl.length := by rw [HL.out]; exact hlt
      obtain ⟨bb, of2, hA2, hbl2, q0⟩ := (HI.out _ hB.out).at_ hkf
      subst hA2
      have hk0 : (0 : Int) ≤ (k : Int) := by omega
      have hkn : (k : Int) < (ps.length : Int) := by omega
      have hknf : (k : Int) < (fl.length : Int) := by omega
      have hy := HE.out k hkf
      have HLO := Lib.hid (fun w' => stc_any (HG.out k hlt) hy.1 hy.2 w')
      have hgx := (hown.out.lt w.heap.size rfl).2
      have hfs := fiI_set (stL ps fl) k (by rw [HSL.out]; exact hlt)
      have hat := HSA.out k hlt
      unfold stF lA at hat
      rw [hat] at hfs
      have HST := Lib.hid hfs
      clear hfs hat hy
      generalize absI (lossI (pAt ps k) (fl.getD k 0)) = L at *
      generalize fl.getD k 0 = f at *
      generalize pAt ps k = p at *
      have hab := alloc_belowE wr (.cells #[.int .i64 p.id, .int .i64 p.fr, .int .i64 p.to, .int .i64 p.sz] 63)
      have hBn := Lib.hid (hB.out.trans (hab.mono hB.out.size))
      have q1 := (hab.cell (p := ⟨bb, of2 + k, none⟩) hbl2).trans q0
      have d0 := cells4 wr (.int .i64 p.id) (.int .i64 p.fr) (.int .i64 p.to) (.int .i64 p.sz) 63 0 _ rfl
      have d1 := cells4 wr (.int .i64 p.id) (.int .i64 p.fr) (.int .i64 p.to) (.int .i64 p.sz) 63 1 _ rfl
      have d2 := cells4 wr (.int .i64 p.id) (.int .i64 p.fr) (.int .i64 p.to) (.int .i64 p.sz) 63 2 _ rfl
      have d3 := cells4 wr (.int .i64 p.id) (.int .i64 p.fr) (.int .i64 p.to) (.int .i64 p.sz) 63 3 _ rfl
      have hO2 := Lib.hid (own_on hown.out hab)
      have hzz : wr.heap.size < (wr.alloc (.cells #[.int .i64 p.id, .int .i64 p.fr, .int .i64 p.to, .int .i64 p.sz] 63)).heap.size := by simp
      have hbl2' : bb < (wr.alloc (.cells #[.int .i64 p.id, .int .i64 p.fr, .int .i64 p.to, .int .i64 p.sz] 63)).heap.size := by omega
      go_wp2
      generalize wr.alloc (.cells #[.int .i64 p.id, .int .i64 p.fr, .int .i64 p.to, .int .i64 p.sz] 63) = wa at *
      clear p0 p1 p2 p3 q0
      obtain ⟨uo, huo⟩ := fiI_has (stL ps fl) k (by rw [HSL.out]; exact hlt)
      have HUO := Lib.hid huo
      clear huo
      go_region_with (first
        | (go_at_call 83; refine (HLO.out _).mono ?_; rintro e wq ⟨rfl, hbq⟩; have hO3 := own_on (A := wa.drew) hO2.out hbq; have hcell := (hO3.cellAt k (by omega)).trans HUO.out; have hfz := hO3.frozenAt k; have hgq := (hO3.lt w.heap.size rfl).2; have HB3 := Lib.hid (hBn.out.drew.trans (hbq.mono hBn.out.size)); have HO3 := Lib.hid hO3; have hst0 := Lib.hid (hO3.stored k (iv L)); clear hO3 hbq))
      all_goals
        have hst := hst0.out
        rw [HST.out] at hst
        have HRL := Lib.hid hst.1
        clear hst hst0
        go_wp2
        go_roundw
        · exact ⟨k + 1, by omega, by go_num, HRL, Lib.hid (HB3.out.setCell (p := ⟨w.heap.size, k, none⟩) (Nat.le_refl _) _)⟩
        · simp [intOf]; omega
    · have e : k = ps.length := by omega
      subst e
      have hown2 := hown.out
      rw [HF.out] at hown2
      have H2 := Lib.hid hown2
      clear hown hown2
      go_wp2
      go_ret
      exact ⟨⟨_, rfl, Nat.le_refl _, by have := H2.out; unfold IOwn; rw [HSL.out]; exact this⟩, hB.out⟩

set_option maxHeartbeats 1000000 in
theorem st_no (n : Int) (A : Option Addr) (cap : Nat) (ps : List Pp) (AD : Option Addr) (dc : Nat) (dm : List Int) (w : World) (h : PAt w A ps) (hm : ps.length ≤ maxLen) (hd : IAt w AD dm) (hdl : dm.length ≤ 1048576) (hv : floB n ps dm = false ∨ dm.length = 0) :
    Calls Try.prog 38 #[nv n A ps.length cap, .slice AD dm.length dc] w fun e w' => e = .returned (.tuple #[.int .i64 0, .int .i64 0, .bool false]) ∧ Below w.heap.size w w' := by
  cases hf : floB n ps dm with
  | false =>
    have H := Lib.hid (fun w' (hb : Below w.heap.size w w') => flo_v hf A cap AD dc w' (h.kept hb (Nat.le_refl _)) hm (hd.kept hb (Nat.le_refl _)) hdl)
    clear h hd hv hf
    go_enter Try.func38, Try.ntmps38
    go_wp2_with (go_at_call 57; refine (H.out _ ((Below.refl _ _).alloc (Nat.le_refl _) _)).mono ?_; rintro e w1 ⟨rfl, hb1⟩)
    go_ret3
    exact ⟨rfl, below_alloc_call hb1⟩
  | true =>
    have H := Lib.hid (fun w' (hb : Below w.heap.size w w') => flo_v hf A cap AD dc w' (h.kept hb (Nat.le_refl _)) hm (hd.kept hb (Nat.le_refl _)) hdl)
    have hl0 : dm.length = 0 := by
      rcases hv with h | h
      · exact absurd (hf.symm.trans h) (by simp)
      · exact h
    have g0 : ((dm.length : Int) == 0) = true := by rw [hl0]; rfl
    clear h hd hv hf hl0
    go_enter Try.func38, Try.ntmps38
    go_wp2_with (go_at_call 57; refine (H.out _ ((Below.refl _ _).alloc (Nat.le_refl _) _)).mono ?_; rintro e w1 ⟨rfl, hb1⟩)
    go_ret3
    exact ⟨rfl, below_alloc_call hb1⟩

set_option maxHeartbeats 2000000 in
set_option maxRecDepth 100000 in
theorem st_yes (n : Int) (A : Option Addr) (cap : Nat) (ps : List Pp) (AD : Option Addr) (dc : Nat) (fl : List Int) (w : World) (h : PAt w A ps) (hm : ps.length ≤ maxLen) (hd : IAt w AD fl) (hdl : fl.length ≤ 1048576) (hv : floB n ps fl = true) (h0 : 0 < fl.length) :
    Calls Try.prog 38 #[nv n A ps.length cap, .slice AD fl.length dc] w fun e w' => e = .returned (.tuple #[.int .i64 (pAt ps (stI ps fl)).id, .int .i64 (stF ps fl (stI ps fl)), .bool true]) ∧ Below w.heap.size w w' := by
  obtain ⟨hg, hfl, hr⟩ := floB_of hv
  have hl10 := hg.2.2.1
  have H := Lib.hid (fun w' (hb : Below w.heap.size w w') => flo_v hv A cap AD dc w' (h.kept hb (Nat.le_refl _)) hm (hd.kept hb (Nat.le_refl _)) hdl)
  have HPW := Lib.hid (fun w' (hb : Below w.heap.size w w') => stp_any A cap ps AD dc fl w' (h.kept hb (Nat.le_refl _)) (hd.kept hb (Nat.le_refl _)) hg hr hfl)
  have hi := stI_lt fl (show 0 < ps.length by omega)
  have HSL := Lib.hid (stL_len ps fl)
  have HMX := Lib.hid (fun g w' (hO : IOwn w' w.heap.size (.slice (some ⟨g, 0, none⟩) (stL ps fl).length (stL ps fl).length) (stL ps fl)) => max_any (some ⟨g, 0, none⟩) (stL ps fl).length (stL ps fl) w' hO.iat (by rw [stL_len]; omega) (by rw [stL_len]; omega))
  have HIX := Lib.hid (fun g w' (hO : IOwn w' w.heap.size (.slice (some ⟨g, 0, none⟩) (stL ps fl).length (stL ps fl).length) (stL ps fl)) => index_any (some ⟨g, 0, none⟩) (stL ps fl).length (stL ps fl) (stF ps fl (stI ps fl)) (stI ps fl) w' hO.iat (by rw [stL_len]; omega) (by rw [stL_len]; exact hi) (stL_at hi) (fun j hj => by
    rw [stL_at (by omega)]
    have := fstG_first (stF ps fl) ps.length j hj
    unfold stI at hj ⊢
    omega))
  rw [stI_list, stL_at hi, HSL.out] at HMX
  rw [HSL.out] at HIX
  have HA := Lib.hid (fun w' (hb : Below w.heap.size w w') => h.kept hb (Nat.le_refl _))
  have g0 : ((fl.length : Int) == 0) = false := beq_eq_false_iff_ne.2 (by omega)
  obtain ⟨b, off, hA, hbl, p0, p1, p2, p3⟩ := h.at_ hi
  subst hA
  have hi0 : (0 : Int) ≤ (stI ps fl : Int) := by omega
  have hin : (stI ps fl : Int) < (ps.length : Int) := by omega
  clear h hd hv hr hg hfl hm hdl p1 p2 p3
  generalize stF ps fl (stI ps fl) = M at *
  generalize pAt ps (stI ps fl) = p at *
  generalize stI ps fl = i at *
  generalize stL ps fl = SL at *
  go_enter Try.func38, Try.ntmps38
  go_wp2_with (first
    | (go_at_call 57; refine (H.out _ ((Below.refl _ _).alloc (Nat.le_refl _) _)).mono ?_; rintro e w1 ⟨rfl, hb1⟩; have HX1 := Lib.hid (show Below (w.heap.size + 1) (w.alloc (nb n (some ⟨b, off, none⟩) ps.length cap)) w1 by simpa using hb1); obtain ⟨b0, b1⟩ := box2 HX1.out; have hy1 := box_lt HX1.out; clear hb1)
    | (go_at_call 82; refine (HPW.out _ (below_box HX1.out)).mono ?_; rintro e w2 ⟨⟨g, rfl, hg2, hO2⟩, hb2⟩; have HX2 := Lib.hid (on_call HX1.out hb2); clear b0 b1; obtain ⟨b0, b1⟩ := box2 HX2.out; have hy2 := box_lt HX2.out; have HO2 := Lib.hid (own_lower (B' := w.heap.size) hO2 (by omega)); clear hb2 hO2)
    | (go_at_call 84; refine (HMX.out _ _ HO2.out).mono ?_; rintro e w3 ⟨rfl, hw⟩; replace hw := hw.symm; subst hw))
  have HB2 := Lib.hid (below_box HX2.out)
  have hbl' : b < w2.heap.size := by omega
  have r0 := (HB2.out.cell (p := ⟨b, off + i * 4, none⟩) hbl).trans p0
  clear p0
  go_quiet ((go_at_call 85; exact Calls.quiet_of_same (HIX.out _ _ HO2.out)))
  go_wp2
  go_ret3
  exact ⟨rfl, below_drewN HB2.out _⟩
end Go.Proofs.Ytpldbakllegheaa.S2

namespace Go.Proofs.Ytpldbakllegheaa.S2
open Go.RowKit P2

/-- Differences of two lists, place by place. -/
def psL (L H : List Int) : List Int := (List.range L.length).map fun i => lA L i - lA H i
theorem psL_len (L H : List Int) : (psL L H).length = L.length := by simp [psL]
theorem psL_at {L H : List Int} {i : Nat} (h : i < L.length) : lA (psL L H) i = lA L i - lA H i := by simp [psL, lA, List.getD, h]
noncomputable def prL (N : Nat) (ps : List Pp) (s : Nat) (dm : List Int) (h : Int) (hs : List Int) : List Int := psL (hdL N ps s dm h) hs
theorem prL_len (N : Nat) (ps : List Pp) (s : Nat) (dm : List Int) (h : Int) (hs : List Int) : (prL N ps s dm h hs).length = N := by unfold prL; rw [psL_len, hdL_len]
theorem prL_at {N : Nat} {ps : List Pp} {s : Nat} {dm : List Int} {h : Int} {hs : List Int} {i : Nat} (hi : i < N) : lA (prL N ps s dm h hs) i = hdF N ps s dm h i - lA hs i := by
  unfold prL
  rw [psL_at (by rw [hdL_len]; exact hi)]
  have := hdL_at (N := N) (ps := ps) (s := s) (dm := dm) (h := h) hi
  unfold lA
  rw [this]
/-- Heights of a network. -/
def hsB (n : Int) (hs : List Int) : Bool := amtB hs n 0 100000000000
theorem hsB_of {n : Int} {hs : List Int} (h : hsB n hs = true) : (hs.length : Int) = n ∧ allR 0 100000000000 hs = true := amt_len h
theorem prc_any (x y : Int) (h1 : -1000000000000 ≤ x ∧ x ≤ 1000000000000) (h2 : -1000000000000 ≤ y ∧ y ≤ 1000000000000) (w : World) :
    Calls Try.prog 68 #[.int .i64 x, .int .i64 y] w fun e w' => e = .returned (.int .i64 (x - y)) ∧ Below w.heap.size w w' := by
  have wS : IntKind.i64.wrap (x - y) = x - y := w64 _ (by omega)
  go_enter Try.func68, Try.ntmps68
  go_wp2
  go_ret
  exact ⟨rfl, Below.refl _ _⟩

set_option maxHeartbeats 2000000 in
set_option maxRecDepth 100000 in
theorem prp_any (A : Option Addr) (cap : Nat) (L : List Int) (AH : Option Addr) (ch : Nat) (H : List Int) (w : World) (hL : IAt w A L) (hH : IAt w AH H) (hlen : H.length = L.length) (hl8 : L.length ≤ 8) (hbL : ∀ i, i < L.length → -1000000000000 ≤ lA L i ∧ lA L i ≤ 1000000000000) (hbH : ∀ i, i < L.length → -1000000000000 ≤ lA H i ∧ lA H i ≤ 1000000000000) :
    Calls Try.prog 67 #[.slice A L.length cap, .slice AH H.length ch, .func (.func 68) #[] #[]] w fun e w' => (∃ g, e = .returned (.slice (some ⟨g, 0, none⟩) L.length L.length) ∧ w.heap.size ≤ g ∧ IOwn w' w.heap.size (.slice (some ⟨g, 0, none⟩) L.length L.length) (psL L H)) ∧ Below w.heap.size w w' := by
  have HA := Lib.hid (fun w' (hb : Below w.heap.size w w') => hL.kept hb (Nat.le_refl _))
  have HI := Lib.hid (fun w' (hb : Below w.heap.size w w') => hH.kept hb (Nat.le_refl _))
  have HC := Lib.hid (fun k (hk : k < L.length) w' => prc_any (lA L k) (lA H k) (hbL k hk) (hbH k hk) w')
  have HL := Lib.hid hlen
  have HSL := Lib.hid (psL_len L H)
  have HSA := Lib.hid (fun k (hk : k < L.length) => psL_at (H := H) hk)
  have hmk := run_make_row' (P := Try.prog) 25 3 (.int .i64 0) 8 Try.underlying25 infoI rfl .i64 .i64 L.length (by omega) (by omega)
  have HO := made_row (psL L H) w (by rw [psL_len]; omega)
  have HF := Lib.hid (fiI_full (psL L H))
  rw [HSL.out] at HO HF
  clear hL hH hlen hbL hbH
  go_enter Try.func67, Try.ntmps67
  go_wp2
  clear hmk
  go_loopw [15] (fun i wr => ∃ k : Nat, k ≤ L.length ∧ i = .int .i64 k ∧ Hid (wr.ownsRow w.heap.size 3 1 (.slice (some ⟨w.heap.size, 0, none⟩) L.length L.length) L.length (fiI (psL L H) k)) ∧ Hid (Below w.heap.size w wr)) (fun i _ => L.length - (intOf i).toNat)
  case atStart => exact ⟨0, Nat.zero_le _, rfl, HO, Lib.hid ((Below.refl _ _).alloc (Nat.le_refl _) _)⟩
  case round =>
    obtain ⟨k, hk, rfl, hown, hB⟩ := hrel
    clear HO
    by_cases hlt : k < L.length
    · obtain ⟨b, off, hA, hbl, p0⟩ := (HA.out _ hB.out).at_ hlt
      subst hA
      have hkf : k < H.length := by rw [HL.out]; exact hlt
      obtain ⟨bb, of2, hA2, hbl2, q0⟩ := (HI.out _ hB.out).at_ hkf
      subst hA2
      have hk0 : (0 : Int) ≤ (k : Int) := by omega
      have hkn : (k : Int) < (L.length : Int) := by omega
      have hknf : (k : Int) < (H.length : Int) := by omega
      have HLO := Lib.hid (HC.out k hlt)
      have hgx := (hown.out.lt w.heap.size rfl).2
      have hfs := fiI_set (psL L H) k (by rw [HSL.out]; exact hlt)
      have hat := HSA.out k hlt
      obtain ⟨uo, huo⟩ := fiI_has (psL L H) k (by rw [HSL.out]; exact hlt)
      have HUO := Lib.hid huo
      unfold lA at hat HLO
      rw [hat] at hfs
      have HST := Lib.hid hfs
      clear hfs hat huo
      generalize L.getD k 0 = x at *
      generalize H.getD k 0 = y at *
      have hO2 := hown
      go_wp2_with (go_at_call 68; refine (HLO.out _).mono ?_; rintro e wq ⟨rfl, hbq⟩; refine Hid.out ?_)
      have hO3 := own_on hO2.out hbq
      have hcell := (hO3.cellAt k (by omega)).trans HUO.out
      have hfz := hO3.frozenAt k
      have hgq := (hO3.lt w.heap.size rfl).2
      have HB3 := Lib.hid (hB.out.trans (hbq.mono hB.out.size))
      have hst := hO3.stored k (iv (x - y))
      rw [HST.out] at hst
      have HRL := Lib.hid hst.1
      clear hO3 hbq hst
      refine Lib.hid ?_
      go_wp2
      go_roundw
      case rel => exact ⟨k + 1, by omega, by go_num, HRL, Lib.hid (HB3.out.setCell (p := ⟨w.heap.size, k, none⟩) (Nat.le_refl _) _)⟩
      case measure => simp [intOf]; omega
    · have e : k = L.length := by omega
      subst e
      have hown2 := hown.out
      rw [HF.out] at hown2
      have H2 := Lib.hid hown2
      clear hown hown2
      go_wp2
      go_ret
      exact ⟨⟨_, rfl, Nat.le_refl _, by have := H2.out; unfold IOwn; rw [HSL.out]; exact this⟩, hB.out⟩

set_option maxHeartbeats 1000000 in
theorem pr_no1 (n : Int) (A : Option Addr) (cap : Nat) (ps : List Pp) (x : Int) (AD : Option Addr) (dc : Nat) (dm : List Int) (h : Int) (AH : Option Addr) (hc : Nat) (hs : List Int) (w : World) (hT : ∀ w', Below w.heap.size w w' → Calls Try.prog 23 #[nv n A ps.length cap, .int .i64 x, .slice AD dm.length dc, .int .i64 h] w' (GivesI w' [] false)) :
    Calls Try.prog 28 #[nv n A ps.length cap, .int .i64 x, .slice AD dm.length dc, .int .i64 h, .slice AH hs.length hc] w (GivesI w [] false) := by
  have H := Lib.hid hT
  clear hT
  go_enter Try.func28, Try.ntmps28
  go_wp2_with (go_at_call 23; refine (H.out _ ((Below.refl _ _).alloc (Nat.le_refl _) _)).mono ?_; rintro e w1 ⟨g, c, rfl, hg, hO, hb1⟩)
  go_ret2
  exact gives_none (below_alloc_call hb1)
set_option maxHeartbeats 1000000 in
theorem pr_no2 (n : Int) (A : Option Addr) (cap : Nat) (ps : List Pp) (x : Int) (AD : Option Addr) (dc : Nat) (dm : List Int) (h : Int) (AH : Option Addr) (hc : Nat) (hs : List Int) (L : List Int) (w : World) (hi : IAt w AH hs) (hil : hs.length ≤ 1048576) (hv : hsB n hs = false) (hT : ∀ w', Below w.heap.size w w' → Calls Try.prog 23 #[nv n A ps.length cap, .int .i64 x, .slice AD dm.length dc, .int .i64 h] w' (GivesI w' L true)) :
    Calls Try.prog 28 #[nv n A ps.length cap, .int .i64 x, .slice AD dm.length dc, .int .i64 h, .slice AH hs.length hc] w (GivesI w [] false) := by
  have H := Lib.hid hT
  by_cases hl : (hs.length : Int) = n
  · have hv2 : allR 0 100000000000 hs = false := by
      unfold hsB amtB at hv
      rw [decide_eq_true hl, Bool.true_and] at hv
      exact hv
    have H2 := Lib.hid (fun w' (hb : Below w.heap.size w w') => ahd_v hv2 AH hc w' (hi.kept hb (Nat.le_refl _)) hil)
    have g0 : ((hs.length : Int) != n) = false := by simp [hl]
    clear hT hi hv hv2 hl
    go_enter Try.func28, Try.ntmps28
    go_wp2_with (first
      | (go_at_call 23; refine (H.out _ ((Below.refl _ _).alloc (Nat.le_refl _) _)).mono ?_; rintro e w1 ⟨g, c, rfl, hg, hO, hb1⟩; have HX1 := Lib.hid (show Below (w.heap.size + 1) (w.alloc (nb n A ps.length cap)) w1 by simpa using hb1); obtain ⟨b0, b1⟩ := box2 HX1.out; have hy1 := box_lt HX1.out; clear hO hb1)
      | (go_at_call 63; refine (H2.out _ (below_box HX1.out)).mono ?_; rintro e w2 ⟨rfl, hb2⟩))
    go_ret2
    exact gives_none ((below_box HX1.out).trans (hb2.mono (below_box HX1.out).size))
  · have g0 : ((hs.length : Int) != n) = true := by simp [hl]
    clear hT hi hv hl
    go_enter Try.func28, Try.ntmps28
    go_wp2_with (go_at_call 23; refine (H.out _ ((Below.refl _ _).alloc (Nat.le_refl _) _)).mono ?_; rintro e w1 ⟨g, c, rfl, hg, hO, hb1⟩; have HX1 := Lib.hid (show Below (w.heap.size + 1) (w.alloc (nb n A ps.length cap)) w1 by simpa using hb1); obtain ⟨b0, b1⟩ := box2 HX1.out; have hy1 := box_lt HX1.out; clear hO hb1)
    go_ret2
    exact gives_none (below_box HX1.out)
set_option maxHeartbeats 1000000 in
theorem pr_yes (N s : Nat) (A : Option Addr) (cap : Nat) (ps : List Pp) (AD : Option Addr) (dc : Nat) (dm : List Int) (h : Int) (AH : Option Addr) (hc : Nat) (hs : List Int) (w : World) (hp : PAt w A ps) (hm : ps.length ≤ maxLen) (hd : IAt w AD dm) (hdl : dm.length ≤ 1048576) (hi : IAt w AH hs) (hn : nodeB N ps s = true) (ht : treeB N ps = true) (hv : demB N ps dm = true) (hh : hdR h = true) (hvs : hsB N hs = true) :
    Calls Try.prog 28 #[nv N A ps.length cap, .int .i64 (s : Int), .slice AD dm.length dc, .int .i64 h, .slice AH hs.length hc] w (GivesI w (prL N ps s dm h hs) true) := by
  obtain ⟨hg, hdn, hr⟩ := demB_of hv
  obtain ⟨_, hs1, hs2⟩ := nodeB_of hn
  have hN8 := hg.2.1
  obtain ⟨hh1, hh2⟩ := hdR_of hh
  obtain ⟨hl, hv2⟩ := hsB_of hvs
  have H := Lib.hid (fun w' (hb : Below w.heap.size w w') => hd_yes N s A cap ps AD dc dm h w' (hp.kept hb (Nat.le_refl _)) hm (hd.kept hb (Nat.le_refl _)) hdl hn ht hv hh)
  have H2 := Lib.hid (fun w' (hb : Below w.heap.size w w') => ahd_v hv2 AH hc w' (hi.kept hb (Nat.le_refl _)) (by omega))
  have H3 := Lib.hid (fun g c w' (hb : Below w.heap.size w w') (hL : IAt w' (some ⟨g, 0, none⟩) (hdL N ps s dm h)) => prp_any (some ⟨g, 0, none⟩) c (hdL N ps s dm h) AH hc hs w' hL (hi.kept hb (Nat.le_refl _)) (by rw [hdL_len]; omega) (by rw [hdL_len]; omega) (fun i hi => by
    rw [hdL_len] at hi
    have h1 := hdF_in hg ht hr hdn (s := s) (by omega) (by omega) hh1 hh2 hi
    have h2 := hdL_at (N := N) (ps := ps) (s := s) (dm := dm) (h := h) hi
    unfold lA
    rw [h2]; omega) (fun i hi => by
    rw [hdL_len] at hi
    have h1 := allR_at hv2 (i := i) (by omega)
    unfold lA; omega))
  have HLN := Lib.hid (hdL_len N ps s dm h)
  have HPL := Lib.hid (show psL (hdL N ps s dm h) hs = prL N ps s dm h hs from rfl)
  have HPN := Lib.hid (prL_len N ps s dm h hs)
  have g0 : ((hs.length : Int) != (N : Int)) = false := by simp [hl]
  rw [HPL.out] at H3
  clear hp hd hi hn ht hv hh hvs hv2 hg hdn hr hl
  generalize prL N ps s dm h hs = PL at *
  generalize hdL N ps s dm h = HLs at *
  go_enter Try.func28, Try.ntmps28
  go_wp2_with (first
    | (go_at_call 23; refine (H.out _ ((Below.refl _ _).alloc (Nat.le_refl _) _)).mono ?_; rintro e w1 ⟨g, c, rfl, hg, hO, hb1⟩; have HX1 := Lib.hid (show Below (w.heap.size + 1) (w.alloc (nb N A ps.length cap)) w1 by simpa using hb1); obtain ⟨b0, b1⟩ := box2 HX1.out; have hy1 := box_lt HX1.out; have HI1 := Lib.hid hO.iat; clear hO hb1)
    | (go_at_call 63; refine (H2.out _ (below_box HX1.out)).mono ?_; rintro e w2 ⟨rfl, hb2⟩; have HX2 := Lib.hid (on_call HX1.out hb2); have HI2 := Lib.hid (HI1.out.kept hb2 (Nat.le_refl _)))
    | (go_at_call 67; refine (H3.out g c _ (below_box HX2.out) HI2.out).mono ?_; rintro e w3 ⟨⟨g3, rfl, hg3, hO3⟩, hb3⟩))
  go_ret2
  have hz := (below_box HX2.out).size
  exact ⟨g3, HLs.length, by rw [HPN.out, ← HLN.out]; rfl, by omega, by have := own_lower (B' := w.heap.size) hO3 (by omega); rw [HLN.out] at this ⊢; rw [HPN.out]; exact this, (below_box HX2.out).trans (hb3.mono hz)⟩
end Go.Proofs.Ytpldbakllegheaa.S2

namespace Go.Proofs.Ytpldbakllegheaa.S2
open Go.RowKit P2

/-- The first k places have their differences. -/
def plK (L H : List Int) (k : Nat) : List Int := (List.range L.length).map fun i => if i < k then lA L i - lA H i else lA L i
theorem plK_len (L H : List Int) (k : Nat) : (plK L H k).length = L.length := by simp [plK]
theorem plK_zero (L H : List Int) : plK L H 0 = L := by
  apply List.ext_getElem (by simp [plK])
  intro i h1 h2
  simp [plK, lA, List.getD, h2]
theorem plK_full (L H : List Int) : plK L H L.length = psL L H := by
  unfold plK psL
  apply List.map_congr_left
  intro i hi
  rw [if_pos (List.mem_range.1 hi)]
theorem plK_at {L H : List Int} {k : Nat} (_h : k < L.length) : (plK L H k).getD k 0 = lA L k := by simp [plK, List.getD, _h]
theorem plK_set {L H : List Int} {k : Nat} (_h : k < L.length) : ((plK L H k).map iv).set k (iv (lA L k - lA H k)) = (plK L H (k + 1)).map iv := by
  rw [← List.map_set]
  congr 1
  apply List.ext_getElem (by simp [plK])
  intro i h1 h2
  have hi : i < L.length := by simpa [plK] using h2
  rw [List.getElem_set]
  simp only [plK, List.getElem_map, List.getElem_range]
  by_cases e : k = i
  · subst e; rw [if_pos rfl, if_pos (by omega)]
  · rw [if_neg e]
    by_cases e2 : i < k
    · rw [if_pos e2, if_pos (by omega)]
    · rw [if_neg e2, if_neg (by omega)]

set_option maxHeartbeats 1000000 in
theorem shs_any (n : Int) (A : Option Addr) (len cap : Nat) (AU : Option Addr) (cc : Nat) (l : List Int) (w : World) (h : IAt w AU l) (hl : l.length ≤ 1048576) :
    Calls Try.prog 65 #[nv n A len cap, .slice AU l.length cc] w fun e w' => e = .returned (.bool (hsB n l)) ∧ Below w.heap.size w w' := by
  have HA := Lib.hid (h.kept (show Below w.heap.size w (w.alloc (.cells #[.int .i64 n, .slice A len cap] 31)) from (Below.refl _ _).alloc (Nat.le_refl _) _) (Nat.le_refl _))
  clear h
  go_enter Try.func65, Try.ntmps65
  go_wp2
  go_loop [5] (fun i => ∃ k : Nat, k ≤ l.length ∧ i = .int .i64 (k : Int) ∧ Hid (∀ j, j < k → inR 0 100000000000 (l.getD j 0) = true)) (fun i => l.length - (intOf i).toNat)
  case atStart => exact ⟨0, Nat.zero_le _, rfl, Lib.hid (fun j hj => absurd hj (by omega))⟩
  case round =>
    obtain ⟨k, hk, rfl, hno⟩ := hrel
    by_cases hlt : k < l.length
    · obtain ⟨b, off, hA, hbl, h0⟩ := HA.out.at_ hlt
      subst hA
      have hk0 : (0 : Int) ≤ (k : Int) := by omega
      have hkn : (k : Int) < (l.length : Int) := by omega
      obtain ⟨v, hv⟩ : ∃ v, inR 0 100000000000 (l.getD k 0) = v := ⟨_, rfl⟩
      have HC := Lib.hid (fun w' => shd_v (x := l.getD k 0) hv w')
      cases v with
      | false =>
        have HR := Lib.hid (show hsB n l = false from by rw [hsB, amtB, allR_no hlt hv, Bool.and_false])
        clear hv hno
        generalize l.getD k 0 = y at *
        go_wp2_with (go_at_call 69; refine (HC.out _).mono ?_; rintro e w1 ⟨rfl, hw⟩; replace hw := hw.symm; subst hw)
        go_ret
        exact ⟨by rw [HR.out]; rfl, (Below.refl _ _).alloc (Nat.le_refl _) _⟩
      | true =>
        have hno2 := Lib.hid (inR_snoc hno.out hv)
        clear hv hno
        generalize l.getD k 0 = y at *
        go_wp2_with (go_at_call 69; refine (HC.out _).mono ?_; rintro e w1 ⟨rfl, hw⟩; replace hw := hw.symm; subst hw)
        go_round
        case rel => exact ⟨k + 1, by omega, by go_num, hno2⟩
        case measure => simp [intOf]; omega
    · have HALL := Lib.hid (show allR 0 100000000000 l = true from allR_mk (fun i hi => hno.out i (by omega)))
      by_cases he : (l.length : Int) = n
      · have g1 : ((l.length : Int) == n) = true := beq_iff_eq.2 he
        have HR := Lib.hid (show hsB n l = true from by rw [hsB, amtB, HALL.out]; simp [he])
        clear he
        go_wp2
        go_ret
        exact ⟨by rw [HR.out]; rfl, (Below.refl _ _).alloc (Nat.le_refl _) _⟩
      · have g1 : ((l.length : Int) == n) = false := beq_eq_false_iff_ne.2 he
        have HR := Lib.hid (show hsB n l = false from by rw [hsB, amtB, HALL.out]; simp [he])
        clear he
        go_wp2
        go_ret
        exact ⟨by rw [HR.out]; rfl, (Below.refl _ _).alloc (Nat.le_refl _) _⟩
theorem shs_v {n : Int} {l : List Int} {v : Bool} (hv : hsB n l = v) (A : Option Addr) (len cap : Nat) (AU : Option Addr) (cc : Nat) (w : World) (h : IAt w AU l) (hl : l.length ≤ 1048576) :
    Calls Try.prog 65 #[nv n A len cap, .slice AU l.length cc] w fun e w' => e = .returned (.bool v) ∧ Below w.heap.size w w' := by
  rw [← hv]; exact shs_any n A len cap AU cc l w h hl

set_option maxHeartbeats 2000000 in
set_option maxRecDepth 100000 in
theorem sprs_any (N s : Nat) (A : Option Addr) (cap : Nat) (ps : List Pp) (AD : Option Addr) (dc : Nat) (dm : List Int) (h : Int) (AH : Option Addr) (hc : Nat) (hs : List Int) (w : World) (hp : PAt w A ps) (hcap : ps.length = cap) (hd : IAt w AD dm) (hi : IAt w AH hs) (hn : nodeB N ps s = true) (ht : treeB N ps = true) (hv : demB N ps dm = true) (hh : hdR h = true) (hvs : hsB N hs = true) :
    Calls Try.prog 66 #[nv N A ps.length cap, .int .i64 (s : Int), .slice AD dm.length dc, .int .i64 h, .slice AH hs.length hc] w (GivesL w (prL N ps s dm h hs)) := by
  obtain ⟨hg, hdn, hr⟩ := demB_of hv
  obtain ⟨_, hs1, hs2⟩ := nodeB_of hn
  have hN8 := hg.2.1
  obtain ⟨hh1, hh2⟩ := hdR_of hh
  obtain ⟨hl, hv2⟩ := hsB_of hvs
  have H := Lib.hid (fun w' (hb : Below w.heap.size w w') => shds_any N s A cap ps AD dc dm h w' (hp.kept hb (Nat.le_refl _)) hcap (hd.kept hb (Nat.le_refl _)) hn ht hv hh)
  have HI := Lib.hid (fun w' (hb : Below w.heap.size w w') => hi.kept hb (Nat.le_refl _))
  have HLN := hdL_len N ps s dm h
  have HBL := Lib.hid (fun i (hi : i < N) => (show -5000000000 ≤ lA (hdL N ps s dm h) i ∧ lA (hdL N ps s dm h) i ≤ 105000000000 from by
    have h1 := hdF_in hg ht hr hdn (s := s) (by omega) (by omega) hh1 hh2 hi
    have h2 := hdL_at (N := N) (ps := ps) (s := s) (dm := dm) (h := h) hi
    unfold lA
    rw [h2]; omega))
  have HBH := Lib.hid (fun i (hi : i < N) => (show 0 ≤ lA hs i ∧ lA hs i ≤ 100000000000 from allR_at hv2 (i := i) (by omega)))
  have HPL := Lib.hid (show plK (hdL N ps s dm h) hs N = prL N ps s dm h hs from by have := plK_full (hdL N ps s dm h) hs; rw [HLN] at this; exact this)
  have HPN := Lib.hid (fun k => (show (plK (hdL N ps s dm h) hs k).length = N by rw [plK_len]; exact HLN))
  have HP0 := Lib.hid (plK_zero (hdL N ps s dm h) hs)
  have HPA := Lib.hid (fun k (hk : k < N) => plK_at (L := hdL N ps s dm h) (H := hs) (k := k) (by omega))
  have HPS := Lib.hid (fun k (hk : k < N) => plK_set (L := hdL N ps s dm h) (H := hs) (k := k) (by omega))
  have HLN2 := Lib.hid HLN
  have HSN := Lib.hid (show hs.length = N by omega)
  clear hp hd hi hn ht hv hh hvs hv2 hg hdn hr hl HLN hcap
  generalize prL N ps s dm h hs = PL at *
  generalize hdL N ps s dm h = HL at *
  go_enter Try.func66, Try.ntmps66
  go_wp2_with (go_at_call 62; refine (H.out _ ((Below.refl _ _).alloc (Nat.le_refl _) _)).mono ?_; rintro e w1 ⟨g, c, rfl, hg1, hO, hb1⟩; refine Hid.out ?_)
  have HB1 := Lib.hid (below_alloc_call hb1)
  have hgB : w.heap.size < g := by simp at hg1; omega
  have HO1 := Lib.hid (show w1.ownsRow w.heap.size 3 1 (.slice (some ⟨g, 0, none⟩) N c) N ((plK HL hs 0).map iv) from by
    have := own_lower (B' := w.heap.size) hO (by simp)
    unfold IOwn at this
    rw [HLN2.out] at this
    rw [HP0.out]
    exact this)
  clear hb1 hO hg1
  rw [HLN2.out]
  refine Lib.hid ?_
  go_wp2
  go_loopw [12] (fun i wr => ∃ k : Nat, k ≤ N ∧ i = .int .i64 k ∧ Hid (wr.ownsRow w.heap.size 3 1 (.slice (some ⟨g, 0, none⟩) N c) N ((plK HL hs k).map iv)) ∧ Hid (Below w.heap.size w wr)) (fun i _ => N - (intOf i).toNat)
  case atStart => exact ⟨0, Nat.zero_le _, rfl, HO1, HB1⟩
  case round =>
    clear HO1 HB1
    obtain ⟨k, hk, rfl, hown, hB⟩ := hrel
    by_cases hlt : k < N
    · have hkh : k < hs.length := by rw [HSN.out]; exact hlt
      obtain ⟨bb, of2, hA2, hbl2, q0⟩ := (HI.out _ hB.out).at_ hkh
      subst hA2
      have hk0 : (0 : Int) ≤ (k : Int) := by omega
      have hkn : (k : Int) < (N : Int) := by omega
      have hknf : (k : Int) < (hs.length : Int) := by omega
      have hgl := (hown.out.lt g rfl).2
      have hpn := HPN.out k
      have hcell := (hown.out.cellAt k (by omega)).trans (show ((plK HL hs k).map iv)[k]? = some (iv (lA HL k)) by
        rw [List.getElem?_map]
        have h1 := HPA.out k hlt
        have h2 : k < (plK HL hs k).length := by omega
        simp only [List.getD, List.getElem?_eq_getElem h2, Option.getD_some] at h1
        rw [List.getElem?_eq_getElem h2, h1]; rfl)
      have hfz := hown.out.frozenAt k
      have hst := hown.out.stored k (iv (lA HL k - lA hs k))
      rw [HPS.out k hlt] at hst
      have HRL := Lib.hid hst.1
      have hb1 := HBL.out k hlt
      have hb2 := HBH.out k hlt
      have hla : lA hs k = hs.getD k 0 := rfl
      rw [← hla] at q0
      clear hst hla
      generalize lA HL k = x at *
      generalize lA hs k = y at *
      have wS : IntKind.i64.wrap (x - y) = x - y := w64 _ (by omega)
      go_wp2
      go_region_with (fail)
      all_goals
        go_wp2
        go_roundw
        · exact ⟨k + 1, by omega, by go_num, HRL, Lib.hid (hB.out.setCell (p := ⟨g, k, none⟩) (by show w.heap.size ≤ g; omega) _).drew⟩
        · simp [intOf]; omega
    · have e : k = N := by omega
      subst e
      have hown2 := hown.out
      rw [HPL.out] at hown2
      have HW := Lib.hid hown2
      have hpl := HPN.out k
      rw [HPL.out] at hpl
      have HPLN := Lib.hid hpl
      clear hown hown2 hpl
      go_wp2
      go_ret
      exact ⟨g, c, by rw [HPLN.out]; rfl, by omega, by unfold IOwn; rw [HPLN.out]; exact HW.out, hB.out⟩

set_option maxHeartbeats 1000000 in
theorem spr_no (n : Int) (A : Option Addr) (cap : Nat) (ps : List Pp) (x : Int) (AD : Option Addr) (dc : Nat) (dm : List Int) (h : Int) (AH : Option Addr) (hc : Nat) (hs : List Int) (w : World) (hp : PAt w A ps) (hm : ps.length ≤ maxLen) (hd : IAt w AD dm) (hdl : dm.length ≤ 1048576) (hi : IAt w AH hs) (hil : hs.length ≤ 1048576) (hv : askH n ps x dm h = false ∨ hsB n hs = false) :
    Calls Try.prog 27 #[nv n A ps.length cap, .int .i64 x, .slice AD dm.length dc, .int .i64 h, .slice AH hs.length hc] w (GivesA w [] false) := by
  obtain ⟨v1, hv1⟩ : ∃ v, askH n ps x dm h = v := ⟨_, rfl⟩
  have H := Lib.hid (fun w' (hb : Below w.heap.size w w') => ask_v hv1 A cap AD dc w' (hp.kept hb (Nat.le_refl _)) hm (hd.kept hb (Nat.le_refl _)) hdl)
  cases v1 with
  | false =>
    clear hp hd hv hi hv1
    go_enter Try.func27, Try.ntmps27
    go_wp2_with (go_at_call 61; refine (H.out _ ((Below.refl _ _).alloc (Nat.le_refl _) _)).mono ?_; rintro e w1 ⟨rfl, hb1⟩)
    go_ret2
    exact gives_noneA (below_alloc_call hb1)
  | true =>
    have hv2 : hsB n hs = false := by
      rcases hv with h | h
      · exact absurd (h.symm.trans hv1) (by simp)
      · exact h
    have H2 := Lib.hid (fun w' (hb : Below w.heap.size w w') => shs_v hv2 A ps.length cap AH hc w' (hi.kept hb (Nat.le_refl _)) hil)
    clear hp hd hv hi hv1 hv2
    go_enter Try.func27, Try.ntmps27
    go_wp2_with (first
      | (go_at_call 61; refine (H.out _ ((Below.refl _ _).alloc (Nat.le_refl _) _)).mono ?_; rintro e w1 ⟨rfl, hb1⟩; have HX1 := Lib.hid (show Below (w.heap.size + 1) (w.alloc (nb n A ps.length cap)) w1 by simpa using hb1); obtain ⟨b0, b1⟩ := box2 HX1.out; have hy1 := box_lt HX1.out; clear hb1)
      | (go_at_call 65; refine (H2.out _ (below_box HX1.out)).mono ?_; rintro e w2 ⟨rfl, hb2⟩))
    go_ret2
    exact gives_noneA ((below_box HX1.out).trans (hb2.mono (below_box HX1.out).size))
set_option maxHeartbeats 1000000 in
theorem spr_yes (N s : Nat) (A : Option Addr) (cap : Nat) (ps : List Pp) (AD : Option Addr) (dc : Nat) (dm : List Int) (h : Int) (AH : Option Addr) (hc : Nat) (hs : List Int) (w : World) (hp : PAt w A ps) (hm : ps.length ≤ maxLen) (hcap : ps.length = cap) (hd : IAt w AD dm) (hdl : dm.length ≤ 1048576) (hi : IAt w AH hs) (hil : hs.length ≤ 1048576) (ha : askH N ps s dm h = true) (hn : nodeB N ps s = true) (ht : treeB N ps = true) (hv : demB N ps dm = true) (hh : hdR h = true) (hvs : hsB N hs = true) :
    Calls Try.prog 27 #[nv N A ps.length cap, .int .i64 (s : Int), .slice AD dm.length dc, .int .i64 h, .slice AH hs.length hc] w (GivesA w (prL N ps s dm h hs) true) := by
  have H := Lib.hid (fun w' (hb : Below w.heap.size w w') => ask_v ha A cap AD dc w' (hp.kept hb (Nat.le_refl _)) hm (hd.kept hb (Nat.le_refl _)) hdl)
  have H2 := Lib.hid (fun w' (hb : Below w.heap.size w w') => shs_v hvs A ps.length cap AH hc w' (hi.kept hb (Nat.le_refl _)) hil)
  have H3 := Lib.hid (fun w' (hb : Below w.heap.size w w') => sprs_any N s A cap ps AD dc dm h AH hc hs w' (hp.kept hb (Nat.le_refl _)) hcap (hd.kept hb (Nat.le_refl _)) (hi.kept hb (Nat.le_refl _)) hn ht hv hh hvs)
  clear hp hd hv ha hn ht hh hcap hi hvs
  generalize prL N ps s dm h hs = L at *
  go_enter Try.func27, Try.ntmps27
  go_wp2_with (first
    | (go_at_call 61; refine (H.out _ ((Below.refl _ _).alloc (Nat.le_refl _) _)).mono ?_; rintro e w1 ⟨rfl, hb1⟩; have HX1 := Lib.hid (show Below (w.heap.size + 1) (w.alloc (nb N A ps.length cap)) w1 by simpa using hb1); obtain ⟨b0, b1⟩ := box2 HX1.out; have hy1 := box_lt HX1.out; clear hb1)
    | (go_at_call 65; refine (H2.out _ (below_box HX1.out)).mono ?_; rintro e w2 ⟨rfl, hb2⟩; have HX2 := Lib.hid (on_call HX1.out hb2); clear b0 b1; obtain ⟨b0, b1⟩ := box2 HX2.out; have hy2 := box_lt HX2.out; clear hb2)
    | (go_at_call 66; refine (H3.out _ (below_box HX2.out)).mono ?_; rintro e w3 ⟨g, c, rfl, hg2, hO, hb3⟩))
  go_ret2
  have hz := (below_box HX2.out).size
  exact ⟨g, 0, c, rfl, by omega, hO.iat, (below_box HX2.out).trans (hb3.mono hz), iown_lt' hO⟩
end Go.Proofs.Ytpldbakllegheaa.S2

namespace Go.Proofs.Ytpldbakllegheaa.S2
open Go.RowKit P2
theorem pr_bad (n : Int) (A : Option Addr) (cap : Nat) (ps : List Pp) (x : Int) (AD : Option Addr) (dc : Nat) (dm : List Int) (h : Int) (AH : Option Addr) (hc : Nat) (hs : List Int) (w : World) (hp : PAt w A ps) (hm : ps.length ≤ maxLen) (hd : IAt w AD dm) (hdl : dm.length ≤ 1048576) (hi : IAt w AH hs) (hil : hs.length ≤ 1048576) (hv : askH n ps x dm h = false ∨ hsB n hs = false) :
    Calls Try.prog 28 #[nv n A ps.length cap, .int .i64 x, .slice AD dm.length dc, .int .i64 h, .slice AH hs.length hc] w (GivesI w [] false) := by
  cases hv1 : askH n ps x dm h with
  | false => exact pr_no1 n A cap ps x AD dc dm h AH hc hs w (fun w' hb => hd_bad n A cap ps x AD dc dm h w' (hp.kept hb (Nat.le_refl _)) hm (hd.kept hb (Nat.le_refl _)) hdl hv1)
  | true =>
    have hv2 : hsB n hs = false := by
      rcases hv with h | h
      · exact absurd (h.symm.trans hv1) (by simp)
      · exact h
    obtain ⟨N, X, rfl, rfl, h1, h2, h3, h4⟩ := askH_of hv1
    exact pr_no2 N A cap ps X AD dc dm h AH hc hs _ w hi hil hv2 (fun w' hb => hd_yes N X A cap ps AD dc dm h w' (hp.kept hb (Nat.le_refl _)) hm (hd.kept hb (Nat.le_refl _)) hdl h1 h3 h2 h4)
end Go.Proofs.Ytpldbakllegheaa.S2
