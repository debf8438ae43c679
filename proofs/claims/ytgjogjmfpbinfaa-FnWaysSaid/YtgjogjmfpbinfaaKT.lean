/- TreeFlows and DownstreamNodes of the model: contracts. Conditions: each theorem's own premises. -/
import Derived.Test.YtgjogjmfpbinfaaKQ
import Derived.Test.YtgjogjmfpbinfaaKW
import Derived.Test.YtgjogjmfpbinfaaKN
import Derived.Deep.DeepCutAuto
namespace Go.Proofs.Ytgjogjmfpbinfaa.S2
open Go.RowKit P2

def absI (x : Int) : Int := max x (-x)
theorem absI_nn (x : Int) : 0 ≤ absI x := by unfold absI; omega
theorem absI_le {x b : Int} (h0 : -b ≤ x) (h1 : x ≤ b) : absI x ≤ b := by unfold absI; omega
theorem mul_bd {x y : Int} {a b : Nat} (hx : -(a : Int) ≤ x) (hx2 : x ≤ a) (hy : -(b : Int) ≤ y) (hy2 : y ≤ b) : -((a * b : Nat) : Int) ≤ x * y ∧ x * y ≤ ((a * b : Nat) : Int) := by
  have h := Nat.mul_le_mul (show x.natAbs ≤ a by omega) (show y.natAbs ≤ b by omega)
  rw [← Int.natAbs_mul] at h
  omega
def lossI (p : Pp) (f : Int) : Int := p.sz * f * absI f
theorem loss_in {n : Int} {p : Pp} (hp : PpOk n p) {f : Int} (h0 : -8000 ≤ f) (h1 : f ≤ 8000) : (-72000 ≤ p.sz * f ∧ p.sz * f ≤ 72000) ∧ -576000000 ≤ lossI p f ∧ lossI p f ≤ 576000000 := by
  obtain ⟨_, _, _, _, _, _, _, hs1, hs2⟩ := hp
  have a := mul_bd (x := p.sz) (y := f) (a := 9) (b := 8000) (by omega) (by omega) (by omega) (by omega)
  have hn := absI_nn f
  have hl := absI_le h0 h1
  have b := mul_bd (x := p.sz * f) (y := absI f) (a := 72000) (b := 8000) (by omega) (by omega) (by omega) (by omega)
  unfold lossI
  omega

/-! ### Where a pipe stands -/
noncomputable def plc (ps : List Pp) (x : Int) : Nat := (Classical.choose (find_ex ps x)).toNat
theorem plc_find {ps : List Pp} {x : Int} {i : Nat} (h : FindIs ps x (i : Int)) : plc ps x = i := by
  unfold plc
  rw [find_one (Classical.choose_spec (find_ex ps x)) h]
  exact Int.toNat_natCast i
theorem pp_at {ps : List Pp} {p : Pp} (h : p ∈ ps) : ∃ i, i < ps.length ∧ pAt ps i = p := by
  obtain ⟨i, hi, rfl⟩ := List.getElem_of_mem h
  exact ⟨i, hi, by simp [pAt, List.getD, hi]⟩
theorem pAt_mem {ps : List Pp} {i : Nat} (h : i < ps.length) : pAt ps i ∈ ps := List.mem_of_getElem? (pAt_get ps i h)
/-- A pipe of a valid network is found at its place. -/
theorem plc_at {n : Int} {ps : List Pp} (hg : P2.Good n ps) {i : Nat} (hi : i < ps.length) : plc ps (pAt ps i).id = i ∧ FindIs ps (pAt ps i).id (i : Int) := by
  have h : FindIs ps (pAt ps i).id (i : Int) := .inr ⟨i, hi, rfl, rfl, fun j hj he => by have := good_ids hg j i hj hi; omega⟩
  exact ⟨plc_find h, h⟩

/-! ### Along a way -/
noncomputable def hereA (ps : List Pp) (W : List Int) (s : Int) : Nat → Int
  | 0 => s
  | k + 1 => oth (pAt ps (plc ps (lA W k))) (hereA ps W s k)
noncomputable def turnA (ps : List Pp) (fl W : List Int) (s : Int) (k : Nat) : Int :=
  if (pAt ps (plc ps (lA W k))).fr = hereA ps W s k then lossI (pAt ps (plc ps (lA W k))) (lA fl (plc ps (lA W k))) else -lossI (pAt ps (plc ps (lA W k))) (lA fl (plc ps (lA W k)))
noncomputable def alongA (ps : List Pp) (fl W : List Int) (s : Int) : Int := sumK (turnA ps fl W s) W.length
/-- Each pipe of the way leads on from where one stands. -/
def WayOk (ps : List Pp) (W : List Int) (s : Int) : Prop := W.length ≤ 8 ∧ ∀ k, k < W.length → plc ps (lA W k) < ps.length ∧ FindIs ps (lA W k) (plc ps (lA W k)) ∧ ((pAt ps (plc ps (lA W k))).fr = hereA ps W s k ∨ (pAt ps (plc ps (lA W k))).to = hereA ps W s k)
theorem here_cons (ps : List Pp) (x : Int) (W : List Int) (s : Int) : ∀ k, hereA ps (x :: W) s (k + 1) = hereA ps W (oth (pAt ps (plc ps x)) s) k
  | 0 => rfl
  | k + 1 => by
    show oth (pAt ps (plc ps (lA (x :: W) (k + 1)))) (hereA ps (x :: W) s (k + 1)) = oth (pAt ps (plc ps (lA W k))) (hereA ps W (oth (pAt ps (plc ps x)) s) k)
    rw [here_cons ps x W s k]
    rfl
theorem way_steps {n : Nat} {ps : List Pp} (hg : P2.Good n ps) {t : Int} : ∀ (k h : Nat), dist ps t h = (k : Int) → ∀ i, i < (wayL ps t k h).length → plc ps (lA (wayL ps t k h) i) < ps.length ∧ FindIs ps (lA (wayL ps t k h) i) (plc ps (lA (wayL ps t k h) i)) ∧ ((pAt ps (plc ps (lA (wayL ps t k h) i))).fr = hereA ps (wayL ps t k h) h i ∨ (pAt ps (plc ps (lA (wayL ps t k h) i))).to = hereA ps (wayL ps t k h) h i)
  | 0, _, _, i, hi => by simp [wayL] at hi
  | k + 1, h, hd, i, hi => by
    obtain ⟨j, hj, hjn⟩ : ∃ j, (j < (rowOf ps h).length ∧ nearB ps t h (pAt (rowOf ps h) j) = true) ∧ ∀ m, (m < (rowOf ps h).length ∧ nearB ps t h (pAt (rowOf ps h) m) = true) → j ≤ m := by
      have hx : ∃ j, j < (rowOf ps h).length ∧ nearB ps t h (pAt (rowOf ps h) j) = true := Classical.byContradiction fun hc => near_row hg hd fun i hi => by
        cases he : nearB ps t h (pAt (rowOf ps h) i) with
        | false => rfl
        | true => exact absurd ⟨i, hi, he⟩ hc
      obtain ⟨j, hj⟩ := hx
      exact least_nat _ j hj
    obtain ⟨hm, ht⟩ := row_mem hj.1
    have hp := good_pp hg hm
    have ho := oth_in (x := (h : Int)) hp
    obtain ⟨u, hu⟩ : ∃ u : Nat, oth (pAt (rowOf ps h) j) h = (u : Int) := ⟨(oth (pAt (rowOf ps h) j) h).toNat, by omega⟩
    have hw := way_row (k := k) hj.1 (fun i hi => by
      cases he : nearB ps t h (pAt (rowOf ps h) i) with
      | false => rfl
      | true => have := hjn i ⟨by omega, he⟩; omega) hj.2 hu
    have hdu : dist ps t (u : Int) = (k : Int) := by rw [← hu]; exact (near_iff hd hm ht).1 hj.2
    rw [hw] at hi ⊢
    obtain ⟨q, hq, hqe⟩ := pp_at hm
    rw [← hqe] at hu ht ⊢
    obtain ⟨hpl, hfi⟩ := plc_at hg hq
    match i with
    | 0 =>
      show plc ps (pAt ps q).id < ps.length ∧ FindIs ps (pAt ps q).id (plc ps (pAt ps q).id) ∧ ((pAt ps (plc ps (pAt ps q).id)).fr = (h : Int) ∨ (pAt ps (plc ps (pAt ps q).id)).to = (h : Int))
      rw [hpl]
      exact ⟨hq, hfi, ht⟩
    | i + 1 =>
      rw [here_cons, hpl, hu]
      exact way_steps hg k u hdu i (by simpa using hi)
theorem way_ok {n : Nat} {ps : List Pp} (hg : P2.Good n ps) {t : Int} {k h : Nat} (hh : h ≤ n) (hd : dist ps t h = (k : Int)) : WayOk ps (wayL ps t k h) h := by
  have h1 := wayL_len ps t k h
  have h2 := dist_le (t := t) hg h hh
  have h3 := hg.2.1
  exact ⟨by omega, way_steps hg k h hd⟩
theorem turn_in {n : Int} {ps : List Pp} (hg : P2.Good n ps) {fl W : List Int} {s : Int} (hf : allR (-8000) 8000 fl = true) (hl : fl.length = ps.length) (hw : WayOk ps W s) {k : Nat} (hk : k < W.length) : -576000000 ≤ turnA ps fl W s k ∧ turnA ps fl W s k ≤ 576000000 := by
  have h1 := (hw.2 k hk).1
  have h2 := allR_at hf (i := plc ps (lA W k)) (by omega)
  have h3 := (loss_in (good_pp hg (pAt_mem h1)) h2.1 h2.2).2
  unfold turnA
  split
  · exact h3
  · have e : lA fl (plc ps (lA W k)) = fl.getD (plc ps (lA W k)) 0 := rfl
    rw [e]; omega
theorem along_in {n : Int} {ps : List Pp} (hg : P2.Good n ps) {fl W : List Int} {s : Int} (hf : allR (-8000) 8000 fl = true) (hl : fl.length = ps.length) (hw : WayOk ps W s) {k : Nat} (hk : k ≤ W.length) : -4608000000 ≤ sumK (turnA ps fl W s) k ∧ sumK (turnA ps fl W s) k ≤ 4608000000 := by
  have h1 := sumK_le (f := turnA ps fl W s) (B := 576000000) (by omega) (k := k) (fun i hi => turn_in hg hf hl hw (by omega))
  have h2 : (k : Int) ≤ 8 := by have := hw.1; omega
  have h3 : (576000000 : Int) * k ≤ 576000000 * 8 := Int.mul_le_mul_of_nonneg_left h2 (by omega)
  omega
end Go.Proofs.Ytgjogjmfpbinfaa.S2

namespace Go.Proofs.Ytgjogjmfpbinfaa.S2
open Go.RowKit P2

/-- The first of the first k that is greatest. -/
def fstG (f : Nat → Int) : Nat → Nat
  | 0 => 0
  | k + 1 => if f (fstG f k) < f k then k else fstG f k
theorem fstG_lt (f : Nat → Int) : ∀ k, 0 < k → fstG f k < k
  | 0, h => absurd h (by omega)
  | 1, _ => by unfold fstG; split <;> simp [fstG]
  | k + 2, _ => by
    have := fstG_lt f (k + 1) (by omega)
    rw [fstG]
    split <;> omega
theorem fstG_one (f : Nat → Int) : fstG f 1 = 0 := by have := fstG_lt f 1 (by omega); omega
theorem fstG_val (f : Nat → Int) (k : Nat) : f (fstG f (k + 1)) = max (f (fstG f k)) (f k) := by
  rw [fstG]
  split <;> omega
theorem fstG_top (f : Nat → Int) : ∀ k j, j < k → f j ≤ f (fstG f k)
  | 0, j, h => absurd h (by omega)
  | k + 1, j, h => by
    rw [fstG_val f k]
    by_cases e : j = k
    · subst e; omega
    · have := fstG_top f k j (by omega); omega
theorem fstG_first (f : Nat → Int) : ∀ k j, j < fstG f k → f j < f (fstG f k)
  | 0, j, h => absurd h (by simp [fstG])
  | k + 1, j, h => by
    by_cases e : f (fstG f k) < f k
    · rw [fstG, if_pos e] at h ⊢
      have := fstG_top f k j h
      omega
    · rw [fstG, if_neg e] at h ⊢
      exact fstG_first f k j h
/-- The smallest of the first k. -/
def loK (l : List Int) : Nat → Int
  | 0 => lA l 0
  | k + 1 => min (loK l k) (lA l k)
theorem loK_le (l : List Int) : ∀ k j, j < k → loK l k ≤ lA l j
  | 0, j, h => absurd h (by omega)
  | k + 1, j, h => by
    rw [loK]
    by_cases e : j = k
    · subst e; omega
    · have := loK_le l k j (by omega); omega
theorem loK_one (l : List Int) : loK l 1 = lA l 0 := by simp [loK]

set_option maxHeartbeats 1000000 in
theorem max_any (A : Option Addr) (cap : Nat) (l : List Int) (w : World) (h : IAt w A l) (hl : 0 < l.length) (hl2 : l.length ≤ 1048576) :
    Calls Try.prog 180 #[.slice A l.length cap] w fun e w' => e = .returned (.int .i64 (lA l (fstG (lA l) l.length))) ∧ w' = w := by
  have HA := Lib.hid h
  obtain ⟨b, off, hA, hbl, h0⟩ := h.at_ (i := 0) hl
  subst hA
  rw [Nat.add_zero] at h0
  have hat : l.getD 0 0 = lA l 0 := rfl
  rw [hat] at h0
  have HX := Lib.hid (show lA l (fstG (lA l) 1) = lA l 0 by rw [fstG_one])
  have g0 : decide ((l.length : Int) < 1) = false := decide_eq_false (by omega)
  generalize lA l 0 = x0 at *
  clear h hat
  go_enter Try.func180, Try.ntmps180
  go_wp2
  go_loopw [3, 4] (fun m i wr => ∃ k : Nat, 1 ≤ k ∧ k ≤ l.length ∧ m = .int .i64 (lA l (fstG (lA l) k)) ∧ i = .int .i64 k ∧ wr = w) (fun _ i _ => l.length - (intOf i).toNat)
  case atStart => exact ⟨1, Nat.le_refl _, by omega, by rw [HX.out], rfl, rfl⟩
  case round =>
    obtain ⟨k, hk1, hk, rfl, rfl, hw⟩ := hrel
    replace hw := hw.symm
    subst hw
    by_cases hlt : k < l.length
    · obtain ⟨b', off', hA', hbl', h1⟩ := HA.out.at_ (i := k) hlt
      simp only [Option.some.injEq, Addr.mk.injEq, and_true] at hA'
      obtain ⟨rfl, rfl⟩ := hA'
      have hk0 : (0 : Int) ≤ (k : Int) := by omega
      have hkn : (k : Int) < (l.length : Int) := by omega
      have hat : l.getD k 0 = lA l k := rfl
      rw [hat] at h1
      have HN := Lib.hid (fstG_val (lA l) k)
      generalize lA l k = x at *
      generalize hM : lA l (fstG (lA l) k) = M at *
      clear hM h0 hat
      go_wp2
      go_roundw
      case rel => exact ⟨k + 1, by omega, by omega, by rw [HN.out], by go_num, trivial⟩
      case measure => simp [intOf]; omega
    · have HF := Lib.hid (show lA l (fstG (lA l) k) = lA l (fstG (lA l) l.length) by rw [show k = l.length by omega])
      clear h0
      go_wp2
      go_ret
      exact ⟨by rw [← HF.out]; rfl, rfl⟩
set_option maxHeartbeats 1000000 in
theorem min_any (A : Option Addr) (cap : Nat) (l : List Int) (w : World) (h : IAt w A l) (hl : 0 < l.length) (hl2 : l.length ≤ 1048576) :
    Calls Try.prog 144 #[.slice A l.length cap] w fun e w' => e = .returned (.int .i64 (loK l l.length)) ∧ w' = w := by
  have HA := Lib.hid h
  obtain ⟨b, off, hA, hbl, h0⟩ := h.at_ (i := 0) hl
  subst hA
  rw [Nat.add_zero] at h0
  have hat : l.getD 0 0 = lA l 0 := rfl
  rw [hat] at h0
  have HX := Lib.hid (loK_one l)
  have g0 : decide ((l.length : Int) < 1) = false := decide_eq_false (by omega)
  generalize lA l 0 = x0 at *
  clear h hat
  go_enter Try.func144, Try.ntmps144
  go_wp2
  go_loopw [3, 4] (fun m i wr => ∃ k : Nat, 1 ≤ k ∧ k ≤ l.length ∧ m = .int .i64 (loK l k) ∧ i = .int .i64 k ∧ wr = w) (fun _ i _ => l.length - (intOf i).toNat)
  case atStart => exact ⟨1, Nat.le_refl _, by omega, by rw [HX.out], rfl, rfl⟩
  case round =>
    obtain ⟨k, hk1, hk, rfl, rfl, hw⟩ := hrel
    replace hw := hw.symm
    subst hw
    by_cases hlt : k < l.length
    · obtain ⟨b', off', hA', hbl', h1⟩ := HA.out.at_ (i := k) hlt
      simp only [Option.some.injEq, Addr.mk.injEq, and_true] at hA'
      obtain ⟨rfl, rfl⟩ := hA'
      have hk0 : (0 : Int) ≤ (k : Int) := by omega
      have hkn : (k : Int) < (l.length : Int) := by omega
      have hat : l.getD k 0 = lA l k := rfl
      rw [hat] at h1
      have HN := Lib.hid (show loK l (k + 1) = min (loK l k) (lA l k) from rfl)
      generalize lA l k = x at *
      generalize hM : loK l k = M at *
      clear hM h0 hat
      go_wp2
      go_roundw
      case rel => exact ⟨k + 1, by omega, by omega, by rw [HN.out], by go_num, trivial⟩
      case measure => simp [intOf]; omega
    · have HF := Lib.hid (show loK l k = loK l l.length by rw [show k = l.length by omega])
      clear h0
      go_wp2
      go_ret
      exact ⟨by rw [← HF.out]; rfl, rfl⟩
set_option maxHeartbeats 1000000 in
theorem index_any (A : Option Addr) (cap : Nat) (l : List Int) (v : Int) (i0 : Nat) (w : World) (h : IAt w A l) (hl : l.length ≤ 1048576) (hi : i0 < l.length) (hv : lA l i0 = v) (hn : ∀ j, j < i0 → lA l j ≠ v) :
    Calls Try.prog 132 #[.slice A l.length cap, .int .i64 v] w fun e w' => e = .returned (.int .i64 (i0 : Int)) ∧ w' = w := by
  have HA := Lib.hid h
  have HN := Lib.hid hn
  have HV := Lib.hid hv
  clear h hn hv
  go_enter Try.func132, Try.ntmps132
  go_wp2
  go_loopw [8] (fun i wr => ∃ k : Nat, k ≤ i0 ∧ i = .int .i64 k ∧ wr = w) (fun i _ => l.length - (intOf i).toNat)
  case atStart => exact ⟨0, by omega, rfl, rfl⟩
  case round =>
    obtain ⟨k, hk, rfl, hw⟩ := hrel
    replace hw := hw.symm
    subst hw
    have hlt : k < l.length := by omega
    obtain ⟨b, off, hA, hbl, h1⟩ := HA.out.at_ (i := k) hlt
    subst hA
    have hk0 : (0 : Int) ≤ (k : Int) := by omega
    have hkn : (k : Int) < (l.length : Int) := by omega
    have hat : l.getD k 0 = lA l k := rfl
    rw [hat] at h1
    by_cases he : k = i0
    · subst he
      rw [HV.out] at h1
      clear hat
      go_wp2
      go_ret
      exact ⟨rfl, rfl⟩
    · have hne : ¬ v = lA l k := fun e => HN.out k (by omega) e.symm
      generalize lA l k = x at *
      clear hat
      go_wp2
      go_roundw
      case rel => exact ⟨k + 1, by omega, by go_num, trivial⟩
      case measure => simp [intOf]; omega
end Go.Proofs.Ytgjogjmfpbinfaa.S2

namespace Go.Proofs.Ytgjogjmfpbinfaa.S2
open Go.RowKit P2

theorem w64 (x : Int) (h : -9000000000000000000 ≤ x ∧ x ≤ 9000000000000000000) : IntKind.i64.wrap x = x := IntWalk.i64_in _ (by omega)
set_option maxHeartbeats 1000000 in
theorem loss_any {n : Int} {p : Pp} (hp : PpOk n p) {f : Int} (h0 : -8000 ≤ f) (h1 : f ≤ 8000) (w : World) :
    Calls Try.prog 137 #[pv p, .int .i64 f] w fun e w' => e = .returned (.int .i64 (lossI p f)) ∧ Below w.heap.size w w' := by
  obtain ⟨⟨a1, a2⟩, a3, a4⟩ := loss_in hp h0 h1
  have HL := Lib.hid (show lossI p f = p.sz * f * max f (-f) from rfl)
  rw [HL.out] at a3 a4
  have wP : IntKind.i64.wrap (p.sz * f) = p.sz * f := w64 _ (by omega)
  have wQ : IntKind.i64.wrap (p.sz * f * max f (-f)) = p.sz * f * max f (-f) := w64 _ (by omega)
  clear hp
  go_enter Try.func137, Try.ntmps137
  go_wp2
  go_ret
  exact ⟨by rw [HL.out]; rfl, (Below.refl _ _).alloc (Nat.le_refl _) _⟩
theorem smost_any (x y : Int) (w : World) : Calls Try.prog 175 #[.int .i64 x, .int .i64 y] w fun e w' => e = .returned (.int .i64 (max x y)) ∧ w' = w := by
  by_cases hgt : y < x
  · have e : max x y = x := by omega
    rw [e]
    clear e
    go_enter Try.func175, Try.ntmps175
    go_wp2
    go_ret
    exact ⟨rfl, rfl⟩
  · have e : max x y = y := by omega
    rw [e]
    clear e
    go_enter Try.func175, Try.ntmps175
    go_wp2
    go_ret
    exact ⟨rfl, rfl⟩
theorem sabs_any (x : Int) (w : World) (h0 : -1000000000000 ≤ x) (h1 : x ≤ 1000000000000) : Calls Try.prog 181 #[.int .i64 x] w fun e w' => e = .returned (.int .i64 (absI x)) ∧ w' = w := by
  have HM := Lib.hid (fun w => smost_any x (-x) w)
  have HA := Lib.hid (show absI x = max x (-x) from rfl)
  rw [HA.out]
  generalize max x (-x) = a at *
  go_enter Try.func181, Try.ntmps181
  go_wp2_with (go_at_call 175; refine (HM.out _).mono ?_; rintro e w' ⟨rfl, hw⟩; replace hw := hw.symm; subst hw)
  go_ret
  exact ⟨rfl, rfl⟩
set_option maxHeartbeats 1000000 in
theorem sloss_any {n : Int} {p : Pp} (hp : PpOk n p) {f : Int} (h0 : -8000 ≤ f) (h1 : f ≤ 8000) (w : World) :
    Calls Try.prog 135 #[pv p, .int .i64 f] w fun e w' => e = .returned (.int .i64 (lossI p f)) ∧ Below w.heap.size w w' := by
  obtain ⟨⟨a1, a2⟩, a3, a4⟩ := loss_in hp h0 h1
  have HL := Lib.hid (show lossI p f = p.sz * f * absI f from rfl)
  rw [HL.out] at a3 a4
  have wP : IntKind.i64.wrap (p.sz * f) = p.sz * f := w64 _ (by omega)
  have wQ : IntKind.i64.wrap (p.sz * f * absI f) = p.sz * f * absI f := w64 _ (by omega)
  have HC := Lib.hid (fun w' => sabs_any f w' (by omega) (by omega))
  clear hp
  generalize absI f = g at *
  go_enter Try.func135, Try.ntmps135
  go_wp2
  go_quiet ((go_at_call 181; exact Calls.quiet_of_same (HC.out _)))
  go_wp2
  go_ret
  exact ⟨by rw [HL.out]; rfl, below_drewN ((Below.refl _ _).alloc (Nat.le_refl _) _) _⟩

/-! ### LossOf -/
set_option maxHeartbeats 1000000 in
theorem los_bad (n : Int) (A : Option Addr) (cap : Nat) (ps : List Pp) (AD : Option Addr) (dc : Nat) (fl : List Int) (x : Int) (w : World) (h : PAt w A ps) (hm : ps.length ≤ maxLen) (hd : IAt w AD fl) (hdl : fl.length ≤ 1048576) (hv : floB n ps fl = false) :
    Calls Try.prog 62 #[nv n A ps.length cap, .slice AD fl.length dc, .int .i64 x] w fun e w' => e = .returned (.tuple #[.int .i64 0, .bool false]) ∧ Below w.heap.size w w' := by
  have H := Lib.hid (fun w' (hb : Below w.heap.size w w') => flo_v hv A cap AD dc w' (h.kept hb (Nat.le_refl _)) hm (hd.kept hb (Nat.le_refl _)) hdl)
  clear h hd hv
  go_enter Try.func62, Try.ntmps62
  go_wp2_with (go_at_call 124; refine (H.out _ ((Below.refl _ _).alloc (Nat.le_refl _) _)).mono ?_; rintro e w1 ⟨rfl, hb1⟩)
  go_ret2
  exact ⟨rfl, below_alloc_call hb1⟩
set_option maxHeartbeats 1000000 in
theorem los_none (N : Nat) (A : Option Addr) (cap : Nat) (ps : List Pp) (AD : Option Addr) (dc : Nat) (fl : List Int) (x : Int) (w : World) (h : PAt w A ps) (hm : ps.length ≤ maxLen) (hd : IAt w AD fl) (hdl : fl.length ≤ 1048576) (hv : floB N ps fl = true) (hf : FindIs ps x (-1)) :
    Calls Try.prog 62 #[nv N A ps.length cap, .slice AD fl.length dc, .int .i64 x] w fun e w' => e = .returned (.tuple #[.int .i64 0, .bool false]) ∧ Below w.heap.size w w' := by
  have hg := (floB_of hv).1
  have H := Lib.hid (fun w' (hb : Below w.heap.size w w') => flo_v hv A cap AD dc w' (h.kept hb (Nat.le_refl _)) hm (hd.kept hb (Nat.le_refl _)) hdl)
  have H2 := Lib.hid (fun w' (hb : Below w.heap.size w w') => place_any N A cap ps x w' (h.kept hb (Nat.le_refl _)) hg)
  have HP := Lib.hid (fun (i : Nat) (f : Bool) (hp : Place ps x i f) => (show f = false from by
    cases f with
    | false => rfl
    | true => have := ((place_find (good_ids hg) hp hf).1 rfl).1; omega))
  clear h hd hv hf hg
  go_enter Try.func62, Try.ntmps62
  go_wp2_with (first
    | (go_at_call 124; refine (H.out _ ((Below.refl _ _).alloc (Nat.le_refl _) _)).mono ?_; rintro e w1 ⟨rfl, hb1⟩; obtain ⟨hc1, hf1⟩ := bcell hb1; have hz1 := hb1.size; simp at hz1; have hB1 := Lib.hid (below_alloc_call hb1))
    | (go_at_call 169; refine (H2.out _ hB1.out).mono ?_; rintro e w2 ⟨⟨i, f, rfl, hp⟩, hb2⟩; obtain rfl := HP.out i f hp))
  go_ret2
  exact ⟨rfl, hB1.out.trans (hb2.mono hB1.out.size)⟩
set_option maxHeartbeats 2000000 in
set_option maxRecDepth 100000 in
theorem los_yes (N i : Nat) (A : Option Addr) (cap : Nat) (ps : List Pp) (AD : Option Addr) (dc : Nat) (fl : List Int) (x : Int) (w : World) (h : PAt w A ps) (hm : ps.length ≤ maxLen) (hd : IAt w AD fl) (hdl : fl.length ≤ 1048576) (hv : floB N ps fl = true) (hi : i < ps.length) (hf : FindIs ps x i) :
    Calls Try.prog 62 #[nv N A ps.length cap, .slice AD fl.length dc, .int .i64 x] w fun e w' => e = .returned (.tuple #[.int .i64 (lossI (pAt ps i) (lA fl i)), .bool true]) ∧ Below w.heap.size w w' := by
  obtain ⟨hg, hfn, hfr⟩ := floB_of hv
  have H := Lib.hid (fun w' (hb : Below w.heap.size w w') => flo_v hv A cap AD dc w' (h.kept hb (Nat.le_refl _)) hm (hd.kept hb (Nat.le_refl _)) hdl)
  have H2 := Lib.hid (fun w' (hb : Below w.heap.size w w') => place_any N A cap ps x w' (h.kept hb (Nat.le_refl _)) hg)
  have HP := Lib.hid (fun (j : Nat) (f : Bool) (hp : Place ps x j f) => (show f = true ∧ j = i from by
    cases f with
    | false => have := (place_find (good_ids hg) hp hf).2 rfl; omega
    | true => have := ((place_find (good_ids hg) hp hf).1 rfl).1; exact ⟨rfl, by omega⟩))
  have hif : i < fl.length := by omega
  have hfi := allR_at hfr hif
  have HLO := Lib.hid (fun w' => loss_any (good_pp hg (pAt_mem hi)) hfi.1 hfi.2 w')
  obtain ⟨b, off, hA, hbl, p0, p1, p2, p3⟩ := h.at_ hi
  subst hA
  obtain ⟨bb, of2, hA2, hbl2, q0⟩ := hd.at_ hif
  subst hA2
  have hi0 : (0 : Int) ≤ (i : Int) := by omega
  have hin : (i : Int) < (ps.length : Int) := by omega
  have hinf : (i : Int) < (fl.length : Int) := by omega
  have hlA : lA fl i = fl.getD i 0 := rfl
  rw [hlA]
  clear h hd hv hf hg hfr hfn hfi hlA
  generalize lossI (pAt ps i) (fl.getD i 0) = L at *
  generalize pAt ps i = p at *
  generalize fl.getD i 0 = f at *
  go_enter Try.func62, Try.ntmps62
  go_wp2_with (first
    | (go_at_call 124; refine (H.out _ ((Below.refl _ _).alloc (Nat.le_refl _) _)).mono ?_; rintro e w1 ⟨rfl, hb1⟩; obtain ⟨hc1, hf1⟩ := bcell hb1; have hz1 := hb1.size; simp at hz1; have hB1 := Lib.hid (below_alloc_call hb1))
    | (go_at_call 169; refine (H2.out _ hB1.out).mono ?_; rintro e w2 ⟨⟨j, fb, rfl, hp⟩, hb2⟩; obtain ⟨rfl, rfl⟩ := HP.out j fb hp))
  have hBX : Below (w.heap.size + 1) (w.alloc (.cells #[.int .i64 (N : Int), .slice (some ⟨b, off, none⟩) ps.length cap] 30)) w2 := by
    have hx : Below (w.heap.size + 1) (w.alloc (.cells #[.int .i64 (N : Int), .slice (some ⟨b, off, none⟩) ps.length cap] 30)) w1 := by simpa using hb1
    exact on_call hx hb2
  have HB2 := Lib.hid (below_box hBX)
  obtain ⟨z0, z1⟩ := box2 hBX
  have hzz := box_lt hBX
  have hbl' : b < w2.heap.size := by omega
  have hbl2' : bb < w2.heap.size := by omega
  have r0 := (HB2.out.cell (p := ⟨b, off + j * 4, none⟩) hbl).trans p0
  have r1 := (HB2.out.cell (p := ⟨b, off + j * 4 + 1, none⟩) hbl).trans p1
  have r2 := (HB2.out.cell (p := ⟨b, off + j * 4 + 2, none⟩) hbl).trans p2
  have r3 := (HB2.out.cell (p := ⟨b, off + j * 4 + 3, none⟩) hbl).trans p3
  have r4 := (HB2.out.cell (p := ⟨bb, of2 + j, none⟩) hbl2).trans q0
  clear hb1 hc1 hf1 hz1 hB1 H H2 HP hBX hp hb2 p0 p1 p2 p3 q0
  have hG := @cell_g
  refine region_below (by kernel_rfl) (by kernel_rfl) ?_
  repeat (first | go_big_quiet_step ((go_at_call 137; exact met HLO.out)))
  refine wpQuiet_nil ?_
  intro w3 hb3
  go_wp2
  go_ret2
  exact ⟨rfl, HB2.out.trans (hb3.mono HB2.out.size)⟩

/-! ### LossOf of the model -/
end Go.Proofs.Ytgjogjmfpbinfaa.S2

namespace Go.Proofs.Ytgjogjmfpbinfaa.S2
open Go.RowKit P2

theorem cells4 (w : World) (a b c d : Value) (t : TypeId) (k : Nat) (u : Value) (h : [a, b, c, d][k]? = some u) : (w.alloc (.cells #[a, b, c, d] t)).cell? ⟨w.heap.size, k, none⟩ = some u := by
  rw [World.cell?_alloc_at _ _ _ _ rfl]
  simpa using h
theorem alloc_belowE (w : World) (o : Obj) : Below w.heap.size w (w.alloc o) := (Below.refl _ _).alloc (Nat.le_refl _) o
def enT (ps : List Pp) (fl : List Int) (k : Nat) : Int := lossI (pAt ps k) (lA fl k) * lA fl k
def enA (ps : List Pp) (fl : List Int) : Int := sumK (enT ps fl) fl.length
theorem enT_in {n : Int} {ps : List Pp} (hg : P2.Good n ps) {fl : List Int} (hr : allR (-8000) 8000 fl = true) (hl : fl.length = ps.length) {k : Nat} (hk : k < fl.length) : -4608000000000 ≤ enT ps fl k ∧ enT ps fl k ≤ 4608000000000 := by
  have h2 := allR_at hr hk
  have h3 := (loss_in (good_pp hg (pAt_mem (show k < ps.length by omega))) h2.1 h2.2).2
  have h4 := mul_bd (x := lossI (pAt ps k) (lA fl k)) (y := lA fl k) (a := 576000000) (b := 8000) (by unfold lA; omega) (by unfold lA; omega) (by unfold lA; omega) (by unfold lA; omega)
  unfold enT
  omega
theorem enS_in {n : Int} {ps : List Pp} (hg : P2.Good n ps) {fl : List Int} (hr : allR (-8000) 8000 fl = true) (hl : fl.length = ps.length) {k : Nat} (hk : k ≤ fl.length) : -46080000000000 ≤ sumK (enT ps fl) k ∧ sumK (enT ps fl) k ≤ 46080000000000 := by
  have h1 := sumK_le (f := enT ps fl) (B := 4608000000000) (by omega) (k := k) (fun i hi => enT_in hg hr hl (by omega))
  have h2 : (k : Int) ≤ 10 := by have := hg.2.2.1; omega
  have h3 : (4608000000000 : Int) * k ≤ 4608000000000 * 10 := Int.mul_le_mul_of_nonneg_left h2 (by omega)
  omega
theorem amt_self {l : List Int} {a b : Int} : amtB l l.length a b = allR a b l := by simp [amtB]

set_option maxHeartbeats 1000000 in
theorem en_no (n : Int) (A : Option Addr) (cap : Nat) (ps : List Pp) (AD : Option Addr) (dc : Nat) (fl : List Int) (w : World) (h : PAt w A ps) (hm : ps.length ≤ maxLen) (hd : IAt w AD fl) (hdl : fl.length ≤ 1048576) (hv : floB n ps fl = false ∨ allR (-2000) 2000 fl = false) :
    Calls Try.prog 53 #[nv n A ps.length cap, .slice AD fl.length dc] w fun e w' => e = .returned (.tuple #[.int .i64 0, .bool false]) ∧ Below w.heap.size w w' := by
  obtain ⟨v1, hv1⟩ : ∃ v, floB n ps fl = v := ⟨_, rfl⟩
  have H := Lib.hid (fun w' (hb : Below w.heap.size w w') => flo_v hv1 A cap AD dc w' (h.kept hb (Nat.le_refl _)) hm (hd.kept hb (Nat.le_refl _)) hdl)
  cases v1 with
  | false =>
    clear h hd hv hv1
    go_enter Try.func53, Try.ntmps53
    go_wp2_with (go_at_call 124; refine (H.out _ ((Below.refl _ _).alloc (Nat.le_refl _) _)).mono ?_; rintro e w1 ⟨rfl, hb1⟩; have hB1 := Lib.hid (below_alloc_call hb1))
    go_ret2
    exact ⟨rfl, hB1.out⟩
  | true =>
    have hv2 : amtB fl fl.length (-2000) 2000 = false := by
      rw [amt_self]
      rcases hv with h | h
      · exact absurd (h.symm.trans hv1) (by simp)
      · exact h
    have H2 := Lib.hid (fun w' (hb : Below w.heap.size w w') => am_v hv2 AD dc w' (hd.kept hb (Nat.le_refl _)) hdl)
    clear h hd hv hv1 hv2
    go_enter Try.func53, Try.ntmps53
    go_wp2_with (first
      | (go_at_call 124; refine (H.out _ ((Below.refl _ _).alloc (Nat.le_refl _) _)).mono ?_; rintro e w1 ⟨rfl, hb1⟩; obtain ⟨hc1, hf1⟩ := bcell hb1; have hz1 := hb1.size; simp at hz1; have hB1 := Lib.hid (below_alloc_call hb1))
      | (go_at_call 145; refine (H2.out _ hB1.out).mono ?_; rintro e w2 ⟨rfl, hb2⟩; have hB2 := Lib.hid (hB1.out.trans (hb2.mono hB1.out.size))))
    go_ret2
    exact ⟨rfl, hB2.out⟩

set_option maxHeartbeats 2000000 in
set_option maxRecDepth 100000 in
theorem en_yes (n : Int) (A : Option Addr) (cap : Nat) (ps : List Pp) (AD : Option Addr) (dc : Nat) (fl : List Int) (w : World) (h : PAt w A ps) (hm : ps.length ≤ maxLen) (hd : IAt w AD fl) (hdl : fl.length ≤ 1048576) (hv : floB n ps fl = true) (hv2 : allR (-2000) 2000 fl = true) :
    Calls Try.prog 53 #[nv n A ps.length cap, .slice AD fl.length dc] w fun e w' => e = .returned (.tuple #[.int .i64 (enA ps fl), .bool true]) ∧ Below w.heap.size w w' := by
  obtain ⟨hg, hfl, hr⟩ := floB_of hv
  have hl10 := hg.2.2.1
  have H := Lib.hid (fun w' (hb : Below w.heap.size w w') => flo_v hv A cap AD dc w' (h.kept hb (Nat.le_refl _)) hm (hd.kept hb (Nat.le_refl _)) hdl)
  have hv3 : amtB fl fl.length (-2000) 2000 = true := by rw [amt_self]; exact hv2
  have H2 := Lib.hid (fun w' (hb : Below w.heap.size w w') => am_v hv3 AD dc w' (hd.kept hb (Nat.le_refl _)) hdl)
  have HA := Lib.hid (fun w' (hb : Below w.heap.size w w') => h.kept hb (Nat.le_refl _))
  have HI := Lib.hid (fun w' (hb : Below w.heap.size w w') => hd.kept hb (Nat.le_refl _))
  have HE := Lib.hid (fun k (hk : k < fl.length) => allR_at hr hk)
  have HT := Lib.hid (fun k (hk : k < fl.length) => enT_in hg hr hfl hk)
  have HS := Lib.hid (fun k (hk : k ≤ fl.length) => enS_in hg hr hfl hk)
  have HG := Lib.hid (fun k (hk : k < ps.length) => good_pp hg (pAt_mem hk))
  have HL := Lib.hid hfl
  clear h hd hv hr hg hfl hm hdl hv2 hv3
  go_enter Try.func53, Try.ntmps53
  go_wp2_with (first
    | (go_at_call 124; refine (H.out _ ((Below.refl _ _).alloc (Nat.le_refl _) _)).mono ?_; rintro e w1 ⟨rfl, hb1⟩; have HX1 := Lib.hid (show Below (w.heap.size + 1) (w.alloc (nb n A ps.length cap)) w1 by simpa using hb1); obtain ⟨b0, b1⟩ := box2 HX1.out; have hy1 := box_lt HX1.out; clear hb1)
    | (go_at_call 145; refine (H2.out _ (below_box HX1.out)).mono ?_; rintro e w2 ⟨rfl, hb2⟩; have HX2 := Lib.hid (on_call HX1.out hb2); clear b0 b1; obtain ⟨b0, b1⟩ := box2 HX2.out; have hy2 := box_lt HX2.out; clear hb2))
  have hB := Lib.hid (below_box HX2.out)
  clear H H2 HX1 HX2 b0 b1
  go_loopw [6, 23] (fun a i wr => ∃ (k : Nat), k ≤ ps.length ∧ i = .int .i64 (k : Int) ∧ a = .int .i64 (sumK (enT ps fl) k) ∧ Hid (Below w.heap.size w wr)) (fun _ i _ => ps.length - (intOf i).toNat)
  case atStart => exact ⟨0, Nat.zero_le _, rfl, rfl, hB⟩
  case round =>
    clear hB hy1 hy2
    obtain ⟨k, hk, rfl, rfl, hB⟩ := hrel
    have hs := HS.out k (by rw [HL.out]; exact hk)
    by_cases hlt : k < ps.length
    · obtain ⟨b, off, hA, hbl, p0, p1, p2, p3⟩ := (HA.out _ hB.out).at_ hlt
      subst hA
      have hkf : k < fl.length := by rw [HL.out]; exact hlt
      obtain ⟨bb, of2, hA2, hbl2, q0⟩ := (HI.out _ hB.out).at_ hkf
      subst hA2
      have hk0 : (0 : Int) ≤ (k : Int) := by omega
      have hkn : (k : Int) < (ps.length : Int) := by omega
      have hknf : (k : Int) < (fl.length : Int) := by omega
      have hy := HE.out k hkf
      have ht := HT.out k hkf
      have HLO := Lib.hid (fun w' => loss_any (HG.out k hlt) hy.1 hy.2 w')
      have hsn : sumK (enT ps fl) (k + 1) = sumK (enT ps fl) k + lossI (pAt ps k) (fl.getD k 0) * fl.getD k 0 := rfl
      have ht2 : -4608000000000 ≤ lossI (pAt ps k) (fl.getD k 0) * fl.getD k 0 ∧ lossI (pAt ps k) (fl.getD k 0) * fl.getD k 0 ≤ 4608000000000 := ht
      have HSN := Lib.hid hsn
      clear ht hsn hy
      generalize lossI (pAt ps k) (fl.getD k 0) = L at *
      generalize fl.getD k 0 = f at *
      generalize pAt ps k = p at *
      generalize sumK (enT ps fl) k = s at *
      have wP : IntKind.i64.wrap (L * f) = L * f := w64 _ (by omega)
      have wS : IntKind.i64.wrap (s + L * f) = s + L * f := w64 _ (by omega)
      have hBn := Lib.hid (hB.out.alloc hB.out.size (.cells #[.int .i64 p.id, .int .i64 p.fr, .int .i64 p.to, .int .i64 p.sz] 75))
      have q1 := ((alloc_belowE wr (.cells #[.int .i64 p.id, .int .i64 p.fr, .int .i64 p.to, .int .i64 p.sz] 75)).cell (p := ⟨bb, of2 + k, none⟩) hbl2).trans q0
      have d0 := cells4 wr (.int .i64 p.id) (.int .i64 p.fr) (.int .i64 p.to) (.int .i64 p.sz) 75 0 _ rfl
      have d1 := cells4 wr (.int .i64 p.id) (.int .i64 p.fr) (.int .i64 p.to) (.int .i64 p.sz) 75 1 _ rfl
      have d2 := cells4 wr (.int .i64 p.id) (.int .i64 p.fr) (.int .i64 p.to) (.int .i64 p.sz) 75 2 _ rfl
      have d3 := cells4 wr (.int .i64 p.id) (.int .i64 p.fr) (.int .i64 p.to) (.int .i64 p.sz) 75 3 _ rfl
      have hzz : wr.heap.size < (wr.alloc (.cells #[.int .i64 p.id, .int .i64 p.fr, .int .i64 p.to, .int .i64 p.sz] 75)).heap.size := by simp
      have hbl2' : bb < (wr.alloc (.cells #[.int .i64 p.id, .int .i64 p.fr, .int .i64 p.to, .int .i64 p.sz] 75)).heap.size := by omega
      go_wp2
      generalize wr.alloc (.cells #[.int .i64 p.id, .int .i64 p.fr, .int .i64 p.to, .int .i64 p.sz] 75) = wa at *
      clear p0 p1 p2 p3 q0
      have hG := @cell_g
      refine region_below (by kernel_rfl) (by kernel_rfl) ?_
      repeat (first | go_big_quiet_step ((go_at_call 137; exact met HLO.out)))
      refine wpQuiet_nil ?_
      intro w3 hb3
      go_wp2
      go_roundw
      case rel => exact ⟨k + 1, by omega, by go_num, by rw [HSN.out], Lib.hid (hBn.out.trans (hb3.mono hBn.out.size))⟩
      case measure => simp [intOf]; omega
    · have hkk : k = fl.length := by rw [HL.out]; omega
      have HF := Lib.hid (show sumK (enT ps fl) k = enA ps fl by rw [hkk]; rfl)
      clear hkk
      go_wp2
      go_ret2
      exact ⟨by rw [← HF.out]; rfl, hB.out⟩

/-! ### The model -/
set_option maxHeartbeats 2000000 in
set_option maxRecDepth 100000 in
theorem sen_sum (n : Int) (A : Option Addr) (cap : Nat) (ps : List Pp) (AD : Option Addr) (dc : Nat) (fl : List Int) (w : World) (h : PAt w A ps) (hd : IAt w AD fl) (hv : floB n ps fl = true) :
    Calls Try.prog 131 #[nv n A ps.length cap, .slice AD fl.length dc] w fun e w' => e = .returned (.int .i64 (enA ps fl)) ∧ Below w.heap.size w w' := by
  obtain ⟨hg, hfl, hr⟩ := floB_of hv
  have hl10 := hg.2.2.1
  have HA := Lib.hid (fun w' (hb : Below w.heap.size w w') => h.kept hb (Nat.le_refl _))
  have HI := Lib.hid (fun w' (hb : Below w.heap.size w w') => hd.kept hb (Nat.le_refl _))
  have HE := Lib.hid (fun k (hk : k < fl.length) => allR_at hr hk)
  have HT := Lib.hid (fun k (hk : k < fl.length) => enT_in hg hr hfl hk)
  have HS := Lib.hid (fun k (hk : k ≤ fl.length) => enS_in hg hr hfl hk)
  have HG := Lib.hid (fun k (hk : k < ps.length) => good_pp hg (pAt_mem hk))
  have HL := Lib.hid hfl
  have hps0 : fl.length ≤ 10 := by omega
  have hBX := (Below.refl (w.heap.size + 1) (w.alloc (nb n A ps.length cap)))
  clear h hd hv hr hg hfl
  go_enter Try.func131, Try.ntmps131
  go_wp2
  go_loopw [5, 6] (fun a i wr => ∃ (k : Nat), k ≤ fl.length ∧ i = .int .i64 (k : Int) ∧ a = .int .i64 (sumK (enT ps fl) k) ∧ Below (w.heap.size + 1) (w.alloc (nb n A ps.length cap)) wr) (fun _ i _ => fl.length - (intOf i).toNat)
  case atStart => exact ⟨0, Nat.zero_le _, rfl, rfl, hBX⟩
  case round =>
    clear hBX
    obtain ⟨k, hk, rfl, rfl, hb⟩ := hrel
    obtain ⟨c0, c1⟩ := box2 hb
    have hz2 := box_lt hb
    have hB := Lib.hid (below_box hb)
    have hs := HS.out k hk
    by_cases hlt : k < fl.length
    · have hkp : k < ps.length := by rw [← HL.out]; exact hlt
      obtain ⟨b, off, hA, hbl, p0, p1, p2, p3⟩ := (HA.out _ hB.out).at_ hkp
      subst hA
      obtain ⟨bb, of2, hA2, hbl2, q0⟩ := (HI.out _ hB.out).at_ hlt
      subst hA2
      have hk0 : (0 : Int) ≤ (k : Int) := by omega
      have hkn : (k : Int) < (fl.length : Int) := by omega
      have hknp : (k : Int) < (ps.length : Int) := by omega
      have hy := HE.out k hlt
      have hp := HG.out k hkp
      have hli := loss_in hp hy.1 hy.2
      have ht := HT.out k hlt
      have HC := Lib.hid (fun w' => sabs_any (fl.getD k 0) w' (by omega) (by omega))
      have ha0 := absI_nn (fl.getD k 0)
      have ha1 := absI_le hy.1 hy.2
      have e1 : (pAt ps k).sz * absI (fl.getD k 0) * fl.getD k 0 = lossI (pAt ps k) (fl.getD k 0) := by unfold lossI; rw [Int.mul_right_comm]
      have hm1 := mul_bd (x := (pAt ps k).sz) (y := absI (fl.getD k 0)) (a := 9) (b := 8000) (by have := hp.2.2.2.2.2.2.2; omega) (by have := hp.2.2.2.2.2.2.2; omega) (by omega) (by omega)
      have hsn : sumK (enT ps fl) (k + 1) = sumK (enT ps fl) k + lossI (pAt ps k) (fl.getD k 0) * fl.getD k 0 := rfl
      have ht2 : -4608000000000 ≤ lossI (pAt ps k) (fl.getD k 0) * fl.getD k 0 ∧ lossI (pAt ps k) (fl.getD k 0) * fl.getD k 0 ≤ 4608000000000 := ht
      have hli2 := hli.2
      rw [← e1] at hsn ht2 hli2
      have HSN := Lib.hid hsn
      clear ht hsn hli hp e1
      generalize absI (fl.getD k 0) = g at *
      generalize fl.getD k 0 = f at *
      generalize pAt ps k = p at *
      generalize sumK (enT ps fl) k = s at *
      have wP : IntKind.i64.wrap (p.sz * g) = p.sz * g := w64 _ (by omega)
      have wQ : IntKind.i64.wrap (p.sz * g * f) = p.sz * g * f := w64 _ (by omega)
      have wR : IntKind.i64.wrap (p.sz * g * f * f) = p.sz * g * f * f := w64 _ (by omega)
      have wS : IntKind.i64.wrap (s + p.sz * g * f * f) = s + p.sz * g * f * f := w64 _ (by omega)
      clear hm1 ht2 hli2 hy hs
      go_wp2
      go_quiet ((go_at_call 181; exact Calls.quiet_of_same (HC.out _)))
      go_wp2
      go_roundw
      case rel => exact ⟨k + 1, by omega, by go_num, by rw [HSN.out], below_drewN hb _⟩
      case measure => simp [intOf]; omega
    · have hkk : k = fl.length := by omega
      have HF := Lib.hid (show sumK (enT ps fl) k = enA ps fl by rw [hkk]; rfl)
      clear hkk
      go_wp2
      go_ret
      exact ⟨by rw [← HF.out]; rfl, hB.out⟩

set_option maxHeartbeats 2000000 in
theorem sen_bad (n : Int) (A : Option Addr) (cap : Nat) (ps : List Pp) (AD : Option Addr) (dc : Nat) (fl : List Int) (w : World) (h : PAt w A ps) (hm : ps.length ≤ maxLen) (hd : IAt w AD fl) (hdl : fl.length ≤ 1048576) (hv : floB n ps fl = false) :
    Calls Try.prog 73 #[nv n A ps.length cap, .slice AD fl.length dc] w fun e w' => e = .returned (.tuple #[.int .i64 0, .bool false]) ∧ Below w.heap.size w w' := by
  obtain ⟨v1, hv1⟩ : ∃ v, goodB n ps = v := ⟨_, rfl⟩
  have H1 := Lib.hid (fun w' (hb : Below w.heap.size w w') => sgood_v hv1 A cap w' (h.kept hb (Nat.le_refl _)) hm)
  cases v1 with
  | false =>
    clear h hd hv hv1
    go_enter Try.func73, Try.ntmps73
    go_wp2_with (go_at_call 112; refine (H1.out _ ((Below.refl _ _).alloc (Nat.le_refl _) _)).mono ?_; rintro e w1 ⟨rfl, hb1⟩; have hB1 := Lib.hid (below_alloc_call hb1))
    go_ret2
    exact ⟨rfl, hB1.out⟩
  | true =>
    have hv2 : amtB fl ps.length (-8000) 8000 = false := by unfold floB at hv; rw [hv1] at hv; simpa using hv
    have H2 := Lib.hid (fun w' (hb : Below w.heap.size w w') => sflo_v hv2 (n := n) A cap AD dc w' (hd.kept hb (Nat.le_refl _)) hdl)
    clear h hd hv hv1 hv2
    go_enter Try.func73, Try.ntmps73
    go_wp2_with (first
      | (go_at_call 112; refine (H1.out _ ((Below.refl _ _).alloc (Nat.le_refl _) _)).mono ?_; rintro e w1 ⟨rfl, hb1⟩; obtain ⟨hc1, hf1⟩ := bcell hb1; have hz1 := hb1.size; simp at hz1; have hB1 := Lib.hid (below_alloc_call hb1))
      | (go_at_call 121; refine (H2.out _ hB1.out).mono ?_; rintro e w2 ⟨rfl, hb2⟩; have hB2 := Lib.hid (hB1.out.trans (hb2.mono hB1.out.size))))
    go_ret2
    exact ⟨rfl, hB2.out⟩

set_option maxHeartbeats 2000000 in
set_option maxRecDepth 100000 in
theorem sen_ok (n : Int) (A : Option Addr) (cap : Nat) (ps : List Pp) (AD : Option Addr) (dc : Nat) (fl : List Int) (u : Int × Bool) (w : World) (h : PAt w A ps) (hm : ps.length ≤ maxLen) (hd : IAt w AD fl) (hdl : fl.length ≤ 1048576) (hv : floB n ps fl = true) (hu : u = if allR (-2000) 2000 fl = true then (enA ps fl, true) else (0, false)) :
    Calls Try.prog 73 #[nv n A ps.length cap, .slice AD fl.length dc] w fun e w' => e = .returned (.tuple #[.int .i64 u.1, .bool u.2]) ∧ Below w.heap.size w w' := by
  have HSUM := Lib.hid (fun w' (hb : Below w.heap.size w w') => sen_sum n A cap ps AD dc fl w' (h.kept hb (Nat.le_refl _)) (hd.kept hb (Nat.le_refl _)) hv)
  unfold floB at hv
  rw [Bool.and_eq_true] at hv
  have H1 := Lib.hid (fun w' (hb : Below w.heap.size w w') => sgood_v hv.1 A cap w' (h.kept hb (Nat.le_refl _)) hm)
  have H2 := Lib.hid (fun w' (hb : Below w.heap.size w w') => sflo_v hv.2 (n := n) A cap AD dc w' (hd.kept hb (Nat.le_refl _)) hdl)
  have HI := Lib.hid (fun w' (hb : Below w.heap.size w w') => hd.kept hb (Nat.le_refl _))
  have HNO := Lib.hid (fun (h : allR (-2000) 2000 fl = false) => show u = (0, false) by rw [hu, h]; rfl)
  have HYES := Lib.hid (fun (h : allR (-2000) 2000 fl = true) => show u = (enA ps fl, true) by rw [hu, h]; rfl)
  clear h hd hv hu
  go_enter Try.func73, Try.ntmps73
  go_wp2_with (first
    | (go_at_call 112; refine (H1.out _ ((Below.refl _ _).alloc (Nat.le_refl _) _)).mono ?_; rintro e w1 ⟨rfl, hb1⟩; have HX1 := Lib.hid (show Below (w.heap.size + 1) (w.alloc (nb n A ps.length cap)) w1 by simpa using hb1); obtain ⟨b0, b1⟩ := box2 HX1.out; have hy1 := box_lt HX1.out; clear hb1)
    | (go_at_call 121; refine (H2.out _ (below_box HX1.out)).mono ?_; rintro e w2 ⟨rfl, hb2⟩; have HX2 := Lib.hid (on_call HX1.out hb2); clear b0 b1; obtain ⟨b0, b1⟩ := box2 HX2.out; have hy2 := box_lt HX2.out; clear hb2))
  have hB := Lib.hid (below_box HX2.out)
  clear H1 H2 HX1
  go_loop [6] (fun i => ∃ k : Nat, k ≤ fl.length ∧ i = .int .i64 (k : Int) ∧ Hid (∀ j, j < k → inR (-2000) 2000 (fl.getD j 0) = true)) (fun i => fl.length - (intOf i).toNat)
  case atStart => exact ⟨0, Nat.zero_le _, rfl, Lib.hid (fun j hj => absurd hj (by omega))⟩
  case round =>
    obtain ⟨k, hk, rfl, hno⟩ := hrel
    by_cases hlt : k < fl.length
    · obtain ⟨b, off, hA, hbl, h0⟩ := (HI.out _ hB.out).at_ hlt
      subst hA
      have hk0 : (0 : Int) ≤ (k : Int) := by omega
      have hkn : (k : Int) < (fl.length : Int) := by omega
      obtain ⟨v, hv⟩ : ∃ v, inR (-2000) 2000 (fl.getD k 0) = v := ⟨_, rfl⟩
      have HC := Lib.hid (fun w' => in_eq (fl.getD k 0) (-2000) 2000 v hv w')
      cases v with
      | false =>
        have HU := Lib.hid (HNO.out (allR_no hlt hv))
        clear hv hno
        generalize fl.getD k 0 = y at *
        go_wp2_with (go_at_call 122; refine (HC.out _).mono ?_; rintro e w3 ⟨rfl, hw⟩; replace hw := hw.symm; subst hw)
        go_ret2
        exact ⟨by rw [HU.out]; rfl, hB.out⟩
      | true =>
        have hno2 := Lib.hid (inR_snoc hno.out hv)
        clear hv hno
        generalize fl.getD k 0 = y at *
        go_wp2_with (go_at_call 122; refine (HC.out _).mono ?_; rintro e w3 ⟨rfl, hw⟩; replace hw := hw.symm; subst hw)
        go_round
        case rel => exact ⟨k + 1, by omega, by go_num, hno2⟩
        case measure => simp [intOf]; omega
    · have HU := Lib.hid (HYES.out (allR_mk (fun i hi => hno.out i (by omega))))
      go_wp2_with (go_at_call 131; refine (HSUM.out _ hB.out).mono ?_; rintro e w3 ⟨rfl, hb3⟩)
      go_ret2
      exact ⟨by rw [HU.out]; rfl, hB.out.trans (hb3.mono hB.out.size)⟩
end Go.Proofs.Ytgjogjmfpbinfaa.S2

namespace Go.Proofs.Ytgjogjmfpbinfaa.S2
open Go.RowKit P2

/-- 1 to N. -/
def upL (N : Nat) : List Int := (List.range N).map fun v : Nat => (v : Int) + 1
theorem upL_mem {N : Nat} {v : Int} : v ∈ upL N ↔ 1 ≤ v ∧ v ≤ N := by
  unfold upL
  rw [List.mem_map]
  constructor
  · rintro ⟨k, hk, rfl⟩
    have := List.mem_range.1 hk
    omega
  · rintro ⟨h1, h2⟩
    exact ⟨(v - 1).toNat, List.mem_range.2 (by omega), by omega⟩
theorem upL_sorted (N : Nat) : (upL N).Pairwise (· < ·) := by
  unfold upL
  rw [List.pairwise_map]
  exact List.pairwise_lt_range.imp (fun h => by omega)
open Classical in
/-- The nodes that are not connected with the source without a pipe. -/
noncomputable def dnB (ps : List Pp) (p : Pp) (s v : Int) : Bool := decide (¬ Conn (Wo ps p) v s)
open Classical in
theorem dnB_true {ps : List Pp} {p : Pp} {s v : Int} : dnB ps p s v = true ↔ ¬ Conn (Wo ps p) v s := by unfold dnB; exact decide_eq_true_iff
theorem dnB_false {ps : List Pp} {p : Pp} {s v : Int} (h : Conn (Wo ps p) v s) : dnB ps p s v = false := by
  cases e : dnB ps p s v with
  | false => rfl
  | true => exact absurd h (dnB_true.1 e)
noncomputable def dnTo (ps : List Pp) (p : Pp) (s : Int) (k : Nat) : List Int := (upL k).filter (dnB ps p s)
noncomputable def dnL (N : Nat) (ps : List Pp) (p : Pp) (s : Int) : List Int := dnTo ps p s N
theorem upL_snoc (k : Nat) : upL (k + 1) = upL k ++ [(k : Int) + 1] := by unfold upL; rw [List.range_succ, List.map_append]; rfl
theorem dnTo_yes {ps : List Pp} {p : Pp} {s : Int} {k : Nat} (h : dnB ps p s ((k : Int) + 1) = true) : dnTo ps p s (k + 1) = dnTo ps p s k ++ [(k : Int) + 1] := by
  unfold dnTo; rw [upL_snoc, List.filter_append]; simp [h]
theorem dnTo_no {ps : List Pp} {p : Pp} {s : Int} {k : Nat} (h : dnB ps p s ((k : Int) + 1) = false) : dnTo ps p s (k + 1) = dnTo ps p s k := by
  unfold dnTo; rw [upL_snoc, List.filter_append]; simp [h]
theorem dn_mem {N : Nat} {ps : List Pp} {p : Pp} {s v : Int} : v ∈ dnL N ps p s ↔ (1 ≤ v ∧ v ≤ N) ∧ ¬ Conn (Wo ps p) v s := by
  unfold dnL dnTo
  rw [List.mem_filter, upL_mem, dnB_true]
theorem dn_sorted (N : Nat) (ps : List Pp) (p : Pp) (s : Int) : (dnL N ps p s).Pairwise (· < ·) := (upL_sorted N).sublist List.filter_sublist
theorem dnTo_len (ps : List Pp) (p : Pp) (s : Int) (k : Nat) : (dnTo ps p s k).length ≤ k := Nat.le_trans (List.length_filter_le _ _) (by simp [upL])
theorem dn_len (N : Nat) (ps : List Pp) (p : Pp) (s : Int) : (dnL N ps p s).length ≤ N := dnTo_len ps p s N

/-! ### Sums over nodes -/
def sumG (g : Int → Int) : List Int → Int
  | [] => 0
  | x :: l => g x + sumG g l
theorem sumG_app (g : Int → Int) : ∀ (l m : List Int), sumG g (l ++ m) = sumG g l + sumG g m
  | [], m => by simp [sumG]
  | x :: l, m => by simp only [List.cons_append, sumG, sumG_app g l m]; omega
theorem sumG_perm {g : Int → Int} {l m : List Int} (h : l.Perm m) : sumG g l = sumG g m := by
  induction h with
  | nil => rfl
  | cons x _ ih => simp only [sumG, ih]
  | swap x y l => simp only [sumG]; omega
  | trans _ _ h1 h2 => rw [h1, h2]
theorem sumG_take (g : Int → Int) (l : List Int) : ∀ k, k ≤ l.length → sumK (fun i => g (lA l i)) k = sumG g (l.take k)
  | 0, _ => by simp [sumK, sumG]
  | k + 1, h => by
    have hk : k < l.length := by omega
    rw [sumK, sumG_take g l k (by omega), List.take_add_one, sumG_app]
    have e : lA l k = l[k] := by simp [lA, List.getD, hk]
    rw [e]
    simp [hk, sumG]
theorem sumG_all (g : Int → Int) (l : List Int) : sumK (fun i => g (lA l i)) l.length = sumG g l := by
  rw [sumG_take g l l.length (Nat.le_refl _), List.take_length]
/-- What a node takes. -/
def tk (dm : List Int) (v : Int) : Int := dm.getD (v - 1).toNat 0
theorem tk_in {dm : List Int} {N : Nat} (hr : allR 0 1000 dm = true) (hl : dm.length = N) {v : Int} (h1 : 1 ≤ v) (h2 : v ≤ N) : 0 ≤ tk dm v ∧ tk dm v ≤ 1000 := allR_at hr (i := (v - 1).toNat) (by omega)
theorem sumT_in {dm l : List Int} {N : Nat} (hr : allR 0 1000 dm = true) (hl : dm.length = N) (hm : ∀ v, v ∈ l → 1 ≤ v ∧ v ≤ N) (hn : l.length ≤ 8) {k : Nat} (hk : k ≤ l.length) : 0 ≤ sumK (fun i => tk dm (lA l i)) k ∧ sumK (fun i => tk dm (lA l i)) k ≤ 8000 := by
  have h1 : ∀ k, k ≤ l.length → 0 ≤ sumK (fun i => tk dm (lA l i)) k ∧ sumK (fun i => tk dm (lA l i)) k ≤ 1000 * (k : Int) := by
    intro k
    induction k with
    | zero => intro _; simp [sumK]
    | succ k ih =>
      intro hk
      have h2 := ih (by omega)
      have hm2 := hm (lA l k) (by
        have hk2 : k < l.length := by omega
        have e : lA l k = l[k] := by simp [lA, List.getD, hk2]
        rw [e]; exact List.getElem_mem hk2)
      have h3 := tk_in hr hl hm2.1 hm2.2
      have e : sumK (fun i => tk dm (lA l i)) (k + 1) = sumK (fun i => tk dm (lA l i)) k + tk dm (lA l k) := rfl
      rw [e]
      omega
  have := h1 k hk
  omega

/-! ### Flows of a tree -/
noncomputable def flowA (N : Nat) (ps : List Pp) (s : Int) (dm : List Int) (i : Nat) : Int :=
  if dnB ps (pAt ps i) s (pAt ps i).fr = true then -(sumG (tk dm) (dnL N ps (pAt ps i) s)) else sumG (tk dm) (dnL N ps (pAt ps i) s)
noncomputable def tfTo (N : Nat) (ps : List Pp) (s : Int) (dm : List Int) (k : Nat) : List Int := (List.range k).map (flowA N ps s dm)
noncomputable def tfL (N : Nat) (ps : List Pp) (s : Int) (dm : List Int) : List Int := tfTo N ps s dm ps.length
theorem tfTo_snoc (N : Nat) (ps : List Pp) (s : Int) (dm : List Int) (k : Nat) : tfTo N ps s dm (k + 1) = tfTo N ps s dm k ++ [flowA N ps s dm k] := by unfold tfTo; rw [List.range_succ, List.map_append]; rfl
theorem tfTo_len (N : Nat) (ps : List Pp) (s : Int) (dm : List Int) (k : Nat) : (tfTo N ps s dm k).length = k := by simp [tfTo]
theorem tfL_len (N : Nat) (ps : List Pp) (s : Int) (dm : List Int) : (tfL N ps s dm).length = ps.length := tfTo_len N ps s dm _
theorem tfL_at {N : Nat} {ps : List Pp} {s : Int} {dm : List Int} {i : Nat} (h : i < ps.length) : (tfL N ps s dm).getD i 0 = flowA N ps s dm i := by
  simp [tfL, tfTo, List.getD, h]
theorem sumD_in {N : Nat} {ps : List Pp} {p : Pp} {s : Int} {dm : List Int} (hN : N ≤ 8) (hr : allR 0 1000 dm = true) (hl : dm.length = N) : 0 ≤ sumG (tk dm) (dnL N ps p s) ∧ sumG (tk dm) (dnL N ps p s) ≤ 8000 := by
  have hn := dn_len N ps p s
  rw [← sumG_all]
  exact sumT_in hr hl (fun v hv => (dn_mem.1 hv).1) (by omega) (Nat.le_refl _)
theorem flow_in {N : Nat} {ps : List Pp} {s : Int} {dm : List Int} (hN : N ≤ 8) (hr : allR 0 1000 dm = true) (hl : dm.length = N) (i : Nat) : -8000 ≤ flowA N ps s dm i ∧ flowA N ps s dm i ≤ 8000 := by
  have := sumD_in (ps := ps) (p := pAt ps i) (s := s) hN hr hl
  unfold flowA
  split <;> omega
theorem tfL_in {N : Nat} {ps : List Pp} {s : Int} {dm : List Int} (hN : N ≤ 8) (hr : allR 0 1000 dm = true) (hl : dm.length = N) : allR (-8000) 8000 (tfL N ps s dm) = true :=
  allR_mk fun j hj => by
    rw [tfL_len] at hj
    rw [tfL_at hj]
    simpa [inR] using flow_in hN hr hl j

/-! ### What a search behind a pipe finds -/
theorem wo_none {ps : List Pp} {q : Pp} (h : q ∉ ps) : Wo ps q = ps := by
  unfold Wo
  exact List.filter_eq_self.2 fun e he => decide_eq_true fun hq => h (hq ▸ he)
theorem tree_full {N : Nat} {ps : List Pp} (hg : P2.Good N ps) (ht : treeB N ps = true) : Acy ps ∧ (∀ v : Nat, 1 ≤ v → v ≤ N → Conn ps 1 v) ∧ ps.length + 1 = N := by
  unfold treeB at ht
  rw [Bool.and_eq_true, decide_eq_true_iff, decide_eq_true_iff] at ht
  have hN := hg.1
  have hc := con_full (N := N) (ps := ps) (by omega) ht.2
  exact ⟨tree_acy hg ht.1 hc, hc, ht.1⟩
theorem tree_conn {N : Nat} {ps : List Pp} (h : ∀ v : Nat, 1 ≤ v → v ≤ N → Conn ps 1 v) {a b : Int} (a1 : 1 ≤ a) (a2 : a ≤ N) (b1 : 1 ≤ b) (b2 : b ≤ N) : Conn ps a b := by
  have ha := h a.toNat (by omega) (by omega)
  have hb := h b.toNat (by omega) (by omega)
  rw [Int.toNat_of_nonneg (by omega)] at ha hb
  exact ha.sy.tr hb
theorem root_not {N : Nat} {ps : List Pp} (hg : P2.Good N ps) : (⟨0, 0, 0, 0⟩ : Pp) ∉ ps := fun h => by have := (good_pp hg h).1; simp at this
/-- The far end of a pipe of a tree. -/
theorem far_end {N t : Nat} {ps : List Pp} (hg : P2.Good N ps) (ht : treeB N ps = true) (h1 : 1 ≤ t) (h2 : t ≤ N) {p : Pp} (hp : p ∈ ps) :
    ∃ y, fnd ps p (N + 1) t ⟨0, 0, 0, 0⟩ = some y ∧ (1 ≤ y ∧ y ≤ N) ∧ (∀ v, 1 ≤ v → v ≤ (N : Int) → (¬ Conn (Wo ps p) v t ↔ Conn (Wo ps p) y v)) ∧ (dnB ps p t p.fr = true ↔ p.fr = y) ∧ (∀ d, BrOk N ps y p → cntB N ps y p ≤ d → (nodesL ps d y p).Perm (dnL N ps p t)) := by
  obtain ⟨ha, hc, hlen⟩ := tree_full hg ht
  have hr := root_not hg
  have hbr : BrOk N ps t ⟨0, 0, 0, 0⟩ := ⟨by omega, by omega, .inr hr⟩
  have hpp := good_pp hg hp
  obtain ⟨_, _, f1, f2, t1, t2, hne, _, _⟩ := hpp
  have hy := fnd_yes hg ha hp (N + 1) t ⟨0, 0, 0, 0⟩ hbr (cnt_le N ps t _) (.inr (by rw [wo_none hr]; exact tree_conn hc (by omega) (by omega) f1 f2))
  obtain ⟨y, hfy⟩ := Option.ne_none_iff_exists'.1 hy
  rcases fnd_is hg ha (N + 1) t ⟨0, 0, 0, 0⟩ hbr (cnt_le N ps t _) hfy with ⟨h, _⟩ | ⟨_, hty, _, hns⟩
  · exact absurd (h ▸ hp) hr
  · have hy12 : 1 ≤ y ∧ y ≤ (N : Int) := by
      rcases hty with h | h
      · omega
      · omega
    have hb : ∀ v, 1 ≤ v → v ≤ (N : Int) → (¬ Conn (Wo ps p) v t ↔ Conn (Wo ps p) y v) := fun v v1 v2 => behind hp hty hns (tree_conn hc hy12.1 hy12.2 (by omega) (by omega)) (tree_conn hc hy12.1 hy12.2 v1 v2)
    refine ⟨y, hfy, hy12, hb, ?_, fun d hbo hcd => ?_⟩
    · rw [dnB_true, hb _ f1 f2]
      constructor
      · intro hcn
        rcases hty with h | h
        · exact h
        · exact absurd hcn.sy (by rw [← h]; exact ha p hp)
      · intro e
        rw [e]
        exact Conn.rf _ _
    · rw [List.perm_ext_iff_of_nodup (nodes_nodup hg ha d y p hbo hcd) ((dn_sorted N ps p t).imp (fun h => by omega))]
      intro v
      rw [nodes_mem hg ha d y p hbo hcd v, dn_mem]
      constructor
      · intro hv
        have hin : 1 ≤ v ∧ v ≤ (N : Int) := conn_ind (P := fun v => 1 ≤ v ∧ v ≤ (N : Int)) hy12 (fun u v _ _ hadj => by
          obtain ⟨e, he, hj⟩ := hadj
          have h3 := good_pp hg (mem_Wo.1 he).1
          rcases hj with ⟨_, rfl⟩ | ⟨_, rfl⟩
          · exact ⟨h3.2.2.2.2.1, h3.2.2.2.2.2.1⟩
          · exact ⟨h3.2.2.1, h3.2.2.2.1⟩) v hv
        exact ⟨hin, (hb v hin.1 hin.2).2 hv⟩
      · rintro ⟨hin, hv⟩
        exact (hb v hin.1 hin.2).1 hv
end Go.Proofs.Ytgjogjmfpbinfaa.S2

namespace Go.Proofs.Ytgjogjmfpbinfaa.S2
open Go.RowKit P2

theorem wo_mem {n : Int} {ps : List Pp} (hg : P2.Good n ps) {i : Nat} (hi : i < ps.length) {e : Pp} : e ∈ wo ps i ↔ e ∈ Wo ps (pAt ps i) := by
  rw [mem_Wo]
  have hid := good_ids hg
  constructor
  · intro h
    refine ⟨(wo_sub ps i).subset h, fun he => ?_⟩
    unfold wo at h
    rcases List.mem_append.1 h with h | h
    · obtain ⟨j, hj, hje⟩ := List.getElem_of_mem h
      rw [List.length_take] at hj
      have h2 : pAt ps j = e := by rw [List.getElem_take] at hje; simp [pAt, List.getD, show j < ps.length by omega, hje]
      have := hid j i (by omega) hi
      rw [h2, he] at this
      omega
    · obtain ⟨j, hj, hje⟩ := List.getElem_of_mem h
      rw [List.length_drop] at hj
      have h2 : pAt ps (i + 1 + j) = e := by rw [List.getElem_drop] at hje; simp [pAt, List.getD, show i + 1 + j < ps.length by omega, hje]
      have := hid i (i + 1 + j) (by omega) (by omega)
      rw [h2, he] at this
      omega
  · rintro ⟨h, hne⟩
    obtain ⟨j, hj, rfl⟩ := pp_at h
    unfold wo
    rw [List.mem_append]
    by_cases h1 : j < i
    · left
      have e1 : pAt ps j = (ps.take i)[j]'(by rw [List.length_take]; omega) := by rw [List.getElem_take]; simp [pAt, List.getD, hj]
      rw [e1]; exact List.getElem_mem _
    · have h2 : j ≠ i := fun e => hne (by rw [e])
      right
      have e1 : pAt ps j = (ps.drop (i + 1))[j - (i + 1)]'(by rw [List.length_drop]; omega) := by
        rw [List.getElem_drop]
        have : i + 1 + (j - (i + 1)) = j := by omega
        simp [pAt, List.getD, hj, this]
      rw [e1]; exact List.getElem_mem _
theorem wo_conn {n : Int} {ps : List Pp} (hg : P2.Good n ps) {i : Nat} (hi : i < ps.length) {a b : Int} : Conn (wo ps i) a b ↔ Conn (Wo ps (pAt ps i)) a b :=
  ⟨conn_mono fun _ h => (wo_mem hg hi).1 h, conn_mono fun _ h => (wo_mem hg hi).2 h⟩
theorem wet_has {N t : Nat} {ps : List Pp} (hg : P2.Good N ps) {i : Nat} (hi : i < ps.length) {v : Int} (h1 : 1 ≤ v) (h2 : v ≤ N) : hasB (conL N (wo ps i) t) v = !(dnB ps (pAt ps i) t v) := by
  unfold hasB
  cases e : dnB ps (pAt ps i) t v with
  | true =>
    rw [Bool.not_true]
    exact decide_eq_false fun h => dnB_true.1 e ((wo_conn hg hi).1 ((con_mem _ _ _ _).1 h).2.2)
  | false =>
    rw [Bool.not_false]
    refine decide_eq_true ((con_mem _ _ _ _).2 ⟨h1, h2, (wo_conn hg hi).2 (Classical.byContradiction fun h => ?_)⟩)
    rw [dnB_true.2 h] at e
    cases e
theorem dn_has {N : Nat} {ps : List Pp} {p : Pp} {s v : Int} (h1 : 1 ≤ v) (h2 : v ≤ N) : hasB (dnL N ps p s) v = dnB ps p s v := by
  unfold hasB
  cases e : dnB ps p s v with
  | true => exact decide_eq_true (dn_mem.2 ⟨⟨h1, h2⟩, dnB_true.1 e⟩)
  | false => exact decide_eq_false fun h => by rw [dnB_true.2 (dn_mem.1 h).2] at e; cases e
theorem dhas_v {l : List Int} {x : Int} {v : Bool} (hv : hasB l x = v) (A : Option Addr) (cap : Nat) (w : World) (h : IAt w A l) (hn : l.length ≤ 1048576) :
    Calls Try.prog 176 #[.slice A l.length cap, .int .i64 x] w fun e w' => e = .returned (.bool v) ∧ w' = w := by rw [← hv]; exact has_any A cap l x w h hn

set_option maxHeartbeats 4000000 in
set_option maxRecDepth 100000 in
theorem sdn_any (N t i : Nat) (A : Option Addr) (cap : Nat) (ps : List Pp) (w : World) (h : PAt w A ps) (hc : ps.length ≤ cap) (hg : P2.Good N ps) (ht1 : 1 ≤ t) (ht2 : t ≤ N) (hil : i < ps.length) :
    Calls Try.prog 205 #[nv N A ps.length cap, .int .i64 (t : Int), .int .i64 (i : Int)] w (GivesL w (dnL N ps (pAt ps i) t)) := by
  have hl10 := hg.2.2.1
  have hN : N ≤ 8 := by have := hg.2.1; omega
  have H1 := Lib.hid (fun w' (hb : Below w.heap.size w w') => sw_all N i cap A ps w' (h.kept hb (Nat.le_refl _)) hil hc hl10)
  have H2 := Lib.hid (fun A2 c w' (hp : PAt w' A2 (wo ps i)) => sreach_any N t A2 c (wo ps i) w' hp (good_sub hg (wo_sub ps i)) ht1 ht2)
  have HH := Lib.hid (fun (k : Nat) (hk : k < N) => wet_has (t := t) hg hil (v := (k : Int) + 1) (by omega) (by omega))
  have hcl := conL_len N (wo ps i) t
  have HL := Lib.hid (show dnL N ps (pAt ps i) t = dnTo ps (pAt ps i) t N from rfl)
  obtain ⟨i0, hi, hz0, hz1, hz2⟩ := info_parts infoI
  clear h hg hc
  generalize pAt ps i = p at *
  go_enter Try.func205, Try.ntmps205
  go_wp2_with (first
    | (go_at_call 130; refine (H1.out _ ((Below.refl _ _).alloc (Nat.le_refl _) _)).mono ?_; rintro e w1 ⟨A2, c2, rfl, hp2, hb1⟩; have HX1 := Lib.hid (show Below (w.heap.size + 1) (w.alloc (nb N A ps.length cap)) w1 by simpa using hb1); have HP2 := Lib.hid hp2; clear hb1 hp2)
    | (go_at_call 177; refine (H2.out _ _ _ HP2.out).mono ?_; rintro e w2 ⟨g, o, c, rfl, hg2, hla, hb2⟩; have HX2 := Lib.hid (on_call HX1.out hb2); have HLA := Lib.hid hla.iat; clear hb2 hla; refine Hid.out ?_))
  have hBX := HX2.out
  have hz2w := box_lt hBX
  have HB2 := Lib.hid (below_box hBX)
  obtain ⟨b0, b1⟩ := box2 hBX
  have HO0 := Lib.hid (own_empty w2 w2.heap.size (Nat.le_refl _))
  have HB0 := Lib.hid (show Below w2.heap.size w2 (w2.alloc (.cells #[] 3)) from (Below.refl _ _).alloc (Nat.le_refl _) _)
  clear H1 H2 HX1 HP2 hBX
  refine Lib.hid ?_
  go_wp2
  go_loopw [8, 9] (fun v i wr => ∃ k : Nat, k ≤ N ∧ i = .int .i64 ((k : Int) + 1) ∧ Hid (IOwn wr w2.heap.size v (dnTo ps p t k)) ∧ Hid (v ≠ .slice none 0 0) ∧ Hid (Below w2.heap.size w2 wr)) (fun _ i _ => N + 1 - (intOf i).toNat)
  case atStart => exact ⟨0, Nat.zero_le _, rfl, HO0, Lib.hid (by simp), HB0⟩
  case round =>
    clear HO0 HB0
    obtain ⟨k, hk, rfl, hown, hvn, hB⟩ := hrel
    have c0 := (hB.out.cell (p := ⟨w.heap.size, 0, none⟩) hz2w).trans b0
    have hzr : w.heap.size < wr.heap.size := by have := hB.out.size; omega
    by_cases hlt : k < N
    · have HW := Lib.hid (HLA.out.kept hB.out (Nat.le_refl _))
      have hhas := HH.out k hlt
      have hdl := dnTo_len ps p t k
      have hk0 : (k : Int) + 1 ≤ (N : Int) := by omega
      cases hd : dnB ps p t ((k : Int) + 1) with
      | false =>
        rw [hd, Bool.not_false] at hhas
        have HC := Lib.hid (fun w' h => dhas_v hhas (some ⟨g, o, none⟩) c w' h (by omega))
        have hs := Lib.hid (dnTo_no hd)
        rw [← hs.out] at hown
        clear hhas hd
        go_wp2_with (go_at_call 176; refine (HC.out _ HW.out).mono ?_; rintro e w4 ⟨rfl, hw⟩; replace hw := hw.symm; subst hw)
        go_roundw
        case rel => exact ⟨k + 1, by omega, by go_num, hown, hvn, hB⟩
        case measure => simp [intOf]; omega
      | true =>
        rw [hd, Bool.not_true] at hhas
        have HC := Lib.hid (fun w' h => dhas_v hhas (some ⟨g, o, none⟩) c w' h (by omega))
        have hs := Lib.hid (dnTo_yes hd)
        have ho := hown.out
        unfold IOwn at ho
        clear hhas hd
        go_wp2_with (first
          | (go_at_call 176; refine (HC.out _ HW.out).mono ?_; rintro e w4 ⟨rfl, hw⟩; replace hw := hw.symm; subst hw)
          | (at_builtin; go_must (refine wpList_append_own _ rfl _ _ 34 rfl w2.heap.size 3 i0 (.int .i64 0) 1 8 Try.underlying34 hi hz0 hz1 hz2 rfl (by decide) _ _ _ rfl (ho.alloc _) ⟨wr.heap.size, 0, none⟩ 1 1 [iv ((k : Int) + 1)] rfl rfl (cell_one_new _ _ _) (by intro u hu; simp at hu; subst hu; rfl) (by unfold maxLen; omega) (by omega) (by have := hB.out.size; simp; omega) ?_); intro v' w7 hown' hgrow hnil))
        have hown3 := Lib.hid (IOwn.push hown')
        rw [← hs.out] at hown3
        have hB7 := Lib.hid ((hB.out.alloc hB.out.size (.cells #[iv ((k : Int) + 1)] 3)).grown hgrow (by have := hB.out.size; simp; omega) (fun g hg => (ho.lt g hg).1))
        have hnil3 := Lib.hid (show v' ≠ .slice none 0 0 from fun e => by simp [e] at hnil)
        clear hown' hgrow hnil ho
        go_wp2
        go_roundw
        case rel => exact ⟨k + 1, by omega, by go_num, hown3, hnil3, hB7⟩
        case measure => simp [intOf]; omega
    · have hkN : k = N := by omega
      have hown2 := hown.out
      rw [hkN, ← HL.out] at hown2
      obtain ⟨g', capg, rfl, hg'⟩ := own_slice hown2 hvn.out
      have HO := Lib.hid hown2
      have hkn : ¬ (k : Int) + 1 ≤ (N : Int) := by omega
      clear hkN hown2
      go_wp2
      go_ret
      exact ⟨g', capg, rfl, by omega, own_lower HO.out, HB2.out.trans (hB.out.mono HB2.out.size)⟩

set_option maxHeartbeats 4000000 in
set_option maxRecDepth 100000 in
theorem stf_any (N t : Nat) (A : Option Addr) (cap : Nat) (ps : List Pp) (AD : Option Addr) (dc : Nat) (dm : List Int) (w : World) (h : PAt w A ps) (hc : ps.length ≤ cap) (hd : IAt w AD dm) (hg : P2.Good N ps) (ht1 : 1 ≤ t) (ht2 : t ≤ N) (hr : allR 0 1000 dm = true) (hdn : (dm.length : Int) = N) :
    Calls Try.prog 129 #[nv N A ps.length cap, .int .i64 (t : Int), .slice AD dm.length dc] w (GivesL w (tfL N ps t dm)) := by
  have hl10 := hg.2.2.1
  have hN : N ≤ 8 := by have := hg.2.1; omega
  have H := Lib.hid (fun (i : Nat) (hi : i < ps.length) w' (hb : Below w.heap.size w w') => sdn_any N t i A cap ps w' (h.kept hb (Nat.le_refl _)) hc hg ht1 ht2 hi)
  have HA := Lib.hid (fun w' (hb : Below w.heap.size w w') => h.kept hb (Nat.le_refl _))
  have HI := Lib.hid (fun w' (hb : Below w.heap.size w w') => hd.kept hb (Nat.le_refl _))
  have HTK := Lib.hid (fun (l : List Int) (hmm : ∀ v, v ∈ l → 1 ≤ v ∧ v ≤ (N : Int)) (hl : l.length ≤ 8) k (hk : k ≤ l.length) => sumT_in hr (by omega) hmm hl hk)
  have HG := Lib.hid (fun k (hk : k < ps.length) => good_pp hg (pAt_mem hk))
  have HL := Lib.hid (show tfL N ps t dm = tfTo N ps t dm ps.length from rfl)
  have HDL := Lib.hid hdn
  have HTL := Lib.hid (tfTo_len N ps t dm)
  have HTS := Lib.hid (tfTo_snoc N ps t dm)
  obtain ⟨i0, hi, hz0, hz1, hz2⟩ := info_parts infoI
  have HO0 := Lib.hid (show IOwn ((w.alloc (nb N A ps.length cap)).alloc (.cells #[] 3)) (w.heap.size + 1) (.slice (some ⟨w.heap.size + 1, 0, none⟩) 0 0) [] from by
    have := own_empty (w.alloc (nb N A ps.length cap)) (w.heap.size + 1) (by simp)
    simpa using this)
  have HB0 := Lib.hid (show Below (w.heap.size + 1) (w.alloc (nb N A ps.length cap)) ((w.alloc (nb N A ps.length cap)).alloc (.cells #[] 3)) from (Below.refl _ _).alloc (by simp) _)
  clear h hd hr hg hdn hc
  go_enter Try.func129, Try.ntmps129
  go_wp2
  go_loopw [7, 8] (fun v i wr => ∃ k : Nat, k ≤ ps.length ∧ i = .int .i64 (k : Int) ∧ Hid (IOwn wr (w.heap.size + 1) v (tfTo N ps t dm k)) ∧ Hid (v ≠ .slice none 0 0) ∧ Hid (Below (w.heap.size + 1) (w.alloc (nb N A ps.length cap)) wr)) (fun _ i _ => ps.length - (intOf i).toNat)
  case atStart => exact ⟨0, Nat.zero_le _, rfl, HO0, Lib.hid (by simp), HB0⟩
  case round =>
    clear HO0 HB0
    obtain ⟨k, hk, rfl, hown, hvn, hX⟩ := hrel
    obtain ⟨c0, c1⟩ := box2 hX.out
    have hzr := box_lt hX.out
    have hB := Lib.hid (below_box hX.out)
    by_cases hlt : k < ps.length
    · have hk0 : (0 : Int) ≤ (k : Int) := by omega
      have hkn : (k : Int) < (ps.length : Int) := by omega
      have hgp := HG.out k hlt
      have hdl := dn_len N ps (pAt ps k) t
      have HDM := Lib.hid (fun v (h : v ∈ dnL N ps (pAt ps k) t) => (dn_mem.1 h).1)
      have hhas := dn_has (N := N) (ps := ps) (p := pAt ps k) (s := t) (v := (pAt ps k).fr) hgp.2.2.1 hgp.2.2.2.1
      have HFA := Lib.hid (show flowA N ps t dm k = if dnB ps (pAt ps k) t (pAt ps k).fr = true then -(sumG (tk dm) (dnL N ps (pAt ps k) t)) else sumG (tk dm) (dnL N ps (pAt ps k) t) from rfl)
      have HLM := Lib.hid (fun j (hj : j < (dnL N ps (pAt ps k) t).length) => (show 1 ≤ lA (dnL N ps (pAt ps k) t) j ∧ lA (dnL N ps (pAt ps k) t) j ≤ (N : Int) from HDM.out _ (by
        have e : lA (dnL N ps (pAt ps k) t) j = (dnL N ps (pAt ps k) t)[j] := by simp [lA, List.getD, hj]
        rw [e]; exact List.getElem_mem hj)))
      have HSK := Lib.hid (fun j (hj : j ≤ (dnL N ps (pAt ps k) t).length) => HTK.out _ HDM.out (by omega) j hj)
      have hsum := sumG_all (tk dm) (dnL N ps (pAt ps k) t)
      rw [← hsum] at HFA
      obtain ⟨b, off, hA, hbl, p0, p1, p2, p3⟩ := (HA.out _ hB.out).at_ hlt
      subst hA
      have HK := Lib.hid (H.out k hlt _ hB.out)
      obtain ⟨F, hF⟩ : ∃ F, flowA N ps t dm k = F := ⟨_, rfl⟩
      rw [hF] at HFA
      have hsn := HTS.out k
      rw [hF] at hsn
      have HSN := Lib.hid hsn
      have hdlen := HTL.out k
      clear hsn hF hsum HDM hgp
      generalize dnB ps (pAt ps k) t (pAt ps k).fr = db at *
      generalize dnL N ps (pAt ps k) t = l at *
      generalize pAt ps k = p at *
      obtain ⟨SM, hSM⟩ : ∃ SM, SM = (fun j => sumK (fun i => tk dm (lA l i)) j) := ⟨_, rfl⟩
      have HSM0 := Lib.hid (fun j => (congrFun hSM j).symm)
      have HSM1 := Lib.hid (fun j => show SM (j + 1) = SM j + tk dm (lA l j) by rw [hSM]; rfl)
      clear hSM
      rw [HSM0.out l.length] at HFA
      have HSK2 := Lib.hid (fun j (hj : j ≤ l.length) => (show 0 ≤ SM j ∧ SM j ≤ 8000 by have := HSK.out j hj; rw [HSM0.out j] at this; exact this))
      have HSZ := Lib.hid (show SM 0 = 0 by rw [← HSM0.out 0]; rfl)
      clear HSM0 HSK
      go_wp2_with (go_at_call 205; refine HK.out.mono ?_; rintro e w3 ⟨gD, cD, rfl, hgD, hOD, hb3⟩; refine Hid.out ?_)
      have hX3 := Lib.hid (on_call hX.out hb3)
      have hB3 := Lib.hid (below_box hX3.out)
      have HD3 := Lib.hid hOD.iat
      have hO3 := Lib.hid (hown.out.on hb3)
      have r1 := (hb3.cell (p := ⟨b, off + k * 4 + 1, none⟩) hbl).trans p1
      have hbl3 : b < w3.heap.size := by have := hb3.size; omega
      clear c0 c1 hzr p0 p1 p2 p3 hbl hb3 hOD
      obtain ⟨c0, c1⟩ := box2 hX3.out
      have hzr := box_lt hX3.out
      refine Lib.hid ?_
      go_wp2
      go_loop [10, 11] (fun s i => ∃ j : Nat, j ≤ l.length ∧ i = .int .i64 (j : Int) ∧ s = .int .i64 (SM j)) (fun _ i => l.length - (intOf i).toNat)
      case atStart => exact ⟨0, Nat.zero_le _, rfl, by rw [HSZ.out]⟩
      case round =>
        obtain ⟨j, hj, rfl, rfl⟩ := hrel
        by_cases hjl : j < l.length
        · obtain ⟨v1, v2⟩ := HLM.out j hjl
          obtain ⟨u, hu⟩ : ∃ u : Nat, lA l j = (u : Int) + 1 := ⟨(lA l j - 1).toNat, by omega⟩
          have hud : u < dm.length := by have := HDL.out; omega
          obtain ⟨bb, of2, hA2, hbl2, x0⟩ := (HI.out _ hB3.out).at_ hud
          subst hA2
          obtain ⟨bN, oN, hAN, hblN, x1⟩ := HD3.out.at_ hjl
          simp only [Option.some.injEq, Addr.mk.injEq, and_true] at hAN
          obtain ⟨rfl, rfl⟩ := hAN
          rw [Nat.zero_add] at x1
          have hla : l.getD j 0 = lA l j := rfl
          rw [hla, hu] at x1
          have hs0 := HSK2.out j (by omega)
          have hs1 := HSK2.out (j + 1) hjl
          have hsn := HSM1.out j
          have htk : tk dm (lA l j) = dm.getD u 0 := by unfold tk; rw [hu, Int.add_sub_cancel, Int.toNat_natCast]
          rw [htk] at hsn
          have HSN2 := Lib.hid hsn
          rw [hsn] at hs1
          have hj0 : (0 : Int) ≤ (j : Int) := by omega
          have hjn : (j : Int) < (l.length : Int) := by omega
          have hu0 : (0 : Int) ≤ (u : Int) := by omega
          have hun : (u : Int) < (dm.length : Int) := by omega
          clear hsn htk hla hu v1 v2
          generalize dm.getD u 0 = x at *
          generalize SM j = s at *
          have wS : IntKind.i64.wrap (s + x) = s + x := w64 _ (by omega)
          have hu9 : (u : Int) < 9 := by have := HDL.out; omega
          have wU : IntKind.i64.wrap ((u : Int) + 1 - 1) = (u : Int) := by rw [w64 _ (by omega)]; omega
          have wU2 : IntKind.i64.wrap (u : Int) = (u : Int) := w64 _ (by omega)
          go_wp2
          go_round
          case rel => exact ⟨j + 1, by omega, by go_num, by rw [HSN2.out]⟩
          case measure => simp [intOf]; omega
        · have ej : j = l.length := by omega
          subst ej
          have HC := Lib.hid (fun w' h => dhas_v hhas (some ⟨gD, 0, none⟩) cD w' h (by omega))
          have hs0 := HSK2.out l.length (Nat.le_refl _)
          have ho := hO3.out
          unfold IOwn at ho
          have hz3 := hX3.out.size
          simp at hz3
          cases db with
          | true =>
            have hF : F = -(SM l.length) := by rw [HFA.out, if_pos rfl]
            have HFF := Lib.hid hF
            clear hF hhas
            generalize SM l.length = s at *
            go_wp2_with (first
              | (go_at_call 176; refine (HC.out _ HD3.out).mono ?_; rintro e w4 ⟨rfl, hw⟩; replace hw := hw.symm; subst hw)
              | (at_builtin; go_must (refine wpList_append_own _ rfl _ _ 34 rfl (w.heap.size + 1) 3 i0 (.int .i64 0) 1 8 Try.underlying34 hi hz0 hz1 hz2 rfl (by decide) _ _ _ rfl (ho.alloc _) ⟨w3.heap.size, 0, none⟩ 1 1 [iv (-s)] rfl rfl (cell_one_new _ _ _) (by intro u hu; simp at hu; subst hu; rfl) (by unfold maxLen; omega) (by omega) (by simp; omega) ?_); intro v' w7 hown' hgrow hnil))
            have hown3 := Lib.hid (IOwn.push hown')
            rw [← HFF.out, ← HSN.out] at hown3
            have hX7 := Lib.hid ((hX3.out.alloc (by omega) (.cells #[iv (-s)] 3)).grown hgrow (by simp; omega) (fun g hg => (ho.lt g hg).1))
            have hnil3 := Lib.hid (show v' ≠ .slice none 0 0 from fun e => by simp [e] at hnil)
            clear hown' hgrow hnil ho
            go_wp2
            go_roundw
            case rel => exact ⟨k + 1, by omega, by go_num, hown3, hnil3, hX7⟩
            case measure => simp [intOf]; omega
          | false =>
            have hF : F = SM l.length := by rw [HFA.out, if_neg (by simp)]
            have HFF := Lib.hid hF
            clear hF hhas
            generalize SM l.length = s at *
            go_wp2_with (first
              | (go_at_call 176; refine (HC.out _ HD3.out).mono ?_; rintro e w4 ⟨rfl, hw⟩; replace hw := hw.symm; subst hw)
              | (at_builtin; go_must (refine wpList_append_own _ rfl _ _ 34 rfl (w.heap.size + 1) 3 i0 (.int .i64 0) 1 8 Try.underlying34 hi hz0 hz1 hz2 rfl (by decide) _ _ _ rfl (ho.alloc _) ⟨w3.heap.size, 0, none⟩ 1 1 [iv s] rfl rfl (cell_one_new _ _ _) (by intro u hu; simp at hu; subst hu; rfl) (by unfold maxLen; omega) (by omega) (by simp; omega) ?_); intro v' w7 hown' hgrow hnil))
            have hown3 := Lib.hid (IOwn.push hown')
            rw [← HFF.out, ← HSN.out] at hown3
            have hX7 := Lib.hid ((hX3.out.alloc (by omega) (.cells #[iv s] 3)).grown hgrow (by simp; omega) (fun g hg => (ho.lt g hg).1))
            have hnil3 := Lib.hid (show v' ≠ .slice none 0 0 from fun e => by simp [e] at hnil)
            clear hown' hgrow hnil ho
            go_wp2
            go_roundw
            case rel => exact ⟨k + 1, by omega, by go_num, hown3, hnil3, hX7⟩
            case measure => simp [intOf]; omega
    · have hkN : k = ps.length := by omega
      have hown2 := hown.out
      rw [hkN, ← HL.out] at hown2
      obtain ⟨g', capg, rfl, hg'⟩ := own_slice hown2 hvn.out
      have HO := Lib.hid hown2
      clear hkN hown2
      go_wp2
      go_ret
      exact ⟨g', capg, rfl, by omega, own_lower HO.out, hB.out⟩
end Go.Proofs.Ytgjogjmfpbinfaa.S2
