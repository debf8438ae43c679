/- Losses of pipes and along ways: plain facts, no program in them. Conditions: each theorem's own premises. -/
import Derived.Test.YtgjogjmfpbinfaaAm
import Derived.Test.YtgjogjmfpbinfaaAmN
import Derived.Test.YtgjogjmfpbinfaaWayOne
import Derived.Test.YtgjogjmfpbinfaaFindOne
namespace Go.Proofs.Ytgjogjmfpbinfaa.S2
open Go.RowKit P2

def absI (x : Int) : Int := max x (-x)
theorem absI_nn (x : Int) : 0 ≤ absI x := by unfold absI; omega
theorem absI_le {x b : Int} (h0 : -b ≤ x) (h1 : x ≤ b) : absI x ≤ b := by unfold absI; omega
theorem mul_bd {x y : Int} {a b : Nat} (hx : -(a : Int) ≤ x) (hx2 : x ≤ a) (hy : -(b : Int) ≤ y) (hy2 : y ≤ b) : -((a * b : Nat) : Int) ≤ x * y ∧ x * y ≤ ((a * b : Nat) : Int) := by
  have h := Nat.mul_le_mul (show x.natAbs ≤ a by omega) (show y.natAbs ≤ b by omega)
  rw [← Int.natAbs_mul] at h
  omega
def lossI (p : Pp) (f : Int) : Int := p.sz * f * absI f
theorem loss_in {n : Int} {p : Pp} (hp : PpOk n p) {f : Int} (h0 : -8000 ≤ f) (h1 : f ≤ 8000) : (-72000 ≤ p.sz * f ∧ p.sz * f ≤ 72000) ∧ -576000000 ≤ lossI p f ∧ lossI p f ≤ 576000000 := by
  obtain ⟨_, _, _, _, _, _, _, hs1, hs2⟩ := hp
  have a := mul_bd (x := p.sz) (y := f) (a := 9) (b := 8000) (by omega) (by omega) (by omega) (by omega)
  have hn := absI_nn f
  have hl := absI_le h0 h1
  have b := mul_bd (x := p.sz * f) (y := absI f) (a := 72000) (b := 8000) (by omega) (by omega) (by omega) (by omega)
  unfold lossI
  omega

/-! ### Where a pipe stands -/
noncomputable def plc (ps : List Pp) (x : Int) : Nat := (Classical.choose (find_ex ps x)).toNat
theorem plc_find {ps : List Pp} {x : Int} {i : Nat} (h : FindIs ps x (i : Int)) : plc ps x = i := by
  unfold plc
  rw [find_one (Classical.choose_spec (find_ex ps x)) h]
  exact Int.toNat_natCast i
theorem pp_at {ps : List Pp} {p : Pp} (h : p ∈ ps) : ∃ i, i < ps.length ∧ pAt ps i = p := by
  obtain ⟨i, hi, rfl⟩ := List.getElem_of_mem h
  exact ⟨i, hi, by simp [pAt, List.getD, hi]⟩
theorem pAt_mem {ps : List Pp} {i : Nat} (h : i < ps.length) : pAt ps i ∈ ps := List.mem_of_getElem? (pAt_get ps i h)
/-- A pipe of a valid network is found at its place. -/
theorem plc_at {n : Int} {ps : List Pp} (hg : P2.Good n ps) {i : Nat} (hi : i < ps.length) : plc ps (pAt ps i).id = i ∧ FindIs ps (pAt ps i).id (i : Int) := by
  have h : FindIs ps (pAt ps i).id (i : Int) := .inr ⟨i, hi, rfl, rfl, fun j hj he => by have := good_ids hg j i hj hi; omega⟩
  exact ⟨plc_find h, h⟩

/-! ### Along a way -/
noncomputable def hereA (ps : List Pp) (W : List Int) (s : Int) : Nat → Int
  | 0 => s
  | k + 1 => oth (pAt ps (plc ps (lA W k))) (hereA ps W s k)
noncomputable def turnA (ps : List Pp) (fl W : List Int) (s : Int) (k : Nat) : Int :=
  if (pAt ps (plc ps (lA W k))).fr = hereA ps W s k then lossI (pAt ps (plc ps (lA W k))) (lA fl (plc ps (lA W k))) else -lossI (pAt ps (plc ps (lA W k))) (lA fl (plc ps (lA W k)))
noncomputable def alongA (ps : List Pp) (fl W : List Int) (s : Int) : Int := sumK (turnA ps fl W s) W.length
/-- Each pipe of the way leads on from where one stands. -/
def WayOk (ps : List Pp) (W : List Int) (s : Int) : Prop := W.length ≤ 8 ∧ ∀ k, k < W.length → plc ps (lA W k) < ps.length ∧ FindIs ps (lA W k) (plc ps (lA W k)) ∧ ((pAt ps (plc ps (lA W k))).fr = hereA ps W s k ∨ (pAt ps (plc ps (lA W k))).to = hereA ps W s k)
theorem here_cons (ps : List Pp) (x : Int) (W : List Int) (s : Int) : ∀ k, hereA ps (x :: W) s (k + 1) = hereA ps W (oth (pAt ps (plc ps x)) s) k
  | 0 => rfl
  | k + 1 => by
    show oth (pAt ps (plc ps (lA (x :: W) (k + 1)))) (hereA ps (x :: W) s (k + 1)) = oth (pAt ps (plc ps (lA W k))) (hereA ps W (oth (pAt ps (plc ps x)) s) k)
    rw [here_cons ps x W s k]
    rfl
theorem way_steps {n : Nat} {ps : List Pp} (hg : P2.Good n ps) {t : Int} : ∀ (k h : Nat), dist ps t h = (k : Int) → ∀ i, i < (wayL ps t k h).length → plc ps (lA (wayL ps t k h) i) < ps.length ∧ FindIs ps (lA (wayL ps t k h) i) (plc ps (lA (wayL ps t k h) i)) ∧ ((pAt ps (plc ps (lA (wayL ps t k h) i))).fr = hereA ps (wayL ps t k h) h i ∨ (pAt ps (plc ps (lA (wayL ps t k h) i))).to = hereA ps (wayL ps t k h) h i)
  | 0, _, _, i, hi => by simp [wayL] at hi
  | k + 1, h, hd, i, hi => by
    obtain ⟨j, hj, hjn⟩ : ∃ j, (j < (rowOf ps h).length ∧ nearB ps t h (pAt (rowOf ps h) j) = true) ∧ ∀ m, (m < (rowOf ps h).length ∧ nearB ps t h (pAt (rowOf ps h) m) = true) → j ≤ m := by
      have hx : ∃ j, j < (rowOf ps h).length ∧ nearB ps t h (pAt (rowOf ps h) j) = true := Classical.byContradiction fun hc => near_row hg hd fun i hi => by
        cases he : nearB ps t h (pAt (rowOf ps h) i) with
        | false => rfl
        | true => exact absurd ⟨i, hi, he⟩ hc
      obtain ⟨j, hj⟩ := hx
      exact least_nat _ j hj
    obtain ⟨hm, ht⟩ := row_mem hj.1
    have hp := good_pp hg hm
    have ho := oth_in (x := (h : Int)) hp
    obtain ⟨u, hu⟩ : ∃ u : Nat, oth (pAt (rowOf ps h) j) h = (u : Int) := ⟨(oth (pAt (rowOf ps h) j) h).toNat, by omega⟩
    have hw := way_row (k := k) hj.1 (fun i hi => by
      cases he : nearB ps t h (pAt (rowOf ps h) i) with
      | false => rfl
      | true => have := hjn i ⟨by omega, he⟩; omega) hj.2 hu
    have hdu : dist ps t (u : Int) = (k : Int) := by rw [← hu]; exact (near_iff hd hm ht).1 hj.2
    rw [hw] at hi ⊢
    obtain ⟨q, hq, hqe⟩ := pp_at hm
    rw [← hqe] at hu ht ⊢
    obtain ⟨hpl, hfi⟩ := plc_at hg hq
    match i with
    | 0 =>
      show plc ps (pAt ps q).id < ps.length ∧ FindIs ps (pAt ps q).id (plc ps (pAt ps q).id) ∧ ((pAt ps (plc ps (pAt ps q).id)).fr = (h : Int) ∨ (pAt ps (plc ps (pAt ps q).id)).to = (h : Int))
      rw [hpl]
      exact ⟨hq, hfi, ht⟩
    | i + 1 =>
      rw [here_cons, hpl, hu]
      exact way_steps hg k u hdu i (by simpa using hi)
theorem way_ok {n : Nat} {ps : List Pp} (hg : P2.Good n ps) {t : Int} {k h : Nat} (hh : h ≤ n) (hd : dist ps t h = (k : Int)) : WayOk ps (wayL ps t k h) h := by
  have h1 := wayL_len ps t k h
  have h2 := dist_le (t := t) hg h hh
  have h3 := hg.2.1
  exact ⟨by omega, way_steps hg k h hd⟩
theorem turn_in {n : Int} {ps : List Pp} (hg : P2.Good n ps) {fl W : List Int} {s : Int} (hf : allR (-8000) 8000 fl = true) (hl : fl.length = ps.length) (hw : WayOk ps W s) {k : Nat} (hk : k < W.length) : -576000000 ≤ turnA ps fl W s k ∧ turnA ps fl W s k ≤ 576000000 := by
  have h1 := (hw.2 k hk).1
  have h2 := allR_at hf (i := plc ps (lA W k)) (by omega)
  have h3 := (loss_in (good_pp hg (pAt_mem h1)) h2.1 h2.2).2
  unfold turnA
  split
  · exact h3
  · have e : lA fl (plc ps (lA W k)) = fl.getD (plc ps (lA W k)) 0 := rfl
    rw [e]; omega
theorem along_in {n : Int} {ps : List Pp} (hg : P2.Good n ps) {fl W : List Int} {s : Int} (hf : allR (-8000) 8000 fl = true) (hl : fl.length = ps.length) (hw : WayOk ps W s) {k : Nat} (hk : k ≤ W.length) : -4608000000 ≤ sumK (turnA ps fl W s) k ∧ sumK (turnA ps fl W s) k ≤ 4608000000 := by
  have h1 := sumK_le (f := turnA ps fl W s) (B := 576000000) (by omega) (k := k) (fun i hi => turn_in hg hf hl hw (by omega))
  have h2 : (k : Int) ≤ 8 := by have := hw.1; omega
  have h3 : (576000000 : Int) * k ≤ 576000000 * 8 := Int.mul_le_mul_of_nonneg_left h2 (by omega)
  omega
end Go.Proofs.Ytgjogjmfpbinfaa.S2
