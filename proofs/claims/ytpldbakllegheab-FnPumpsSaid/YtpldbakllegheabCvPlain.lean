/- Plain facts on pump curves (chapter 7); no program in them. No conditions. -/
import Derived.Lib.Hide
namespace Go.Proofs.Ytpldbakllegheab.P7

/-- A point of a curve. -/
structure Cp where
  fl : Int
  hd : Int
deriving DecidableEq, Inhabited

def cAt (cs : List Cp) (i : Nat) : Cp := cs.getD i ⟨0, 0⟩
theorem cAt_get (cs : List Cp) (i : Nat) (h : i < cs.length) : cs[i]? = some (cAt cs i) := by
  unfold cAt; simp [List.getD, h]
theorem cAt_eq (cs : List Cp) (i : Nat) (h : i < cs.length) : cAt cs i = cs[i] := by
  unfold cAt; simp [List.getD, h]

/-- The point at i is fine behind the one before it. -/
def Ok (cs : List Cp) (i : Nat) : Prop :=
  (0 ≤ (cAt cs i).fl ∧ (cAt cs i).fl ≤ 1000) ∧ (0 ≤ (cAt cs i).hd ∧ (cAt cs i).hd ≤ 1000) ∧ (i = 0 → (cAt cs i).fl = 0) ∧ (0 < i → (cAt cs (i - 1)).fl < (cAt cs i).fl ∧ (cAt cs i).hd < (cAt cs (i - 1)).hd)
def To (cs : List Cp) (k : Nat) : Prop := ∀ i, i < k → Ok cs i
theorem To.zero (cs : List Cp) : To cs 0 := fun i h => absurd h (by omega)
theorem To.next {cs : List Cp} {k : Nat} (h : To cs k) (hk : Ok cs k) : To cs (k + 1) := by
  intro i hi
  by_cases e : i = k
  · subst e; exact hk
  · exact h i (by omega)
/-- A curve. -/
def Good (cs : List Cp) : Prop := 2 ≤ cs.length ∧ cs.length ≤ 6 ∧ To cs cs.length
open Classical in
noncomputable def gB (cs : List Cp) : Bool := decide (Good cs)
theorem gB_of {cs : List Cp} (h : gB cs = true) : Good cs := by simpa [gB] using h
theorem gB_mk {cs : List Cp} (h : Good cs) : gB cs = true := by simpa [gB] using h
theorem gB_no {cs : List Cp} (h : ¬ Good cs) : gB cs = false := by simpa [gB] using h
theorem gB_bad {cs : List Cp} {k : Nat} (hk : k < cs.length) (h : ¬ Ok cs k) : gB cs = false := gB_no fun g => h (g.2.2 k hk)
theorem gB_len {cs : List Cp} (h : ¬ (2 ≤ cs.length ∧ cs.length ≤ 6)) : gB cs = false := gB_no fun g => h ⟨g.1, g.2.1⟩
theorem gB_end {cs : List Cp} (h0 : 2 ≤ cs.length) (h1 : cs.length ≤ 6) (h : To cs cs.length) : gB cs = true := gB_mk ⟨h0, h1, h⟩

theorem Good.at_ {cs : List Cp} (g : Good cs) {i : Nat} (h : i < cs.length) : (0 ≤ (cAt cs i).fl ∧ (cAt cs i).fl ≤ 1000) ∧ (0 ≤ (cAt cs i).hd ∧ (cAt cs i).hd ≤ 1000) := ⟨(g.2.2 i h).1, (g.2.2 i h).2.1⟩
theorem Good.first {cs : List Cp} (g : Good cs) : (cAt cs 0).fl = 0 := (g.2.2 0 (by have := g.1; omega)).2.2.1 rfl
theorem Good.step {cs : List Cp} (g : Good cs) {i : Nat} (h : i + 1 < cs.length) : (cAt cs i).fl < (cAt cs (i + 1)).fl ∧ (cAt cs (i + 1)).hd < (cAt cs i).hd := (g.2.2 (i + 1) h).2.2.2 (by omega)
theorem Good.mono {cs : List Cp} (g : Good cs) {i : Nat} : ∀ {j : Nat}, i ≤ j → j < cs.length → (cAt cs i).fl ≤ (cAt cs j).fl ∧ (cAt cs j).hd ≤ (cAt cs i).hd := by
  intro j h
  induction h with
  | refl => intro _; exact ⟨Int.le_refl _, Int.le_refl _⟩
  | step h ih =>
    intro hj
    obtain ⟨h1, h2⟩ := ih (by omega)
    obtain ⟨h3, h4⟩ := g.step hj
    simp only [Nat.succ_eq_add_one] at *
    exact ⟨by omega, by omega⟩

/-- A number within the limits. -/
def vB (x : Int) : Bool := decide (0 ≤ x ∧ x ≤ 1000)

/-! ### Products of bounded numbers -/
theorem mul_le {x y a b : Int} (hx : 0 ≤ x) (hxa : x ≤ a) (hy : 0 ≤ y) (hyb : y ≤ b) : 0 ≤ x * y ∧ x * y ≤ a * b :=
  ⟨Int.mul_nonneg hx hy, Int.mul_le_mul hxa hyb hy (by omega)⟩

/-! ### The head at a flow -/
/-- The flow f lies in the piece of the curve that ends at the point k. -/
def HK (cs : List Cp) (f : Int) (k : Nat) : Prop := Good cs ∧ 0 < k ∧ k < cs.length ∧ 0 ≤ f ∧ f ≤ (cAt cs k).fl ∧ ∀ j, 0 < j → j < k → (cAt cs j).fl < f
theorem HK.uniq {cs : List Cp} {f : Int} {k m : Nat} (h : HK cs f k) (h2 : HK cs f m) : k = m := by
  obtain ⟨_, h0, _, _, h3, h4⟩ := h
  obtain ⟨_, g0, _, _, g3, g4⟩ := h2
  rcases Nat.lt_trichotomy k m with e | e | e
  · have := g4 k h0 e; omega
  · exact e
  · have := h4 m g0 e; omega
theorem HK.low {cs : List Cp} {f : Int} {k : Nat} (h : HK cs f k) : (cAt cs (k - 1)).fl ≤ f := by
  obtain ⟨g, h0, h1, h2, h3, h4⟩ := h
  by_cases e : k = 1
  · subst e; rw [g.first]; exact h2
  · have := h4 (k - 1) (by omega) (by omega); omega
theorem HK.last {cs : List Cp} {f : Int} {k : Nat} (h : HK cs f k) : f ≤ (cAt cs (cs.length - 1)).fl := by
  obtain ⟨g, h0, h1, h2, h3, h4⟩ := h
  have := (g.mono (i := k) (j := cs.length - 1) (by omega) (by omega)).1
  omega
theorem hk_ex {cs : List Cp} {f : Int} (g : Good cs) (h0 : 0 ≤ f) (h9 : f ≤ (cAt cs (cs.length - 1)).fl) : ∃ k, HK cs f k := by
  have key : ∀ n, n < cs.length → (∀ j, 0 < j → j ≤ n → (cAt cs j).fl < f) ∨ ∃ k, HK cs f k := by
    intro n
    induction n with
    | zero => intro _; exact .inl fun j h1 h2 => by omega
    | succ n ih =>
      intro hn
      rcases ih (by omega) with h | h
      · by_cases e : (cAt cs (n + 1)).fl < f
        · refine .inl fun j h1 h2 => ?_
          by_cases e2 : j = n + 1
          · subst e2; exact e
          · exact h j h1 (by omega)
        · exact .inr ⟨n + 1, g, by omega, hn, h0, by omega, fun j h1 h2 => h j h1 (by omega)⟩
      · exact .inr h
  have hl := g.1
  rcases key (cs.length - 1) (by omega) with h | h
  · have := h (cs.length - 1) (by omega) (Nat.le_refl _); omega
  · exact h
def hNum (cs : List Cp) (f : Int) (k : Nat) : Nat := ((cAt cs (k - 1)).hd * ((cAt cs k).fl - f) + (cAt cs k).hd * (f - (cAt cs (k - 1)).fl)).toNat
def hDen (cs : List Cp) (k : Nat) : Nat := ((cAt cs k).fl - (cAt cs (k - 1)).fl).toNat
theorem HK.piece {cs : List Cp} {f : Int} {k : Nat} (h : HK cs f k) : (cAt cs (k - 1)).fl < (cAt cs k).fl ∧ (cAt cs k).hd < (cAt cs (k - 1)).hd := by
  obtain ⟨g, h0, h1, _⟩ := h
  have := g.step (i := k - 1) (by omega)
  rwa [show k - 1 + 1 = k by omega] at this
theorem HK.fit {cs : List Cp} {f : Int} {k : Nat} (h : HK cs f k) :
    (hDen cs k : Int) = (cAt cs k).fl - (cAt cs (k - 1)).fl ∧ 0 < hDen cs k ∧ hDen cs k ≤ 1000
    ∧ (hNum cs f k : Int) = (cAt cs (k - 1)).hd * ((cAt cs k).fl - f) + (cAt cs k).hd * (f - (cAt cs (k - 1)).fl) ∧ hNum cs f k ≤ 1000 * hDen cs k := by
  have hp := h.piece
  have hl := h.low
  obtain ⟨g, h0, h1, h2, h3, h4⟩ := h
  obtain ⟨⟨a1, a2⟩, a3, a4⟩ := g.at_ (i := k - 1) (by omega)
  obtain ⟨⟨b1, b2⟩, b3, b4⟩ := g.at_ (i := k) h1
  have m1 := mul_le (x := (cAt cs (k - 1)).hd) (y := (cAt cs k).fl - f) (a := 1000) (b := (cAt cs k).fl - f) a3 a4 (by omega) (Int.le_refl _)
  have m2 := mul_le (x := (cAt cs k).hd) (y := f - (cAt cs (k - 1)).fl) (a := 1000) (b := f - (cAt cs (k - 1)).fl) b3 b4 (by omega) (Int.le_refl _)
  unfold hDen hNum
  generalize (cAt cs (k - 1)).hd * ((cAt cs k).fl - f) = P at *
  generalize (cAt cs k).hd * (f - (cAt cs (k - 1)).fl) = Q at *
  refine ⟨by omega, by omega, by omega, by omega, by omega⟩

/-! ### The flow at which a curve gives what is needed -/
def WK (cs : List Cp) (l s : Int) (k : Nat) : Prop := Good cs ∧ (0 ≤ l ∧ l ≤ 1000) ∧ (0 ≤ s ∧ s ≤ 1000) ∧ l ≤ (cAt cs 0).hd ∧ 0 < k ∧ k < cs.length ∧ (cAt cs k).hd ≤ l + s * (cAt cs k).fl ∧ ∀ j, 0 < j → j < k → l + s * (cAt cs j).fl < (cAt cs j).hd
theorem WK.uniq {cs : List Cp} {l s : Int} {k m : Nat} (h : WK cs l s k) (h2 : WK cs l s m) : k = m := by
  obtain ⟨_, _, _, _, h0, _, h3, h4⟩ := h
  obtain ⟨_, _, _, _, g0, _, g3, g4⟩ := h2
  rcases Nat.lt_trichotomy k m with e | e | e
  · have := g4 k h0 e; omega
  · exact e
  · have := h4 m g0 e; omega
def ovr (cs : List Cp) (l s : Int) (i : Nat) : Int := (cAt cs i).hd - l - s * (cAt cs i).fl
def wDen (cs : List Cp) (l s : Int) (k : Nat) : Nat := (ovr cs l s (k - 1) + -(ovr cs l s k)).toNat
def wNum (cs : List Cp) (l s : Int) (k : Nat) : Nat := ((cAt cs (k - 1)).fl * -(ovr cs l s k) + (cAt cs k).fl * ovr cs l s (k - 1)).toNat
theorem ovr_first {cs : List Cp} (g : Good cs) (l s : Int) : ovr cs l s 0 = (cAt cs 0).hd - l := by
  unfold ovr; rw [g.first, Int.mul_zero]; omega
theorem WK.over {cs : List Cp} {l s : Int} {k : Nat} (h : WK cs l s k) : 0 ≤ ovr cs l s (k - 1) ∧ 0 ≤ -(ovr cs l s k) := by
  obtain ⟨g, _, _, hl, h0, h1, h3, h4⟩ := h
  refine ⟨?_, by unfold ovr; omega⟩
  by_cases e : k = 1
  · subst e
    show 0 ≤ ovr cs l s 0
    rw [ovr_first g]; omega
  · have := h4 (k - 1) (by omega) (by omega)
    unfold ovr; omega
theorem ovr_fit {cs : List Cp} (g : Good cs) {l s : Int} (hl : 0 ≤ l ∧ l ≤ 1000) (hs : 0 ≤ s ∧ s ≤ 1000) {i : Nat} (hi : i < cs.length) : -1001000 ≤ ovr cs l s i ∧ ovr cs l s i ≤ 1000 ∧ 0 ≤ s * (cAt cs i).fl ∧ s * (cAt cs i).fl ≤ 1000000 := by
  obtain ⟨⟨a1, a2⟩, a3, a4⟩ := g.at_ hi
  have m := mul_le hs.1 hs.2 a1 a2
  unfold ovr
  omega
theorem WK.fit {cs : List Cp} {l s : Int} {k : Nat} (h : WK cs l s k) :
    (wDen cs l s k : Int) = ovr cs l s (k - 1) + -(ovr cs l s k) ∧ 0 < wDen cs l s k ∧ wDen cs l s k ≤ 1002000
    ∧ (wNum cs l s k : Int) = (cAt cs (k - 1)).fl * -(ovr cs l s k) + (cAt cs k).fl * ovr cs l s (k - 1) ∧ wNum cs l s k ≤ 1000 * wDen cs l s k := by
  have ho := h.over
  obtain ⟨g, hl, hs, hl0, h0, h1, h3, h4⟩ := h
  have o1 := ovr_fit g hl hs (i := k - 1) (by omega)
  have o2 := ovr_fit g hl hs (i := k) h1
  have hp := g.step (i := k - 1) (by omega)
  rw [show k - 1 + 1 = k by omega] at hp
  obtain ⟨⟨a1, a2⟩, a3, a4⟩ := g.at_ (i := k - 1) (by omega)
  obtain ⟨⟨b1, b2⟩, b3, b4⟩ := g.at_ (i := k) h1
  have m0 : s * (cAt cs (k - 1)).fl ≤ s * (cAt cs k).fl := Int.mul_le_mul_of_nonneg_left (by omega) hs.1
  have m1 := mul_le (x := (cAt cs (k - 1)).fl) (y := -(ovr cs l s k)) (a := 1000) (b := -(ovr cs l s k)) a1 a2 ho.2 (Int.le_refl _)
  have m2 := mul_le (x := (cAt cs k).fl) (y := ovr cs l s (k - 1)) (a := 1000) (b := ovr cs l s (k - 1)) b1 b2 ho.1 (Int.le_refl _)
  have hpos : 0 < ovr cs l s (k - 1) + -(ovr cs l s k) := by
    unfold ovr; omega
  unfold wDen wNum
  generalize (cAt cs (k - 1)).fl * -(ovr cs l s k) = P at *
  generalize (cAt cs k).fl * ovr cs l s (k - 1) = Q at *
  generalize ovr cs l s (k - 1) = X at *
  generalize ovr cs l s k = Y at *
  refine ⟨by omega, by omega, by omega, by omega, by omega⟩
/-- The rounds before k found nothing. -/
def WNo (cs : List Cp) (l s : Int) (k : Nat) : Prop := l ≤ (cAt cs 0).hd → ∀ j, 0 < j → j ≤ k → l + s * (cAt cs j).fl < (cAt cs j).hd
theorem WNo.zero (cs : List Cp) (l s : Int) : WNo cs l s 0 := fun _ j h1 h2 => by omega
theorem WNo.next {cs : List Cp} {l s : Int} {k : Nat} (g : Good cs) (h : WNo cs l s k) (hk : ¬ (0 ≤ ovr cs l s k ∧ 0 ≤ -(ovr cs l s (k + 1)))) : WNo cs l s (k + 1) := by
  intro hl j h1 h2
  by_cases e : j = k + 1
  · subst e
    have ho : 0 ≤ ovr cs l s k := by
      by_cases e0 : k = 0
      · subst e0; rw [ovr_first g]; omega
      · have := h hl k (by omega) (Nat.le_refl _); unfold ovr; omega
    have : ¬ 0 ≤ -(ovr cs l s (k + 1)) := fun h => hk ⟨ho, h⟩
    unfold ovr at this; omega
  · exact h hl j h1 (by omega)
theorem WNo.yes {cs : List Cp} {l s : Int} {k : Nat} (g : Good cs) (hl : 0 ≤ l ∧ l ≤ 1000) (hs : 0 ≤ s ∧ s ≤ 1000) (h : WNo cs l s k) (hk : k + 1 < cs.length) (h0 : 0 ≤ ovr cs l s k) (h1 : 0 ≤ -(ovr cs l s (k + 1))) : WK cs l s (k + 1) := by
  have o1 := ovr_fit g hl hs (i := k) (by omega)
  have hm := (g.mono (i := 0) (j := k) (by omega) (by omega)).2
  have hl0 : l ≤ (cAt cs 0).hd := by unfold ovr at h0; omega
  exact ⟨g, hl, hs, hl0, by omega, hk, by unfold ovr at h1; omega, fun j a b => h hl0 j a (by omega)⟩
theorem WNo.none {cs : List Cp} {l s : Int} (h : WNo cs l s (cs.length - 1)) : ∀ k, ¬ WK cs l s k := by
  intro k hk
  obtain ⟨g, _, _, hl0, h0, h1, h3, _⟩ := hk
  have := h hl0 k h0 (by omega)
  omega
/-- The rounds before k found nothing, for the head at a flow. -/
def HNo (cs : List Cp) (f : Int) (k : Nat) : Prop := 0 ≤ f → ∀ j, 0 < j → j ≤ k → (cAt cs j).fl < f
theorem HNo.zero (cs : List Cp) (f : Int) : HNo cs f 0 := fun _ j h1 h2 => by omega
theorem HNo.next {cs : List Cp} {f : Int} {k : Nat} (g : Good cs) (h : HNo cs f k) (hk : ¬ ((cAt cs k).fl ≤ f ∧ f ≤ (cAt cs (k + 1)).fl)) : HNo cs f (k + 1) := by
  intro hf j h1 h2
  by_cases e : j = k + 1
  · subst e
    have ho : (cAt cs k).fl ≤ f := by
      by_cases e0 : k = 0
      · subst e0; rw [g.first]; exact hf
      · have := h hf k (by omega) (Nat.le_refl _); omega
    have : ¬ f ≤ (cAt cs (k + 1)).fl := fun h => hk ⟨ho, h⟩
    omega
  · exact h hf j h1 (by omega)
theorem HNo.yes {cs : List Cp} {f : Int} {k : Nat} (g : Good cs) (h : HNo cs f k) (hk : k + 1 < cs.length) (h0 : (cAt cs k).fl ≤ f) (h1 : f ≤ (cAt cs (k + 1)).fl) : HK cs f (k + 1) := by
  have hm := (g.mono (i := 0) (j := k) (by omega) (by omega)).1
  have h00 := g.first
  exact ⟨g, by omega, hk, by omega, h1, fun j a b => h (by omega) j a (by omega)⟩
theorem HNo.none {cs : List Cp} {f : Int} (h : HNo cs f (cs.length - 1)) : ∀ k, ¬ HK cs f k := by
  intro k hk
  obtain ⟨g, h0, h1, h2, h3, _⟩ := hk
  have := h h2 k h0 (by omega)
  omega
end Go.Proofs.Ytpldbakllegheab.P7
