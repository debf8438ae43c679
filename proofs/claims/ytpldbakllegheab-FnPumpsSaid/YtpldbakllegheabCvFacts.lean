/- Facts on curves that the laws FnCurves and FnPumps want: the head at the last point, the flow at the first head, a curve above itself and a raised one. Conditions: each theorem's own premises. -/
import Derived.Test.YtpldbakllegheabCvRaiseS
import Derived.Test.YtpldbakllegheabCvAbv
namespace Go.Proofs.Ytpldbakllegheab.S7
open Go.RowKit P7

theorem hA_end {cs : List Cp} (g : P7.Good cs) : hA cs (cAt cs (cs.length - 1)).fl = ((cAt cs (cs.length - 1)).hd, 1, true) := by
  have hl := g.1
  have h0 := g.at_ (i := cs.length - 1) (by omega)
  have hst := g.step (i := cs.length - 2) (by omega)
  rw [show cs.length - 2 + 1 = cs.length - 1 by omega] at hst
  have hk : HK cs (cAt cs (cs.length - 1)).fl (cs.length - 1) := ⟨g, by omega, by omega, h0.1.1, Int.le_refl _, fun j a b => by
    have := (g.mono (i := j) (j := cs.length - 2) (by omega) (by omega)).1
    omega⟩
  have ⟨d1, d2, _, n1, _⟩ := hk.fit
  obtain ⟨x, hx⟩ := nat_of h0.2.1
  have hn : hNum cs (cAt cs (cs.length - 1)).fl (cs.length - 1) = x * hDen cs (cs.length - 1) := by
    rw [Int.sub_self, Int.mul_zero, Int.zero_add, ← d1, hx] at n1
    have : ((hNum cs (cAt cs (cs.length - 1)).fl (cs.length - 1) : Nat) : Int) = ((x * hDen cs (cs.length - 1) : Nat) : Int) := by rw [n1, Int.natCast_mul]
    exact Int.ofNat.inj this
  rw [hA_yes hk, hn]
  obtain ⟨e1, e2⟩ := low_mul x (hDen cs (cs.length - 1)) d2
  rw [e1, e2, hx]
theorem wA_first {cs : List Cp} (g : P7.Good cs) : wA cs (cAt cs 0).hd 0 = (0, 1, true) := by
  have hl := g.1
  have hs := g.step (i := 0) (by omega)
  simp only [Nat.zero_add] at hs
  have h0 := g.at_ (i := 0) (by omega)
  have hk : WK cs (cAt cs 0).hd 0 1 := ⟨g, h0.2, by omega, Int.le_refl _, by omega, by omega, by simp only [Int.zero_mul]; omega, fun j a b => by omega⟩
  have ⟨_, d2, _⟩ := hk.fit
  have hn : wNum cs (cAt cs 0).hd 0 1 = 0 := by
    unfold wNum
    have e : ovr cs (cAt cs 0).hd 0 0 = 0 := by unfold ovr; omega
    rw [show (1 : Nat) - 1 = 0 from rfl, e, g.first]
    simp
  rw [wA_yes hk, hn]
  obtain ⟨e1, e2⟩ := low_zero (wDen cs (cAt cs 0).hd 0 1) d2
  rw [e1, e2]
/-- Fractions in lowest terms compare as they are. -/
theorem low_lt {a b c d : Nat} (hb : 0 < b) (hd : 0 < d) : (lowN a b * lowD c d < lowN c d * lowD a b) ↔ (a * d < c * b) := by
  obtain ⟨x, y, hx, hy, hy0, _, _, he⟩ := low_le a b hb
  obtain ⟨u, v, hu, hv, hv0, _, _, hf⟩ := low_le c d hd
  rw [hx, hy, hu, hv]
  have e : ((x : Int) * (v : Int) < (u : Int) * (y : Int)) ↔ (x * v < u * y) := by
    rw [← Int.natCast_mul, ← Int.natCast_mul]; exact Int.ofNat_lt
  rw [e]
  -- x * b = a * y, u * d = c * v
  have k1 : x * v * (b * d) = a * d * (y * v) := by
    calc x * v * (b * d) = x * b * (v * d) := by simp only [Nat.mul_comm, Nat.mul_left_comm]
      _ = a * y * (v * d) := by rw [he]
      _ = a * d * (y * v) := by simp only [Nat.mul_comm, Nat.mul_left_comm]
  have k2 : u * y * (b * d) = c * b * (y * v) := by
    calc u * y * (b * d) = u * d * (b * y) := by simp only [Nat.mul_comm, Nat.mul_left_comm]
      _ = c * v * (b * y) := by rw [hf]
      _ = c * b * (y * v) := by simp only [Nat.mul_comm, Nat.mul_left_comm]
  have p1 : 0 < b * d := Nat.mul_pos hb hd
  have p2 : 0 < y * v := Nat.mul_pos hy0 hv0
  constructor
  · intro h
    have := (Nat.mul_lt_mul_right p1).2 h
    rw [k1, k2] at this
    exact (Nat.mul_lt_mul_right p2).1 this
  · intro h
    have := (Nat.mul_lt_mul_right p2).2 h
    rw [← k1, ← k2] at this
    exact (Nat.mul_lt_mul_right p1).1 this
theorem belB_self (cs : List Cp) (f : Int) : belB cs cs f = false := by
  unfold belB
  have : ¬ ((hA cs f).1 * (hA cs f).2.1 < (hA cs f).1 * (hA cs f).2.1) := Int.lt_irrefl _
  simp [this]
theorem abA_self {cs : List Cp} (g : P7.Good cs) : abA cs cs = (true, true) := by
  rw [abA_yes (gB_mk g) (gB_mk g), abv_yes (fun j _ => belB_self cs _)]
theorem raise_at {cs : List Cp} {h : Int} {i : Nat} (hi : i < cs.length) : cAt (raiseC cs h) i = ⟨(cAt cs i).fl, (cAt cs i).hd + h⟩ := by
  unfold raiseC cAt
  simp [List.getD, hi, up]
theorem raise_hk {cs : List Cp} {h : Int} (g2 : P7.Good (raiseC cs h)) {f : Int} {k : Nat} (hk : HK cs f k) : HK (raiseC cs h) f k ∧ hDen (raiseC cs h) k = hDen cs k ∧ (hNum (raiseC cs h) f k : Int) = (hNum cs f k : Int) + h * (hDen cs k : Int) := by
  obtain ⟨_, h0, h1, h2, h3, h4⟩ := id hk
  have e1 := raise_at (h := h) h1
  have e0 := raise_at (h := h) (show k - 1 < cs.length by omega)
  have hk2 : HK (raiseC cs h) f k := by
    refine ⟨g2, h0, by rw [raiseC_len]; exact h1, h2, by rw [e1]; exact h3, fun j a b => ?_⟩
    rw [raise_at (show j < cs.length by omega)]
    exact h4 j a b
  obtain ⟨d1, _, _, n1, _⟩ := hk.fit
  obtain ⟨c1, _, _, m1, _⟩ := hk2.fit
  rw [e0, e1] at m1 c1
  dsimp only at m1 c1
  refine ⟨hk2, by omega, ?_⟩
  rw [m1, n1, d1]
  simp only [Int.mul_sub, Int.add_mul]
  omega
theorem raise_bel {cs : List Cp} {h f : Int} (g2 : P7.Good (raiseC cs h)) : belB (raiseC cs h) cs f = true ↔ ((∃ k, HK cs f k) ∧ h < 0) := by
  by_cases hx : ∃ k, HK cs f k
  · obtain ⟨k, hk⟩ := hx
    obtain ⟨hk2, hd, hn⟩ := raise_hk g2 hk
    have ⟨d1, d2, _, _, _⟩ := hk.fit
    unfold belB
    rw [hA_yes hk, hA_yes hk2, hd]
    simp only [Bool.true_and, decide_eq_true_eq]
    rw [low_lt d2 d2, Nat.mul_lt_mul_right d2]
    constructor
    · intro hlt
      refine ⟨⟨k, hk⟩, ?_⟩
      apply Classical.byContradiction
      intro hc
      have := Int.mul_nonneg (show 0 ≤ h by omega) (show (0 : Int) ≤ (hDen cs k : Int) by omega)
      omega
    · rintro ⟨_, hlt⟩
      have : h * (hDen cs k : Int) < 0 := Int.mul_neg_of_neg_of_pos hlt (by omega)
      omega
  · have : hA cs f = (0, 0, false) := hA_no fun k hk => hx ⟨k, hk⟩
    unfold belB
    rw [this]
    simp [hx]
theorem abA_raise {cs : List Cp} {h : Int} (g : P7.Good cs) (g2 : P7.Good (raiseC cs h)) : abA (raiseC cs h) cs = (decide (0 ≤ h), true) := by
  rw [abA_yes (gB_mk g2) (gB_mk g)]
  by_cases h0 : 0 ≤ h
  · rw [abv_yes (fun j _ => by
      cases hb : belB (raiseC cs h) cs (cAt (raiseC cs h ++ cs) j).fl with
      | false => rfl
      | true => have := ((raise_bel g2).1 hb).2; omega)]
    simp [h0]
  · have hl := g.1
    have hlen := raiseC_len cs h
    have e0 : cAt (raiseC cs h ++ cs) 0 = cAt (raiseC cs h) 0 := by unfold cAt; simp [List.getD, List.getElem?_append_left (show 0 < (raiseC cs h).length by omega)]
    have e1 := raise_at (h := h) (show 0 < cs.length by omega)
    obtain ⟨k, hk⟩ := hk_ex (f := 0) g (by omega) ((g.at_ (i := cs.length - 1) (by omega)).1.1)
    rw [abv_no (k := 0) (by simp; omega) ((raise_bel g2).2 ⟨⟨k, by rw [e0, e1]; dsimp only; rw [g.first]; exact hk⟩, by omega⟩)]
    simp [h0]
theorem raise_back (cs : List Cp) (h : Int) : raiseC (raiseC cs h) (-h) = cs := by
  unfold raiseC
  rw [List.map_map]
  conv => rhs; rw [← List.map_id cs]
  refine List.map_congr_left fun c _ => ?_
  obtain ⟨x, y⟩ := c
  simp [up, Function.comp]
  omega
/-- What a raise that is told is like. -/
theorem rB_parts {cs : List Cp} {h : Int} (hr : rB cs h = true) : P7.Good cs ∧ P7.Good (raiseC cs h) ∧ -1000 ≤ h ∧ h ≤ 1000 := by
  unfold rB at hr
  simp only [Bool.and_eq_true, decide_eq_true_eq] at hr
  exact ⟨gB_of hr.1.1, gB_of hr.2, hr.1.2.1, hr.1.2.2⟩
theorem rB_back {cs : List Cp} {h : Int} (hr : rB cs h = true) : rB (raiseC cs h) (-h) = true ∧ rL (raiseC cs h) (-h) = cs := by
  obtain ⟨g, g2, h0, h9⟩ := rB_parts hr
  have e : rB (raiseC cs h) (-h) = true := by
    unfold rB
    rw [raise_back, gB_mk g, gB_mk g2]
    simp; omega
  exact ⟨e, by rw [rL_yes e, raise_back]⟩
/-- Where the flow at a head is a whole number, the head at this flow is that head. -/
theorem flow_head {cs : List Cp} {h x : Int} (hw : wA cs h 0 = (x, 1, true)) : hA cs x = (h, 1, true) := by
  by_cases hx : ∃ k, WK cs h 0 k
  · obtain ⟨k, hk⟩ := hx
    obtain ⟨d1, d2, _, n1, _⟩ := hk.fit
    obtain ⟨a, b, ha, hb, hb0, _, _, he⟩ := low_le (wNum cs h 0 k) (wDen cs h 0 k) d2
    rw [wA_yes hk, ha, hb] at hw
    simp only [Prod.mk.injEq, and_true] at hw
    obtain ⟨rfl, hb1⟩ := hw
    have hb2 : b = 1 := by omega
    subst hb2
    rw [Nat.mul_one] at he
    -- a * den = num
    have he2 : (a : Int) * (wDen cs h 0 k : Int) = (wNum cs h 0 k : Int) := by rw [← he, Int.natCast_mul]
    rw [d1, n1] at he2
    have ho := hk.over
    obtain ⟨hz1, hz2, hz3⟩ := wk_zero hk
    obtain ⟨g, hl, _, hl0, h0, h1, _, _⟩ := id hk
    have hst := g.step (i := k - 1) (by omega)
    rw [show k - 1 + 1 = k by omega] at hst
    unfold ovr at he2 ho
    simp only [Int.zero_mul, Int.sub_zero] at he2 ho
    have key : (a : Int) ≤ (cAt cs k).fl ∧ (h < (cAt cs (k - 1)).hd → (cAt cs (k - 1)).fl < (a : Int)) ∧ (cAt cs (k - 1)).hd * ((cAt cs k).fl - (a : Int)) + (cAt cs k).hd * ((a : Int) - (cAt cs (k - 1)).fl) = h * ((cAt cs k).fl - (cAt cs (k - 1)).fl) := by
      clear hz3 hl0
      generalize (cAt cs (k - 1)).fl = x0 at *
      generalize (cAt cs (k - 1)).hd = y0 at *
      generalize (cAt cs k).fl = x1 at *
      generalize (cAt cs k).hd = y1 at *
      have e1 : (a : Int) * (y0 - h + -(y1 - h)) = (a : Int) * (y0 - y1) := by congr 1; omega
      rw [e1] at he2
      have q1 : (a : Int) * (y0 - y1) = x0 * (y0 - y1) + (x1 - x0) * (y0 - h) := by
        rw [he2]
        simp only [Int.mul_sub, Int.mul_neg, Int.mul_comm]
        omega
      have q2 : (x1 - (a : Int)) * (y0 - y1) = (x1 - x0) * (h - y1) := by
        rw [Int.sub_mul, q1]
        simp only [Int.mul_sub, Int.sub_mul]
        omega
      have hD : 0 < y0 - y1 := by omega
      have hX : 0 < x1 - x0 := by omega
      refine ⟨?_, ?_, ?_⟩
      · apply Classical.byContradiction
        intro hc
        have := Int.mul_neg_of_neg_of_pos (show x1 - (a : Int) < 0 by omega) hD
        have := Int.mul_nonneg (show 0 ≤ x1 - x0 by omega) (show 0 ≤ h - y1 by omega)
        omega
      · intro hlt
        apply Classical.byContradiction
        intro hc
        have m1 : (a : Int) * (y0 - y1) ≤ x0 * (y0 - y1) := Int.mul_le_mul_of_nonneg_right (by omega) (by omega)
        have := Int.mul_pos hX (show 0 < y0 - h by omega)
        omega
      · simp only [Int.mul_sub, Int.sub_mul, Int.mul_comm] at q1 q2 ⊢
        omega
    obtain ⟨k1, k2, k3⟩ := key
    have hk2 : HK cs (a : Int) k := ⟨g, h0, h1, by omega, k1, fun j p q => by
      have m1 := (g.mono (i := j) (j := k - 1) (by omega) (by omega)).1
      have m2 := k2 (hz3 (k - 1) (by omega) (by omega))
      omega⟩
    obtain ⟨c1, c2, _, m1, _⟩ := hk2.fit
    obtain ⟨H, rfl⟩ := nat_of hl.1
    have hn : hNum cs (a : Int) k = H * hDen cs k := by
      have : ((hNum cs (a : Int) k : Nat) : Int) = ((H * hDen cs k : Nat) : Int) := by rw [m1, k3, Int.natCast_mul, c1]
      exact Int.ofNat.inj this
    rw [hA_yes hk2, hn]
    obtain ⟨e1, e2⟩ := low_mul H (hDen cs k) c2
    rw [e1, e2]
  · rw [wA_no fun k hk => hx ⟨k, hk⟩] at hw
    exact absurd (congrArg (fun t : Int × Int × Bool => t.2.2) hw) (by simp)
end Go.Proofs.Ytpldbakllegheab.S7
