/- The cheapest pumping day: plans, costs, schedules: plain facts. Conditions: each theorem's own premises. -/
import Derived.Test.YtlkomipjamelkaaTkPlain
namespace Go.Proofs.Ytlkomipjamelkaa.P13
open P11

/-- A pumping: a tank, the greatest volume, the prices and what is taken out. -/
structure Pg where
  L : Int
  a : Int
  b : Int
  pm : Int
  xs : List Int
  ys : List Int
def pgB (p : Pg) : Bool := dayB p.L p.a p.b p.xs p.ys && decide (0 ≤ p.pm ∧ p.pm ≤ 10)
structure Good (p : Pg) : Prop where
  day : Day p.L p.a p.b p.xs p.ys
  m0 : 0 ≤ p.pm
  m1 : p.pm ≤ 10
theorem pgB_iff {p : Pg} : pgB p = true ↔ Good p := by
  unfold pgB
  rw [Bool.and_eq_true, dayB_iff, decide_eq_true_eq]
  exact ⟨fun h => ⟨h.1, h.2.1, h.2.2⟩, fun h => ⟨h.day, h.m0, h.m1⟩⟩
/-- Nothing is spilled and nothing missing in hour h, and the level behind it. -/
def okS (p : Pg) (h : Nat) (L v : Int) : Bool := decide (spl p.b L v = 0 ∧ mis p.a p.b L v (p.ys.getD h 0) = 0)
def nx (p : Pg) (h : Nat) (L v : Int) : Int := nxt p.a p.b L v (p.ys.getD h 0)
/-- A plan for the rest of a day. -/
structure Pl where
  ex : Bool
  cost : Int
  vol : Int
def cst (p : Pg) (h : Nat) (L : Int) (f : Int → Pl) (v : Int) : Int := p.xs.getD h 0 * v + (f (nx p h L v)).cost
def can (p : Pg) (h : Nat) (L : Int) (f : Int → Pl) (v : Int) : Bool := okS p h L v && (f (nx p h L v)).ex
def stepB (p : Pg) (h : Nat) (L : Int) (f : Int → Pl) (v : Int) (acc : Pl) : Pl :=
  if can p h L f v = true ∧ (acc.ex = false ∨ cst p h L f v < acc.cost) then ⟨true, cst p h L f v, v⟩ else acc
def best (p : Pg) (h : Nat) (L : Int) (f : Int → Pl) : Nat → Pl
  | 0 => ⟨false, 0, 0⟩
  | v + 1 => stepB p h L f v (best p h L f v)
/-- The cheapest plan with r hours left. -/
def plan (p : Pg) : Nat → Int → Pl
  | 0, L => ⟨decide (p.L ≤ L), 0, 0⟩
  | r + 1, L => best p (p.xs.length - (r + 1)) L (plan p r) (p.pm.toNat + 1)
theorem stepB_ex (p : Pg) (h : Nat) (L : Int) (f : Int → Pl) (v : Int) (acc : Pl) : (stepB p h L f v acc).ex = (acc.ex || can p h L f v) := by
  unfold stepB
  cases hc : can p h L f v <;> cases ha : acc.ex <;> simp [ha]
  split <;> simp [ha]
theorem best_no {p : Pg} {h : Nat} {L : Int} {f : Int → Pl} : ∀ {k : Nat}, (best p h L f k).ex = false → best p h L f k = ⟨false, 0, 0⟩ ∧ ∀ v : Nat, v < k → can p h L f v = false
  | 0, _ => ⟨rfl, fun v hv => absurd hv (by omega)⟩
  | k + 1, he => by
    have e : (best p h L f (k + 1)).ex = ((best p h L f k).ex || can p h L f k) := stepB_ex ..
    rw [e] at he
    rw [Bool.or_eq_false_iff] at he
    obtain ⟨h1, h2⟩ := best_no he.1
    refine ⟨?_, fun v hv => ?_⟩
    · show stepB p h L f k (best p h L f k) = _
      unfold stepB
      rw [if_neg (by rw [he.2]; simp), h1]
    · by_cases e : v = k
      · subst e; exact he.2
      · exact h2 v (by omega)
theorem best_is {p : Pg} {h : Nat} {L : Int} {f : Int → Pl} : ∀ {k : Nat}, (best p h L f k).ex = true →
    ∃ V : Nat, V < k ∧ (best p h L f k).vol = V ∧ can p h L f V = true ∧ (best p h L f k).cost = cst p h L f V ∧ (∀ v : Nat, v < V → can p h L f v = true → (best p h L f k).cost < cst p h L f v) ∧
      ∀ v : Nat, v < k → can p h L f v = true → (best p h L f k).cost ≤ cst p h L f v
  | 0, he => by cases he
  | k + 1, he => by
    by_cases hc : can p h L f k = true ∧ ((best p h L f k).ex = false ∨ cst p h L f k < (best p h L f k).cost)
    · have e : best p h L f (k + 1) = ⟨true, cst p h L f k, k⟩ := if_pos hc
      rw [e]
      have hall : ∀ v : Nat, v < k → can p h L f v = true → cst p h L f k < cst p h L f v := by
        intro v hv hcv
        rcases hc.2 with hb | hb
        · rw [(best_no hb).2 v hv] at hcv; cases hcv
        · cases hbe : (best p h L f k).ex with
          | false => rw [(best_no hbe).2 v hv] at hcv; cases hcv
          | true =>
            obtain ⟨V, _, _, _, _, _, h6⟩ := best_is hbe
            exact Int.lt_of_lt_of_le hb (h6 v hv hcv)
      refine ⟨k, by omega, rfl, hc.1, rfl, hall, fun v hv hcv => ?_⟩
      by_cases e2 : v = k
      · subst e2; exact Int.le_refl _
      · exact Int.le_of_lt (hall v (by omega) hcv)
    · have e : best p h L f (k + 1) = best p h L f k := if_neg hc
      rw [e] at he ⊢
      obtain ⟨V, h1, h2, h3, h4, h5, h6⟩ := best_is he
      refine ⟨V, by omega, h2, h3, h4, h5, fun v hv hcv => ?_⟩
      by_cases e2 : v = k
      · subst e2
        by_cases hlt : cst p h L f v < (best p h L f v).cost
        · exact absurd ⟨hcv, .inr hlt⟩ hc
        · omega
      · exact h6 v (by omega) hcv
theorem okS_iff {p : Pg} {h : Nat} {L v : Int} : okS p h L v = true ↔ spl p.b L v = 0 ∧ mis p.a p.b L v (p.ys.getD h 0) = 0 := decide_eq_true_iff
theorem Good.vol {p : Pg} (h : Good p) {v : Int} (h0 : 0 ≤ v) (h1 : v ≤ p.pm) : 0 ≤ v ∧ v ≤ 100 := ⟨h0, by have := h.m1; omega⟩
theorem Good.out {p : Pg} (h : Good p) {k : Nat} (hk : k < p.xs.length) : 0 ≤ p.ys.getD k 0 ∧ p.ys.getD k 0 ≤ 100 := vols_at h.day.yv (by rw [h.day.eq]; exact hk)
theorem Good.price {p : Pg} (h : Good p) {k : Nat} (hk : k < p.xs.length) : 0 ≤ p.xs.getD k 0 ∧ p.xs.getD k 0 ≤ 100 := vols_at h.day.xv hk
theorem Good.nx {p : Pg} (h : Good p) {k : Nat} (hk : k < p.xs.length) {L v : Int} (hL : tkB L p.a p.b = true) (h0 : 0 ≤ v) (h1 : v ≤ p.pm) : tkB (nx p k L v) p.a p.b = true :=
  step_tk hL (h.vol h0 h1) (h.out hk)
theorem mul_bd {x v : Int} (hx : 0 ≤ x ∧ x ≤ 100) (hv : 0 ≤ v ∧ v ≤ 10) : 0 ≤ x * v ∧ x * v ≤ 1000 := by
  have h1 : 0 ≤ x * v := Int.mul_nonneg hx.1 hv.1
  have h2 : x * v ≤ 100 * 10 := Int.mul_le_mul hx.2 hv.2 hv.1 (by omega)
  omega
theorem Good.cost {p : Pg} (h : Good p) : ∀ {r : Nat} (_ : r ≤ p.xs.length) (L : Int), 0 ≤ (plan p r L).cost ∧ (plan p r L).cost ≤ 1000 * r
  | 0, _, L => by simp [plan]
  | r + 1, hr, L => by
    have e : plan p (r + 1) L = best p (p.xs.length - (r + 1)) L (plan p r) (p.pm.toNat + 1) := rfl
    rw [e]
    cases hx : (best p (p.xs.length - (r + 1)) L (plan p r) (p.pm.toNat + 1)).ex with
    | false => rw [(best_no hx).1]; simp; omega
    | true =>
      obtain ⟨V, h1, _, _, h4, _, _⟩ := best_is hx
      rw [h4]
      have h0 := h.m0
      have h10 := h.m1
      have hp := mul_bd (h.price (k := p.xs.length - (r + 1)) (by omega)) (v := (V : Int)) (by omega)
      have ih := h.cost (r := r) (by omega) (P13.nx p (p.xs.length - (r + 1)) L V)
      unfold cst
      omega
theorem plan_vol {p : Pg} (h : Good p) : ∀ {r : Nat} (L : Int), 0 ≤ (plan p r L).vol ∧ (plan p r L).vol ≤ p.pm
  | 0, L => by simpa [plan] using h.m0
  | r + 1, L => by
    have e : plan p (r + 1) L = best p (p.xs.length - (r + 1)) L (plan p r) (p.pm.toNat + 1) := rfl
    rw [e]
    have h0 := h.m0
    cases hx : (best p (p.xs.length - (r + 1)) L (plan p r) (p.pm.toNat + 1)).ex with
    | false => rw [(best_no hx).1]; simp; omega
    | true =>
      obtain ⟨V, h1, h2, _⟩ := best_is hx
      rw [h2]
      omega
/-- The model's table: the smallest cost or -1. -/
def tbl (p : Pg) (r : Nat) (L : Int) : Int := if (plan p r L).ex then (plan p r L).cost else -1
theorem tbl_iff {p : Pg} (h : Good p) {r : Nat} (hr : r ≤ p.xs.length) (L : Int) : tbl p r L < 0 ↔ (plan p r L).ex = false := by
  unfold tbl
  have := (h.cost hr L).1
  split
  · rename_i e; rw [e]; simp; omega
  · rename_i e; simp at e; rw [e]; simp
/-- The best level and volume of every hour. -/
def lvl (p : Pg) : Nat → Int
  | 0 => p.L
  | h + 1 => nx p h (lvl p h) (plan p (p.xs.length - h) (lvl p h)).vol
def vl (p : Pg) (h : Nat) : Int := (plan p (p.xs.length - h) (lvl p h)).vol
def sch (p : Pg) (k : Nat) : List Int := (List.range k).map (vl p)
theorem sch_len (p : Pg) (k : Nat) : (sch p k).length = k := by simp [sch]
theorem sch_snoc (p : Pg) (k : Nat) : sch p (k + 1) = sch p k ++ [vl p k] := by simp [sch, List.range_succ]
theorem sch_at (p : Pg) {k i : Nat} (h : i < k) : (sch p k).getD i 0 = vl p i := by simp [sch, List.getD, h]
/-- What the best volume of an hour is. -/
structure VIs (p : Pg) (h : Nat) : Prop where
  ok : okS p h (lvl p h) (vl p h) = true
  exn : (plan p (p.xs.length - (h + 1)) (lvl p (h + 1))).ex = true
  cost : (plan p (p.xs.length - h) (lvl p h)).cost = p.xs.getD h 0 * vl p h + (plan p (p.xs.length - (h + 1)) (lvl p (h + 1))).cost
  first : ∀ v : Nat, (v : Int) < vl p h → okS p h (lvl p h) v = true → (plan p (p.xs.length - (h + 1)) (nx p h (lvl p h) v)).ex = true →
    (plan p (p.xs.length - h) (lvl p h)).cost < p.xs.getD h 0 * v + (plan p (p.xs.length - (h + 1)) (nx p h (lvl p h) v)).cost
theorem v_is {p : Pg} {h : Nat} (hh : h < p.xs.length) (he : (plan p (p.xs.length - h) (lvl p h)).ex = true) : VIs p h := by
  obtain ⟨r, hr⟩ : ∃ r, p.xs.length - h = r + 1 := ⟨p.xs.length - h - 1, by omega⟩
  have hr2 : p.xs.length - (h + 1) = r := by omega
  have hr3 : p.xs.length - (r + 1) = h := by omega
  have e : plan p (p.xs.length - h) (lvl p h) = best p h (lvl p h) (plan p r) (p.pm.toNat + 1) := by
    rw [hr]
    show best p (p.xs.length - (r + 1)) (lvl p h) (plan p r) (p.pm.toNat + 1) = _
    rw [hr3]
  have hv : vl p h = (best p h (lvl p h) (plan p r) (p.pm.toNat + 1)).vol := by unfold vl; rw [e]
  rw [e] at he
  obtain ⟨V, h1, h2, h3, h4, h5, h6⟩ := best_is he
  rw [h2] at hv
  unfold can at h3
  rw [Bool.and_eq_true] at h3
  have hl : lvl p (h + 1) = nx p h (lvl p h) V := by
    show nx p h (lvl p h) (vl p h) = _
    rw [hv]
  refine ⟨by rw [hv]; exact h3.1, by rw [hr2, hl]; exact h3.2, by rw [e, h4, hv, hr2, hl]; rfl, fun v hv2 hok hex => ?_⟩
  rw [hr2] at hex ⊢
  rw [e]
  exact h5 v (by omega) (by unfold can; rw [hok, hex]; rfl)
theorem ex_all {p : Pg} (he : (plan p p.xs.length p.L).ex = true) : ∀ {h : Nat}, h ≤ p.xs.length → (plan p (p.xs.length - h) (lvl p h)).ex = true
  | 0, _ => he
  | h + 1, hh => (v_is (by omega) (ex_all he (h := h) (by omega))).exn
theorem lvl_tk {p : Pg} (hg : Good p) : ∀ {h : Nat}, h ≤ p.xs.length → tkB (lvl p h) p.a p.b = true
  | 0, _ => hg.day.tk
  | h + 1, hh => hg.nx (by omega) (lvl_tk hg (h := h) (by omega)) (plan_vol hg _).1 (plan_vol hg _).2
/-- What the first k hours cost. -/
def costF (xs vs : List Int) (k : Nat) : Int := sumF (fun i => xs.getD i 0 * vs.getD i 0) k
theorem cost_all {p : Pg} (he : (plan p p.xs.length p.L).ex = true) : ∀ {k : Nat}, k ≤ p.xs.length → costF p.xs (sch p p.xs.length) k + (plan p (p.xs.length - k) (lvl p k)).cost = (plan p p.xs.length p.L).cost
  | 0, _ => by simp [costF, sumF, lvl]
  | k + 1, hk => by
    have ih := cost_all he (k := k) (by omega)
    have hc := (v_is (by omega) (ex_all he (h := k) (by omega))).cost
    have es := sch_at p (k := p.xs.length) (i := k) (by omega)
    show costF p.xs (sch p p.xs.length) k + p.xs.getD k 0 * (sch p p.xs.length).getD k 0 + _ = _
    rw [es]
    omega
theorem cost_day {p : Pg} (he : (plan p p.xs.length p.L).ex = true) : costF p.xs (sch p p.xs.length) p.xs.length = (plan p p.xs.length p.L).cost := by
  have h := cost_all he (k := p.xs.length) (Nat.le_refl _)
  rw [Nat.sub_self] at h
  have e : (plan p 0 (lvl p p.xs.length)).cost = 0 := rfl
  omega
/-- The same pumping where water costs nothing. -/
def free (p : Pg) : Pg := { p with xs := List.replicate p.xs.length 0 }
theorem free_len (p : Pg) : (free p).xs.length = p.xs.length := by simp [free]
theorem free_at (p : Pg) (h : Nat) : (free p).xs.getD h 0 = 0 := by
  simp only [free, List.getD, List.getElem?_replicate]
  split <;> rfl
theorem free_good {p : Pg} (h : Good p) : Good (free p) := by
  have hd := h.day
  refine ⟨⟨hd.tk, by rw [free_len]; exact hd.n0, by rw [free_len]; exact hd.n1, by rw [free_len]; exact hd.eq, vols_mk fun j _ => by rw [free_at]; rfl, hd.yv⟩, h.m0, h.m1⟩
theorem free_ex (p : Pg) : ∀ (r : Nat) (L : Int), (plan (free p) r L).ex = (plan p r L).ex ∧ (plan (free p) r L).cost = 0
  | 0, L => ⟨rfl, rfl⟩
  | r + 1, L => by
    have ih := free_ex p r
    have hb : ∀ (h k : Nat), (best (free p) h L (plan (free p) r) k).ex = (best p h L (plan p r) k).ex ∧ (best (free p) h L (plan (free p) r) k).cost = 0 := by
      intro h k
      induction k with
      | zero => exact ⟨rfl, rfl⟩
      | succ k ihk =>
        have hcan : can (free p) h L (plan (free p) r) k = can p h L (plan p r) k := by
          unfold can
          rw [show (plan (free p) r (nx (free p) h L k)).ex = (plan p r (nx p h L k)).ex from (ih _).1]
          rfl
        refine ⟨?_, ?_⟩
        · show (stepB _ _ _ _ _ _).ex = (stepB _ _ _ _ _ _).ex
          rw [stepB_ex, stepB_ex, ihk.1, hcan]
        · show (stepB _ _ _ _ _ _).cost = 0
          unfold stepB
          split
          · show cst _ _ _ _ _ = 0
            unfold cst
            rw [free_at, (ih _).2]
            simp
          · exact ihk.2
    have e1 : plan (free p) (r + 1) L = best (free p) (p.xs.length - (r + 1)) L (plan (free p) r) (p.pm.toNat + 1) := by
      show best (free p) ((free p).xs.length - (r + 1)) L (plan (free p) r) (p.pm.toNat + 1) = _
      rw [free_len]
    rw [e1]
    exact hb _ _
/-- The volumes that are taken hour by hour, told by what makes the first of them. -/
structure Takes (p : Pg) (cheap : Bool) (lv V : Nat → Int) : Prop where
  l0 : lv 0 = p.L
  ls : ∀ h, h < p.xs.length → lv (h + 1) = nx p h (lv h) (V h)
  v0 : ∀ h, h < p.xs.length → 0 ≤ V h ∧ V h ≤ p.pm
  ok : ∀ h, h < p.xs.length → okS p h (lv h) (V h) = true
  ex : ∀ h, h < p.xs.length → (plan p (p.xs.length - (h + 1)) (lv (h + 1))).ex = true
  eq : cheap = true → ∀ h, h < p.xs.length → p.xs.getD h 0 * V h + (plan p (p.xs.length - (h + 1)) (lv (h + 1))).cost = tbl p (p.xs.length - h) (lv h)
  no : ∀ h, h < p.xs.length → ∀ v : Nat, (v : Int) < V h → okS p h (lv h) v = true → (plan p (p.xs.length - (h + 1)) (nx p h (lv h) v)).ex = true →
    cheap = true ∧ p.xs.getD h 0 * v + (plan p (p.xs.length - (h + 1)) (nx p h (lv h) v)).cost ≠ tbl p (p.xs.length - h) (lv h)
theorem takes_cheap {p : Pg} (hg : Good p) (he : (plan p p.xs.length p.L).ex = true) : Takes p true (lvl p) (vl p) := by
  have ha := fun {h : Nat} (hh : h ≤ p.xs.length) => ex_all he (h := h) hh
  have hv := fun (h : Nat) (hh : h < p.xs.length) => v_is hh (ha (h := h) (by omega))
  have ht : ∀ h, h < p.xs.length → tbl p (p.xs.length - h) (lvl p h) = (plan p (p.xs.length - h) (lvl p h)).cost := fun h hh => by unfold tbl; rw [if_pos (ha (by omega))]
  refine ⟨rfl, fun h _ => rfl, fun h _ => plan_vol hg _, fun h hh => (hv h hh).ok, fun h hh => (hv h hh).exn, fun _ h hh => ?_, fun h hh v hlt hok hex => ⟨rfl, ?_⟩⟩
  · rw [ht h hh, (hv h hh).cost]
  · rw [ht h hh]
    have := (hv h hh).first v hlt hok hex
    omega
theorem takes_free {p : Pg} (hg : Good p) (he : (plan p p.xs.length p.L).ex = true) : Takes p false (lvl (free p)) (vl (free p)) := by
  have he2 : (plan (free p) (free p).xs.length (free p).L).ex = true := by rw [free_len, (free_ex p _ _).1]; exact he
  have ha := fun {h : Nat} (hh : h ≤ (free p).xs.length) => ex_all he2 (h := h) hh
  have hv := fun (h : Nat) (hh : h < (free p).xs.length) => v_is hh (ha (h := h) (by omega))
  rw [free_len] at hv
  refine ⟨rfl, fun h _ => rfl, fun h _ => plan_vol (free_good hg) _, fun h hh => (hv h hh).ok, fun h hh => ?_, (fun h => absurd h (by decide)), fun h hh v hlt hok hex => ?_⟩
  · have := (hv h hh).exn
    rw [free_len, (free_ex p _ _).1] at this
    exact this
  · have h2 := (hv h hh).first v hlt hok (by rw [free_len, (free_ex p _ _).1]; exact hex)
    rw [(free_ex p _ _).2, (free_ex p _ _).2, free_at] at h2
    simp at h2
end Go.Proofs.Ytlkomipjamelkaa.P13
