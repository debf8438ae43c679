/- Plain facts on tariffs (chapter 14): blocks, costs, the volume for an amount, from where a tariff is cheaper; no program in them. No conditions. -/
namespace Go.Proofs.Ytidlpoambmeiiaa.P14

/-- A block of a tariff. -/
structure Bl where
  up : Int
  pr : Int
deriving DecidableEq, Inhabited
/-- A tariff. -/
structure Ta where
  fee : Int
  bs : List Bl

def cAt (cs : List Bl) (i : Nat) : Bl := cs.getD i ⟨0, 0⟩
theorem cAt_get (cs : List Bl) (i : Nat) (h : i < cs.length) : cs[i]? = some (cAt cs i) := by
  unfold cAt; simp [List.getD, h]
theorem cAt_eq (cs : List Bl) (i : Nat) (h : i < cs.length) : cAt cs i = cs[i] := by
  unfold cAt; simp [List.getD, h]
/-- Where the block i begins. -/
def pre (bs : List Bl) : Nat → Int
  | 0 => 0
  | i + 1 => (cAt bs i).up
/-- The block at i is fine behind the one before it. -/
def Ok (bs : List Bl) (i : Nat) : Prop := pre bs i < (cAt bs i).up ∧ 0 ≤ (cAt bs i).pr ∧ (cAt bs i).pr ≤ 1000
def To (bs : List Bl) (k : Nat) : Prop := ∀ i, i < k → Ok bs i
theorem To.zero (bs : List Bl) : To bs 0 := fun i h => absurd h (by omega)
theorem To.next {bs : List Bl} {k : Nat} (h : To bs k) (hk : Ok bs k) : To bs (k + 1) := by
  intro i hi
  by_cases e : i = k
  · subst e; exact hk
  · exact h i (by omega)
/-- A tariff that is valid. -/
def Good (t : Ta) : Prop := (0 ≤ t.fee ∧ t.fee ≤ 100000) ∧ (1 ≤ t.bs.length ∧ t.bs.length ≤ 5) ∧ To t.bs t.bs.length ∧ pre t.bs t.bs.length = 100000
open Classical in
noncomputable def gB (t : Ta) : Bool := decide (Good t)
theorem gB_of {t : Ta} (h : gB t = true) : Good t := by simpa [gB] using h
theorem gB_mk {t : Ta} (h : Good t) : gB t = true := by simpa [gB] using h
theorem gB_no {t : Ta} (h : ¬ Good t) : gB t = false := by simpa [gB] using h
theorem gB_fee {t : Ta} (h : ¬ (0 ≤ t.fee ∧ t.fee ≤ 100000)) : gB t = false := gB_no fun g => h g.1
theorem gB_len {t : Ta} (h : ¬ (1 ≤ t.bs.length ∧ t.bs.length ≤ 5)) : gB t = false := gB_no fun g => h g.2.1
theorem gB_bad {t : Ta} {k : Nat} (hk : k < t.bs.length) (h : ¬ Ok t.bs k) : gB t = false := gB_no fun g => h (g.2.2.1 k hk)
theorem gB_end {t : Ta} (h : pre t.bs t.bs.length ≠ 100000) : gB t = false := gB_no fun g => h g.2.2.2
theorem pre_mono {bs : List Bl} {n : Nat} (g : To bs n) {i j : Nat} (h : i ≤ j) : j ≤ n → pre bs i ≤ pre bs j := by
  induction h with
  | refl => intro _; exact Int.le_refl _
  | @step m h ih =>
    intro hj
    have h1 := ih (by omega)
    have h2 := (g m (by omega)).1
    show pre bs i ≤ (cAt bs m).up
    omega
theorem Good.mono {t : Ta} (g : Good t) {i j : Nat} (h : i ≤ j) (hj : j ≤ t.bs.length) : pre t.bs i ≤ pre t.bs j := pre_mono g.2.2.1 h hj
theorem Good.pres {t : Ta} (g : Good t) {i : Nat} (h : i ≤ t.bs.length) : 0 ≤ pre t.bs i ∧ pre t.bs i ≤ 100000 := by
  have h1 := g.mono (Nat.zero_le i) h
  have h2 := g.mono h (Nat.le_refl _)
  rw [g.2.2.2] at h2
  exact ⟨h1, h2⟩
theorem Good.at_ {t : Ta} (g : Good t) {i : Nat} (h : i < t.bs.length) : (pre t.bs i < (cAt t.bs i).up ∧ 0 ≤ pre t.bs i ∧ (cAt t.bs i).up ≤ 100000) ∧ 0 ≤ (cAt t.bs i).pr ∧ (cAt t.bs i).pr ≤ 1000 := by
  have h1 := g.2.2.1 i h
  have h2 := g.pres (i := i) (by omega)
  have h3 := g.pres (i := i + 1) (by omega)
  exact ⟨⟨h1.1, h2.1, h3.2⟩, h1.2⟩

/-! ### What a volume costs -/
def prt (t : Ta) (v : Int) (i : Nat) : Int := (cAt t.bs i).pr * max 0 (min v (cAt t.bs i).up - pre t.bs i)
def sumTo (t : Ta) (v : Int) : Nat → Int
  | 0 => t.fee
  | k + 1 => sumTo t v k + prt t v k
def cost (t : Ta) (v : Int) : Int := sumTo t v t.bs.length
theorem mul_le {x y a b : Int} (hx : 0 ≤ x) (hxa : x ≤ a) (hy : 0 ≤ y) (hyb : y ≤ b) : 0 ≤ x * y ∧ x * y ≤ a * b :=
  ⟨Int.mul_nonneg hx hy, Int.mul_le_mul hxa hyb hy (by omega)⟩
theorem prt_le {t : Ta} (g : Good t) {v : Int} {i : Nat} (h : i < t.bs.length) : 0 ≤ prt t v i ∧ prt t v i ≤ 100000000 := by
  obtain ⟨⟨h0, h1, h2⟩, h3, h4⟩ := g.at_ h
  have := mul_le (x := (cAt t.bs i).pr) (y := max 0 (min v (cAt t.bs i).up - pre t.bs i)) (a := 1000) (b := 100000) h3 h4 (by omega) (by omega)
  unfold prt
  omega
theorem sumTo_le {t : Ta} (g : Good t) (v : Int) : ∀ {k : Nat}, k ≤ t.bs.length → t.fee ≤ sumTo t v k ∧ sumTo t v k ≤ 100000 + 100000000 * (k : Int)
  | 0, _ => ⟨Int.le_refl _, by show t.fee ≤ _; have := g.1; omega⟩
  | k + 1, h => by
    have h1 := sumTo_le g v (k := k) (by omega)
    have h2 := prt_le g (v := v) (i := k) (by omega)
    show t.fee ≤ sumTo t v k + prt t v k ∧ sumTo t v k + prt t v k ≤ _
    omega
theorem cost_le {t : Ta} (g : Good t) (v : Int) : t.fee ≤ cost t v ∧ cost t v ≤ 500100000 := by
  have h := sumTo_le g v (Nat.le_refl _)
  have := g.2.1
  unfold cost
  omega
theorem prt_mono {t : Ta} (g : Good t) {v v2 : Int} (hv : v ≤ v2) {i : Nat} (h : i < t.bs.length) : prt t v i ≤ prt t v2 i := by
  obtain ⟨⟨h0, h1, h2⟩, h3, h4⟩ := g.at_ h
  exact Int.mul_le_mul_of_nonneg_left (by omega) h3
theorem sumTo_mono {t : Ta} (g : Good t) {v v2 : Int} (hv : v ≤ v2) : ∀ {k : Nat}, k ≤ t.bs.length → sumTo t v k ≤ sumTo t v2 k
  | 0, _ => Int.le_refl _
  | k + 1, h => by
    have h1 := sumTo_mono g hv (k := k) (by omega)
    have h2 := prt_mono g hv (i := k) (by omega)
    show sumTo t v k + prt t v k ≤ sumTo t v2 k + prt t v2 k
    omega
theorem cost_mono {t : Ta} (g : Good t) {v v2 : Int} (hv : v ≤ v2) : cost t v ≤ cost t v2 := sumTo_mono g hv (Nat.le_refl _)
theorem prt_zero {t : Ta} (g : Good t) {i : Nat} (h : i < t.bs.length) : prt t 0 i = 0 := by
  obtain ⟨⟨h0, h1, h2⟩, h3, h4⟩ := g.at_ h
  have e : max 0 (min 0 (cAt t.bs i).up - pre t.bs i) = 0 := by omega
  unfold prt; rw [e, Int.mul_zero]
theorem sumTo_zero {t : Ta} (g : Good t) : ∀ {k : Nat}, k ≤ t.bs.length → sumTo t 0 k = t.fee
  | 0, _ => rfl
  | k + 1, h => by
    show sumTo t 0 k + prt t 0 k = t.fee
    rw [sumTo_zero g (by omega), prt_zero g (by omega), Int.add_zero]
theorem cost_zero {t : Ta} (g : Good t) : cost t 0 = t.fee := sumTo_zero g (Nat.le_refl _)

/-! ### The block of the next cubic meter -/
/-- The cubic meter behind v lies in the block i. -/
def NX (t : Ta) (v : Int) (i : Nat) : Prop := i < t.bs.length ∧ v < (cAt t.bs i).up ∧ pre t.bs i ≤ v
theorem NX.uniq {t : Ta} (g : Good t) {v : Int} {i j : Nat} (h : NX t v i) (h2 : NX t v j) : i = j := by
  obtain ⟨a1, a2, a3⟩ := h
  obtain ⟨b1, b2, b3⟩ := h2
  rcases Nat.lt_trichotomy i j with e | e | e
  · have := g.mono (i := i + 1) (j := j) (by omega) (by omega)
    have : (cAt t.bs i).up ≤ pre t.bs j := this
    omega
  · exact e
  · have := g.mono (i := j + 1) (j := i) (by omega) (by omega)
    have : (cAt t.bs j).up ≤ pre t.bs i := this
    omega
theorem nx_ex {t : Ta} (g : Good t) {v : Int} (h0 : 0 ≤ v) (h9 : v < 100000) : ∃ i, NX t v i := by
  have key : ∀ n, n ≤ t.bs.length → v < pre t.bs n → ∃ i, NX t v i := by
    intro n
    induction n with
    | zero => intro _ h; have : v < 0 := h; omega
    | succ n ih =>
      intro hn hv
      by_cases e : v < pre t.bs n
      · exact ih (by omega) e
      · exact ⟨n, by omega, hv, by omega⟩
  exact key _ (Nat.le_refl _) (by rw [g.2.2.2]; exact h9)
theorem prt_next {t : Ta} (g : Good t) {v : Int} {i : Nat} (h : NX t v i) {j : Nat} (hj : j < t.bs.length) : prt t (v + 1) j = prt t v j + (if j = i then (cAt t.bs i).pr else 0) := by
  obtain ⟨a1, a2, a3⟩ := h
  obtain ⟨⟨h0, h1, h2⟩, h3, h4⟩ := g.at_ hj
  rcases Nat.lt_trichotomy j i with e | e | e
  · have := g.mono (i := j + 1) (j := i) (by omega) (by omega)
    have : (cAt t.bs j).up ≤ pre t.bs i := this
    rw [if_neg (by omega), Int.add_zero]
    unfold prt
    congr 1
    omega
  · subst e
    rw [if_pos rfl]
    unfold prt
    have e1 : max 0 (min (v + 1) (cAt t.bs j).up - pre t.bs j) = max 0 (min v (cAt t.bs j).up - pre t.bs j) + 1 := by omega
    rw [e1, Int.mul_add, Int.mul_one]
  · have := g.mono (i := i + 1) (j := j) (by omega) (by omega)
    have : (cAt t.bs i).up ≤ pre t.bs j := this
    rw [if_neg (by omega), Int.add_zero]
    unfold prt
    congr 1
    omega
theorem sumTo_next {t : Ta} (g : Good t) {v : Int} {i : Nat} (h : NX t v i) : ∀ {k : Nat}, k ≤ t.bs.length → sumTo t (v + 1) k = sumTo t v k + (if i < k then (cAt t.bs i).pr else 0)
  | 0, _ => by simp [sumTo]
  | k + 1, hk => by
    have h1 := sumTo_next g h (k := k) (by omega)
    have h2 := prt_next g h (j := k) (by omega)
    show sumTo t (v + 1) k + prt t (v + 1) k = sumTo t v k + prt t v k + _
    rw [h1, h2]
    rcases Nat.lt_trichotomy i k with e | e | e
    · rw [if_pos e, if_neg (by omega), if_pos (by omega)]; omega
    · subst e; rw [if_neg (by omega), if_pos rfl, if_pos (by omega)]; omega
    · rw [if_neg (by omega), if_neg (by omega), if_neg (by omega)]; omega
theorem cost_next {t : Ta} (g : Good t) {v : Int} {i : Nat} (h : NX t v i) : cost t (v + 1) = cost t v + (cAt t.bs i).pr := by
  unfold cost
  rw [sumTo_next g h (Nat.le_refl _), if_pos h.1]
/-- The next block begins where this one ends, and at no other volume. -/
theorem NX.step {t : Ta} (g : Good t) {v : Int} {i : Nat} (h : NX t v i) (h9 : v + 1 < 100000) : NX t (v + 1) (if (cAt t.bs i).up < v + 2 then i + 1 else i) := by
  obtain ⟨a1, a2, a3⟩ := h
  by_cases e : (cAt t.bs i).up < v + 2
  · rw [if_pos e]
    have e2 : (cAt t.bs i).up = v + 1 := by omega
    have hl : i + 1 < t.bs.length := by
      by_cases hl : i + 1 < t.bs.length
      · exact hl
      · have e3 : i + 1 = t.bs.length := by omega
        have := g.2.2.2
        rw [← e3] at this
        have : (cAt t.bs i).up = 100000 := this
        omega
    obtain ⟨⟨h0, h1, h2⟩, _⟩ := g.at_ hl
    have h0' : (cAt t.bs i).up < (cAt t.bs (i + 1)).up := h0
    exact ⟨hl, by omega, by show (cAt t.bs i).up ≤ _; omega⟩
  · rw [if_neg e]
    exact ⟨a1, by omega, by omega⟩

/-! ### The volume for an amount -/
def VF (t : Ta) (c v : Int) : Prop := (0 ≤ v ∧ v ≤ 100000) ∧ cost t v ≤ c ∧ (v < 100000 → c < cost t (v + 1))
theorem VF.uniq {t : Ta} (g : Good t) {c v v2 : Int} (h : VF t c v) (h2 : VF t c v2) : v = v2 := by
  obtain ⟨⟨a0, a1⟩, a2, a3⟩ := h
  obtain ⟨⟨b0, b1⟩, b2, b3⟩ := h2
  rcases Int.lt_trichotomy v v2 with e | e | e
  · have h1 := a3 (by omega)
    have h2 := cost_mono g (v := v + 1) (v2 := v2) (by omega)
    omega
  · exact e
  · have h1 := b3 (by omega)
    have h2 := cost_mono g (v := v2 + 1) (v2 := v) (by omega)
    omega
theorem vf_ex {t : Ta} (g : Good t) {c : Int} (h0 : t.fee ≤ c) : ∃ v, VF t c v := by
  have key : ∀ n : Nat, n ≤ 100000 → cost t (n : Int) ≤ c ∨ ∃ v, VF t c v := by
    intro n
    induction n with
    | zero => intro _; exact .inl (by have := cost_zero g; simpa [this] using h0)
    | succ n ih =>
      intro hn
      rcases ih (by omega) with h | h
      · by_cases e : cost t ((n : Int) + 1) ≤ c
        · exact .inl (by simpa using e)
        · exact .inr ⟨n, ⟨by omega, by omega⟩, h, fun _ => by omega⟩
      · exact .inr h
  rcases key 100000 (Nat.le_refl _) with h | h
  · exact ⟨100000, ⟨by omega, by omega⟩, h, fun h => absurd h (by omega)⟩
  · exact h

/-! ### From where a tariff is cheaper -/
def gap (a b : Ta) (v : Int) : Int := cost a v - cost b v
/-- b is cheaper than a from the volume n on, counted from 0. -/
def CF (a b : Ta) (n : Nat) : Prop := n ≤ 100000 ∧ 0 < gap a b n ∧ ∀ m : Nat, m < n → gap a b m ≤ 0
theorem CF.uniq {a b : Ta} {n m : Nat} (h : CF a b n) (h2 : CF a b m) : n = m := by
  rcases Nat.lt_trichotomy n m with e | e | e
  · have h1 := h2.2.2 n e; have h3 := h.2.1; omega
  · exact e
  · have h1 := h.2.2 m e; have h3 := h2.2.1; omega
/-- A volume at which a block of one of the tariffs ends, or 0. -/
def End (a b : Ta) (v : Int) : Prop := v = 0 ∨ (∃ i, i < a.bs.length ∧ v = (cAt a.bs i).up) ∨ ∃ i, i < b.bs.length ∧ v = (cAt b.bs i).up
def slope (a b : Ta) (v : Int) : Int := gap a b (v + 1) - gap a b v
theorem slope_same {a b : Ta} (ga : Good a) (gb : Good b) {v : Int} (h0 : 0 ≤ v) (h9 : v + 1 < 100000) (he : ¬ End a b (v + 1)) : slope a b (v + 1) = slope a b v := by
  obtain ⟨i, hi⟩ := nx_ex ga h0 (by omega)
  obtain ⟨j, hj⟩ := nx_ex gb h0 (by omega)
  have hi2 : NX a (v + 1) i := by
    refine ⟨hi.1, ?_, by have := hi.2.2; omega⟩
    have h1 := hi.2.1
    by_cases e : v + 1 = (cAt a.bs i).up
    · exact absurd (.inr (.inl ⟨i, hi.1, e⟩)) he
    · omega
  have hj2 : NX b (v + 1) j := by
    refine ⟨hj.1, ?_, by have := hj.2.2; omega⟩
    have h1 := hj.2.1
    by_cases e : v + 1 = (cAt b.bs j).up
    · exact absurd (.inr (.inr ⟨j, hj.1, e⟩)) he
    · omega
  unfold slope gap
  rw [cost_next ga hi2, cost_next gb hj2, cost_next ga hi, cost_next gb hj]
  omega
theorem slope_line {a b : Ta} (ga : Good a) (gb : Good b) {e : Int} (h9 : e ≤ 100000) (hE : ∀ u, End a b u → u < e → gap a b u ≤ 0) :
    ∀ v : Nat, (v : Int) < e → ∃ u : Int, u ≤ v ∧ gap a b u ≤ 0 ∧ gap a b v = gap a b u + slope a b v * (v - u)
  | 0, h => ⟨0, Int.le_refl _, hE 0 (.inl rfl) h, by simp⟩
  | v + 1, h => by
    obtain ⟨u, hu, hg, hl⟩ := slope_line ga gb h9 hE v (by omega)
    by_cases he : End a b ((v : Int) + 1)
    · exact ⟨(v : Int) + 1, by omega, hE _ he (by omega), by simp⟩
    · refine ⟨u, by omega, hg, ?_⟩
      have hs := slope_same ga gb (v := v) (by omega) (by omega) he
      have hd : gap a b ((v : Int) + 1) = gap a b v + slope a b v := by unfold slope; omega
      have e1 : (((v + 1 : Nat) : Int)) = (v : Int) + 1 := by omega
      rw [e1, hs, hd, hl]
      have e2 : (v : Int) + 1 - u = ((v : Int) - u) + 1 := by omega
      rw [e2, Int.mul_add, Int.mul_one]
      omega
/-- Before the first end at which b is cheaper it stays cheaper once it is. -/
theorem gap_stays {a b : Ta} (ga : Good a) (gb : Good b) {e : Int} (h9 : e ≤ 100000) (hE : ∀ u, End a b u → u < e → gap a b u ≤ 0) {v : Nat} (hv : (v : Int) < e) (h : 0 < gap a b v) : 0 < gap a b ((v : Int) + 1) := by
  obtain ⟨u, hu, hg, hl⟩ := slope_line ga gb h9 hE v hv
  have hd : gap a b ((v : Int) + 1) = gap a b v + slope a b v := by unfold slope; omega
  have h1 : 0 < slope a b v * (v - u) := by omega
  have h2 : 0 < slope a b v := by
    rcases Int.lt_trichotomy 0 (slope a b v) with e | e | e
    · exact e
    · rw [← e, Int.zero_mul] at h1; omega
    · have := Int.mul_le_mul_of_nonneg_right (Int.le_of_lt e) (show 0 ≤ (v : Int) - u by omega)
      rw [Int.zero_mul] at this; omega
  omega
theorem gap_stays_to {a b : Ta} (ga : Good a) (gb : Good b) {e : Int} (h9 : e ≤ 100000) (hE : ∀ u, End a b u → u < e → gap a b u ≤ 0) {v m : Nat} (hm : v ≤ m) (h : 0 < gap a b v) : (m : Int) ≤ e → 0 < gap a b m := by
  induction hm with
  | refl => intro _; exact h
  | @step m hm ih =>
    intro he
    have e1 : ((m.succ : Nat) : Int) = (m : Int) + 1 := by omega
    rw [e1]
    exact gap_stays ga gb h9 hE (by omega) (ih (by omega))
/-- If b is cheaper at no end, it is cheaper nowhere. -/
theorem gap_none {a b : Ta} (ga : Good a) (gb : Good b) (hE : ∀ u, End a b u → gap a b u ≤ 0) {v : Nat} (hv : v ≤ 100000) : gap a b v ≤ 0 := by
  by_cases h : 0 < gap a b v
  · have h1 := gap_stays_to ga gb (e := 100000) (Int.le_refl _) (fun u hu _ => hE u hu) hv h (by omega)
    have hl := ga.2.1
    have h2 := hE 100000 (.inr (.inl ⟨a.bs.length - 1, by omega, by
      have := ga.2.2.2
      rw [show a.bs.length = (a.bs.length - 1) + 1 by omega] at this
      exact this.symm⟩))
    have e : ((100000 : Nat) : Int) = 100000 := rfl
    rw [e] at h1
    omega
  · omega
theorem cf_no {a b : Ta} (ga : Good a) (gb : Good b) (hE : ∀ u, End a b u → gap a b u ≤ 0) : ∀ n, ¬ CF a b n := fun n h => by
  have h1 := gap_none ga gb hE h.1
  have h2 := h.2.1
  omega
end Go.Proofs.Ytidlpoambmeiiaa.P14
