/- TreeFlows and DownstreamNodes of the model: contracts. Conditions: each theorem's own premises. -/
import Derived.Test.YtikppgbipdflbabReachOne
import Derived.Test.YtikppgbipdflbabAm
import Derived.Test.YtikppgbipdflbabAmN
import Derived.Test.YtikppgbipdflbabFindOne
import Derived.Test.YtikppgbipdflbabAmB
import Derived.Deep.DeepCutAuto
import Derived.Test.YtikppgbipdflbabReachTwo
import Derived.Test.YtikppgbipdflbabSpPl
import Derived.Test.YtikppgbipdflbabWoA
import Derived.Test.YtikppgbipdflbabReachThree
import Derived.Test.YtikppgbipdflbabNetKit
namespace Go.Proofs.Ytikppgbipdflbab.S2
open Go.RowKit P2

/-- One pipe changes the distance by one at most. -/
theorem dist_step {ps : List Pp} {t a b : Int} (ha : Adj ps a b) (hd : dist ps t b ≠ -1) : dist ps t a ≠ -1 ∧ dist ps t a ≤ dist ps t b + 1 := by
  rcases dist_is ps t b with ⟨h1, _⟩ | ⟨k, h1, h2, _⟩
  · exact absurd h1 hd
  · have hp : Path ps (k + 1) a t := ⟨b, ha, h2⟩
    refine ⟨dist_conn.2 ⟨_, hp⟩, ?_⟩
    rcases dist_is ps t a with ⟨g1, _⟩ | ⟨j, g1, _, g3⟩
    · omega
    · have := g3 _ hp; omega
theorem dist_pre {ps : List Pp} {t v : Int} {k : Nat} (h : dist ps t v = (k + 1 : Nat)) : ∃ c, Adj ps v c ∧ dist ps t c = k := by
  rcases dist_is ps t v with ⟨h1, _⟩ | ⟨m, h1, h2, h3⟩
  · omega
  · have e : m = k + 1 := by omega
    subst e
    obtain ⟨c, ha, hp⟩ := h2
    refine ⟨c, ha, isD_one (dist_is ps t c) (.inr ⟨k, rfl, hp, fun j hj => ?_⟩)⟩
    have := h3 (j + 1) ⟨c, ha, hj⟩
    omega
theorem dist_lo (ps : List Pp) (t v : Int) : -1 ≤ dist ps t v := by
  rcases dist_is ps t v with ⟨h1, _⟩ | ⟨m, h1, _, _⟩ <;> omega
theorem dist_zero {ps : List Pp} {t v : Int} (h : dist ps t v = 0) : v = t := by
  rcases dist_is ps t v with ⟨h1, _⟩ | ⟨m, h1, h2, _⟩
  · omega
  · have e : m = 0 := by omega
    subst e
    exact h2
theorem adj_in {n : Nat} {ps : List Pp} (hg : P2.Good n ps) {a b : Int} (h : Adj ps a b) : (1 ≤ a ∧ a ≤ n) ∧ 1 ≤ b ∧ b ≤ n := by
  obtain ⟨p, hp, hj⟩ := h
  have hok := good_pp hg hp
  unfold PpOk at hok
  rcases hj with ⟨h1, h2⟩ | ⟨h1, h2⟩ <;> omega

theorem countP_two (l : List Nat) (r p q : Nat → Bool) (h : ∀ x, r x = (p x || q x)) (hd : ∀ x, ¬ (p x = true ∧ q x = true)) : l.countP r = l.countP p + l.countP q := by
  induction l with
  | nil => rfl
  | cons x l ih =>
    rw [List.countP_cons, List.countP_cons, List.countP_cons, ih, h x]
    have := hd x
    cases hp : p x <;> cases hq : q x <;> simp_all <;> omega
/-- No distance is greater than the number of nodes. -/
theorem dist_le {n : Nat} {ps : List Pp} (hg : P2.Good n ps) {t : Int} (v : Nat) (hv : v ≤ n) : dist ps t v ≤ n := by
  have lev : ∀ (k : Nat) (v : Nat), v ≤ n → dist ps t v = k → k + 1 ≤ (List.range (n + 1)).countP (fun u => decide (0 ≤ dist ps t (u : Nat) ∧ dist ps t (u : Nat) < (k : Int) + 1)) := by
    intro k
    induction k with
    | zero =>
      intro v hv h
      exact List.countP_pos_iff.2 ⟨v, List.mem_range.2 (by omega), by simp; omega⟩
    | succ k ih =>
      intro v hv h
      obtain ⟨c, ha, hc⟩ := dist_pre h
      have hci := (adj_in hg ha).2
      obtain ⟨m, rfl⟩ : ∃ m : Nat, c = m := ⟨c.toNat, by omega⟩
      have h1 := ih m (by omega) hc
      have h2 := countP_two (List.range (n + 1)) (fun u => decide (0 ≤ dist ps t (u : Nat) ∧ dist ps t (u : Nat) < ((k + 1 : Nat) : Int) + 1)) (fun u => decide (0 ≤ dist ps t (u : Nat) ∧ dist ps t (u : Nat) < (k : Int) + 1)) (fun u => decide (dist ps t (u : Nat) = (k : Int) + 1)) (fun x => by
        rw [← Bool.decide_or]
        refine decide_eq_decide.2 ?_
        have := dist_lo ps t (x : Nat)
        omega) (fun x hx => by
          obtain ⟨a, b⟩ := hx
          have a := of_decide_eq_true a
          have b := of_decide_eq_true b
          omega)
      have h3 : 0 < (List.range (n + 1)).countP (fun u => decide (dist ps t (u : Nat) = (k : Int) + 1)) :=
        List.countP_pos_iff.2 ⟨v, List.mem_range.2 (by omega), by simp; omega⟩
      omega
  rcases dist_is ps t v with ⟨h1, _⟩ | ⟨k, h1, _, _⟩
  · omega
  · have h2 := lev k v hv h1
    have h3 : (List.range (n + 1)).countP (fun u => decide (0 ≤ dist ps t (u : Nat) ∧ dist ps t (u : Nat) < (k : Int) + 1)) ≤ n + 1 := by
      have := List.countP_le_length (p := fun u : Nat => decide (0 ≤ dist ps t (u : Nat) ∧ dist ps t (u : Nat) < (k : Int) + 1)) (l := List.range (n + 1))
      simpa using this
    omega

/-! ### The way -/
noncomputable def nearB (ps : List Pp) (t h : Int) (p : Pp) : Bool := decide (dist ps t (oth p h) < dist ps t h)
noncomputable def wayL (ps : List Pp) (t : Int) : Nat → Nat → List Int
  | 0, _ => []
  | k + 1, h => match (rowOf ps h).find? (nearB ps t h) with
    | none => []
    | some p => p.id :: wayL ps t k (oth p h).toNat
theorem wayL_len (ps : List Pp) (t : Int) : ∀ (k h : Nat), (wayL ps t k h).length ≤ k
  | 0, _ => Nat.le_refl _
  | k + 1, h => by
    unfold wayL
    split
    · simp
    · simp only [List.length_cons]; have := wayL_len ps t k (oth (by assumption) h).toNat; omega
theorem find_at {α : Type} [Inhabited α] (q : α → Bool) : ∀ (l : List α) (j : Nat) (d : α), j < l.length → (∀ i, i < j → q (l.getD i d) = false) → q (l.getD j d) = true → l.find? q = some (l.getD j d)
  | [], j, d, h, _, _ => by simp at h
  | x :: l, 0, d, _, _, h2 => by
    have e : (x :: l).getD 0 d = x := rfl
    rw [e] at h2 ⊢
    simp [h2]
  | x :: l, j + 1, d, h, h1, h2 => by
    have h0 : q x = false := h1 0 (by omega)
    have e : (x :: l).getD (j + 1) d = l.getD j d := by simp [List.getD]
    rw [e] at h2 ⊢
    rw [List.find?_cons, h0]
    exact find_at q l j d (by simpa using h) (fun i hi => by
      have := h1 (i + 1) (by omega)
      have e2 : (x :: l).getD (i + 1) d = l.getD i d := by simp [List.getD]
      rwa [e2] at this) h2
instance : Inhabited Pp := ⟨⟨0, 0, 0, 0⟩⟩
theorem way_row {ps : List Pp} {t : Int} {h k j : Nat} {u : Nat} (hj : j < (rowOf ps h).length) (h1 : ∀ i, i < j → nearB ps t h (pAt (rowOf ps h) i) = false) (h2 : nearB ps t h (pAt (rowOf ps h) j) = true) (hu : oth (pAt (rowOf ps h) j) h = u) :
    wayL ps t (k + 1) h = (pAt (rowOf ps h) j).id :: wayL ps t k u := by
  have e := find_at (nearB ps t h) (rowOf ps h) j ⟨0, 0, 0, 0⟩ hj h1 h2
  have e2 : (rowOf ps h).getD j ⟨0, 0, 0, 0⟩ = pAt (rowOf ps h) j := rfl
  rw [e2] at e
  have e3 : wayL ps t (k + 1) h = match (rowOf ps h).find? (nearB ps t h) with
    | none => []
    | some p => p.id :: wayL ps t k (oth p h).toNat := rfl
  rw [e3, e]
  show _ :: wayL ps t k (oth (pAt (rowOf ps h) j) h).toNat = _
  rw [hu]
  rfl
theorem way_all {ps : List Pp} {t : Int} {h k j : Nat} {u : Nat} (hj : j < ps.length) (h1 : ∀ i, i < j → (touchB h (pAt ps i) && nearB ps t h (pAt ps i)) = false) (h2 : (touchB h (pAt ps j) && nearB ps t h (pAt ps j)) = true) (hu : oth (pAt ps j) h = u) :
    wayL ps t (k + 1) h = (pAt ps j).id :: wayL ps t k u := by
  have e := find_at (fun p => touchB h p && nearB ps t h p) ps j ⟨0, 0, 0, 0⟩ hj h1 h2
  have e2 : ps.getD j ⟨0, 0, 0, 0⟩ = pAt ps j := rfl
  rw [e2] at e
  have e4 : (rowOf ps h).find? (nearB ps t h) = ps.find? (fun p => touchB h p && nearB ps t h p) := by
    unfold rowOf
    rw [List.find?_filter]
    congr 1
    funext a
    simp [Bool.decide_and]
  have e3 : wayL ps t (k + 1) h = match (rowOf ps h).find? (nearB ps t h) with
    | none => []
    | some p => p.id :: wayL ps t k (oth p h).toNat := rfl
  rw [e3, e4, e]
  show _ :: wayL ps t k (oth (pAt ps j) h).toNat = _
  rw [hu]
  rfl
theorem near_iff {ps : List Pp} {t : Int} {h k : Nat} {p : Pp} (hd : dist ps t h = (k + 1 : Nat)) (hp : p ∈ ps) (ht : p.fr = (h : Int) ∨ p.to = (h : Int)) : nearB ps t h p = true ↔ dist ps t (oth p h) = k := by
  have ha : Adj ps h (oth p h) := ⟨p, hp, oth_jn ht⟩
  have h1 := dist_step (t := t) ha.symm (by omega)
  have h2 := dist_step (t := t) ha h1.1
  unfold nearB
  rw [decide_eq_true_iff]
  have := dist_lo ps t (oth p h)
  omega
theorem near_ex {n : Nat} {ps : List Pp} (hg : P2.Good n ps) {t : Int} {h k : Nat} (hd : dist ps t h = (k + 1 : Nat)) : ∃ p, p ∈ ps ∧ (p.fr = (h : Int) ∨ p.to = (h : Int)) ∧ nearB ps t h p = true := by
  obtain ⟨c, ha, hc⟩ := dist_pre hd
  obtain ⟨p, hp, hj⟩ := ha
  obtain ⟨ho, ht⟩ := jn_oth (good_pp hg hp) hj
  exact ⟨p, hp, ht, (near_iff hd hp ht).2 (by rw [ho]; exact hc)⟩
theorem near_row {n : Nat} {ps : List Pp} (hg : P2.Good n ps) {t : Int} {h k : Nat} (hd : dist ps t h = (k + 1 : Nat)) : ¬ ∀ i, i < (rowOf ps h).length → nearB ps t h (pAt (rowOf ps h) i) = false := by
  intro hn
  obtain ⟨p, hp, ht, hnr⟩ := near_ex hg hd
  have hm : p ∈ rowOf ps h := List.mem_filter.2 ⟨hp, by simpa [touchB] using ht⟩
  obtain ⟨i, hi⟩ := List.getElem?_of_mem hm
  have hlt : i < (rowOf ps h).length := (List.getElem?_eq_some_iff.1 hi).1
  have e : pAt (rowOf ps h) i = p := by simp [pAt, List.getD, hi]
  have := hn i hlt
  rw [e, hnr] at this
  cases this
theorem near_all {n : Nat} {ps : List Pp} (hg : P2.Good n ps) {t : Int} {h k : Nat} (hd : dist ps t h = (k + 1 : Nat)) : ¬ ∀ i, i < ps.length → (touchB h (pAt ps i) && nearB ps t h (pAt ps i)) = false := by
  intro hn
  obtain ⟨p, hp, ht, hnr⟩ := near_ex hg hd
  obtain ⟨i, hi⟩ := List.getElem?_of_mem hp
  have hlt : i < ps.length := (List.getElem?_eq_some_iff.1 hi).1
  have e : pAt ps i = p := by simp [pAt, List.getD, hi]
  have := hn i hlt
  rw [e, hnr, show touchB h p = true by simpa [touchB] using ht] at this
  cases this

/-! ### Levels -/
/-- In step s of the search by levels: what is told is right; all up to s is told. -/
structure Lv (n : Nat) (ps : List Pp) (t : Int) (s : Nat) (D : List Int) : Prop where
  len : D.length = n + 1
  zero : dA D 0 = -1
  told : ∀ v : Nat, 1 ≤ v → v ≤ n → 0 ≤ dist ps t v → dist ps t v ≤ s → dA D v = dist ps t v
  rest : ∀ v : Nat, 1 ≤ v → v ≤ n → (dist ps t v = -1 ∨ (s : Int) < dist ps t v) → dA D v = -1 ∨ (dA D v = (s : Int) + 1 ∧ dist ps t v = (s : Int) + 1)
def step1 (D : List Int) (a b s : Nat) : List Int := if dA D a = s ∧ dA D b < 0 then D.set b ((s : Int) + 1) else D
theorem step1_yes {D : List Int} {a b s : Nat} (h : dA D a = s ∧ dA D b < 0) : step1 D a b s = D.set b ((s : Int) + 1) := by unfold step1; rw [if_pos h]
theorem step1_no {D : List Int} {a b s : Nat} (h : ¬ (dA D a = s ∧ dA D b < 0)) : step1 D a b s = D := by unfold step1; rw [if_neg h]
theorem step1_len (D : List Int) (a b s : Nat) : (step1 D a b s).length = D.length := by unfold step1; split <;> simp
theorem Lv.step {n : Nat} {ps : List Pp} {t : Int} {s : Nat} {D : List Int} (l : Lv n ps t s D) {a b : Nat} (ha : Adj ps a b) (ha1 : 1 ≤ a) (han : a ≤ n) (hb1 : 1 ≤ b) (hbn : b ≤ n) :
    Lv n ps t s (step1 D a b s) ∧ (∀ v, dA D v ≠ -1 → dA (step1 D a b s) v = dA D v) ∧ (dist ps t a = s → dist ps t b = (s : Int) + 1 → dA (step1 D a b s) b = (s : Int) + 1) := by
  have hbl : b < D.length := by have := l.len; omega
  have lb := dist_lo ps t b
  have la := dist_lo ps t a
  have rb := l.rest b hb1 hbn
  have ra := l.rest a ha1 han
  have tb := l.told b hb1 hbn
  have ta := l.told a ha1 han
  unfold step1
  by_cases hc : dA D a = s ∧ dA D b < 0
  · rw [if_pos hc]
    have hda : dist ps t a = s := by
      by_cases h1 : 0 ≤ dist ps t a ∧ dist ps t a ≤ s
      · have := ta h1.1 h1.2; omega
      · have := ra (by omega); omega
    have hst := dist_step (t := t) ha.symm (by omega)
    have hdb : dist ps t b = (s : Int) + 1 ∧ dA D b = -1 := by
      by_cases h1 : 0 ≤ dist ps t b ∧ dist ps t b ≤ s
      · have := tb h1.1 h1.2; omega
      · have := rb (by omega); omega
    refine ⟨⟨by simpa using l.len, by rw [dA_set_ne _ _ _ _ (by omega)]; exact l.zero, fun v hv1 hvn h0 hs => ?_, fun v hv1 hvn hv => ?_⟩, fun v hv => ?_, fun _ _ => dA_set_same _ _ _ hbl⟩
    · have : v ≠ b := by intro e; subst e; omega
      rw [dA_set_ne _ _ _ _ this]; exact l.told v hv1 hvn h0 hs
    · by_cases e : v = b
      · subst e; rw [dA_set_same _ _ _ hbl]; exact .inr ⟨rfl, hdb.1⟩
      · rw [dA_set_ne _ _ _ _ e]; exact l.rest v hv1 hvn hv
    · have : v ≠ b := by intro e; subst e; exact hv hdb.2
      rw [dA_set_ne _ _ _ _ this]
  · rw [if_neg hc]
    refine ⟨l, fun _ _ => rfl, fun h1 h2 => ?_⟩
    have := ta (by omega) (by omega)
    have := rb (by omega)
    omega
/-- Within a step: the first k pipes have been seen. -/
structure Lk (n : Nat) (ps : List Pp) (t : Int) (s k : Nat) (D : List Int) : Prop where
  lv : Lv n ps t s D
  seen : ∀ i, i < k → i < ps.length → ∀ a b : Nat, Jn (pAt ps i) a b → dist ps t a = s → dist ps t b = (s : Int) + 1 → dA D b = (s : Int) + 1
theorem Lk.start {n : Nat} {ps : List Pp} {t : Int} {s : Nat} {D : List Int} (l : Lv n ps t s D) : Lk n ps t s 0 D := ⟨l, fun i hi => absurd hi (by omega)⟩
theorem Lk.step {n : Nat} {ps : List Pp} {t : Int} {s k : Nat} {D : List Int} (l : Lk n ps t s k D) (hg : P2.Good n ps) (hk : k < ps.length) {a b : Nat} (ha : (pAt ps k).fr = a) (hb : (pAt ps k).to = b) :
    Lk n ps t s (k + 1) (step1 (step1 D a b s) b a s) := by
  have hm : pAt ps k ∈ ps := by
    have e : pAt ps k = ps[k] := by simp [pAt, List.getD, hk]
    rw [e]; exact List.getElem_mem hk
  have hadj : Adj ps a b := ⟨_, hm, .inl ⟨ha, hb⟩⟩
  have hin := adj_in hg hadj
  obtain ⟨l1, m1, p1⟩ := l.lv.step hadj (by omega) (by omega) (by omega) (by omega)
  obtain ⟨l2, m2, p2⟩ := l1.step hadj.symm (by omega) (by omega) (by omega) (by omega)
  refine ⟨l2, fun i hi hr x y hj hx hy => ?_⟩
  by_cases e : i = k
  · subst e
    rcases hj with ⟨h1, h2⟩ | ⟨h1, h2⟩
    · have e1 : a = x := by omega
      have e2 : b = y := by omega
      subst e1; subst e2
      have := p1 hx hy
      rw [m2 _ (by rw [this]; omega)]; exact this
    · have e1 : b = x := by omega
      have e2 : a = y := by omega
      subst e1; subst e2
      exact p2 hx hy
  · have h0 := l.seen i (by omega) hr x y hj hx hy
    have h3 := m1 y (by rw [h0]; omega)
    rw [m2 y (by rw [h3, h0]; omega), h3]
    exact h0
theorem Lk.finish {n : Nat} {ps : List Pp} {t : Int} {s k : Nat} {D : List Int} (l : Lk n ps t s k D) (hg : P2.Good n ps) (hk : ps.length ≤ k) : Lv n ps t (s + 1) D := by
  refine ⟨l.lv.len, l.lv.zero, fun v hv1 hvn h0 hs => ?_, fun v hv1 hvn hv => ?_⟩
  · by_cases h : dist ps t v ≤ s
    · exact l.lv.told v hv1 hvn h0 h
    · have e : dist ps t v = (s + 1 : Nat) := by omega
      obtain ⟨c, ha, hc⟩ := dist_pre e
      have hci := (adj_in hg ha).2
      obtain ⟨m, rfl⟩ : ∃ m : Nat, c = m := ⟨c.toNat, by omega⟩
      obtain ⟨p, hp, hj⟩ := ha
      obtain ⟨i, hi⟩ := List.getElem?_of_mem hp
      have hlt : i < ps.length := (List.getElem?_eq_some_iff.1 hi).1
      have e2 : pAt ps i = p := by simp [pAt, List.getD, hi]
      rw [l.seen i (by omega) hlt m v (by rw [e2]; exact hj.symm) hc (by omega)]
      omega
  · have := l.lv.rest v hv1 hvn (by omega)
    omega
theorem Lv.start (n : Nat) (ps : List Pp) (t : Nat) (h1 : 1 ≤ t) (h2 : t ≤ n) : Lv n ps t 0 ((List.replicate (n + 1) (-1)).set t 0) := by
  have hl : t < (List.replicate (n + 1) (-1 : Int)).length := by simp; omega
  have hr : ∀ v, v ≤ n → dA (List.replicate (n + 1) (-1 : Int)) v = -1 := by
    intro v hv
    have : v < n + 1 := by omega
    simp [dA, List.getD, this]
  refine ⟨by simp, by rw [dA_set_ne _ _ _ _ (by omega)]; exact hr 0 (by omega), fun v hv1 hvn h0 hs => ?_, fun v hv1 hvn hv => ?_⟩
  · have e : dist ps t v = 0 := by omega
    have e2 : v = t := by have := dist_zero e; omega
    subst e2
    rw [dA_set_same _ _ _ hl, e]
  · have e2 : v ≠ t := by intro e; subst e; rw [dist_self] at hv; omega
    rw [dA_set_ne _ _ _ _ e2]
    exact .inl (hr v hvn)
theorem Lv.all {n : Nat} {ps : List Pp} {t : Int} {D : List Int} (l : Lv n ps t n D) (hg : P2.Good n ps) : D = distL n ps t := by
  apply List.ext_getElem
  · rw [l.len]; simp [distL]
  · intro v hv hv2
    have hvN : v ≤ n := by rw [l.len] at hv; omega
    have e : D[v] = dA D v := by simp [dA, List.getD, hv]
    rw [e]
    simp only [distL, List.getElem_map, List.getElem_range]
    by_cases h0 : v = 0
    · rw [if_pos h0, h0]; exact l.zero
    · rw [if_neg h0]
      have hle := dist_le (t := t) hg v hvN
      have hlo := dist_lo ps t v
      by_cases h : 0 ≤ dist ps t v
      · exact l.told v (by omega) hvN h hle
      · have := l.rest v (by omega) hvN (by omega)
        omega
end Go.Proofs.Ytikppgbipdflbab.S2

namespace Go.Proofs.Ytikppgbipdflbab.S2
open Go.RowKit P2

def absI (x : Int) : Int := max x (-x)
theorem absI_nn (x : Int) : 0 ≤ absI x := by unfold absI; omega
theorem absI_le {x b : Int} (h0 : -b ≤ x) (h1 : x ≤ b) : absI x ≤ b := by unfold absI; omega
theorem mul_bd {x y : Int} {a b : Nat} (hx : -(a : Int) ≤ x) (hx2 : x ≤ a) (hy : -(b : Int) ≤ y) (hy2 : y ≤ b) : -((a * b : Nat) : Int) ≤ x * y ∧ x * y ≤ ((a * b : Nat) : Int) := by
  have h := Nat.mul_le_mul (show x.natAbs ≤ a by omega) (show y.natAbs ≤ b by omega)
  rw [← Int.natAbs_mul] at h
  omega
def lossI (p : Pp) (f : Int) : Int := p.sz * f * absI f
theorem loss_in {n : Int} {p : Pp} (hp : PpOk n p) {f : Int} (h0 : -8000 ≤ f) (h1 : f ≤ 8000) : (-72000 ≤ p.sz * f ∧ p.sz * f ≤ 72000) ∧ -576000000 ≤ lossI p f ∧ lossI p f ≤ 576000000 := by
  obtain ⟨_, _, _, _, _, _, _, hs1, hs2⟩ := hp
  have a := mul_bd (x := p.sz) (y := f) (a := 9) (b := 8000) (by omega) (by omega) (by omega) (by omega)
  have hn := absI_nn f
  have hl := absI_le h0 h1
  have b := mul_bd (x := p.sz * f) (y := absI f) (a := 72000) (b := 8000) (by omega) (by omega) (by omega) (by omega)
  unfold lossI
  omega

/-! ### Where a pipe stands -/
noncomputable def plc (ps : List Pp) (x : Int) : Nat := (Classical.choose (find_ex ps x)).toNat
theorem plc_find {ps : List Pp} {x : Int} {i : Nat} (h : FindIs ps x (i : Int)) : plc ps x = i := by
  unfold plc
  rw [find_one (Classical.choose_spec (find_ex ps x)) h]
  exact Int.toNat_natCast i
theorem pp_at {ps : List Pp} {p : Pp} (h : p ∈ ps) : ∃ i, i < ps.length ∧ pAt ps i = p := by
  obtain ⟨i, hi, rfl⟩ := List.getElem_of_mem h
  exact ⟨i, hi, by simp [pAt, List.getD, hi]⟩
theorem pAt_mem {ps : List Pp} {i : Nat} (h : i < ps.length) : pAt ps i ∈ ps := List.mem_of_getElem? (pAt_get ps i h)
/-- A pipe of a valid network is found at its place. -/
theorem plc_at {n : Int} {ps : List Pp} (hg : P2.Good n ps) {i : Nat} (hi : i < ps.length) : plc ps (pAt ps i).id = i ∧ FindIs ps (pAt ps i).id (i : Int) := by
  have h : FindIs ps (pAt ps i).id (i : Int) := .inr ⟨i, hi, rfl, rfl, fun j hj he => by have := good_ids hg j i hj hi; omega⟩
  exact ⟨plc_find h, h⟩

/-! ### Along a way -/
noncomputable def hereA (ps : List Pp) (W : List Int) (s : Int) : Nat → Int
  | 0 => s
  | k + 1 => oth (pAt ps (plc ps (lA W k))) (hereA ps W s k)
noncomputable def turnA (ps : List Pp) (fl W : List Int) (s : Int) (k : Nat) : Int :=
  if (pAt ps (plc ps (lA W k))).fr = hereA ps W s k then lossI (pAt ps (plc ps (lA W k))) (lA fl (plc ps (lA W k))) else -lossI (pAt ps (plc ps (lA W k))) (lA fl (plc ps (lA W k)))
noncomputable def alongA (ps : List Pp) (fl W : List Int) (s : Int) : Int := sumK (turnA ps fl W s) W.length
/-- Each pipe of the way leads on from where one stands. -/
def WayOk (ps : List Pp) (W : List Int) (s : Int) : Prop := W.length ≤ 8 ∧ ∀ k, k < W.length → plc ps (lA W k) < ps.length ∧ FindIs ps (lA W k) (plc ps (lA W k)) ∧ ((pAt ps (plc ps (lA W k))).fr = hereA ps W s k ∨ (pAt ps (plc ps (lA W k))).to = hereA ps W s k)
theorem here_cons (ps : List Pp) (x : Int) (W : List Int) (s : Int) : ∀ k, hereA ps (x :: W) s (k + 1) = hereA ps W (oth (pAt ps (plc ps x)) s) k
  | 0 => rfl
  | k + 1 => by
    show oth (pAt ps (plc ps (lA (x :: W) (k + 1)))) (hereA ps (x :: W) s (k + 1)) = oth (pAt ps (plc ps (lA W k))) (hereA ps W (oth (pAt ps (plc ps x)) s) k)
    rw [here_cons ps x W s k]
    rfl
theorem way_steps {n : Nat} {ps : List Pp} (hg : P2.Good n ps) {t : Int} : ∀ (k h : Nat), dist ps t h = (k : Int) → ∀ i, i < (wayL ps t k h).length → plc ps (lA (wayL ps t k h) i) < ps.length ∧ FindIs ps (lA (wayL ps t k h) i) (plc ps (lA (wayL ps t k h) i)) ∧ ((pAt ps (plc ps (lA (wayL ps t k h) i))).fr = hereA ps (wayL ps t k h) h i ∨ (pAt ps (plc ps (lA (wayL ps t k h) i))).to = hereA ps (wayL ps t k h) h i)
  | 0, _, _, i, hi => by simp [wayL] at hi
  | k + 1, h, hd, i, hi => by
    obtain ⟨j, hj, hjn⟩ : ∃ j, (j < (rowOf ps h).length ∧ nearB ps t h (pAt (rowOf ps h) j) = true) ∧ ∀ m, (m < (rowOf ps h).length ∧ nearB ps t h (pAt (rowOf ps h) m) = true) → j ≤ m := by
      have hx : ∃ j, j < (rowOf ps h).length ∧ nearB ps t h (pAt (rowOf ps h) j) = true := Classical.byContradiction fun hc => near_row hg hd fun i hi => by
        cases he : nearB ps t h (pAt (rowOf ps h) i) with
        | false => rfl
        | true => exact absurd ⟨i, hi, he⟩ hc
      obtain ⟨j, hj⟩ := hx
      exact least_nat _ j hj
    obtain ⟨hm, ht⟩ := row_mem hj.1
    have hp := good_pp hg hm
    have ho := oth_in (x := (h : Int)) hp
    obtain ⟨u, hu⟩ : ∃ u : Nat, oth (pAt (rowOf ps h) j) h = (u : Int) := ⟨(oth (pAt (rowOf ps h) j) h).toNat, by omega⟩
    have hw := way_row (k := k) hj.1 (fun i hi => by
      cases he : nearB ps t h (pAt (rowOf ps h) i) with
      | false => rfl
      | true => have := hjn i ⟨by omega, he⟩; omega) hj.2 hu
    have hdu : dist ps t (u : Int) = (k : Int) := by rw [← hu]; exact (near_iff hd hm ht).1 hj.2
    rw [hw] at hi ⊢
    obtain ⟨q, hq, hqe⟩ := pp_at hm
    rw [← hqe] at hu ht ⊢
    obtain ⟨hpl, hfi⟩ := plc_at hg hq
    match i with
    | 0 =>
      show plc ps (pAt ps q).id < ps.length ∧ FindIs ps (pAt ps q).id (plc ps (pAt ps q).id) ∧ ((pAt ps (plc ps (pAt ps q).id)).fr = (h : Int) ∨ (pAt ps (plc ps (pAt ps q).id)).to = (h : Int))
      rw [hpl]
      exact ⟨hq, hfi, ht⟩
    | i + 1 =>
      rw [here_cons, hpl, hu]
      exact way_steps hg k u hdu i (by simpa using hi)
theorem way_ok {n : Nat} {ps : List Pp} (hg : P2.Good n ps) {t : Int} {k h : Nat} (hh : h ≤ n) (hd : dist ps t h = (k : Int)) : WayOk ps (wayL ps t k h) h := by
  have h1 := wayL_len ps t k h
  have h2 := dist_le (t := t) hg h hh
  have h3 := hg.2.1
  exact ⟨by omega, way_steps hg k h hd⟩
theorem turn_in {n : Int} {ps : List Pp} (hg : P2.Good n ps) {fl W : List Int} {s : Int} (hf : allR (-8000) 8000 fl = true) (hl : fl.length = ps.length) (hw : WayOk ps W s) {k : Nat} (hk : k < W.length) : -576000000 ≤ turnA ps fl W s k ∧ turnA ps fl W s k ≤ 576000000 := by
  have h1 := (hw.2 k hk).1
  have h2 := allR_at hf (i := plc ps (lA W k)) (by omega)
  have h3 := (loss_in (good_pp hg (pAt_mem h1)) h2.1 h2.2).2
  unfold turnA
  split
  · exact h3
  · have e : lA fl (plc ps (lA W k)) = fl.getD (plc ps (lA W k)) 0 := rfl
    rw [e]; omega
theorem along_in {n : Int} {ps : List Pp} (hg : P2.Good n ps) {fl W : List Int} {s : Int} (hf : allR (-8000) 8000 fl = true) (hl : fl.length = ps.length) (hw : WayOk ps W s) {k : Nat} (hk : k ≤ W.length) : -4608000000 ≤ sumK (turnA ps fl W s) k ∧ sumK (turnA ps fl W s) k ≤ 4608000000 := by
  have h1 := sumK_le (f := turnA ps fl W s) (B := 576000000) (by omega) (k := k) (fun i hi => turn_in hg hf hl hw (by omega))
  have h2 : (k : Int) ≤ 8 := by have := hw.1; omega
  have h3 : (576000000 : Int) * k ≤ 576000000 * 8 := Int.mul_le_mul_of_nonneg_left h2 (by omega)
  omega
end Go.Proofs.Ytikppgbipdflbab.S2

namespace Go.Proofs.Ytikppgbipdflbab.S2
open Go.RowKit P2

theorem w64 (x : Int) (h : -9000000000000000000 ≤ x ∧ x ≤ 9000000000000000000) : IntKind.i64.wrap x = x := IntWalk.i64_in _ (by omega)
set_option maxHeartbeats 1000000 in
theorem loss_any {n : Int} {p : Pp} (hp : PpOk n p) {f : Int} (h0 : -8000 ≤ f) (h1 : f ≤ 8000) (w : World) :
    Calls Try.prog 100 #[pv p, .int .i64 f] w fun e w' => e = .returned (.int .i64 (lossI p f)) ∧ Below w.heap.size w w' := by
  obtain ⟨⟨a1, a2⟩, a3, a4⟩ := loss_in hp h0 h1
  have HL := Lib.hid (show lossI p f = p.sz * f * max f (-f) from rfl)
  rw [HL.out] at a3 a4
  have wP : IntKind.i64.wrap (p.sz * f) = p.sz * f := w64 _ (by omega)
  have wQ : IntKind.i64.wrap (p.sz * f * max f (-f)) = p.sz * f * max f (-f) := w64 _ (by omega)
  clear hp
  go_enter Try.func100, Try.ntmps100
  go_wp2
  go_ret
  exact ⟨by rw [HL.out]; rfl, (Below.refl _ _).alloc (Nat.le_refl _) _⟩
theorem smost_any (x y : Int) (w : World) : Calls Try.prog 108 #[.int .i64 x, .int .i64 y] w fun e w' => e = .returned (.int .i64 (max x y)) ∧ w' = w := by
  by_cases hgt : y < x
  · have e : max x y = x := by omega
    rw [e]
    clear e
    go_enter Try.func108, Try.ntmps108
    go_wp2
    go_ret
    exact ⟨rfl, rfl⟩
  · have e : max x y = y := by omega
    rw [e]
    clear e
    go_enter Try.func108, Try.ntmps108
    go_wp2
    go_ret
    exact ⟨rfl, rfl⟩
theorem sabs_any (x : Int) (w : World) (h0 : -1000000000000 ≤ x) (h1 : x ≤ 1000000000000) : Calls Try.prog 121 #[.int .i64 x] w fun e w' => e = .returned (.int .i64 (absI x)) ∧ w' = w := by
  have HM := Lib.hid (fun w => smost_any x (-x) w)
  have HA := Lib.hid (show absI x = max x (-x) from rfl)
  rw [HA.out]
  generalize max x (-x) = a at *
  go_enter Try.func121, Try.ntmps121
  go_wp2_with (go_at_call 108; refine (HM.out _).mono ?_; rintro e w' ⟨rfl, hw⟩; replace hw := hw.symm; subst hw)
  go_ret
  exact ⟨rfl, rfl⟩
set_option maxHeartbeats 1000000 in
theorem sloss_any {n : Int} {p : Pp} (hp : PpOk n p) {f : Int} (h0 : -8000 ≤ f) (h1 : f ≤ 8000) (w : World) :
    Calls Try.prog 122 #[pv p, .int .i64 f] w fun e w' => e = .returned (.int .i64 (lossI p f)) ∧ Below w.heap.size w w' := by
  obtain ⟨⟨a1, a2⟩, a3, a4⟩ := loss_in hp h0 h1
  have HL := Lib.hid (show lossI p f = p.sz * f * absI f from rfl)
  rw [HL.out] at a3 a4
  have wP : IntKind.i64.wrap (p.sz * f) = p.sz * f := w64 _ (by omega)
  have wQ : IntKind.i64.wrap (p.sz * f * absI f) = p.sz * f * absI f := w64 _ (by omega)
  have HC := Lib.hid (fun w' => sabs_any f w' (by omega) (by omega))
  clear hp
  generalize absI f = g at *
  go_enter Try.func122, Try.ntmps122
  go_wp2
  go_quiet ((go_at_call 121; exact Calls.quiet_of_same (HC.out _)))
  go_wp2
  go_ret
  exact ⟨by rw [HL.out]; rfl, below_drewN ((Below.refl _ _).alloc (Nat.le_refl _) _) _⟩

/-! ### LossOf -/
set_option maxHeartbeats 1000000 in
theorem los_bad (n : Int) (A : Option Addr) (cap : Nat) (ps : List Pp) (AD : Option Addr) (dc : Nat) (fl : List Int) (x : Int) (w : World) (h : PAt w A ps) (hm : ps.length ≤ maxLen) (hd : IAt w AD fl) (hdl : fl.length ≤ 1048576) (hv : floB n ps fl = false) :
    Calls Try.prog 25 #[nv n A ps.length cap, .slice AD fl.length dc, .int .i64 x] w fun e w' => e = .returned (.tuple #[.int .i64 0, .bool false]) ∧ Below w.heap.size w w' := by
  have H := Lib.hid (fun w' (hb : Below w.heap.size w w') => flo_v hv A cap AD dc w' (h.kept hb (Nat.le_refl _)) hm (hd.kept hb (Nat.le_refl _)) hdl)
  clear h hd hv
  go_enter Try.func25, Try.ntmps25
  go_wp2_with (go_at_call 99; refine (H.out _ ((Below.refl _ _).alloc (Nat.le_refl _) _)).mono ?_; rintro e w1 ⟨rfl, hb1⟩)
  go_ret2
  exact ⟨rfl, below_alloc_call hb1⟩
set_option maxHeartbeats 1000000 in
theorem los_none (N : Nat) (A : Option Addr) (cap : Nat) (ps : List Pp) (AD : Option Addr) (dc : Nat) (fl : List Int) (x : Int) (w : World) (h : PAt w A ps) (hm : ps.length ≤ maxLen) (hd : IAt w AD fl) (hdl : fl.length ≤ 1048576) (hv : floB N ps fl = true) (hf : FindIs ps x (-1)) :
    Calls Try.prog 25 #[nv N A ps.length cap, .slice AD fl.length dc, .int .i64 x] w fun e w' => e = .returned (.tuple #[.int .i64 0, .bool false]) ∧ Below w.heap.size w w' := by
  have hg := (floB_of hv).1
  have H := Lib.hid (fun w' (hb : Below w.heap.size w w') => flo_v hv A cap AD dc w' (h.kept hb (Nat.le_refl _)) hm (hd.kept hb (Nat.le_refl _)) hdl)
  have H2 := Lib.hid (fun w' (hb : Below w.heap.size w w') => place_any N A cap ps x w' (h.kept hb (Nat.le_refl _)) hg)
  have HP := Lib.hid (fun (i : Nat) (f : Bool) (hp : Place ps x i f) => (show f = false from by
    cases f with
    | false => rfl
    | true => have := ((place_find (good_ids hg) hp hf).1 rfl).1; omega))
  clear h hd hv hf hg
  go_enter Try.func25, Try.ntmps25
  go_wp2_with (first
    | (go_at_call 99; refine (H.out _ ((Below.refl _ _).alloc (Nat.le_refl _) _)).mono ?_; rintro e w1 ⟨rfl, hb1⟩; obtain ⟨hc1, hf1⟩ := bcell hb1; have hz1 := hb1.size; simp at hz1; have hB1 := Lib.hid (below_alloc_call hb1))
    | (go_at_call 89; refine (H2.out _ hB1.out).mono ?_; rintro e w2 ⟨⟨i, f, rfl, hp⟩, hb2⟩; obtain rfl := HP.out i f hp))
  go_ret2
  exact ⟨rfl, hB1.out.trans (hb2.mono hB1.out.size)⟩
set_option maxHeartbeats 2000000 in
set_option maxRecDepth 100000 in
theorem los_yes (N i : Nat) (A : Option Addr) (cap : Nat) (ps : List Pp) (AD : Option Addr) (dc : Nat) (fl : List Int) (x : Int) (w : World) (h : PAt w A ps) (hm : ps.length ≤ maxLen) (hd : IAt w AD fl) (hdl : fl.length ≤ 1048576) (hv : floB N ps fl = true) (hi : i < ps.length) (hf : FindIs ps x i) :
    Calls Try.prog 25 #[nv N A ps.length cap, .slice AD fl.length dc, .int .i64 x] w fun e w' => e = .returned (.tuple #[.int .i64 (lossI (pAt ps i) (lA fl i)), .bool true]) ∧ Below w.heap.size w w' := by
  obtain ⟨hg, hfn, hfr⟩ := floB_of hv
  have H := Lib.hid (fun w' (hb : Below w.heap.size w w') => flo_v hv A cap AD dc w' (h.kept hb (Nat.le_refl _)) hm (hd.kept hb (Nat.le_refl _)) hdl)
  have H2 := Lib.hid (fun w' (hb : Below w.heap.size w w') => place_any N A cap ps x w' (h.kept hb (Nat.le_refl _)) hg)
  have HP := Lib.hid (fun (j : Nat) (f : Bool) (hp : Place ps x j f) => (show f = true ∧ j = i from by
    cases f with
    | false => have := (place_find (good_ids hg) hp hf).2 rfl; omega
    | true => have := ((place_find (good_ids hg) hp hf).1 rfl).1; exact ⟨rfl, by omega⟩))
  have hif : i < fl.length := by omega
  have hfi := allR_at hfr hif
  have HLO := Lib.hid (fun w' => loss_any (good_pp hg (pAt_mem hi)) hfi.1 hfi.2 w')
  obtain ⟨b, off, hA, hbl, p0, p1, p2, p3⟩ := h.at_ hi
  subst hA
  obtain ⟨bb, of2, hA2, hbl2, q0⟩ := hd.at_ hif
  subst hA2
  have hi0 : (0 : Int) ≤ (i : Int) := by omega
  have hin : (i : Int) < (ps.length : Int) := by omega
  have hinf : (i : Int) < (fl.length : Int) := by omega
  have hlA : lA fl i = fl.getD i 0 := rfl
  rw [hlA]
  clear h hd hv hf hg hfr hfn hfi hlA
  generalize lossI (pAt ps i) (fl.getD i 0) = L at *
  generalize pAt ps i = p at *
  generalize fl.getD i 0 = f at *
  go_enter Try.func25, Try.ntmps25
  go_wp2_with (first
    | (go_at_call 99; refine (H.out _ ((Below.refl _ _).alloc (Nat.le_refl _) _)).mono ?_; rintro e w1 ⟨rfl, hb1⟩; obtain ⟨hc1, hf1⟩ := bcell hb1; have hz1 := hb1.size; simp at hz1; have hB1 := Lib.hid (below_alloc_call hb1))
    | (go_at_call 89; refine (H2.out _ hB1.out).mono ?_; rintro e w2 ⟨⟨j, fb, rfl, hp⟩, hb2⟩; obtain ⟨rfl, rfl⟩ := HP.out j fb hp))
  have hBX : Below (w.heap.size + 1) (w.alloc (.cells #[.int .i64 (N : Int), .slice (some ⟨b, off, none⟩) ps.length cap] 26)) w2 := by
    have hx : Below (w.heap.size + 1) (w.alloc (.cells #[.int .i64 (N : Int), .slice (some ⟨b, off, none⟩) ps.length cap] 26)) w1 := by simpa using hb1
    exact on_call hx hb2
  have HB2 := Lib.hid (below_box hBX)
  obtain ⟨z0, z1⟩ := box2 hBX
  have hzz := box_lt hBX
  have hbl' : b < w2.heap.size := by omega
  have hbl2' : bb < w2.heap.size := by omega
  have r0 := (HB2.out.cell (p := ⟨b, off + j * 4, none⟩) hbl).trans p0
  have r1 := (HB2.out.cell (p := ⟨b, off + j * 4 + 1, none⟩) hbl).trans p1
  have r2 := (HB2.out.cell (p := ⟨b, off + j * 4 + 2, none⟩) hbl).trans p2
  have r3 := (HB2.out.cell (p := ⟨b, off + j * 4 + 3, none⟩) hbl).trans p3
  have r4 := (HB2.out.cell (p := ⟨bb, of2 + j, none⟩) hbl2).trans q0
  clear hb1 hc1 hf1 hz1 hB1 H H2 HP hBX hp hb2 p0 p1 p2 p3 q0
  have hG := @cell_g
  refine region_below (by kernel_rfl) (by kernel_rfl) ?_
  repeat (first | go_big_quiet_step ((go_at_call 100; exact met HLO.out)))
  refine wpQuiet_nil ?_
  intro w3 hb3
  go_wp2
  go_ret2
  exact ⟨rfl, HB2.out.trans (hb3.mono HB2.out.size)⟩

/-! ### LossOf of the model -/
end Go.Proofs.Ytikppgbipdflbab.S2

namespace Go.Proofs.Ytikppgbipdflbab.S2
open Go.RowKit P2

theorem cells4 (w : World) (a b c d : Value) (t : TypeId) (k : Nat) (u : Value) (h : [a, b, c, d][k]? = some u) : (w.alloc (.cells #[a, b, c, d] t)).cell? ⟨w.heap.size, k, none⟩ = some u := by
  rw [World.cell?_alloc_at _ _ _ _ rfl]
  simpa using h
theorem alloc_belowE (w : World) (o : Obj) : Below w.heap.size w (w.alloc o) := (Below.refl _ _).alloc (Nat.le_refl _) o
def enT (ps : List Pp) (fl : List Int) (k : Nat) : Int := lossI (pAt ps k) (lA fl k) * lA fl k
def enA (ps : List Pp) (fl : List Int) : Int := sumK (enT ps fl) fl.length
theorem enT_in {n : Int} {ps : List Pp} (hg : P2.Good n ps) {fl : List Int} (hr : allR (-8000) 8000 fl = true) (hl : fl.length = ps.length) {k : Nat} (hk : k < fl.length) : -4608000000000 ≤ enT ps fl k ∧ enT ps fl k ≤ 4608000000000 := by
  have h2 := allR_at hr hk
  have h3 := (loss_in (good_pp hg (pAt_mem (show k < ps.length by omega))) h2.1 h2.2).2
  have h4 := mul_bd (x := lossI (pAt ps k) (lA fl k)) (y := lA fl k) (a := 576000000) (b := 8000) (by unfold lA; omega) (by unfold lA; omega) (by unfold lA; omega) (by unfold lA; omega)
  unfold enT
  omega
theorem enS_in {n : Int} {ps : List Pp} (hg : P2.Good n ps) {fl : List Int} (hr : allR (-8000) 8000 fl = true) (hl : fl.length = ps.length) {k : Nat} (hk : k ≤ fl.length) : -46080000000000 ≤ sumK (enT ps fl) k ∧ sumK (enT ps fl) k ≤ 46080000000000 := by
  have h1 := sumK_le (f := enT ps fl) (B := 4608000000000) (by omega) (k := k) (fun i hi => enT_in hg hr hl (by omega))
  have h2 : (k : Int) ≤ 10 := by have := hg.2.2.1; omega
  have h3 : (4608000000000 : Int) * k ≤ 4608000000000 * 10 := Int.mul_le_mul_of_nonneg_left h2 (by omega)
  omega
theorem amt_self {l : List Int} {a b : Int} : amtB l l.length a b = allR a b l := by simp [amtB]

set_option maxHeartbeats 1000000 in
theorem en_no (n : Int) (A : Option Addr) (cap : Nat) (ps : List Pp) (AD : Option Addr) (dc : Nat) (fl : List Int) (w : World) (h : PAt w A ps) (hm : ps.length ≤ maxLen) (hd : IAt w AD fl) (hdl : fl.length ≤ 1048576) (hv : floB n ps fl = false ∨ allR (-2000) 2000 fl = false) :
    Calls Try.prog 36 #[nv n A ps.length cap, .slice AD fl.length dc] w fun e w' => e = .returned (.tuple #[.int .i64 0, .bool false]) ∧ Below w.heap.size w w' := by
  obtain ⟨v1, hv1⟩ : ∃ v, floB n ps fl = v := ⟨_, rfl⟩
  have H := Lib.hid (fun w' (hb : Below w.heap.size w w') => flo_v hv1 A cap AD dc w' (h.kept hb (Nat.le_refl _)) hm (hd.kept hb (Nat.le_refl _)) hdl)
  cases v1 with
  | false =>
    clear h hd hv hv1
    go_enter Try.func36, Try.ntmps36
    go_wp2_with (go_at_call 99; refine (H.out _ ((Below.refl _ _).alloc (Nat.le_refl _) _)).mono ?_; rintro e w1 ⟨rfl, hb1⟩; have hB1 := Lib.hid (below_alloc_call hb1))
    go_ret2
    exact ⟨rfl, hB1.out⟩
  | true =>
    have hv2 : amtB fl fl.length (-2000) 2000 = false := by
      rw [amt_self]
      rcases hv with h | h
      · exact absurd (h.symm.trans hv1) (by simp)
      · exact h
    have H2 := Lib.hid (fun w' (hb : Below w.heap.size w w') => am_v hv2 AD dc w' (hd.kept hb (Nat.le_refl _)) hdl)
    clear h hd hv hv1 hv2
    go_enter Try.func36, Try.ntmps36
    go_wp2_with (first
      | (go_at_call 99; refine (H.out _ ((Below.refl _ _).alloc (Nat.le_refl _) _)).mono ?_; rintro e w1 ⟨rfl, hb1⟩; obtain ⟨hc1, hf1⟩ := bcell hb1; have hz1 := hb1.size; simp at hz1; have hB1 := Lib.hid (below_alloc_call hb1))
      | (go_at_call 113; refine (H2.out _ hB1.out).mono ?_; rintro e w2 ⟨rfl, hb2⟩; have hB2 := Lib.hid (hB1.out.trans (hb2.mono hB1.out.size))))
    go_ret2
    exact ⟨rfl, hB2.out⟩

set_option maxHeartbeats 2000000 in
set_option maxRecDepth 100000 in
theorem en_yes (n : Int) (A : Option Addr) (cap : Nat) (ps : List Pp) (AD : Option Addr) (dc : Nat) (fl : List Int) (w : World) (h : PAt w A ps) (hm : ps.length ≤ maxLen) (hd : IAt w AD fl) (hdl : fl.length ≤ 1048576) (hv : floB n ps fl = true) (hv2 : allR (-2000) 2000 fl = true) :
    Calls Try.prog 36 #[nv n A ps.length cap, .slice AD fl.length dc] w fun e w' => e = .returned (.tuple #[.int .i64 (enA ps fl), .bool true]) ∧ Below w.heap.size w w' := by
  obtain ⟨hg, hfl, hr⟩ := floB_of hv
  have hl10 := hg.2.2.1
  have H := Lib.hid (fun w' (hb : Below w.heap.size w w') => flo_v hv A cap AD dc w' (h.kept hb (Nat.le_refl _)) hm (hd.kept hb (Nat.le_refl _)) hdl)
  have hv3 : amtB fl fl.length (-2000) 2000 = true := by rw [amt_self]; exact hv2
  have H2 := Lib.hid (fun w' (hb : Below w.heap.size w w') => am_v hv3 AD dc w' (hd.kept hb (Nat.le_refl _)) hdl)
  have HA := Lib.hid (fun w' (hb : Below w.heap.size w w') => h.kept hb (Nat.le_refl _))
  have HI := Lib.hid (fun w' (hb : Below w.heap.size w w') => hd.kept hb (Nat.le_refl _))
  have HE := Lib.hid (fun k (hk : k < fl.length) => allR_at hr hk)
  have HT := Lib.hid (fun k (hk : k < fl.length) => enT_in hg hr hfl hk)
  have HS := Lib.hid (fun k (hk : k ≤ fl.length) => enS_in hg hr hfl hk)
  have HG := Lib.hid (fun k (hk : k < ps.length) => good_pp hg (pAt_mem hk))
  have HL := Lib.hid hfl
  clear h hd hv hr hg hfl hm hdl hv2 hv3
  go_enter Try.func36, Try.ntmps36
  go_wp2_with (first
    | (go_at_call 99; refine (H.out _ ((Below.refl _ _).alloc (Nat.le_refl _) _)).mono ?_; rintro e w1 ⟨rfl, hb1⟩; have HX1 := Lib.hid (show Below (w.heap.size + 1) (w.alloc (nb n A ps.length cap)) w1 by simpa using hb1); obtain ⟨b0, b1⟩ := box2 HX1.out; have hy1 := box_lt HX1.out; clear hb1)
    | (go_at_call 113; refine (H2.out _ (below_box HX1.out)).mono ?_; rintro e w2 ⟨rfl, hb2⟩; have HX2 := Lib.hid (on_call HX1.out hb2); clear b0 b1; obtain ⟨b0, b1⟩ := box2 HX2.out; have hy2 := box_lt HX2.out; clear hb2))
  have hB := Lib.hid (below_box HX2.out)
  clear H H2 HX1 HX2 b0 b1
  go_loopw [6, 23] (fun a i wr => ∃ (k : Nat), k ≤ ps.length ∧ i = .int .i64 (k : Int) ∧ a = .int .i64 (sumK (enT ps fl) k) ∧ Hid (Below w.heap.size w wr)) (fun _ i _ => ps.length - (intOf i).toNat)
  case atStart => exact ⟨0, Nat.zero_le _, rfl, rfl, hB⟩
  case round =>
    clear hB hy1 hy2
    obtain ⟨k, hk, rfl, rfl, hB⟩ := hrel
    have hs := HS.out k (by rw [HL.out]; exact hk)
    by_cases hlt : k < ps.length
    · obtain ⟨b, off, hA, hbl, p0, p1, p2, p3⟩ := (HA.out _ hB.out).at_ hlt
      subst hA
      have hkf : k < fl.length := by rw [HL.out]; exact hlt
      obtain ⟨bb, of2, hA2, hbl2, q0⟩ := (HI.out _ hB.out).at_ hkf
      subst hA2
      have hk0 : (0 : Int) ≤ (k : Int) := by omega
      have hkn : (k : Int) < (ps.length : Int) := by omega
      have hknf : (k : Int) < (fl.length : Int) := by omega
      have hy := HE.out k hkf
      have ht := HT.out k hkf
      have HLO := Lib.hid (fun w' => loss_any (HG.out k hlt) hy.1 hy.2 w')
      have hsn : sumK (enT ps fl) (k + 1) = sumK (enT ps fl) k + lossI (pAt ps k) (fl.getD k 0) * fl.getD k 0 := rfl
      have ht2 : -4608000000000 ≤ lossI (pAt ps k) (fl.getD k 0) * fl.getD k 0 ∧ lossI (pAt ps k) (fl.getD k 0) * fl.getD k 0 ≤ 4608000000000 := ht
      have HSN := Lib.hid hsn
      clear ht hsn hy
      generalize lossI (pAt ps k) (fl.getD k 0) = L at *
      generalize fl.getD k 0 = f at *
      generalize pAt ps k = p at *
      generalize sumK (enT ps fl) k = s at *
      have wP : IntKind.i64.wrap (L * f) = L * f := w64 _ (by omega)
      have wS : IntKind.i64.wrap (s + L * f) = s + L * f := w64 _ (by omega)
      have hBn := Lib.hid (hB.out.alloc hB.out.size (.cells #[.int .i64 p.id, .int .i64 p.fr, .int .i64 p.to, .int .i64 p.sz] 40))
      have q1 := ((alloc_belowE wr (.cells #[.int .i64 p.id, .int .i64 p.fr, .int .i64 p.to, .int .i64 p.sz] 40)).cell (p := ⟨bb, of2 + k, none⟩) hbl2).trans q0
      have d0 := cells4 wr (.int .i64 p.id) (.int .i64 p.fr) (.int .i64 p.to) (.int .i64 p.sz) 40 0 _ rfl
      have d1 := cells4 wr (.int .i64 p.id) (.int .i64 p.fr) (.int .i64 p.to) (.int .i64 p.sz) 40 1 _ rfl
      have d2 := cells4 wr (.int .i64 p.id) (.int .i64 p.fr) (.int .i64 p.to) (.int .i64 p.sz) 40 2 _ rfl
      have d3 := cells4 wr (.int .i64 p.id) (.int .i64 p.fr) (.int .i64 p.to) (.int .i64 p.sz) 40 3 _ rfl
      have hzz : wr.heap.size < (wr.alloc (.cells #[.int .i64 p.id, .int .i64 p.fr, .int .i64 p.to, .int .i64 p.sz] 40)).heap.size := by simp
      have hbl2' : bb < (wr.alloc (.cells #[.int .i64 p.id, .int .i64 p.fr, .int .i64 p.to, .int .i64 p.sz] 40)).heap.size := by omega
      go_wp2
      generalize wr.alloc (.cells #[.int .i64 p.id, .int .i64 p.fr, .int .i64 p.to, .int .i64 p.sz] 40) = wa at *
      clear p0 p1 p2 p3 q0
      have hG := @cell_g
      refine region_below (by kernel_rfl) (by kernel_rfl) ?_
      repeat (first | go_big_quiet_step ((go_at_call 100; exact met HLO.out)))
      refine wpQuiet_nil ?_
      intro w3 hb3
      go_wp2
      go_roundw
      case rel => exact ⟨k + 1, by omega, by go_num, by rw [HSN.out], Lib.hid (hBn.out.trans (hb3.mono hBn.out.size))⟩
      case measure => simp [intOf]; omega
    · have hkk : k = fl.length := by rw [HL.out]; omega
      have HF := Lib.hid (show sumK (enT ps fl) k = enA ps fl by rw [hkk]; rfl)
      clear hkk
      go_wp2
      go_ret2
      exact ⟨by rw [← HF.out]; rfl, hB.out⟩

/-! ### The model -/
set_option maxHeartbeats 2000000 in
set_option maxRecDepth 100000 in
theorem sen_sum (n : Int) (A : Option Addr) (cap : Nat) (ps : List Pp) (AD : Option Addr) (dc : Nat) (fl : List Int) (w : World) (h : PAt w A ps) (hd : IAt w AD fl) (hv : floB n ps fl = true) :
    Calls Try.prog 116 #[nv n A ps.length cap, .slice AD fl.length dc] w fun e w' => e = .returned (.int .i64 (enA ps fl)) ∧ Below w.heap.size w w' := by
  obtain ⟨hg, hfl, hr⟩ := floB_of hv
  have hl10 := hg.2.2.1
  have HA := Lib.hid (fun w' (hb : Below w.heap.size w w') => h.kept hb (Nat.le_refl _))
  have HI := Lib.hid (fun w' (hb : Below w.heap.size w w') => hd.kept hb (Nat.le_refl _))
  have HE := Lib.hid (fun k (hk : k < fl.length) => allR_at hr hk)
  have HT := Lib.hid (fun k (hk : k < fl.length) => enT_in hg hr hfl hk)
  have HS := Lib.hid (fun k (hk : k ≤ fl.length) => enS_in hg hr hfl hk)
  have HG := Lib.hid (fun k (hk : k < ps.length) => good_pp hg (pAt_mem hk))
  have HL := Lib.hid hfl
  have hps0 : fl.length ≤ 10 := by omega
  have hBX := (Below.refl (w.heap.size + 1) (w.alloc (nb n A ps.length cap)))
  clear h hd hv hr hg hfl
  go_enter Try.func116, Try.ntmps116
  go_wp2
  go_loopw [5, 6] (fun a i wr => ∃ (k : Nat), k ≤ fl.length ∧ i = .int .i64 (k : Int) ∧ a = .int .i64 (sumK (enT ps fl) k) ∧ Below (w.heap.size + 1) (w.alloc (nb n A ps.length cap)) wr) (fun _ i _ => fl.length - (intOf i).toNat)
  case atStart => exact ⟨0, Nat.zero_le _, rfl, rfl, hBX⟩
  case round =>
    clear hBX
    obtain ⟨k, hk, rfl, rfl, hb⟩ := hrel
    obtain ⟨c0, c1⟩ := box2 hb
    have hz2 := box_lt hb
    have hB := Lib.hid (below_box hb)
    have hs := HS.out k hk
    by_cases hlt : k < fl.length
    · have hkp : k < ps.length := by rw [← HL.out]; exact hlt
      obtain ⟨b, off, hA, hbl, p0, p1, p2, p3⟩ := (HA.out _ hB.out).at_ hkp
      subst hA
      obtain ⟨bb, of2, hA2, hbl2, q0⟩ := (HI.out _ hB.out).at_ hlt
      subst hA2
      have hk0 : (0 : Int) ≤ (k : Int) := by omega
      have hkn : (k : Int) < (fl.length : Int) := by omega
      have hknp : (k : Int) < (ps.length : Int) := by omega
      have hy := HE.out k hlt
      have hp := HG.out k hkp
      have hli := loss_in hp hy.1 hy.2
      have ht := HT.out k hlt
      have HC := Lib.hid (fun w' => sabs_any (fl.getD k 0) w' (by omega) (by omega))
      have ha0 := absI_nn (fl.getD k 0)
      have ha1 := absI_le hy.1 hy.2
      have e1 : (pAt ps k).sz * absI (fl.getD k 0) * fl.getD k 0 = lossI (pAt ps k) (fl.getD k 0) := by unfold lossI; rw [Int.mul_right_comm]
      have hm1 := mul_bd (x := (pAt ps k).sz) (y := absI (fl.getD k 0)) (a := 9) (b := 8000) (by have := hp.2.2.2.2.2.2.2; omega) (by have := hp.2.2.2.2.2.2.2; omega) (by omega) (by omega)
      have hsn : sumK (enT ps fl) (k + 1) = sumK (enT ps fl) k + lossI (pAt ps k) (fl.getD k 0) * fl.getD k 0 := rfl
      have ht2 : -4608000000000 ≤ lossI (pAt ps k) (fl.getD k 0) * fl.getD k 0 ∧ lossI (pAt ps k) (fl.getD k 0) * fl.getD k 0 ≤ 4608000000000 := ht
      have hli2 := hli.2
      rw [← e1] at hsn ht2 hli2
      have HSN := Lib.hid hsn
      clear ht hsn hli hp e1
      generalize absI (fl.getD k 0) = g at *
      generalize fl.getD k 0 = f at *
      generalize pAt ps k = p at *
      generalize sumK (enT ps fl) k = s at *
      have wP : IntKind.i64.wrap (p.sz * g) = p.sz * g := w64 _ (by omega)
      have wQ : IntKind.i64.wrap (p.sz * g * f) = p.sz * g * f := w64 _ (by omega)
      have wR : IntKind.i64.wrap (p.sz * g * f * f) = p.sz * g * f * f := w64 _ (by omega)
      have wS : IntKind.i64.wrap (s + p.sz * g * f * f) = s + p.sz * g * f * f := w64 _ (by omega)
      clear hm1 ht2 hli2 hy hs
      go_wp2
      go_quiet ((go_at_call 121; exact Calls.quiet_of_same (HC.out _)))
      go_wp2
      go_roundw
      case rel => exact ⟨k + 1, by omega, by go_num, by rw [HSN.out], below_drewN hb _⟩
      case measure => simp [intOf]; omega
    · have hkk : k = fl.length := by omega
      have HF := Lib.hid (show sumK (enT ps fl) k = enA ps fl by rw [hkk]; rfl)
      clear hkk
      go_wp2
      go_ret
      exact ⟨by rw [← HF.out]; rfl, hB.out⟩

set_option maxHeartbeats 2000000 in
theorem sen_bad (n : Int) (A : Option Addr) (cap : Nat) (ps : List Pp) (AD : Option Addr) (dc : Nat) (fl : List Int) (w : World) (h : PAt w A ps) (hm : ps.length ≤ maxLen) (hd : IAt w AD fl) (hdl : fl.length ≤ 1048576) (hv : floB n ps fl = false) :
    Calls Try.prog 37 #[nv n A ps.length cap, .slice AD fl.length dc] w fun e w' => e = .returned (.tuple #[.int .i64 0, .bool false]) ∧ Below w.heap.size w w' := by
  obtain ⟨v1, hv1⟩ : ∃ v, goodB n ps = v := ⟨_, rfl⟩
  have H1 := Lib.hid (fun w' (hb : Below w.heap.size w w') => sgood_v hv1 A cap w' (h.kept hb (Nat.le_refl _)) hm)
  cases v1 with
  | false =>
    clear h hd hv hv1
    go_enter Try.func37, Try.ntmps37
    go_wp2_with (go_at_call 114; refine (H1.out _ ((Below.refl _ _).alloc (Nat.le_refl _) _)).mono ?_; rintro e w1 ⟨rfl, hb1⟩; have hB1 := Lib.hid (below_alloc_call hb1))
    go_ret2
    exact ⟨rfl, hB1.out⟩
  | true =>
    have hv2 : amtB fl ps.length (-8000) 8000 = false := by unfold floB at hv; rw [hv1] at hv; simpa using hv
    have H2 := Lib.hid (fun w' (hb : Below w.heap.size w w') => sflo_v hv2 (n := n) A cap AD dc w' (hd.kept hb (Nat.le_refl _)) hdl)
    clear h hd hv hv1 hv2
    go_enter Try.func37, Try.ntmps37
    go_wp2_with (first
      | (go_at_call 114; refine (H1.out _ ((Below.refl _ _).alloc (Nat.le_refl _) _)).mono ?_; rintro e w1 ⟨rfl, hb1⟩; obtain ⟨hc1, hf1⟩ := bcell hb1; have hz1 := hb1.size; simp at hz1; have hB1 := Lib.hid (below_alloc_call hb1))
      | (go_at_call 109; refine (H2.out _ hB1.out).mono ?_; rintro e w2 ⟨rfl, hb2⟩; have hB2 := Lib.hid (hB1.out.trans (hb2.mono hB1.out.size))))
    go_ret2
    exact ⟨rfl, hB2.out⟩

set_option maxHeartbeats 2000000 in
set_option maxRecDepth 100000 in
theorem sen_ok (n : Int) (A : Option Addr) (cap : Nat) (ps : List Pp) (AD : Option Addr) (dc : Nat) (fl : List Int) (u : Int × Bool) (w : World) (h : PAt w A ps) (hm : ps.length ≤ maxLen) (hd : IAt w AD fl) (hdl : fl.length ≤ 1048576) (hv : floB n ps fl = true) (hu : u = if allR (-2000) 2000 fl = true then (enA ps fl, true) else (0, false)) :
    Calls Try.prog 37 #[nv n A ps.length cap, .slice AD fl.length dc] w fun e w' => e = .returned (.tuple #[.int .i64 u.1, .bool u.2]) ∧ Below w.heap.size w w' := by
  have HSUM := Lib.hid (fun w' (hb : Below w.heap.size w w') => sen_sum n A cap ps AD dc fl w' (h.kept hb (Nat.le_refl _)) (hd.kept hb (Nat.le_refl _)) hv)
  unfold floB at hv
  rw [Bool.and_eq_true] at hv
  have H1 := Lib.hid (fun w' (hb : Below w.heap.size w w') => sgood_v hv.1 A cap w' (h.kept hb (Nat.le_refl _)) hm)
  have H2 := Lib.hid (fun w' (hb : Below w.heap.size w w') => sflo_v hv.2 (n := n) A cap AD dc w' (hd.kept hb (Nat.le_refl _)) hdl)
  have HI := Lib.hid (fun w' (hb : Below w.heap.size w w') => hd.kept hb (Nat.le_refl _))
  have HNO := Lib.hid (fun (h : allR (-2000) 2000 fl = false) => show u = (0, false) by rw [hu, h]; rfl)
  have HYES := Lib.hid (fun (h : allR (-2000) 2000 fl = true) => show u = (enA ps fl, true) by rw [hu, h]; rfl)
  clear h hd hv hu
  go_enter Try.func37, Try.ntmps37
  go_wp2_with (first
    | (go_at_call 114; refine (H1.out _ ((Below.refl _ _).alloc (Nat.le_refl _) _)).mono ?_; rintro e w1 ⟨rfl, hb1⟩; have HX1 := Lib.hid (show Below (w.heap.size + 1) (w.alloc (nb n A ps.length cap)) w1 by simpa using hb1); obtain ⟨b0, b1⟩ := box2 HX1.out; have hy1 := box_lt HX1.out; clear hb1)
    | (go_at_call 109; refine (H2.out _ (below_box HX1.out)).mono ?_; rintro e w2 ⟨rfl, hb2⟩; have HX2 := Lib.hid (on_call HX1.out hb2); clear b0 b1; obtain ⟨b0, b1⟩ := box2 HX2.out; have hy2 := box_lt HX2.out; clear hb2))
  have hB := Lib.hid (below_box HX2.out)
  clear H1 H2 HX1
  go_loop [6] (fun i => ∃ k : Nat, k ≤ fl.length ∧ i = .int .i64 (k : Int) ∧ Hid (∀ j, j < k → inR (-2000) 2000 (fl.getD j 0) = true)) (fun i => fl.length - (intOf i).toNat)
  case atStart => exact ⟨0, Nat.zero_le _, rfl, Lib.hid (fun j hj => absurd hj (by omega))⟩
  case round =>
    obtain ⟨k, hk, rfl, hno⟩ := hrel
    by_cases hlt : k < fl.length
    · obtain ⟨b, off, hA, hbl, h0⟩ := (HI.out _ hB.out).at_ hlt
      subst hA
      have hk0 : (0 : Int) ≤ (k : Int) := by omega
      have hkn : (k : Int) < (fl.length : Int) := by omega
      obtain ⟨v, hv⟩ : ∃ v, inR (-2000) 2000 (fl.getD k 0) = v := ⟨_, rfl⟩
      have HC := Lib.hid (fun w' => in_eq (fl.getD k 0) (-2000) 2000 v hv w')
      cases v with
      | false =>
        have HU := Lib.hid (HNO.out (allR_no hlt hv))
        clear hv hno
        generalize fl.getD k 0 = y at *
        go_wp2_with (go_at_call 115; refine (HC.out _).mono ?_; rintro e w3 ⟨rfl, hw⟩; replace hw := hw.symm; subst hw)
        go_ret2
        exact ⟨by rw [HU.out]; rfl, hB.out⟩
      | true =>
        have hno2 := Lib.hid (inR_snoc hno.out hv)
        clear hv hno
        generalize fl.getD k 0 = y at *
        go_wp2_with (go_at_call 115; refine (HC.out _).mono ?_; rintro e w3 ⟨rfl, hw⟩; replace hw := hw.symm; subst hw)
        go_round
        case rel => exact ⟨k + 1, by omega, by go_num, hno2⟩
        case measure => simp [intOf]; omega
    · have HU := Lib.hid (HYES.out (allR_mk (fun i hi => hno.out i (by omega))))
      go_wp2_with (go_at_call 116; refine (HSUM.out _ hB.out).mono ?_; rintro e w3 ⟨rfl, hb3⟩)
      go_ret2
      exact ⟨by rw [HU.out]; rfl, hB.out.trans (hb3.mono hB.out.size)⟩
end Go.Proofs.Ytikppgbipdflbab.S2

namespace Go.Proofs.Ytikppgbipdflbab.S2
open Go.RowKit P2

/-- A row of numbers of the call's own, read as a block. -/
theorem rep_succ (k : Nat) : List.replicate (k + 1) (-1 : Int) = List.replicate k (-1) ++ [-1] := List.replicate_succ'
/-- An own row of numbers, one of them set. -/
theorem IOwn.set {w : World} {B g n cap : Nat} {D : List Int} (h : IOwn w B (.slice (some ⟨g, 0, none⟩) n cap) D) (hn : D.length = n) (v : Nat) (x : Int) :
    IOwn (w.setCell ⟨g, v, none⟩ (iv x)) B (.slice (some ⟨g, 0, none⟩) n cap) (D.set v x) := by
  subst hn
  unfold IOwn at h ⊢
  have h2 := (h.stored v (iv x)).1
  rw [List.length_set, List.map_set]
  exact h2
theorem IOwn.cell {w : World} {B g n cap : Nat} {D : List Int} (h : IOwn w B (.slice (some ⟨g, 0, none⟩) n cap) D) (hn : D.length = n) {v : Nat} (hv : v < D.length) : w.cell? ⟨g, v, none⟩ = some (iv (dA D v)) := by
  subst hn
  unfold IOwn at h
  rw [h.cellAt v (by omega)]
  simp [dA, List.getD, hv]
theorem IOwn.frozen {w : World} {B g n cap : Nat} {D : List Int} (h : IOwn w B (.slice (some ⟨g, 0, none⟩) n cap) D) (hn : D.length = n) (v : Nat) : w.frozen? ⟨g, v, none⟩ = false := by
  subst hn
  unfold IOwn at h
  exact h.frozenAt v

set_option maxHeartbeats 8000000 in
set_option maxRecDepth 100000 in
theorem steps_any (N t : Nat) (A : Option Addr) (cap : Nat) (ps : List Pp) (w : World) (h : PAt w A ps) (hg : P2.Good N ps) (ht1 : 1 ≤ t) (ht2 : t ≤ N) :
    Calls Try.prog 194 #[nv N A ps.length cap, .int .i64 (t : Int)] w fun e w' => ∃ g c, e = .returned (.slice (some ⟨g, 0, none⟩) (N + 1) c) ∧ w.heap.size ≤ g ∧ IOwn w' w.heap.size (.slice (some ⟨g, 0, none⟩) (N + 1) c) (distL N ps t) ∧ Below w.heap.size w w' := by
  have HA := Lib.hid h
  have HG := Lib.hid hg
  have hN : N ≤ 8 := by have := hg.2.1; omega
  have hl10 := hg.2.2.1
  obtain ⟨i0, hi, hz0, hz1, hz2⟩ := info_parts infoI
  have HST := Lib.hid (Lv.start N ps t ht1 ht2)
  have ht0 : (0 : Int) ≤ (t : Int) := by omega
  have htN : (t : Int) < (N : Int) + 1 := by omega
  clear h hg
  go_enter Try.func194, Try.ntmps194
  go_wp2
  have hb0 : Below (w.heap.size + 1) (w.alloc (.cells #[.int .i64 N, .slice A ps.length cap] 26)) ((w.alloc (.cells #[.int .i64 N, .slice A ps.length cap] 26)).alloc (.cells #[] 3)) := (Below.refl _ _).alloc (by simp) _
  have hO1 : IOwn ((w.alloc (.cells #[.int .i64 N, .slice A ps.length cap] 26)).alloc (.cells #[] 3)) (w.heap.size + 1) (.slice (some ⟨w.heap.size + 1, 0, none⟩) 0 0) [] := by
    have := own_empty (w.alloc (.cells #[.int .i64 N, .slice A ps.length cap] 26)) (w.heap.size + 1) (by simp)
    simpa using this
  go_loopw [5, 6] (fun v i wr => ∃ k : Nat, k ≤ N + 1 ∧ i = .int .i64 k ∧ Hid (IOwn wr (w.heap.size + 1) v (List.replicate k (-1))) ∧ Hid (v ≠ .slice none 0 0) ∧ Below (w.heap.size + 1) (w.alloc (.cells #[.int .i64 N, .slice A ps.length cap] 26)) wr) (fun _ i _ => N + 1 - (intOf i).toNat)
  case atStart => exact ⟨0, Nat.zero_le _, rfl, Lib.hid hO1, Lib.hid (by simp), hb0⟩
  case round =>
    clear hO1 hb0
    obtain ⟨k, hk, rfl, hown, hvn, hb⟩ := hrel
    have hzl := box_lt hb
    obtain ⟨b0, b1⟩ := box2 hb
    by_cases hlt : k < N + 1
    · have hkN : (k : Int) ≤ (N : Int) := by omega
      have ho := hown.out
      unfold IOwn at ho
      rw [List.length_replicate] at ho
      go_wp2_with (at_builtin; go_must (refine wpList_append_own _ rfl _ _ 27 rfl (w.heap.size + 1) 3 i0 (.int .i64 0) 1 8 Try.underlying27 hi hz0 hz1 hz2 rfl (by decide) _ _ _ rfl (ho.alloc _) ⟨wr.heap.size, 0, none⟩ 1 1 [iv (-1)] rfl rfl (cell_one_new _ _ _) (by intro u hu; simp at hu; subst hu; rfl) (by unfold maxLen; omega) (by omega) (by have := hb.size; simp at this ⊢; omega) ?_))
      intro v' w3 hown' hgrow hnil
      have hown3 := Lib.hid (show IOwn w3 (w.heap.size + 1) v' (List.replicate (k + 1) (-1)) by
        rw [rep_succ]
        refine IOwn.push ?_
        rw [List.length_replicate, List.map_replicate]
        exact hown')
      have hB3 := Lib.hid ((hb.alloc hzl (.cells #[iv (-1)] 3)).grown hgrow (by simp; omega) (fun g hg => (ho.lt g hg).1))
      have hnil3 := Lib.hid (show v' ≠ .slice none 0 0 from fun e => by simp [e] at hnil)
      clear hown' hgrow hnil ho
      go_wp2
      go_roundw
      case rel => exact ⟨k + 1, by omega, by go_num, hown3, hnil3, hB3.out⟩
      case measure => simp [intOf]; omega
    · have hkk : k = N + 1 := by omega
      subst hkk
      obtain ⟨g, capg, rfl, hgB⟩ := own_slice hown.out hvn.out
      have ho := hown.out
      rw [List.length_replicate] at ho ⊢
      have hor : IOwn wr (w.heap.size + 1) (.slice (some ⟨g, 0, none⟩) (List.replicate (N + 1) (-1 : Int)).length capg) (List.replicate (N + 1) (-1)) := by rw [List.length_replicate]; exact ho
      have ct := hor.cell rfl (v := t) (by simp; omega)
      have ft := hor.frozen rfl t
      have hot := Lib.hid (hor.set rfl t 0)
      have hbt := Lib.hid (hb.setCell (p := ⟨g, t, none⟩) (by show w.heap.size + 1 ≤ g; omega) (iv 0))
      clear hown ho hor hvn
      go_wp2
      have hot2 : IOwn (wr.setCell ⟨g, t, none⟩ (iv 0)) (w.heap.size + 1) (.slice (some ⟨g, 0, none⟩) (N + 1) capg) ((List.replicate (N + 1) (-1 : Int)).set t 0) := by
        have := hot.out
        simpa using this
      have HO2 := Lib.hid hot2
      clear hot hot2 ct ft b0 b1 hzl hb hlt hk
      go_loopw [7] (fun i w2 => ∃ (s : Nat) (D : List Int), s ≤ N ∧ i = .int .i64 s ∧ Hid (Lv N ps t s D) ∧ Hid (IOwn w2 (w.heap.size + 1) (.slice (some ⟨g, 0, none⟩) (N + 1) capg) D) ∧ Below (w.heap.size + 1) (w.alloc (.cells #[.int .i64 N, .slice A ps.length cap] 26)) w2) (fun i _ => N - (intOf i).toNat)
      case atStart => exact ⟨0, _, Nat.zero_le _, rfl, HST, HO2, hbt.out⟩
      case round =>
        clear HO2 hbt HST
        obtain ⟨s, D, hs, rfl, hlv, hown, hb⟩ := hrel
        obtain ⟨b0, b1⟩ := box2 hb
        by_cases hlt : s < N
        · go_wp2
          have hlk := Lib.hid (Lk.start hlv.out)
          go_loopw [8] (fun i w3 => ∃ (k : Nat) (D : List Int), k ≤ ps.length ∧ i = .int .i64 k ∧ Hid (Lk N ps t s k D) ∧ Hid (IOwn w3 (w.heap.size + 1) (.slice (some ⟨g, 0, none⟩) (N + 1) capg) D) ∧ Below (w.heap.size + 1) (w.alloc (.cells #[.int .i64 N, .slice A ps.length cap] 26)) w3) (fun i _ => ps.length - (intOf i).toNat)
          case atStart => exact ⟨0, D, Nat.zero_le _, rfl, hlk, hown, hb⟩
          case round =>
            clear hlv hown hb b0 b1 hlk
            obtain ⟨k, D, hk, rfl, hlk, hown, hb⟩ := hrel
            obtain ⟨b0, b1⟩ := box2 hb
            have hzl := box_lt hb
            by_cases hlt2 : k < ps.length
            · obtain ⟨bb, off, hA, hbl, h0, h1, h2, h3⟩ := HA.out.at_ hlt2
              subst hA
              have hbc : ∀ o, wr.cell? ⟨bb, o, none⟩ = w.cell? ⟨bb, o, none⟩ := fun o => (below_box hb).cell (p := ⟨bb, o, none⟩) hbl
              have p1 := (hbc _).trans h1
              have p2 := (hbc _).trans h2
              have hk0i : (0 : Int) ≤ (k : Int) := by omega
              have hk1i : (k : Int) < (ps.length : Int) := by omega
              have hmem : pAt ps k ∈ ps := by
                have e : pAt ps k = ps[k] := by simp [pAt, List.getD, hlt2]
                rw [e]; exact List.getElem_mem hlt2
              have hok := good_pp HG.out hmem
              unfold PpOk at hok
              obtain ⟨a, ha⟩ : ∃ a : Nat, (pAt ps k).fr = (a : Int) := ⟨(pAt ps k).fr.toNat, by omega⟩
              obtain ⟨b, hbb⟩ : ∃ b : Nat, (pAt ps k).to = (b : Int) := ⟨(pAt ps k).to.toNat, by omega⟩
              have HLK := Lib.hid (hlk.out.step HG.out hlt2 ha hbb)
              rw [ha] at p1
              rw [hbb] at p2
              have ha0 : (0 : Int) ≤ (a : Int) := by omega
              have haN : (a : Int) < (N : Int) + 1 := by omega
              have hb0 : (0 : Int) ≤ (b : Int) := by omega
              have hbN : (b : Int) < (N : Int) + 1 := by omega
              have hDl := hlk.out.lv.len
              have HNE := Lib.hid (show a ≠ b by omega)
              clear hok hmem hbc h0 h1 h2 h3 ha hbb
              have ca := hown.out.cell hDl (v := a) (by omega)
              have cb := hown.out.cell hDl (v := b) (by omega)
              have fa := hown.out.frozen hDl a
              have fb := hown.out.frozen hDl b
              have HSA := Lib.hid (hown.out.set hDl a ((s : Int) + 1))
              have HSB := Lib.hid (hown.out.set hDl b ((s : Int) + 1))
              have hgA : w.heap.size + 1 ≤ g := hgB
              have HDA := Lib.hid (show dA (D.set b ((s : Int) + 1)) b = (s : Int) + 1 from dA_set_same D b _ (by omega))
              have HDN := Lib.hid (show dA (D.set b ((s : Int) + 1)) a = dA D a from dA_set_ne D b a _ HNE.out)
              obtain ⟨x, hx⟩ : ∃ x, dA D a = x := ⟨_, rfl⟩
              obtain ⟨y, hy⟩ : ∃ y, dA D b = y := ⟨_, rfl⟩
              have HX := Lib.hid hx
              have HY := Lib.hid hy
              rw [hx] at ca
              rw [hy] at cb
              clear hx hy
              go_wp2
              go_quiet (fail)
              have HBA := Lib.hid ((below_drewN hb nq).setCell (p := ⟨g, a, none⟩) hgA (iv ((s : Int) + 1)))
              have HBB := Lib.hid ((below_drewN hb nq).setCell (p := ⟨g, b, none⟩) hgA (iv ((s : Int) + 1)))
              by_cases hxs : x = (s : Int)
              · have hE1 : (x == (s : Int)) = true := by simpa using hxs
                have hx0 : ¬ x < 0 := by omega
                by_cases hy0 : y < 0
                · have hys : ((s : Int) + 1 == (s : Int)) = false := beq_eq_false_iff_ne.2 (by omega)
                  have e : step1 (step1 D a b s) b a s = D.set b ((s : Int) + 1) := by
                    have n1 : dA D a = s ∧ dA D b < 0 := by rw [HX.out, HY.out]; exact ⟨hxs, hy0⟩
                    have n2 : ¬ (dA (D.set b ((s : Int) + 1)) b = s ∧ dA (D.set b ((s : Int) + 1)) a < 0) := by rw [HDA.out]; omega
                    rw [step1_yes n1, step1_no n2]
                  have HF := Lib.hid HLK.out
                  rw [e] at HF
                  clear hxs
                  go_wp2
                  go_roundw
                  case rel => exact ⟨k + 1, _, by omega, by go_num, HF, Lib.hid (show IOwn ((wr.drewN nq).setCell _ _) _ _ _ from HSB.out), HBB.out⟩
                  case measure => simp [intOf]; omega
                · have e : step1 (step1 D a b s) b a s = D := by
                    have n1 : ¬ (dA D a = s ∧ dA D b < 0) := by rw [HX.out, HY.out]; omega
                    have n2 : ¬ (dA D b = s ∧ dA D a < 0) := by rw [HX.out, HY.out]; omega
                    rw [step1_no n1, step1_no n2]
                  have HF := Lib.hid HLK.out
                  rw [e] at HF
                  by_cases hys : y = (s : Int)
                  · have hE2 : (y == (s : Int)) = true := by simpa using hys
                    clear hxs hys
                    go_wp2
                    go_roundw
                    case rel => exact ⟨k + 1, _, by omega, by go_num, HF, Lib.hid (show IOwn (wr.drewN nq) _ _ _ from hown.out), below_drewN hb nq⟩
                    case measure => simp [intOf]; omega
                  · have hE2 : (y == (s : Int)) = false := by simpa using hys
                    clear hxs hys
                    go_wp2
                    go_roundw
                    case rel => exact ⟨k + 1, _, by omega, by go_num, HF, Lib.hid (show IOwn (wr.drewN nq) _ _ _ from hown.out), below_drewN hb nq⟩
                    case measure => simp [intOf]; omega
              · have hE1 : (x == (s : Int)) = false := by simpa using hxs
                by_cases hys : y = (s : Int)
                · have hE2 : (y == (s : Int)) = true := by simpa using hys
                  by_cases hx0 : x < 0
                  · have e : step1 (step1 D a b s) b a s = D.set a ((s : Int) + 1) := by
                      have n1 : ¬ (dA D a = s ∧ dA D b < 0) := by rw [HX.out, HY.out]; omega
                      have n2 : dA D b = s ∧ dA D a < 0 := by rw [HX.out, HY.out]; omega
                      rw [step1_no n1, step1_yes n2]
                    have HF := Lib.hid HLK.out
                    rw [e] at HF
                    clear hxs hys
                    go_wp2
                    go_roundw
                    case rel => exact ⟨k + 1, _, by omega, by go_num, HF, Lib.hid (show IOwn ((wr.drewN nq).setCell _ _) _ _ _ from HSA.out), HBA.out⟩
                    case measure => simp [intOf]; omega
                  · have e : step1 (step1 D a b s) b a s = D := by
                      have n1 : ¬ (dA D a = s ∧ dA D b < 0) := by rw [HX.out, HY.out]; omega
                      have n2 : ¬ (dA D b = s ∧ dA D a < 0) := by rw [HX.out, HY.out]; omega
                      rw [step1_no n1, step1_no n2]
                    have HF := Lib.hid HLK.out
                    rw [e] at HF
                    clear hxs hys
                    go_wp2
                    go_roundw
                    case rel => exact ⟨k + 1, _, by omega, by go_num, HF, Lib.hid (show IOwn (wr.drewN nq) _ _ _ from hown.out), below_drewN hb nq⟩
                    case measure => simp [intOf]; omega
                · have hE2 : (y == (s : Int)) = false := by simpa using hys
                  have e : step1 (step1 D a b s) b a s = D := by
                    have n1 : ¬ (dA D a = s ∧ dA D b < 0) := by rw [HX.out, HY.out]; omega
                    have n2 : ¬ (dA D b = s ∧ dA D a < 0) := by rw [HX.out, HY.out]; omega
                    rw [step1_no n1, step1_no n2]
                  have HF := Lib.hid HLK.out
                  rw [e] at HF
                  clear hxs hys
                  go_wp2
                  go_roundw
                  case rel => exact ⟨k + 1, _, by omega, by go_num, HF, Lib.hid (show IOwn (wr.drewN nq) _ _ _ from hown.out), below_drewN hb nq⟩
                  case measure => simp [intOf]; omega
            · have hfin := Lib.hid (hlk.out.finish HG.out (by omega))
              go_wp2
              go_roundw
              case rel => exact ⟨s + 1, D, by omega, by go_num, hfin, hown, hb⟩
              case measure => simp [intOf]; omega
        · have hss : s = N := by omega
          subst hss
          have hfin := hlv.out.all HG.out
          subst hfin
          go_wp2
          go_ret
          have hlow : IOwn wr w.heap.size (.slice (some ⟨g, 0, none⟩) (s + 1) capg) (distL s ps t) := own_lower hown.out
          exact ⟨g, capg, rfl, by omega, hlow, below_box hb⟩
end Go.Proofs.Ytikppgbipdflbab.S2

namespace Go.Proofs.Ytikppgbipdflbab.S2
open Go.RowKit P2

/-- The first of the first k that is greatest. -/
def fstG (f : Nat → Int) : Nat → Nat
  | 0 => 0
  | k + 1 => if f (fstG f k) < f k then k else fstG f k
theorem fstG_lt (f : Nat → Int) : ∀ k, 0 < k → fstG f k < k
  | 0, h => absurd h (by omega)
  | 1, _ => by unfold fstG; split <;> simp [fstG]
  | k + 2, _ => by
    have := fstG_lt f (k + 1) (by omega)
    rw [fstG]
    split <;> omega
theorem fstG_one (f : Nat → Int) : fstG f 1 = 0 := by have := fstG_lt f 1 (by omega); omega
theorem fstG_val (f : Nat → Int) (k : Nat) : f (fstG f (k + 1)) = max (f (fstG f k)) (f k) := by
  rw [fstG]
  split <;> omega
theorem fstG_top (f : Nat → Int) : ∀ k j, j < k → f j ≤ f (fstG f k)
  | 0, j, h => absurd h (by omega)
  | k + 1, j, h => by
    rw [fstG_val f k]
    by_cases e : j = k
    · subst e; omega
    · have := fstG_top f k j (by omega); omega
theorem fstG_first (f : Nat → Int) : ∀ k j, j < fstG f k → f j < f (fstG f k)
  | 0, j, h => absurd h (by simp [fstG])
  | k + 1, j, h => by
    by_cases e : f (fstG f k) < f k
    · rw [fstG, if_pos e] at h ⊢
      have := fstG_top f k j h
      omega
    · rw [fstG, if_neg e] at h ⊢
      exact fstG_first f k j h
/-- The smallest of the first k. -/
def loK (l : List Int) : Nat → Int
  | 0 => lA l 0
  | k + 1 => min (loK l k) (lA l k)
theorem loK_le (l : List Int) : ∀ k j, j < k → loK l k ≤ lA l j
  | 0, j, h => absurd h (by omega)
  | k + 1, j, h => by
    rw [loK]
    by_cases e : j = k
    · subst e; omega
    · have := loK_le l k j (by omega); omega
theorem loK_one (l : List Int) : loK l 1 = lA l 0 := by simp [loK]

set_option maxHeartbeats 1000000 in
theorem max_any (A : Option Addr) (cap : Nat) (l : List Int) (w : World) (h : IAt w A l) (hl : 0 < l.length) (hl2 : l.length ≤ 1048576) :
    Calls Try.prog 119 #[.slice A l.length cap] w fun e w' => e = .returned (.int .i64 (lA l (fstG (lA l) l.length))) ∧ w' = w := by
  have HA := Lib.hid h
  obtain ⟨b, off, hA, hbl, h0⟩ := h.at_ (i := 0) hl
  subst hA
  rw [Nat.add_zero] at h0
  have hat : l.getD 0 0 = lA l 0 := rfl
  rw [hat] at h0
  have HX := Lib.hid (show lA l (fstG (lA l) 1) = lA l 0 by rw [fstG_one])
  have g0 : decide ((l.length : Int) < 1) = false := decide_eq_false (by omega)
  generalize lA l 0 = x0 at *
  clear h hat
  go_enter Try.func119, Try.ntmps119
  go_wp2
  go_loopw [3, 4] (fun m i wr => ∃ k : Nat, 1 ≤ k ∧ k ≤ l.length ∧ m = .int .i64 (lA l (fstG (lA l) k)) ∧ i = .int .i64 k ∧ wr = w) (fun _ i _ => l.length - (intOf i).toNat)
  case atStart => exact ⟨1, Nat.le_refl _, by omega, by rw [HX.out], rfl, rfl⟩
  case round =>
    obtain ⟨k, hk1, hk, rfl, rfl, hw⟩ := hrel
    replace hw := hw.symm
    subst hw
    by_cases hlt : k < l.length
    · obtain ⟨b', off', hA', hbl', h1⟩ := HA.out.at_ (i := k) hlt
      simp only [Option.some.injEq, Addr.mk.injEq, and_true] at hA'
      obtain ⟨rfl, rfl⟩ := hA'
      have hk0 : (0 : Int) ≤ (k : Int) := by omega
      have hkn : (k : Int) < (l.length : Int) := by omega
      have hat : l.getD k 0 = lA l k := rfl
      rw [hat] at h1
      have HN := Lib.hid (fstG_val (lA l) k)
      generalize lA l k = x at *
      generalize hM : lA l (fstG (lA l) k) = M at *
      clear hM h0 hat
      go_wp2
      go_roundw
      case rel => exact ⟨k + 1, by omega, by omega, by rw [HN.out], by go_num, trivial⟩
      case measure => simp [intOf]; omega
    · have HF := Lib.hid (show lA l (fstG (lA l) k) = lA l (fstG (lA l) l.length) by rw [show k = l.length by omega])
      clear h0
      go_wp2
      go_ret
      exact ⟨by rw [← HF.out]; rfl, rfl⟩
set_option maxHeartbeats 1000000 in
theorem min_any (A : Option Addr) (cap : Nat) (l : List Int) (w : World) (h : IAt w A l) (hl : 0 < l.length) (hl2 : l.length ≤ 1048576) :
    Calls Try.prog 104 #[.slice A l.length cap] w fun e w' => e = .returned (.int .i64 (loK l l.length)) ∧ w' = w := by
  have HA := Lib.hid h
  obtain ⟨b, off, hA, hbl, h0⟩ := h.at_ (i := 0) hl
  subst hA
  rw [Nat.add_zero] at h0
  have hat : l.getD 0 0 = lA l 0 := rfl
  rw [hat] at h0
  have HX := Lib.hid (loK_one l)
  have g0 : decide ((l.length : Int) < 1) = false := decide_eq_false (by omega)
  generalize lA l 0 = x0 at *
  clear h hat
  go_enter Try.func104, Try.ntmps104
  go_wp2
  go_loopw [3, 4] (fun m i wr => ∃ k : Nat, 1 ≤ k ∧ k ≤ l.length ∧ m = .int .i64 (loK l k) ∧ i = .int .i64 k ∧ wr = w) (fun _ i _ => l.length - (intOf i).toNat)
  case atStart => exact ⟨1, Nat.le_refl _, by omega, by rw [HX.out], rfl, rfl⟩
  case round =>
    obtain ⟨k, hk1, hk, rfl, rfl, hw⟩ := hrel
    replace hw := hw.symm
    subst hw
    by_cases hlt : k < l.length
    · obtain ⟨b', off', hA', hbl', h1⟩ := HA.out.at_ (i := k) hlt
      simp only [Option.some.injEq, Addr.mk.injEq, and_true] at hA'
      obtain ⟨rfl, rfl⟩ := hA'
      have hk0 : (0 : Int) ≤ (k : Int) := by omega
      have hkn : (k : Int) < (l.length : Int) := by omega
      have hat : l.getD k 0 = lA l k := rfl
      rw [hat] at h1
      have HN := Lib.hid (show loK l (k + 1) = min (loK l k) (lA l k) from rfl)
      generalize lA l k = x at *
      generalize hM : loK l k = M at *
      clear hM h0 hat
      go_wp2
      go_roundw
      case rel => exact ⟨k + 1, by omega, by omega, by rw [HN.out], by go_num, trivial⟩
      case measure => simp [intOf]; omega
    · have HF := Lib.hid (show loK l k = loK l l.length by rw [show k = l.length by omega])
      clear h0
      go_wp2
      go_ret
      exact ⟨by rw [← HF.out]; rfl, rfl⟩
set_option maxHeartbeats 1000000 in
theorem index_any (A : Option Addr) (cap : Nat) (l : List Int) (v : Int) (i0 : Nat) (w : World) (h : IAt w A l) (hl : l.length ≤ 1048576) (hi : i0 < l.length) (hv : lA l i0 = v) (hn : ∀ j, j < i0 → lA l j ≠ v) :
    Calls Try.prog 120 #[.slice A l.length cap, .int .i64 v] w fun e w' => e = .returned (.int .i64 (i0 : Int)) ∧ w' = w := by
  have HA := Lib.hid h
  have HN := Lib.hid hn
  have HV := Lib.hid hv
  clear h hn hv
  go_enter Try.func120, Try.ntmps120
  go_wp2
  go_loopw [8] (fun i wr => ∃ k : Nat, k ≤ i0 ∧ i = .int .i64 k ∧ wr = w) (fun i _ => l.length - (intOf i).toNat)
  case atStart => exact ⟨0, by omega, rfl, rfl⟩
  case round =>
    obtain ⟨k, hk, rfl, hw⟩ := hrel
    replace hw := hw.symm
    subst hw
    have hlt : k < l.length := by omega
    obtain ⟨b, off, hA, hbl, h1⟩ := HA.out.at_ (i := k) hlt
    subst hA
    have hk0 : (0 : Int) ≤ (k : Int) := by omega
    have hkn : (k : Int) < (l.length : Int) := by omega
    have hat : l.getD k 0 = lA l k := rfl
    rw [hat] at h1
    by_cases he : k = i0
    · subst he
      rw [HV.out] at h1
      clear hat
      go_wp2
      go_ret
      exact ⟨rfl, rfl⟩
    · have hne : ¬ v = lA l k := fun e => HN.out k (by omega) e.symm
      generalize lA l k = x at *
      clear hat
      go_wp2
      go_roundw
      case rel => exact ⟨k + 1, by omega, by go_num, trivial⟩
      case measure => simp [intOf]; omega
end Go.Proofs.Ytikppgbipdflbab.S2

namespace Go.Proofs.Ytikppgbipdflbab.S2
open Go.RowKit P2

/-- 1 to N. -/
def upL (N : Nat) : List Int := (List.range N).map fun v : Nat => (v : Int) + 1
theorem upL_mem {N : Nat} {v : Int} : v ∈ upL N ↔ 1 ≤ v ∧ v ≤ N := by
  unfold upL
  rw [List.mem_map]
  constructor
  · rintro ⟨k, hk, rfl⟩
    have := List.mem_range.1 hk
    omega
  · rintro ⟨h1, h2⟩
    exact ⟨(v - 1).toNat, List.mem_range.2 (by omega), by omega⟩
theorem upL_sorted (N : Nat) : (upL N).Pairwise (· < ·) := by
  unfold upL
  rw [List.pairwise_map]
  exact List.pairwise_lt_range.imp (fun h => by omega)
open Classical in
/-- The nodes that are not connected with the source without a pipe. -/
noncomputable def dnB (ps : List Pp) (p : Pp) (s v : Int) : Bool := decide (¬ Conn (Wo ps p) v s)
open Classical in
theorem dnB_true {ps : List Pp} {p : Pp} {s v : Int} : dnB ps p s v = true ↔ ¬ Conn (Wo ps p) v s := by unfold dnB; exact decide_eq_true_iff
theorem dnB_false {ps : List Pp} {p : Pp} {s v : Int} (h : Conn (Wo ps p) v s) : dnB ps p s v = false := by
  cases e : dnB ps p s v with
  | false => rfl
  | true => exact absurd h (dnB_true.1 e)
noncomputable def dnTo (ps : List Pp) (p : Pp) (s : Int) (k : Nat) : List Int := (upL k).filter (dnB ps p s)
noncomputable def dnL (N : Nat) (ps : List Pp) (p : Pp) (s : Int) : List Int := dnTo ps p s N
theorem upL_snoc (k : Nat) : upL (k + 1) = upL k ++ [(k : Int) + 1] := by unfold upL; rw [List.range_succ, List.map_append]; rfl
theorem dnTo_yes {ps : List Pp} {p : Pp} {s : Int} {k : Nat} (h : dnB ps p s ((k : Int) + 1) = true) : dnTo ps p s (k + 1) = dnTo ps p s k ++ [(k : Int) + 1] := by
  unfold dnTo; rw [upL_snoc, List.filter_append]; simp [h]
theorem dnTo_no {ps : List Pp} {p : Pp} {s : Int} {k : Nat} (h : dnB ps p s ((k : Int) + 1) = false) : dnTo ps p s (k + 1) = dnTo ps p s k := by
  unfold dnTo; rw [upL_snoc, List.filter_append]; simp [h]
theorem dn_mem {N : Nat} {ps : List Pp} {p : Pp} {s v : Int} : v ∈ dnL N ps p s ↔ (1 ≤ v ∧ v ≤ N) ∧ ¬ Conn (Wo ps p) v s := by
  unfold dnL dnTo
  rw [List.mem_filter, upL_mem, dnB_true]
theorem dn_sorted (N : Nat) (ps : List Pp) (p : Pp) (s : Int) : (dnL N ps p s).Pairwise (· < ·) := (upL_sorted N).sublist List.filter_sublist
theorem dnTo_len (ps : List Pp) (p : Pp) (s : Int) (k : Nat) : (dnTo ps p s k).length ≤ k := Nat.le_trans (List.length_filter_le _ _) (by simp [upL])
theorem dn_len (N : Nat) (ps : List Pp) (p : Pp) (s : Int) : (dnL N ps p s).length ≤ N := dnTo_len ps p s N

/-! ### Sums over nodes -/
def sumG (g : Int → Int) : List Int → Int
  | [] => 0
  | x :: l => g x + sumG g l
theorem sumG_app (g : Int → Int) : ∀ (l m : List Int), sumG g (l ++ m) = sumG g l + sumG g m
  | [], m => by simp [sumG]
  | x :: l, m => by simp only [List.cons_append, sumG, sumG_app g l m]; omega
theorem sumG_perm {g : Int → Int} {l m : List Int} (h : l.Perm m) : sumG g l = sumG g m := by
  induction h with
  | nil => rfl
  | cons x _ ih => simp only [sumG, ih]
  | swap x y l => simp only [sumG]; omega
  | trans _ _ h1 h2 => rw [h1, h2]
theorem sumG_take (g : Int → Int) (l : List Int) : ∀ k, k ≤ l.length → sumK (fun i => g (lA l i)) k = sumG g (l.take k)
  | 0, _ => by simp [sumK, sumG]
  | k + 1, h => by
    have hk : k < l.length := by omega
    rw [sumK, sumG_take g l k (by omega), List.take_add_one, sumG_app]
    have e : lA l k = l[k] := by simp [lA, List.getD, hk]
    rw [e]
    simp [hk, sumG]
theorem sumG_all (g : Int → Int) (l : List Int) : sumK (fun i => g (lA l i)) l.length = sumG g l := by
  rw [sumG_take g l l.length (Nat.le_refl _), List.take_length]
/-- What a node takes. -/
def tk (dm : List Int) (v : Int) : Int := dm.getD (v - 1).toNat 0
theorem tk_in {dm : List Int} {N : Nat} (hr : allR 0 1000 dm = true) (hl : dm.length = N) {v : Int} (h1 : 1 ≤ v) (h2 : v ≤ N) : 0 ≤ tk dm v ∧ tk dm v ≤ 1000 := allR_at hr (i := (v - 1).toNat) (by omega)
theorem sumT_in {dm l : List Int} {N : Nat} (hr : allR 0 1000 dm = true) (hl : dm.length = N) (hm : ∀ v, v ∈ l → 1 ≤ v ∧ v ≤ N) (hn : l.length ≤ 8) {k : Nat} (hk : k ≤ l.length) : 0 ≤ sumK (fun i => tk dm (lA l i)) k ∧ sumK (fun i => tk dm (lA l i)) k ≤ 8000 := by
  have h1 : ∀ k, k ≤ l.length → 0 ≤ sumK (fun i => tk dm (lA l i)) k ∧ sumK (fun i => tk dm (lA l i)) k ≤ 1000 * (k : Int) := by
    intro k
    induction k with
    | zero => intro _; simp [sumK]
    | succ k ih =>
      intro hk
      have h2 := ih (by omega)
      have hm2 := hm (lA l k) (by
        have hk2 : k < l.length := by omega
        have e : lA l k = l[k] := by simp [lA, List.getD, hk2]
        rw [e]; exact List.getElem_mem hk2)
      have h3 := tk_in hr hl hm2.1 hm2.2
      have e : sumK (fun i => tk dm (lA l i)) (k + 1) = sumK (fun i => tk dm (lA l i)) k + tk dm (lA l k) := rfl
      rw [e]
      omega
  have := h1 k hk
  omega

/-! ### Flows of a tree -/
noncomputable def flowA (N : Nat) (ps : List Pp) (s : Int) (dm : List Int) (i : Nat) : Int :=
  if dnB ps (pAt ps i) s (pAt ps i).fr = true then -(sumG (tk dm) (dnL N ps (pAt ps i) s)) else sumG (tk dm) (dnL N ps (pAt ps i) s)
noncomputable def tfTo (N : Nat) (ps : List Pp) (s : Int) (dm : List Int) (k : Nat) : List Int := (List.range k).map (flowA N ps s dm)
noncomputable def tfL (N : Nat) (ps : List Pp) (s : Int) (dm : List Int) : List Int := tfTo N ps s dm ps.length
theorem tfTo_snoc (N : Nat) (ps : List Pp) (s : Int) (dm : List Int) (k : Nat) : tfTo N ps s dm (k + 1) = tfTo N ps s dm k ++ [flowA N ps s dm k] := by unfold tfTo; rw [List.range_succ, List.map_append]; rfl
theorem tfTo_len (N : Nat) (ps : List Pp) (s : Int) (dm : List Int) (k : Nat) : (tfTo N ps s dm k).length = k := by simp [tfTo]
theorem tfL_len (N : Nat) (ps : List Pp) (s : Int) (dm : List Int) : (tfL N ps s dm).length = ps.length := tfTo_len N ps s dm _
theorem tfL_at {N : Nat} {ps : List Pp} {s : Int} {dm : List Int} {i : Nat} (h : i < ps.length) : (tfL N ps s dm).getD i 0 = flowA N ps s dm i := by
  simp [tfL, tfTo, List.getD, h]
theorem sumD_in {N : Nat} {ps : List Pp} {p : Pp} {s : Int} {dm : List Int} (hN : N ≤ 8) (hr : allR 0 1000 dm = true) (hl : dm.length = N) : 0 ≤ sumG (tk dm) (dnL N ps p s) ∧ sumG (tk dm) (dnL N ps p s) ≤ 8000 := by
  have hn := dn_len N ps p s
  rw [← sumG_all]
  exact sumT_in hr hl (fun v hv => (dn_mem.1 hv).1) (by omega) (Nat.le_refl _)
theorem flow_in {N : Nat} {ps : List Pp} {s : Int} {dm : List Int} (hN : N ≤ 8) (hr : allR 0 1000 dm = true) (hl : dm.length = N) (i : Nat) : -8000 ≤ flowA N ps s dm i ∧ flowA N ps s dm i ≤ 8000 := by
  have := sumD_in (ps := ps) (p := pAt ps i) (s := s) hN hr hl
  unfold flowA
  split <;> omega
theorem tfL_in {N : Nat} {ps : List Pp} {s : Int} {dm : List Int} (hN : N ≤ 8) (hr : allR 0 1000 dm = true) (hl : dm.length = N) : allR (-8000) 8000 (tfL N ps s dm) = true :=
  allR_mk fun j hj => by
    rw [tfL_len] at hj
    rw [tfL_at hj]
    simpa [inR] using flow_in hN hr hl j

/-! ### What a search behind a pipe finds -/
theorem wo_none {ps : List Pp} {q : Pp} (h : q ∉ ps) : Wo ps q = ps := by
  unfold Wo
  exact List.filter_eq_self.2 fun e he => decide_eq_true fun hq => h (hq ▸ he)
theorem tree_full {N : Nat} {ps : List Pp} (hg : P2.Good N ps) (ht : treeB N ps = true) : Acy ps ∧ (∀ v : Nat, 1 ≤ v → v ≤ N → Conn ps 1 v) ∧ ps.length + 1 = N := by
  unfold treeB at ht
  rw [Bool.and_eq_true, decide_eq_true_iff, decide_eq_true_iff] at ht
  have hN := hg.1
  have hc := con_full (N := N) (ps := ps) (by omega) ht.2
  exact ⟨tree_acy hg ht.1 hc, hc, ht.1⟩
theorem tree_conn {N : Nat} {ps : List Pp} (h : ∀ v : Nat, 1 ≤ v → v ≤ N → Conn ps 1 v) {a b : Int} (a1 : 1 ≤ a) (a2 : a ≤ N) (b1 : 1 ≤ b) (b2 : b ≤ N) : Conn ps a b := by
  have ha := h a.toNat (by omega) (by omega)
  have hb := h b.toNat (by omega) (by omega)
  rw [Int.toNat_of_nonneg (by omega)] at ha hb
  exact ha.sy.tr hb
theorem root_not {N : Nat} {ps : List Pp} (hg : P2.Good N ps) : (⟨0, 0, 0, 0⟩ : Pp) ∉ ps := fun h => by have := (good_pp hg h).1; simp at this
/-- The far end of a pipe of a tree. -/
theorem far_end {N t : Nat} {ps : List Pp} (hg : P2.Good N ps) (ht : treeB N ps = true) (h1 : 1 ≤ t) (h2 : t ≤ N) {p : Pp} (hp : p ∈ ps) :
    ∃ y, fnd ps p (N + 1) t ⟨0, 0, 0, 0⟩ = some y ∧ (1 ≤ y ∧ y ≤ N) ∧ (∀ v, 1 ≤ v → v ≤ (N : Int) → (¬ Conn (Wo ps p) v t ↔ Conn (Wo ps p) y v)) ∧ (dnB ps p t p.fr = true ↔ p.fr = y) ∧ (∀ d, BrOk N ps y p → cntB N ps y p ≤ d → (nodesL ps d y p).Perm (dnL N ps p t)) := by
  obtain ⟨ha, hc, hlen⟩ := tree_full hg ht
  have hr := root_not hg
  have hbr : BrOk N ps t ⟨0, 0, 0, 0⟩ := ⟨by omega, by omega, .inr hr⟩
  have hpp := good_pp hg hp
  obtain ⟨_, _, f1, f2, t1, t2, hne, _, _⟩ := hpp
  have hy := fnd_yes hg ha hp (N + 1) t ⟨0, 0, 0, 0⟩ hbr (cnt_le N ps t _) (.inr (by rw [wo_none hr]; exact tree_conn hc (by omega) (by omega) f1 f2))
  obtain ⟨y, hfy⟩ := Option.ne_none_iff_exists'.1 hy
  rcases fnd_is hg ha (N + 1) t ⟨0, 0, 0, 0⟩ hbr (cnt_le N ps t _) hfy with ⟨h, _⟩ | ⟨_, hty, _, hns⟩
  · exact absurd (h ▸ hp) hr
  · have hy12 : 1 ≤ y ∧ y ≤ (N : Int) := by
      rcases hty with h | h
      · omega
      · omega
    have hb : ∀ v, 1 ≤ v → v ≤ (N : Int) → (¬ Conn (Wo ps p) v t ↔ Conn (Wo ps p) y v) := fun v v1 v2 => behind hp hty hns (tree_conn hc hy12.1 hy12.2 (by omega) (by omega)) (tree_conn hc hy12.1 hy12.2 v1 v2)
    refine ⟨y, hfy, hy12, hb, ?_, fun d hbo hcd => ?_⟩
    · rw [dnB_true, hb _ f1 f2]
      constructor
      · intro hcn
        rcases hty with h | h
        · exact h
        · exact absurd hcn.sy (by rw [← h]; exact ha p hp)
      · intro e
        rw [e]
        exact Conn.rf _ _
    · rw [List.perm_ext_iff_of_nodup (nodes_nodup hg ha d y p hbo hcd) ((dn_sorted N ps p t).imp (fun h => by omega))]
      intro v
      rw [nodes_mem hg ha d y p hbo hcd v, dn_mem]
      constructor
      · intro hv
        have hin : 1 ≤ v ∧ v ≤ (N : Int) := conn_ind (P := fun v => 1 ≤ v ∧ v ≤ (N : Int)) hy12 (fun u v _ _ hadj => by
          obtain ⟨e, he, hj⟩ := hadj
          have h3 := good_pp hg (mem_Wo.1 he).1
          rcases hj with ⟨_, rfl⟩ | ⟨_, rfl⟩
          · exact ⟨h3.2.2.2.2.1, h3.2.2.2.2.2.1⟩
          · exact ⟨h3.2.2.1, h3.2.2.2.1⟩) v hv
        exact ⟨hin, (hb v hin.1 hin.2).2 hv⟩
      · rintro ⟨hin, hv⟩
        exact (hb v hin.1 hin.2).1 hv
end Go.Proofs.Ytikppgbipdflbab.S2

namespace Go.Proofs.Ytikppgbipdflbab.S2
open Go.RowKit P2

theorem wo_mem {n : Int} {ps : List Pp} (hg : P2.Good n ps) {i : Nat} (hi : i < ps.length) {e : Pp} : e ∈ wo ps i ↔ e ∈ Wo ps (pAt ps i) := by
  rw [mem_Wo]
  have hid := good_ids hg
  constructor
  · intro h
    refine ⟨(wo_sub ps i).subset h, fun he => ?_⟩
    unfold wo at h
    rcases List.mem_append.1 h with h | h
    · obtain ⟨j, hj, hje⟩ := List.getElem_of_mem h
      rw [List.length_take] at hj
      have h2 : pAt ps j = e := by rw [List.getElem_take] at hje; simp [pAt, List.getD, show j < ps.length by omega, hje]
      have := hid j i (by omega) hi
      rw [h2, he] at this
      omega
    · obtain ⟨j, hj, hje⟩ := List.getElem_of_mem h
      rw [List.length_drop] at hj
      have h2 : pAt ps (i + 1 + j) = e := by rw [List.getElem_drop] at hje; simp [pAt, List.getD, show i + 1 + j < ps.length by omega, hje]
      have := hid i (i + 1 + j) (by omega) (by omega)
      rw [h2, he] at this
      omega
  · rintro ⟨h, hne⟩
    obtain ⟨j, hj, rfl⟩ := pp_at h
    unfold wo
    rw [List.mem_append]
    by_cases h1 : j < i
    · left
      have e1 : pAt ps j = (ps.take i)[j]'(by rw [List.length_take]; omega) := by rw [List.getElem_take]; simp [pAt, List.getD, hj]
      rw [e1]; exact List.getElem_mem _
    · have h2 : j ≠ i := fun e => hne (by rw [e])
      right
      have e1 : pAt ps j = (ps.drop (i + 1))[j - (i + 1)]'(by rw [List.length_drop]; omega) := by
        rw [List.getElem_drop]
        have : i + 1 + (j - (i + 1)) = j := by omega
        simp [pAt, List.getD, hj, this]
      rw [e1]; exact List.getElem_mem _
theorem wo_conn {n : Int} {ps : List Pp} (hg : P2.Good n ps) {i : Nat} (hi : i < ps.length) {a b : Int} : Conn (wo ps i) a b ↔ Conn (Wo ps (pAt ps i)) a b :=
  ⟨conn_mono fun _ h => (wo_mem hg hi).1 h, conn_mono fun _ h => (wo_mem hg hi).2 h⟩
theorem wet_has {N t : Nat} {ps : List Pp} (hg : P2.Good N ps) {i : Nat} (hi : i < ps.length) {v : Int} (h1 : 1 ≤ v) (h2 : v ≤ N) : hasB (conL N (wo ps i) t) v = !(dnB ps (pAt ps i) t v) := by
  unfold hasB
  cases e : dnB ps (pAt ps i) t v with
  | true =>
    rw [Bool.not_true]
    exact decide_eq_false fun h => dnB_true.1 e ((wo_conn hg hi).1 ((con_mem _ _ _ _).1 h).2.2)
  | false =>
    rw [Bool.not_false]
    refine decide_eq_true ((con_mem _ _ _ _).2 ⟨h1, h2, (wo_conn hg hi).2 (Classical.byContradiction fun h => ?_)⟩)
    rw [dnB_true.2 h] at e
    cases e
theorem dn_has {N : Nat} {ps : List Pp} {p : Pp} {s v : Int} (h1 : 1 ≤ v) (h2 : v ≤ N) : hasB (dnL N ps p s) v = dnB ps p s v := by
  unfold hasB
  cases e : dnB ps p s v with
  | true => exact decide_eq_true (dn_mem.2 ⟨⟨h1, h2⟩, dnB_true.1 e⟩)
  | false => exact decide_eq_false fun h => by rw [dnB_true.2 (dn_mem.1 h).2] at e; cases e
theorem dhas_v {l : List Int} {x : Int} {v : Bool} (hv : hasB l x = v) (A : Option Addr) (cap : Nat) (w : World) (h : IAt w A l) (hn : l.length ≤ 1048576) :
    Calls Try.prog 110 #[.slice A l.length cap, .int .i64 x] w fun e w' => e = .returned (.bool v) ∧ w' = w := by rw [← hv]; exact has_any A cap l x w h hn

set_option maxHeartbeats 4000000 in
set_option maxRecDepth 100000 in
theorem sdn_any (N t i : Nat) (A : Option Addr) (cap : Nat) (ps : List Pp) (w : World) (h : PAt w A ps) (hc : ps.length ≤ cap) (hg : P2.Good N ps) (ht1 : 1 ≤ t) (ht2 : t ≤ N) (hil : i < ps.length) :
    Calls Try.prog 160 #[nv N A ps.length cap, .int .i64 (t : Int), .int .i64 (i : Int)] w (GivesL w (dnL N ps (pAt ps i) t)) := by
  have hl10 := hg.2.2.1
  have hN : N ≤ 8 := by have := hg.2.1; omega
  have H1 := Lib.hid (fun w' (hb : Below w.heap.size w w') => sw_all N i cap A ps w' (h.kept hb (Nat.le_refl _)) hil hc hl10)
  have H2 := Lib.hid (fun A2 c w' (hp : PAt w' A2 (wo ps i)) => sreach_any N t A2 c (wo ps i) w' hp (good_sub hg (wo_sub ps i)) ht1 ht2)
  have HH := Lib.hid (fun (k : Nat) (hk : k < N) => wet_has (t := t) hg hil (v := (k : Int) + 1) (by omega) (by omega))
  have hcl := conL_len N (wo ps i) t
  have HL := Lib.hid (show dnL N ps (pAt ps i) t = dnTo ps (pAt ps i) t N from rfl)
  obtain ⟨i0, hi, hz0, hz1, hz2⟩ := info_parts infoI
  clear h hg hc
  generalize pAt ps i = p at *
  go_enter Try.func160, Try.ntmps160
  go_wp2_with (first
    | (go_at_call 143; refine (H1.out _ ((Below.refl _ _).alloc (Nat.le_refl _) _)).mono ?_; rintro e w1 ⟨A2, c2, rfl, hp2, hb1⟩; have HX1 := Lib.hid (show Below (w.heap.size + 1) (w.alloc (nb N A ps.length cap)) w1 by simpa using hb1); have HP2 := Lib.hid hp2; clear hb1 hp2)
    | (go_at_call 111; refine (H2.out _ _ _ HP2.out).mono ?_; rintro e w2 ⟨g, o, c, rfl, hg2, hla, hb2⟩; have HX2 := Lib.hid (on_call HX1.out hb2); have HLA := Lib.hid hla.iat; clear hb2 hla; refine Hid.out ?_))
  have hBX := HX2.out
  have hz2w := box_lt hBX
  have HB2 := Lib.hid (below_box hBX)
  obtain ⟨b0, b1⟩ := box2 hBX
  have HO0 := Lib.hid (own_empty w2 w2.heap.size (Nat.le_refl _))
  have HB0 := Lib.hid (show Below w2.heap.size w2 (w2.alloc (.cells #[] 3)) from (Below.refl _ _).alloc (Nat.le_refl _) _)
  clear H1 H2 HX1 HP2 hBX
  refine Lib.hid ?_
  go_wp2
  go_loopw [8, 9] (fun v i wr => ∃ k : Nat, k ≤ N ∧ i = .int .i64 ((k : Int) + 1) ∧ Hid (IOwn wr w2.heap.size v (dnTo ps p t k)) ∧ Hid (v ≠ .slice none 0 0) ∧ Hid (Below w2.heap.size w2 wr)) (fun _ i _ => N + 1 - (intOf i).toNat)
  case atStart => exact ⟨0, Nat.zero_le _, rfl, HO0, Lib.hid (by simp), HB0⟩
  case round =>
    clear HO0 HB0
    obtain ⟨k, hk, rfl, hown, hvn, hB⟩ := hrel
    have c0 := (hB.out.cell (p := ⟨w.heap.size, 0, none⟩) hz2w).trans b0
    have hzr : w.heap.size < wr.heap.size := by have := hB.out.size; omega
    by_cases hlt : k < N
    · have HW := Lib.hid (HLA.out.kept hB.out (Nat.le_refl _))
      have hhas := HH.out k hlt
      have hdl := dnTo_len ps p t k
      have hk0 : (k : Int) + 1 ≤ (N : Int) := by omega
      cases hd : dnB ps p t ((k : Int) + 1) with
      | false =>
        rw [hd, Bool.not_false] at hhas
        have HC := Lib.hid (fun w' h => dhas_v hhas (some ⟨g, o, none⟩) c w' h (by omega))
        have hs := Lib.hid (dnTo_no hd)
        rw [← hs.out] at hown
        clear hhas hd
        go_wp2_with (go_at_call 110; refine (HC.out _ HW.out).mono ?_; rintro e w4 ⟨rfl, hw⟩; replace hw := hw.symm; subst hw)
        go_roundw
        case rel => exact ⟨k + 1, by omega, by go_num, hown, hvn, hB⟩
        case measure => simp [intOf]; omega
      | true =>
        rw [hd, Bool.not_true] at hhas
        have HC := Lib.hid (fun w' h => dhas_v hhas (some ⟨g, o, none⟩) c w' h (by omega))
        have hs := Lib.hid (dnTo_yes hd)
        have ho := hown.out
        unfold IOwn at ho
        clear hhas hd
        go_wp2_with (first
          | (go_at_call 110; refine (HC.out _ HW.out).mono ?_; rintro e w4 ⟨rfl, hw⟩; replace hw := hw.symm; subst hw)
          | (at_builtin; go_must (refine wpList_append_own _ rfl _ _ 27 rfl w2.heap.size 3 i0 (.int .i64 0) 1 8 Try.underlying27 hi hz0 hz1 hz2 rfl (by decide) _ _ _ rfl (ho.alloc _) ⟨wr.heap.size, 0, none⟩ 1 1 [iv ((k : Int) + 1)] rfl rfl (cell_one_new _ _ _) (by intro u hu; simp at hu; subst hu; rfl) (by unfold maxLen; omega) (by omega) (by have := hB.out.size; simp; omega) ?_); intro v' w7 hown' hgrow hnil))
        have hown3 := Lib.hid (IOwn.push hown')
        rw [← hs.out] at hown3
        have hB7 := Lib.hid ((hB.out.alloc hB.out.size (.cells #[iv ((k : Int) + 1)] 3)).grown hgrow (by have := hB.out.size; simp; omega) (fun g hg => (ho.lt g hg).1))
        have hnil3 := Lib.hid (show v' ≠ .slice none 0 0 from fun e => by simp [e] at hnil)
        clear hown' hgrow hnil ho
        go_wp2
        go_roundw
        case rel => exact ⟨k + 1, by omega, by go_num, hown3, hnil3, hB7⟩
        case measure => simp [intOf]; omega
    · have hkN : k = N := by omega
      have hown2 := hown.out
      rw [hkN, ← HL.out] at hown2
      obtain ⟨g', capg, rfl, hg'⟩ := own_slice hown2 hvn.out
      have HO := Lib.hid hown2
      have hkn : ¬ (k : Int) + 1 ≤ (N : Int) := by omega
      clear hkN hown2
      go_wp2
      go_ret
      exact ⟨g', capg, rfl, by omega, own_lower HO.out, HB2.out.trans (hB.out.mono HB2.out.size)⟩

set_option maxHeartbeats 4000000 in
set_option maxRecDepth 100000 in
theorem stf_any (N t : Nat) (A : Option Addr) (cap : Nat) (ps : List Pp) (AD : Option Addr) (dc : Nat) (dm : List Int) (w : World) (h : PAt w A ps) (hc : ps.length ≤ cap) (hd : IAt w AD dm) (hg : P2.Good N ps) (ht1 : 1 ≤ t) (ht2 : t ≤ N) (hr : allR 0 1000 dm = true) (hdn : (dm.length : Int) = N) :
    Calls Try.prog 85 #[nv N A ps.length cap, .int .i64 (t : Int), .slice AD dm.length dc] w (GivesL w (tfL N ps t dm)) := by
  have hl10 := hg.2.2.1
  have hN : N ≤ 8 := by have := hg.2.1; omega
  have H := Lib.hid (fun (i : Nat) (hi : i < ps.length) w' (hb : Below w.heap.size w w') => sdn_any N t i A cap ps w' (h.kept hb (Nat.le_refl _)) hc hg ht1 ht2 hi)
  have HA := Lib.hid (fun w' (hb : Below w.heap.size w w') => h.kept hb (Nat.le_refl _))
  have HI := Lib.hid (fun w' (hb : Below w.heap.size w w') => hd.kept hb (Nat.le_refl _))
  have HTK := Lib.hid (fun (l : List Int) (hmm : ∀ v, v ∈ l → 1 ≤ v ∧ v ≤ (N : Int)) (hl : l.length ≤ 8) k (hk : k ≤ l.length) => sumT_in hr (by omega) hmm hl hk)
  have HG := Lib.hid (fun k (hk : k < ps.length) => good_pp hg (pAt_mem hk))
  have HL := Lib.hid (show tfL N ps t dm = tfTo N ps t dm ps.length from rfl)
  have HDL := Lib.hid hdn
  have HTL := Lib.hid (tfTo_len N ps t dm)
  have HTS := Lib.hid (tfTo_snoc N ps t dm)
  obtain ⟨i0, hi, hz0, hz1, hz2⟩ := info_parts infoI
  have HO0 := Lib.hid (show IOwn ((w.alloc (nb N A ps.length cap)).alloc (.cells #[] 3)) (w.heap.size + 1) (.slice (some ⟨w.heap.size + 1, 0, none⟩) 0 0) [] from by
    have := own_empty (w.alloc (nb N A ps.length cap)) (w.heap.size + 1) (by simp)
    simpa using this)
  have HB0 := Lib.hid (show Below (w.heap.size + 1) (w.alloc (nb N A ps.length cap)) ((w.alloc (nb N A ps.length cap)).alloc (.cells #[] 3)) from (Below.refl _ _).alloc (by simp) _)
  clear h hd hr hg hdn hc
  go_enter Try.func85, Try.ntmps85
  go_wp2
  go_loopw [7, 8] (fun v i wr => ∃ k : Nat, k ≤ ps.length ∧ i = .int .i64 (k : Int) ∧ Hid (IOwn wr (w.heap.size + 1) v (tfTo N ps t dm k)) ∧ Hid (v ≠ .slice none 0 0) ∧ Hid (Below (w.heap.size + 1) (w.alloc (nb N A ps.length cap)) wr)) (fun _ i _ => ps.length - (intOf i).toNat)
  case atStart => exact ⟨0, Nat.zero_le _, rfl, HO0, Lib.hid (by simp), HB0⟩
  case round =>
    clear HO0 HB0
    obtain ⟨k, hk, rfl, hown, hvn, hX⟩ := hrel
    obtain ⟨c0, c1⟩ := box2 hX.out
    have hzr := box_lt hX.out
    have hB := Lib.hid (below_box hX.out)
    by_cases hlt : k < ps.length
    · have hk0 : (0 : Int) ≤ (k : Int) := by omega
      have hkn : (k : Int) < (ps.length : Int) := by omega
      have hgp := HG.out k hlt
      have hdl := dn_len N ps (pAt ps k) t
      have HDM := Lib.hid (fun v (h : v ∈ dnL N ps (pAt ps k) t) => (dn_mem.1 h).1)
      have hhas := dn_has (N := N) (ps := ps) (p := pAt ps k) (s := t) (v := (pAt ps k).fr) hgp.2.2.1 hgp.2.2.2.1
      have HFA := Lib.hid (show flowA N ps t dm k = if dnB ps (pAt ps k) t (pAt ps k).fr = true then -(sumG (tk dm) (dnL N ps (pAt ps k) t)) else sumG (tk dm) (dnL N ps (pAt ps k) t) from rfl)
      have HLM := Lib.hid (fun j (hj : j < (dnL N ps (pAt ps k) t).length) => (show 1 ≤ lA (dnL N ps (pAt ps k) t) j ∧ lA (dnL N ps (pAt ps k) t) j ≤ (N : Int) from HDM.out _ (by
        have e : lA (dnL N ps (pAt ps k) t) j = (dnL N ps (pAt ps k) t)[j] := by simp [lA, List.getD, hj]
        rw [e]; exact List.getElem_mem hj)))
      have HSK := Lib.hid (fun j (hj : j ≤ (dnL N ps (pAt ps k) t).length) => HTK.out _ HDM.out (by omega) j hj)
      have hsum := sumG_all (tk dm) (dnL N ps (pAt ps k) t)
      rw [← hsum] at HFA
      obtain ⟨b, off, hA, hbl, p0, p1, p2, p3⟩ := (HA.out _ hB.out).at_ hlt
      subst hA
      have HK := Lib.hid (H.out k hlt _ hB.out)
      obtain ⟨F, hF⟩ : ∃ F, flowA N ps t dm k = F := ⟨_, rfl⟩
      rw [hF] at HFA
      have hsn := HTS.out k
      rw [hF] at hsn
      have HSN := Lib.hid hsn
      have hdlen := HTL.out k
      clear hsn hF hsum HDM hgp
      generalize dnB ps (pAt ps k) t (pAt ps k).fr = db at *
      generalize dnL N ps (pAt ps k) t = l at *
      generalize pAt ps k = p at *
      obtain ⟨SM, hSM⟩ : ∃ SM, SM = (fun j => sumK (fun i => tk dm (lA l i)) j) := ⟨_, rfl⟩
      have HSM0 := Lib.hid (fun j => (congrFun hSM j).symm)
      have HSM1 := Lib.hid (fun j => show SM (j + 1) = SM j + tk dm (lA l j) by rw [hSM]; rfl)
      clear hSM
      rw [HSM0.out l.length] at HFA
      have HSK2 := Lib.hid (fun j (hj : j ≤ l.length) => (show 0 ≤ SM j ∧ SM j ≤ 8000 by have := HSK.out j hj; rw [HSM0.out j] at this; exact this))
      have HSZ := Lib.hid (show SM 0 = 0 by rw [← HSM0.out 0]; rfl)
      clear HSM0 HSK
      go_wp2_with (go_at_call 160; refine HK.out.mono ?_; rintro e w3 ⟨gD, cD, rfl, hgD, hOD, hb3⟩; refine Hid.out ?_)
      have hX3 := Lib.hid (on_call hX.out hb3)
      have hB3 := Lib.hid (below_box hX3.out)
      have HD3 := Lib.hid hOD.iat
      have hO3 := Lib.hid (hown.out.on hb3)
      have r1 := (hb3.cell (p := ⟨b, off + k * 4 + 1, none⟩) hbl).trans p1
      have hbl3 : b < w3.heap.size := by have := hb3.size; omega
      clear c0 c1 hzr p0 p1 p2 p3 hbl hb3 hOD
      obtain ⟨c0, c1⟩ := box2 hX3.out
      have hzr := box_lt hX3.out
      refine Lib.hid ?_
      go_wp2
      go_loop [10, 11] (fun s i => ∃ j : Nat, j ≤ l.length ∧ i = .int .i64 (j : Int) ∧ s = .int .i64 (SM j)) (fun _ i => l.length - (intOf i).toNat)
      case atStart => exact ⟨0, Nat.zero_le _, rfl, by rw [HSZ.out]⟩
      case round =>
        obtain ⟨j, hj, rfl, rfl⟩ := hrel
        by_cases hjl : j < l.length
        · obtain ⟨v1, v2⟩ := HLM.out j hjl
          obtain ⟨u, hu⟩ : ∃ u : Nat, lA l j = (u : Int) + 1 := ⟨(lA l j - 1).toNat, by omega⟩
          have hud : u < dm.length := by have := HDL.out; omega
          obtain ⟨bb, of2, hA2, hbl2, x0⟩ := (HI.out _ hB3.out).at_ hud
          subst hA2
          obtain ⟨bN, oN, hAN, hblN, x1⟩ := HD3.out.at_ hjl
          simp only [Option.some.injEq, Addr.mk.injEq, and_true] at hAN
          obtain ⟨rfl, rfl⟩ := hAN
          rw [Nat.zero_add] at x1
          have hla : l.getD j 0 = lA l j := rfl
          rw [hla, hu] at x1
          have hs0 := HSK2.out j (by omega)
          have hs1 := HSK2.out (j + 1) hjl
          have hsn := HSM1.out j
          have htk : tk dm (lA l j) = dm.getD u 0 := by unfold tk; rw [hu, Int.add_sub_cancel, Int.toNat_natCast]
          rw [htk] at hsn
          have HSN2 := Lib.hid hsn
          rw [hsn] at hs1
          have hj0 : (0 : Int) ≤ (j : Int) := by omega
          have hjn : (j : Int) < (l.length : Int) := by omega
          have hu0 : (0 : Int) ≤ (u : Int) := by omega
          have hun : (u : Int) < (dm.length : Int) := by omega
          clear hsn htk hla hu v1 v2
          generalize dm.getD u 0 = x at *
          generalize SM j = s at *
          have wS : IntKind.i64.wrap (s + x) = s + x := w64 _ (by omega)
          have hu9 : (u : Int) < 9 := by have := HDL.out; omega
          have wU : IntKind.i64.wrap ((u : Int) + 1 - 1) = (u : Int) := by rw [w64 _ (by omega)]; omega
          have wU2 : IntKind.i64.wrap (u : Int) = (u : Int) := w64 _ (by omega)
          go_wp2
          go_round
          case rel => exact ⟨j + 1, by omega, by go_num, by rw [HSN2.out]⟩
          case measure => simp [intOf]; omega
        · have ej : j = l.length := by omega
          subst ej
          have HC := Lib.hid (fun w' h => dhas_v hhas (some ⟨gD, 0, none⟩) cD w' h (by omega))
          have hs0 := HSK2.out l.length (Nat.le_refl _)
          have ho := hO3.out
          unfold IOwn at ho
          have hz3 := hX3.out.size
          simp at hz3
          cases db with
          | true =>
            have hF : F = -(SM l.length) := by rw [HFA.out, if_pos rfl]
            have HFF := Lib.hid hF
            clear hF hhas
            generalize SM l.length = s at *
            go_wp2_with (first
              | (go_at_call 110; refine (HC.out _ HD3.out).mono ?_; rintro e w4 ⟨rfl, hw⟩; replace hw := hw.symm; subst hw)
              | (at_builtin; go_must (refine wpList_append_own _ rfl _ _ 27 rfl (w.heap.size + 1) 3 i0 (.int .i64 0) 1 8 Try.underlying27 hi hz0 hz1 hz2 rfl (by decide) _ _ _ rfl (ho.alloc _) ⟨w3.heap.size, 0, none⟩ 1 1 [iv (-s)] rfl rfl (cell_one_new _ _ _) (by intro u hu; simp at hu; subst hu; rfl) (by unfold maxLen; omega) (by omega) (by simp; omega) ?_); intro v' w7 hown' hgrow hnil))
            have hown3 := Lib.hid (IOwn.push hown')
            rw [← HFF.out, ← HSN.out] at hown3
            have hX7 := Lib.hid ((hX3.out.alloc (by omega) (.cells #[iv (-s)] 3)).grown hgrow (by simp; omega) (fun g hg => (ho.lt g hg).1))
            have hnil3 := Lib.hid (show v' ≠ .slice none 0 0 from fun e => by simp [e] at hnil)
            clear hown' hgrow hnil ho
            go_wp2
            go_roundw
            case rel => exact ⟨k + 1, by omega, by go_num, hown3, hnil3, hX7⟩
            case measure => simp [intOf]; omega
          | false =>
            have hF : F = SM l.length := by rw [HFA.out, if_neg (by simp)]
            have HFF := Lib.hid hF
            clear hF hhas
            generalize SM l.length = s at *
            go_wp2_with (first
              | (go_at_call 110; refine (HC.out _ HD3.out).mono ?_; rintro e w4 ⟨rfl, hw⟩; replace hw := hw.symm; subst hw)
              | (at_builtin; go_must (refine wpList_append_own _ rfl _ _ 27 rfl (w.heap.size + 1) 3 i0 (.int .i64 0) 1 8 Try.underlying27 hi hz0 hz1 hz2 rfl (by decide) _ _ _ rfl (ho.alloc _) ⟨w3.heap.size, 0, none⟩ 1 1 [iv s] rfl rfl (cell_one_new _ _ _) (by intro u hu; simp at hu; subst hu; rfl) (by unfold maxLen; omega) (by omega) (by simp; omega) ?_); intro v' w7 hown' hgrow hnil))
            have hown3 := Lib.hid (IOwn.push hown')
            rw [← HFF.out, ← HSN.out] at hown3
            have hX7 := Lib.hid ((hX3.out.alloc (by omega) (.cells #[iv s] 3)).grown hgrow (by simp; omega) (fun g hg => (ho.lt g hg).1))
            have hnil3 := Lib.hid (show v' ≠ .slice none 0 0 from fun e => by simp [e] at hnil)
            clear hown' hgrow hnil ho
            go_wp2
            go_roundw
            case rel => exact ⟨k + 1, by omega, by go_num, hown3, hnil3, hX7⟩
            case measure => simp [intOf]; omega
    · have hkN : k = ps.length := by omega
      have hown2 := hown.out
      rw [hkN, ← HL.out] at hown2
      obtain ⟨g', capg, rfl, hg'⟩ := own_slice hown2 hvn.out
      have HO := Lib.hid hown2
      clear hkN hown2
      go_wp2
      go_ret
      exact ⟨g', capg, rfl, by omega, own_lower HO.out, hB.out⟩
end Go.Proofs.Ytikppgbipdflbab.S2
