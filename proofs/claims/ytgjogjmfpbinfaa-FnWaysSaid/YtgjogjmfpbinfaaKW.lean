/- The model's BridgePipes: contracts. Conditions: each theorem's own premises. -/
import Derived.Test.YtgjogjmfpbinfaaKQ
import Derived.Test.YtgjogjmfpbinfaaKN
import Derived.Lib.AppendZeros
namespace Go.Proofs.Ytgjogjmfpbinfaa.S2
open Go.RowKit P2

/-- One pipe changes the distance by one at most. -/
theorem dist_step {ps : List Pp} {t a b : Int} (ha : Adj ps a b) (hd : dist ps t b ≠ -1) : dist ps t a ≠ -1 ∧ dist ps t a ≤ dist ps t b + 1 := by
  rcases dist_is ps t b with ⟨h1, _⟩ | ⟨k, h1, h2, _⟩
  · exact absurd h1 hd
  · have hp : Path ps (k + 1) a t := ⟨b, ha, h2⟩
    refine ⟨dist_conn.2 ⟨_, hp⟩, ?_⟩
    rcases dist_is ps t a with ⟨g1, _⟩ | ⟨j, g1, _, g3⟩
    · omega
    · have := g3 _ hp; omega
theorem dist_pre {ps : List Pp} {t v : Int} {k : Nat} (h : dist ps t v = (k + 1 : Nat)) : ∃ c, Adj ps v c ∧ dist ps t c = k := by
  rcases dist_is ps t v with ⟨h1, _⟩ | ⟨m, h1, h2, h3⟩
  · omega
  · have e : m = k + 1 := by omega
    subst e
    obtain ⟨c, ha, hp⟩ := h2
    refine ⟨c, ha, isD_one (dist_is ps t c) (.inr ⟨k, rfl, hp, fun j hj => ?_⟩)⟩
    have := h3 (j + 1) ⟨c, ha, hj⟩
    omega
theorem dist_lo (ps : List Pp) (t v : Int) : -1 ≤ dist ps t v := by
  rcases dist_is ps t v with ⟨h1, _⟩ | ⟨m, h1, _, _⟩ <;> omega
theorem dist_zero {ps : List Pp} {t v : Int} (h : dist ps t v = 0) : v = t := by
  rcases dist_is ps t v with ⟨h1, _⟩ | ⟨m, h1, h2, _⟩
  · omega
  · have e : m = 0 := by omega
    subst e
    exact h2
theorem adj_in {n : Nat} {ps : List Pp} (hg : P2.Good n ps) {a b : Int} (h : Adj ps a b) : (1 ≤ a ∧ a ≤ n) ∧ 1 ≤ b ∧ b ≤ n := by
  obtain ⟨p, hp, hj⟩ := h
  have hok := good_pp hg hp
  unfold PpOk at hok
  rcases hj with ⟨h1, h2⟩ | ⟨h1, h2⟩ <;> omega

theorem countP_two (l : List Nat) (r p q : Nat → Bool) (h : ∀ x, r x = (p x || q x)) (hd : ∀ x, ¬ (p x = true ∧ q x = true)) : l.countP r = l.countP p + l.countP q := by
  induction l with
  | nil => rfl
  | cons x l ih =>
    rw [List.countP_cons, List.countP_cons, List.countP_cons, ih, h x]
    have := hd x
    cases hp : p x <;> cases hq : q x <;> simp_all <;> omega
/-- No distance is greater than the number of nodes. -/
theorem dist_le {n : Nat} {ps : List Pp} (hg : P2.Good n ps) {t : Int} (v : Nat) (hv : v ≤ n) : dist ps t v ≤ n := by
  have lev : ∀ (k : Nat) (v : Nat), v ≤ n → dist ps t v = k → k + 1 ≤ (List.range (n + 1)).countP (fun u => decide (0 ≤ dist ps t (u : Nat) ∧ dist ps t (u : Nat) < (k : Int) + 1)) := by
    intro k
    induction k with
    | zero =>
      intro v hv h
      exact List.countP_pos_iff.2 ⟨v, List.mem_range.2 (by omega), by simp; omega⟩
    | succ k ih =>
      intro v hv h
      obtain ⟨c, ha, hc⟩ := dist_pre h
      have hci := (adj_in hg ha).2
      obtain ⟨m, rfl⟩ : ∃ m : Nat, c = m := ⟨c.toNat, by omega⟩
      have h1 := ih m (by omega) hc
      have h2 := countP_two (List.range (n + 1)) (fun u => decide (0 ≤ dist ps t (u : Nat) ∧ dist ps t (u : Nat) < ((k + 1 : Nat) : Int) + 1)) (fun u => decide (0 ≤ dist ps t (u : Nat) ∧ dist ps t (u : Nat) < (k : Int) + 1)) (fun u => decide (dist ps t (u : Nat) = (k : Int) + 1)) (fun x => by
        rw [← Bool.decide_or]
        refine decide_eq_decide.2 ?_
        have := dist_lo ps t (x : Nat)
        omega) (fun x hx => by
          obtain ⟨a, b⟩ := hx
          have a := of_decide_eq_true a
          have b := of_decide_eq_true b
          omega)
      have h3 : 0 < (List.range (n + 1)).countP (fun u => decide (dist ps t (u : Nat) = (k : Int) + 1)) :=
        List.countP_pos_iff.2 ⟨v, List.mem_range.2 (by omega), by simp; omega⟩
      omega
  rcases dist_is ps t v with ⟨h1, _⟩ | ⟨k, h1, _, _⟩
  · omega
  · have h2 := lev k v hv h1
    have h3 : (List.range (n + 1)).countP (fun u => decide (0 ≤ dist ps t (u : Nat) ∧ dist ps t (u : Nat) < (k : Int) + 1)) ≤ n + 1 := by
      have := List.countP_le_length (p := fun u : Nat => decide (0 ≤ dist ps t (u : Nat) ∧ dist ps t (u : Nat) < (k : Int) + 1)) (l := List.range (n + 1))
      simpa using this
    omega

/-! ### The way -/
noncomputable def nearB (ps : List Pp) (t h : Int) (p : Pp) : Bool := decide (dist ps t (oth p h) < dist ps t h)
noncomputable def wayL (ps : List Pp) (t : Int) : Nat → Nat → List Int
  | 0, _ => []
  | k + 1, h => match (rowOf ps h).find? (nearB ps t h) with
    | none => []
    | some p => p.id :: wayL ps t k (oth p h).toNat
theorem wayL_len (ps : List Pp) (t : Int) : ∀ (k h : Nat), (wayL ps t k h).length ≤ k
  | 0, _ => Nat.le_refl _
  | k + 1, h => by
    unfold wayL
    split
    · simp
    · simp only [List.length_cons]; have := wayL_len ps t k (oth (by assumption) h).toNat; omega
theorem find_at {α : Type} [Inhabited α] (q : α → Bool) : ∀ (l : List α) (j : Nat) (d : α), j < l.length → (∀ i, i < j → q (l.getD i d) = false) → q (l.getD j d) = true → l.find? q = some (l.getD j d)
  | [], j, d, h, _, _ => by simp at h
  | x :: l, 0, d, _, _, h2 => by
    have e : (x :: l).getD 0 d = x := rfl
    rw [e] at h2 ⊢
    simp [h2]
  | x :: l, j + 1, d, h, h1, h2 => by
    have h0 : q x = false := h1 0 (by omega)
    have e : (x :: l).getD (j + 1) d = l.getD j d := by simp [List.getD]
    rw [e] at h2 ⊢
    rw [List.find?_cons, h0]
    exact find_at q l j d (by simpa using h) (fun i hi => by
      have := h1 (i + 1) (by omega)
      have e2 : (x :: l).getD (i + 1) d = l.getD i d := by simp [List.getD]
      rwa [e2] at this) h2
instance : Inhabited Pp := ⟨⟨0, 0, 0, 0⟩⟩
theorem way_row {ps : List Pp} {t : Int} {h k j : Nat} {u : Nat} (hj : j < (rowOf ps h).length) (h1 : ∀ i, i < j → nearB ps t h (pAt (rowOf ps h) i) = false) (h2 : nearB ps t h (pAt (rowOf ps h) j) = true) (hu : oth (pAt (rowOf ps h) j) h = u) :
    wayL ps t (k + 1) h = (pAt (rowOf ps h) j).id :: wayL ps t k u := by
  have e := find_at (nearB ps t h) (rowOf ps h) j ⟨0, 0, 0, 0⟩ hj h1 h2
  have e2 : (rowOf ps h).getD j ⟨0, 0, 0, 0⟩ = pAt (rowOf ps h) j := rfl
  rw [e2] at e
  have e3 : wayL ps t (k + 1) h = match (rowOf ps h).find? (nearB ps t h) with
    | none => []
    | some p => p.id :: wayL ps t k (oth p h).toNat := rfl
  rw [e3, e]
  show _ :: wayL ps t k (oth (pAt (rowOf ps h) j) h).toNat = _
  rw [hu]
  rfl
theorem way_all {ps : List Pp} {t : Int} {h k j : Nat} {u : Nat} (hj : j < ps.length) (h1 : ∀ i, i < j → (touchB h (pAt ps i) && nearB ps t h (pAt ps i)) = false) (h2 : (touchB h (pAt ps j) && nearB ps t h (pAt ps j)) = true) (hu : oth (pAt ps j) h = u) :
    wayL ps t (k + 1) h = (pAt ps j).id :: wayL ps t k u := by
  have e := find_at (fun p => touchB h p && nearB ps t h p) ps j ⟨0, 0, 0, 0⟩ hj h1 h2
  have e2 : ps.getD j ⟨0, 0, 0, 0⟩ = pAt ps j := rfl
  rw [e2] at e
  have e4 : (rowOf ps h).find? (nearB ps t h) = ps.find? (fun p => touchB h p && nearB ps t h p) := by
    unfold rowOf
    rw [List.find?_filter]
    congr 1
    funext a
    simp [Bool.decide_and]
  have e3 : wayL ps t (k + 1) h = match (rowOf ps h).find? (nearB ps t h) with
    | none => []
    | some p => p.id :: wayL ps t k (oth p h).toNat := rfl
  rw [e3, e4, e]
  show _ :: wayL ps t k (oth (pAt ps j) h).toNat = _
  rw [hu]
  rfl
theorem near_iff {ps : List Pp} {t : Int} {h k : Nat} {p : Pp} (hd : dist ps t h = (k + 1 : Nat)) (hp : p ∈ ps) (ht : p.fr = (h : Int) ∨ p.to = (h : Int)) : nearB ps t h p = true ↔ dist ps t (oth p h) = k := by
  have ha : Adj ps h (oth p h) := ⟨p, hp, oth_jn ht⟩
  have h1 := dist_step (t := t) ha.symm (by omega)
  have h2 := dist_step (t := t) ha h1.1
  unfold nearB
  rw [decide_eq_true_iff]
  have := dist_lo ps t (oth p h)
  omega
theorem near_ex {n : Nat} {ps : List Pp} (hg : P2.Good n ps) {t : Int} {h k : Nat} (hd : dist ps t h = (k + 1 : Nat)) : ∃ p, p ∈ ps ∧ (p.fr = (h : Int) ∨ p.to = (h : Int)) ∧ nearB ps t h p = true := by
  obtain ⟨c, ha, hc⟩ := dist_pre hd
  obtain ⟨p, hp, hj⟩ := ha
  obtain ⟨ho, ht⟩ := jn_oth (good_pp hg hp) hj
  exact ⟨p, hp, ht, (near_iff hd hp ht).2 (by rw [ho]; exact hc)⟩
theorem near_row {n : Nat} {ps : List Pp} (hg : P2.Good n ps) {t : Int} {h k : Nat} (hd : dist ps t h = (k + 1 : Nat)) : ¬ ∀ i, i < (rowOf ps h).length → nearB ps t h (pAt (rowOf ps h) i) = false := by
  intro hn
  obtain ⟨p, hp, ht, hnr⟩ := near_ex hg hd
  have hm : p ∈ rowOf ps h := List.mem_filter.2 ⟨hp, by simpa [touchB] using ht⟩
  obtain ⟨i, hi⟩ := List.getElem?_of_mem hm
  have hlt : i < (rowOf ps h).length := (List.getElem?_eq_some_iff.1 hi).1
  have e : pAt (rowOf ps h) i = p := by simp [pAt, List.getD, hi]
  have := hn i hlt
  rw [e, hnr] at this
  cases this
theorem near_all {n : Nat} {ps : List Pp} (hg : P2.Good n ps) {t : Int} {h k : Nat} (hd : dist ps t h = (k + 1 : Nat)) : ¬ ∀ i, i < ps.length → (touchB h (pAt ps i) && nearB ps t h (pAt ps i)) = false := by
  intro hn
  obtain ⟨p, hp, ht, hnr⟩ := near_ex hg hd
  obtain ⟨i, hi⟩ := List.getElem?_of_mem hp
  have hlt : i < ps.length := (List.getElem?_eq_some_iff.1 hi).1
  have e : pAt ps i = p := by simp [pAt, List.getD, hi]
  have := hn i hlt
  rw [e, hnr, show touchB h p = true by simpa [touchB] using ht] at this
  cases this

/-! ### Levels -/
/-- In step s of the search by levels: what is told is right; all up to s is told. -/
structure Lv (n : Nat) (ps : List Pp) (t : Int) (s : Nat) (D : List Int) : Prop where
  len : D.length = n + 1
  zero : dA D 0 = -1
  told : ∀ v : Nat, 1 ≤ v → v ≤ n → 0 ≤ dist ps t v → dist ps t v ≤ s → dA D v = dist ps t v
  rest : ∀ v : Nat, 1 ≤ v → v ≤ n → (dist ps t v = -1 ∨ (s : Int) < dist ps t v) → dA D v = -1 ∨ (dA D v = (s : Int) + 1 ∧ dist ps t v = (s : Int) + 1)
def step1 (D : List Int) (a b s : Nat) : List Int := if dA D a = s ∧ dA D b < 0 then D.set b ((s : Int) + 1) else D
theorem step1_yes {D : List Int} {a b s : Nat} (h : dA D a = s ∧ dA D b < 0) : step1 D a b s = D.set b ((s : Int) + 1) := by unfold step1; rw [if_pos h]
theorem step1_no {D : List Int} {a b s : Nat} (h : ¬ (dA D a = s ∧ dA D b < 0)) : step1 D a b s = D := by unfold step1; rw [if_neg h]
theorem step1_len (D : List Int) (a b s : Nat) : (step1 D a b s).length = D.length := by unfold step1; split <;> simp
theorem Lv.step {n : Nat} {ps : List Pp} {t : Int} {s : Nat} {D : List Int} (l : Lv n ps t s D) {a b : Nat} (ha : Adj ps a b) (ha1 : 1 ≤ a) (han : a ≤ n) (hb1 : 1 ≤ b) (hbn : b ≤ n) :
    Lv n ps t s (step1 D a b s) ∧ (∀ v, dA D v ≠ -1 → dA (step1 D a b s) v = dA D v) ∧ (dist ps t a = s → dist ps t b = (s : Int) + 1 → dA (step1 D a b s) b = (s : Int) + 1) := by
  have hbl : b < D.length := by have := l.len; omega
  have lb := dist_lo ps t b
  have la := dist_lo ps t a
  have rb := l.rest b hb1 hbn
  have ra := l.rest a ha1 han
  have tb := l.told b hb1 hbn
  have ta := l.told a ha1 han
  unfold step1
  by_cases hc : dA D a = s ∧ dA D b < 0
  · rw [if_pos hc]
    have hda : dist ps t a = s := by
      by_cases h1 : 0 ≤ dist ps t a ∧ dist ps t a ≤ s
      · have := ta h1.1 h1.2; omega
      · have := ra (by omega); omega
    have hst := dist_step (t := t) ha.symm (by omega)
    have hdb : dist ps t b = (s : Int) + 1 ∧ dA D b = -1 := by
      by_cases h1 : 0 ≤ dist ps t b ∧ dist ps t b ≤ s
      · have := tb h1.1 h1.2; omega
      · have := rb (by omega); omega
    refine ⟨⟨by simpa using l.len, by rw [dA_set_ne _ _ _ _ (by omega)]; exact l.zero, fun v hv1 hvn h0 hs => ?_, fun v hv1 hvn hv => ?_⟩, fun v hv => ?_, fun _ _ => dA_set_same _ _ _ hbl⟩
    · have : v ≠ b := by intro e; subst e; omega
      rw [dA_set_ne _ _ _ _ this]; exact l.told v hv1 hvn h0 hs
    · by_cases e : v = b
      · subst e; rw [dA_set_same _ _ _ hbl]; exact .inr ⟨rfl, hdb.1⟩
      · rw [dA_set_ne _ _ _ _ e]; exact l.rest v hv1 hvn hv
    · have : v ≠ b := by intro e; subst e; exact hv hdb.2
      rw [dA_set_ne _ _ _ _ this]
  · rw [if_neg hc]
    refine ⟨l, fun _ _ => rfl, fun h1 h2 => ?_⟩
    have := ta (by omega) (by omega)
    have := rb (by omega)
    omega
/-- Within a step: the first k pipes have been seen. -/
structure Lk (n : Nat) (ps : List Pp) (t : Int) (s k : Nat) (D : List Int) : Prop where
  lv : Lv n ps t s D
  seen : ∀ i, i < k → i < ps.length → ∀ a b : Nat, Jn (pAt ps i) a b → dist ps t a = s → dist ps t b = (s : Int) + 1 → dA D b = (s : Int) + 1
theorem Lk.start {n : Nat} {ps : List Pp} {t : Int} {s : Nat} {D : List Int} (l : Lv n ps t s D) : Lk n ps t s 0 D := ⟨l, fun i hi => absurd hi (by omega)⟩
theorem Lk.step {n : Nat} {ps : List Pp} {t : Int} {s k : Nat} {D : List Int} (l : Lk n ps t s k D) (hg : P2.Good n ps) (hk : k < ps.length) {a b : Nat} (ha : (pAt ps k).fr = a) (hb : (pAt ps k).to = b) :
    Lk n ps t s (k + 1) (step1 (step1 D a b s) b a s) := by
  have hm : pAt ps k ∈ ps := by
    have e : pAt ps k = ps[k] := by simp [pAt, List.getD, hk]
    rw [e]; exact List.getElem_mem hk
  have hadj : Adj ps a b := ⟨_, hm, .inl ⟨ha, hb⟩⟩
  have hin := adj_in hg hadj
  obtain ⟨l1, m1, p1⟩ := l.lv.step hadj (by omega) (by omega) (by omega) (by omega)
  obtain ⟨l2, m2, p2⟩ := l1.step hadj.symm (by omega) (by omega) (by omega) (by omega)
  refine ⟨l2, fun i hi hr x y hj hx hy => ?_⟩
  by_cases e : i = k
  · subst e
    rcases hj with ⟨h1, h2⟩ | ⟨h1, h2⟩
    · have e1 : a = x := by omega
      have e2 : b = y := by omega
      subst e1; subst e2
      have := p1 hx hy
      rw [m2 _ (by rw [this]; omega)]; exact this
    · have e1 : b = x := by omega
      have e2 : a = y := by omega
      subst e1; subst e2
      exact p2 hx hy
  · have h0 := l.seen i (by omega) hr x y hj hx hy
    have h3 := m1 y (by rw [h0]; omega)
    rw [m2 y (by rw [h3, h0]; omega), h3]
    exact h0
theorem Lk.finish {n : Nat} {ps : List Pp} {t : Int} {s k : Nat} {D : List Int} (l : Lk n ps t s k D) (hg : P2.Good n ps) (hk : ps.length ≤ k) : Lv n ps t (s + 1) D := by
  refine ⟨l.lv.len, l.lv.zero, fun v hv1 hvn h0 hs => ?_, fun v hv1 hvn hv => ?_⟩
  · by_cases h : dist ps t v ≤ s
    · exact l.lv.told v hv1 hvn h0 h
    · have e : dist ps t v = (s + 1 : Nat) := by omega
      obtain ⟨c, ha, hc⟩ := dist_pre e
      have hci := (adj_in hg ha).2
      obtain ⟨m, rfl⟩ : ∃ m : Nat, c = m := ⟨c.toNat, by omega⟩
      obtain ⟨p, hp, hj⟩ := ha
      obtain ⟨i, hi⟩ := List.getElem?_of_mem hp
      have hlt : i < ps.length := (List.getElem?_eq_some_iff.1 hi).1
      have e2 : pAt ps i = p := by simp [pAt, List.getD, hi]
      rw [l.seen i (by omega) hlt m v (by rw [e2]; exact hj.symm) hc (by omega)]
      omega
  · have := l.lv.rest v hv1 hvn (by omega)
    omega
theorem Lv.start (n : Nat) (ps : List Pp) (t : Nat) (h1 : 1 ≤ t) (h2 : t ≤ n) : Lv n ps t 0 ((List.replicate (n + 1) (-1)).set t 0) := by
  have hl : t < (List.replicate (n + 1) (-1 : Int)).length := by simp; omega
  have hr : ∀ v, v ≤ n → dA (List.replicate (n + 1) (-1 : Int)) v = -1 := by
    intro v hv
    have : v < n + 1 := by omega
    simp [dA, List.getD, this]
  refine ⟨by simp, by rw [dA_set_ne _ _ _ _ (by omega)]; exact hr 0 (by omega), fun v hv1 hvn h0 hs => ?_, fun v hv1 hvn hv => ?_⟩
  · have e : dist ps t v = 0 := by omega
    have e2 : v = t := by have := dist_zero e; omega
    subst e2
    rw [dA_set_same _ _ _ hl, e]
  · have e2 : v ≠ t := by intro e; subst e; rw [dist_self] at hv; omega
    rw [dA_set_ne _ _ _ _ e2]
    exact .inl (hr v hvn)
theorem Lv.all {n : Nat} {ps : List Pp} {t : Int} {D : List Int} (l : Lv n ps t n D) (hg : P2.Good n ps) : D = distL n ps t := by
  apply List.ext_getElem
  · rw [l.len]; simp [distL]
  · intro v hv hv2
    have hvN : v ≤ n := by rw [l.len] at hv; omega
    have e : D[v] = dA D v := by simp [dA, List.getD, hv]
    rw [e]
    simp only [distL, List.getElem_map, List.getElem_range]
    by_cases h0 : v = 0
    · rw [if_pos h0, h0]; exact l.zero
    · rw [if_neg h0]
      have hle := dist_le (t := t) hg v hvN
      have hlo := dist_lo ps t v
      by_cases h : 0 ≤ dist ps t v
      · exact l.told v (by omega) hvN h hle
      · have := l.rest v (by omega) hvN (by omega)
        omega
end Go.Proofs.Ytgjogjmfpbinfaa.S2

namespace Go.Proofs.Ytgjogjmfpbinfaa.S2
open Go.RowKit P2

/-- A row of numbers of the call's own, read as a block. -/
theorem rep_succ (k : Nat) : List.replicate (k + 1) (-1 : Int) = List.replicate k (-1) ++ [-1] := List.replicate_succ'
/-- An own row of numbers, one of them set. -/
theorem IOwn.set {w : World} {B g n cap : Nat} {D : List Int} (h : IOwn w B (.slice (some ⟨g, 0, none⟩) n cap) D) (hn : D.length = n) (v : Nat) (x : Int) :
    IOwn (w.setCell ⟨g, v, none⟩ (iv x)) B (.slice (some ⟨g, 0, none⟩) n cap) (D.set v x) := by
  subst hn
  unfold IOwn at h ⊢
  have h2 := (h.stored v (iv x)).1
  rw [List.length_set, List.map_set]
  exact h2
theorem IOwn.cell {w : World} {B g n cap : Nat} {D : List Int} (h : IOwn w B (.slice (some ⟨g, 0, none⟩) n cap) D) (hn : D.length = n) {v : Nat} (hv : v < D.length) : w.cell? ⟨g, v, none⟩ = some (iv (dA D v)) := by
  subst hn
  unfold IOwn at h
  rw [h.cellAt v (by omega)]
  simp [dA, List.getD, hv]
theorem IOwn.frozen {w : World} {B g n cap : Nat} {D : List Int} (h : IOwn w B (.slice (some ⟨g, 0, none⟩) n cap) D) (hn : D.length = n) (v : Nat) : w.frozen? ⟨g, v, none⟩ = false := by
  subst hn
  unfold IOwn at h
  exact h.frozenAt v

set_option maxHeartbeats 8000000 in
set_option maxRecDepth 100000 in
theorem steps_any (N t : Nat) (A : Option Addr) (cap : Nat) (ps : List Pp) (w : World) (h : PAt w A ps) (hg : P2.Good N ps) (ht1 : 1 ≤ t) (ht2 : t ≤ N) :
    Calls Try.prog 223 #[nv N A ps.length cap, .int .i64 (t : Int)] w fun e w' => ∃ g c, e = .returned (.slice (some ⟨g, 0, none⟩) (N + 1) c) ∧ w.heap.size ≤ g ∧ IOwn w' w.heap.size (.slice (some ⟨g, 0, none⟩) (N + 1) c) (distL N ps t) ∧ Below w.heap.size w w' := by
  have HA := Lib.hid h
  have HG := Lib.hid hg
  have hN : N ≤ 8 := by have := hg.2.1; omega
  have hl10 := hg.2.2.1
  obtain ⟨i0, hi, hz0, hz1, hz2⟩ := info_parts infoI
  have HST := Lib.hid (Lv.start N ps t ht1 ht2)
  have ht0 : (0 : Int) ≤ (t : Int) := by omega
  have htN : (t : Int) < (N : Int) + 1 := by omega
  clear h hg
  go_enter Try.func223, Try.ntmps223
  go_wp2
  have hb0 : Below (w.heap.size + 1) (w.alloc (.cells #[.int .i64 N, .slice A ps.length cap] 30)) ((w.alloc (.cells #[.int .i64 N, .slice A ps.length cap] 30)).alloc (.cells #[] 3)) := (Below.refl _ _).alloc (by simp) _
  have hO1 : IOwn ((w.alloc (.cells #[.int .i64 N, .slice A ps.length cap] 30)).alloc (.cells #[] 3)) (w.heap.size + 1) (.slice (some ⟨w.heap.size + 1, 0, none⟩) 0 0) [] := by
    have := own_empty (w.alloc (.cells #[.int .i64 N, .slice A ps.length cap] 30)) (w.heap.size + 1) (by simp)
    simpa using this
  go_loopw [5, 6] (fun v i wr => ∃ k : Nat, k ≤ N + 1 ∧ i = .int .i64 k ∧ Hid (IOwn wr (w.heap.size + 1) v (List.replicate k (-1))) ∧ Hid (v ≠ .slice none 0 0) ∧ Below (w.heap.size + 1) (w.alloc (.cells #[.int .i64 N, .slice A ps.length cap] 30)) wr) (fun _ i _ => N + 1 - (intOf i).toNat)
  case atStart => exact ⟨0, Nat.zero_le _, rfl, Lib.hid hO1, Lib.hid (by simp), hb0⟩
  case round =>
    clear hO1 hb0
    obtain ⟨k, hk, rfl, hown, hvn, hb⟩ := hrel
    have hzl := box_lt hb
    obtain ⟨b0, b1⟩ := box2 hb
    by_cases hlt : k < N + 1
    · have hkN : (k : Int) ≤ (N : Int) := by omega
      have ho := hown.out
      unfold IOwn at ho
      rw [List.length_replicate] at ho
      go_wp2_with (at_builtin; go_must (refine wpList_append_own _ rfl _ _ 34 rfl (w.heap.size + 1) 3 i0 (.int .i64 0) 1 8 Try.underlying34 hi hz0 hz1 hz2 rfl (by decide) _ _ _ rfl (ho.alloc _) ⟨wr.heap.size, 0, none⟩ 1 1 [iv (-1)] rfl rfl (cell_one_new _ _ _) (by intro u hu; simp at hu; subst hu; rfl) (by unfold maxLen; omega) (by omega) (by have := hb.size; simp at this ⊢; omega) ?_))
      intro v' w3 hown' hgrow hnil
      have hown3 := Lib.hid (show IOwn w3 (w.heap.size + 1) v' (List.replicate (k + 1) (-1)) by
        rw [rep_succ]
        refine IOwn.push ?_
        rw [List.length_replicate, List.map_replicate]
        exact hown')
      have hB3 := Lib.hid ((hb.alloc hzl (.cells #[iv (-1)] 3)).grown hgrow (by simp; omega) (fun g hg => (ho.lt g hg).1))
      have hnil3 := Lib.hid (show v' ≠ .slice none 0 0 from fun e => by simp [e] at hnil)
      clear hown' hgrow hnil ho
      go_wp2
      go_roundw
      case rel => exact ⟨k + 1, by omega, by go_num, hown3, hnil3, hB3.out⟩
      case measure => simp [intOf]; omega
    · have hkk : k = N + 1 := by omega
      subst hkk
      obtain ⟨g, capg, rfl, hgB⟩ := own_slice hown.out hvn.out
      have ho := hown.out
      rw [List.length_replicate] at ho ⊢
      have hor : IOwn wr (w.heap.size + 1) (.slice (some ⟨g, 0, none⟩) (List.replicate (N + 1) (-1 : Int)).length capg) (List.replicate (N + 1) (-1)) := by rw [List.length_replicate]; exact ho
      have ct := hor.cell rfl (v := t) (by simp; omega)
      have ft := hor.frozen rfl t
      have hot := Lib.hid (hor.set rfl t 0)
      have hbt := Lib.hid (hb.setCell (p := ⟨g, t, none⟩) (by show w.heap.size + 1 ≤ g; omega) (iv 0))
      clear hown ho hor hvn
      go_wp2
      have hot2 : IOwn (wr.setCell ⟨g, t, none⟩ (iv 0)) (w.heap.size + 1) (.slice (some ⟨g, 0, none⟩) (N + 1) capg) ((List.replicate (N + 1) (-1 : Int)).set t 0) := by
        have := hot.out
        simpa using this
      have HO2 := Lib.hid hot2
      clear hot hot2 ct ft b0 b1 hzl hb hlt hk
      go_loopw [7] (fun i w2 => ∃ (s : Nat) (D : List Int), s ≤ N ∧ i = .int .i64 s ∧ Hid (Lv N ps t s D) ∧ Hid (IOwn w2 (w.heap.size + 1) (.slice (some ⟨g, 0, none⟩) (N + 1) capg) D) ∧ Below (w.heap.size + 1) (w.alloc (.cells #[.int .i64 N, .slice A ps.length cap] 30)) w2) (fun i _ => N - (intOf i).toNat)
      case atStart => exact ⟨0, _, Nat.zero_le _, rfl, HST, HO2, hbt.out⟩
      case round =>
        clear HO2 hbt HST
        obtain ⟨s, D, hs, rfl, hlv, hown, hb⟩ := hrel
        obtain ⟨b0, b1⟩ := box2 hb
        by_cases hlt : s < N
        · go_wp2
          have hlk := Lib.hid (Lk.start hlv.out)
          go_loopw [8] (fun i w3 => ∃ (k : Nat) (D : List Int), k ≤ ps.length ∧ i = .int .i64 k ∧ Hid (Lk N ps t s k D) ∧ Hid (IOwn w3 (w.heap.size + 1) (.slice (some ⟨g, 0, none⟩) (N + 1) capg) D) ∧ Below (w.heap.size + 1) (w.alloc (.cells #[.int .i64 N, .slice A ps.length cap] 30)) w3) (fun i _ => ps.length - (intOf i).toNat)
          case atStart => exact ⟨0, D, Nat.zero_le _, rfl, hlk, hown, hb⟩
          case round =>
            clear hlv hown hb b0 b1 hlk
            obtain ⟨k, D, hk, rfl, hlk, hown, hb⟩ := hrel
            obtain ⟨b0, b1⟩ := box2 hb
            have hzl := box_lt hb
            by_cases hlt2 : k < ps.length
            · obtain ⟨bb, off, hA, hbl, h0, h1, h2, h3⟩ := HA.out.at_ hlt2
              subst hA
              have hbc : ∀ o, wr.cell? ⟨bb, o, none⟩ = w.cell? ⟨bb, o, none⟩ := fun o => (below_box hb).cell (p := ⟨bb, o, none⟩) hbl
              have p1 := (hbc _).trans h1
              have p2 := (hbc _).trans h2
              have hk0i : (0 : Int) ≤ (k : Int) := by omega
              have hk1i : (k : Int) < (ps.length : Int) := by omega
              have hmem : pAt ps k ∈ ps := by
                have e : pAt ps k = ps[k] := by simp [pAt, List.getD, hlt2]
                rw [e]; exact List.getElem_mem hlt2
              have hok := good_pp HG.out hmem
              unfold PpOk at hok
              obtain ⟨a, ha⟩ : ∃ a : Nat, (pAt ps k).fr = (a : Int) := ⟨(pAt ps k).fr.toNat, by omega⟩
              obtain ⟨b, hbb⟩ : ∃ b : Nat, (pAt ps k).to = (b : Int) := ⟨(pAt ps k).to.toNat, by omega⟩
              have HLK := Lib.hid (hlk.out.step HG.out hlt2 ha hbb)
              rw [ha] at p1
              rw [hbb] at p2
              have ha0 : (0 : Int) ≤ (a : Int) := by omega
              have haN : (a : Int) < (N : Int) + 1 := by omega
              have hb0 : (0 : Int) ≤ (b : Int) := by omega
              have hbN : (b : Int) < (N : Int) + 1 := by omega
              have hDl := hlk.out.lv.len
              have HNE := Lib.hid (show a ≠ b by omega)
              clear hok hmem hbc h0 h1 h2 h3 ha hbb
              have ca := hown.out.cell hDl (v := a) (by omega)
              have cb := hown.out.cell hDl (v := b) (by omega)
              have fa := hown.out.frozen hDl a
              have fb := hown.out.frozen hDl b
              have HSA := Lib.hid (hown.out.set hDl a ((s : Int) + 1))
              have HSB := Lib.hid (hown.out.set hDl b ((s : Int) + 1))
              have hgA : w.heap.size + 1 ≤ g := hgB
              have HDA := Lib.hid (show dA (D.set b ((s : Int) + 1)) b = (s : Int) + 1 from dA_set_same D b _ (by omega))
              have HDN := Lib.hid (show dA (D.set b ((s : Int) + 1)) a = dA D a from dA_set_ne D b a _ HNE.out)
              obtain ⟨x, hx⟩ : ∃ x, dA D a = x := ⟨_, rfl⟩
              obtain ⟨y, hy⟩ : ∃ y, dA D b = y := ⟨_, rfl⟩
              have HX := Lib.hid hx
              have HY := Lib.hid hy
              rw [hx] at ca
              rw [hy] at cb
              clear hx hy
              go_wp2
              go_quiet (fail)
              have HBA := Lib.hid ((below_drewN hb nq).setCell (p := ⟨g, a, none⟩) hgA (iv ((s : Int) + 1)))
              have HBB := Lib.hid ((below_drewN hb nq).setCell (p := ⟨g, b, none⟩) hgA (iv ((s : Int) + 1)))
              by_cases hxs : x = (s : Int)
              · have hE1 : (x == (s : Int)) = true := by simpa using hxs
                have hx0 : ¬ x < 0 := by omega
                by_cases hy0 : y < 0
                · have hys : ((s : Int) + 1 == (s : Int)) = false := beq_eq_false_iff_ne.2 (by omega)
                  have e : step1 (step1 D a b s) b a s = D.set b ((s : Int) + 1) := by
                    have n1 : dA D a = s ∧ dA D b < 0 := by rw [HX.out, HY.out]; exact ⟨hxs, hy0⟩
                    have n2 : ¬ (dA (D.set b ((s : Int) + 1)) b = s ∧ dA (D.set b ((s : Int) + 1)) a < 0) := by rw [HDA.out]; omega
                    rw [step1_yes n1, step1_no n2]
                  have HF := Lib.hid HLK.out
                  rw [e] at HF
                  clear hxs
                  go_wp2
                  go_roundw
                  case rel => exact ⟨k + 1, _, by omega, by go_num, HF, Lib.hid (show IOwn ((wr.drewN nq).setCell _ _) _ _ _ from HSB.out), HBB.out⟩
                  case measure => simp [intOf]; omega
                · have e : step1 (step1 D a b s) b a s = D := by
                    have n1 : ¬ (dA D a = s ∧ dA D b < 0) := by rw [HX.out, HY.out]; omega
                    have n2 : ¬ (dA D b = s ∧ dA D a < 0) := by rw [HX.out, HY.out]; omega
                    rw [step1_no n1, step1_no n2]
                  have HF := Lib.hid HLK.out
                  rw [e] at HF
                  by_cases hys : y = (s : Int)
                  · have hE2 : (y == (s : Int)) = true := by simpa using hys
                    clear hxs hys
                    go_wp2
                    go_roundw
                    case rel => exact ⟨k + 1, _, by omega, by go_num, HF, Lib.hid (show IOwn (wr.drewN nq) _ _ _ from hown.out), below_drewN hb nq⟩
                    case measure => simp [intOf]; omega
                  · have hE2 : (y == (s : Int)) = false := by simpa using hys
                    clear hxs hys
                    go_wp2
                    go_roundw
                    case rel => exact ⟨k + 1, _, by omega, by go_num, HF, Lib.hid (show IOwn (wr.drewN nq) _ _ _ from hown.out), below_drewN hb nq⟩
                    case measure => simp [intOf]; omega
              · have hE1 : (x == (s : Int)) = false := by simpa using hxs
                by_cases hys : y = (s : Int)
                · have hE2 : (y == (s : Int)) = true := by simpa using hys
                  by_cases hx0 : x < 0
                  · have e : step1 (step1 D a b s) b a s = D.set a ((s : Int) + 1) := by
                      have n1 : ¬ (dA D a = s ∧ dA D b < 0) := by rw [HX.out, HY.out]; omega
                      have n2 : dA D b = s ∧ dA D a < 0 := by rw [HX.out, HY.out]; omega
                      rw [step1_no n1, step1_yes n2]
                    have HF := Lib.hid HLK.out
                    rw [e] at HF
                    clear hxs hys
                    go_wp2
                    go_roundw
                    case rel => exact ⟨k + 1, _, by omega, by go_num, HF, Lib.hid (show IOwn ((wr.drewN nq).setCell _ _) _ _ _ from HSA.out), HBA.out⟩
                    case measure => simp [intOf]; omega
                  · have e : step1 (step1 D a b s) b a s = D := by
                      have n1 : ¬ (dA D a = s ∧ dA D b < 0) := by rw [HX.out, HY.out]; omega
                      have n2 : ¬ (dA D b = s ∧ dA D a < 0) := by rw [HX.out, HY.out]; omega
                      rw [step1_no n1, step1_no n2]
                    have HF := Lib.hid HLK.out
                    rw [e] at HF
                    clear hxs hys
                    go_wp2
                    go_roundw
                    case rel => exact ⟨k + 1, _, by omega, by go_num, HF, Lib.hid (show IOwn (wr.drewN nq) _ _ _ from hown.out), below_drewN hb nq⟩
                    case measure => simp [intOf]; omega
                · have hE2 : (y == (s : Int)) = false := by simpa using hys
                  have e : step1 (step1 D a b s) b a s = D := by
                    have n1 : ¬ (dA D a = s ∧ dA D b < 0) := by rw [HX.out, HY.out]; omega
                    have n2 : ¬ (dA D b = s ∧ dA D a < 0) := by rw [HX.out, HY.out]; omega
                    rw [step1_no n1, step1_no n2]
                  have HF := Lib.hid HLK.out
                  rw [e] at HF
                  clear hxs hys
                  go_wp2
                  go_roundw
                  case rel => exact ⟨k + 1, _, by omega, by go_num, HF, Lib.hid (show IOwn (wr.drewN nq) _ _ _ from hown.out), below_drewN hb nq⟩
                  case measure => simp [intOf]; omega
            · have hfin := Lib.hid (hlk.out.finish HG.out (by omega))
              go_wp2
              go_roundw
              case rel => exact ⟨s + 1, D, by omega, by go_num, hfin, hown, hb⟩
              case measure => simp [intOf]; omega
        · have hss : s = N := by omega
          subst hss
          have hfin := hlv.out.all HG.out
          subst hfin
          go_wp2
          go_ret
          have hlow : IOwn wr w.heap.size (.slice (some ⟨g, 0, none⟩) (s + 1) capg) (distL s ps t) := own_lower hown.out
          exact ⟨g, capg, rfl, by omega, hlow, below_box hb⟩
end Go.Proofs.Ytgjogjmfpbinfaa.S2

namespace Go.Proofs.Ytgjogjmfpbinfaa.S2
open Go.RowKit P2

theorem way_no1 (n : Int) (A : Option Addr) (cap : Nat) (ps : List Pp) (x y : Int) (w : World) (h : PAt w A ps) (hm : ps.length ≤ maxLen) (hv : nodeB n ps x = false) :
    Calls Try.prog 97 #[nv n A ps.length cap, .int .i64 x, .int .i64 y] w (GivesI w [] false) := by
  have H := Lib.hid (fun w' (hb : Below w.heap.size w w') => node_v hv A cap w' (h.kept hb (Nat.le_refl _)) hm)
  clear h hv
  go_enter Try.func97, Try.ntmps97
  go_wp2_with (go_at_call 188; refine (H.out _ ((Below.refl _ _).alloc (Nat.le_refl _) _)).mono ?_; rintro e w1 ⟨rfl, hb1⟩)
  go_ret2
  exact gives_none (below_alloc_call hb1)

theorem way_no2 (n : Int) (A : Option Addr) (cap : Nat) (ps : List Pp) (x y : Int) (w : World) (h : PAt w A ps) (hm : ps.length ≤ maxLen) (hv : nodeB n ps x = true) (hv2 : nodeB n ps y = false) :
    Calls Try.prog 97 #[nv n A ps.length cap, .int .i64 x, .int .i64 y] w (GivesI w [] false) := by
  have H := Lib.hid (fun w' (hb : Below w.heap.size w w') => node_v hv A cap w' (h.kept hb (Nat.le_refl _)) hm)
  have H2 := Lib.hid (fun w' (hb : Below w.heap.size w w') => node_v hv2 A cap w' (h.kept hb (Nat.le_refl _)) hm)
  clear h hv hv2
  go_enter Try.func97, Try.ntmps97
  go_wp2_with (first
    | (go_at_call_of 188 (Value.int IntKind.i64 x); refine (H.out _ ((Below.refl _ _).alloc (Nat.le_refl _) _)).mono ?_; rintro e w1 ⟨rfl, hb1⟩; obtain ⟨hc1, hf1⟩ := bcell hb1; have hB1 := Lib.hid (below_alloc_call hb1))
    | (go_at_call_of 188 (Value.int IntKind.i64 y); refine (H2.out _ hB1.out).mono ?_; rintro e w2 ⟨rfl, hb2⟩))
  go_ret2
  exact gives_none (hB1.out.trans (hb2.mono hB1.out.size))

set_option maxHeartbeats 2000000 in
theorem way_no3 (N X T : Nat) (A : Option Addr) (cap : Nat) (ps : List Pp) (w : World) (h : PAt w A ps) (hm : ps.length ≤ maxLen) (hv : nodeB N ps X = true) (hv2 : nodeB N ps T = true) (hd : dist ps T X = -1) :
    Calls Try.prog 97 #[nv N A ps.length cap, .int .i64 X, .int .i64 T] w (GivesI w [] false) := by
  obtain ⟨hg, hx1, hx2⟩ := nodeB_of hv
  obtain ⟨_, hy1, hy2⟩ := nodeB_of hv2
  have H := Lib.hid (fun w' (hb : Below w.heap.size w w') => node_v hv A cap w' (h.kept hb (Nat.le_refl _)) hm)
  have H2 := Lib.hid (fun w' (hb : Below w.heap.size w w') => node_v hv2 A cap w' (h.kept hb (Nat.le_refl _)) hm)
  have HD := Lib.hid (fun w' (hb : Below w.heap.size w w') => dist_any N T A cap ps w' (h.kept hb (Nat.le_refl _)) hg (by omega) (by omega))
  have hX0 : (0 : Int) ≤ (X : Int) := by omega
  have hXN : (X : Int) < (N : Int) + 1 := by omega
  have HL := Lib.hid (distL_len N ps T)
  have HX := Lib.hid (show dA (distL N ps T) X = -1 by rw [distL_at N ps T X (by omega) (by omega)]; exact hd)
  clear h hv hv2 hg hd
  go_enter Try.func97, Try.ntmps97
  go_wp2_with (first
    | (go_at_call_of 188 (Value.int IntKind.i64 (X : Int)); refine (H.out _ ((Below.refl _ _).alloc (Nat.le_refl _) _)).mono ?_; rintro e w1 ⟨rfl, hb1⟩; obtain ⟨hc1, hf1⟩ := bcell hb1; have hB1 := Lib.hid (below_alloc_call hb1))
    | (go_at_call_of 188 (Value.int IntKind.i64 (T : Int)); refine (H2.out _ hB1.out).mono ?_; rintro e w2 ⟨rfl, hb2⟩; have hb12 := Lib.hid (hb1.trans (hb2.mono hb1.size)); obtain ⟨hc2, hf2⟩ := bcell hb12.out; have hB2 := Lib.hid (below_alloc_call hb12.out))
    | (go_at_call 157; refine (HD.out _ hB2.out).mono ?_; rintro e w3 ⟨⟨gD, D, rfl, hgD, hdr, hDe⟩, hb3⟩; have cx := hdr.cell (v := X) (by rw [hDe, HL.out]; omega); rw [hDe, HX.out] at cx))
  go_ret2
  have hz := hB2.out.size
  exact gives_none (hB2.out.trans (hb3.mono hz))

set_option maxHeartbeats 8000000 in
set_option maxRecDepth 100000 in
theorem way_yes (N X T : Nat) (A : Option Addr) (cap : Nat) (ps : List Pp) (w : World) (h : PAt w A ps) (hm : ps.length ≤ maxLen) (hv : nodeB N ps X = true) (hv2 : nodeB N ps T = true) (K : Nat) (hd : dist ps T X = K) :
    Calls Try.prog 97 #[nv N A ps.length cap, .int .i64 X, .int .i64 T] w (GivesI w (wayL ps T K X) true) := by
  obtain ⟨hg, hx1, hx2⟩ := nodeB_of hv
  obtain ⟨_, hy1, hy2⟩ := nodeB_of hv2
  have H := Lib.hid (fun w' (hb : Below w.heap.size w w') => node_v hv A cap w' (h.kept hb (Nat.le_refl _)) hm)
  have H2 := Lib.hid (fun w' (hb : Below w.heap.size w w') => node_v hv2 A cap w' (h.kept hb (Nat.le_refl _)) hm)
  have HD := Lib.hid (fun w' (hb : Below w.heap.size w w') => dist_any N T A cap ps w' (h.kept hb (Nat.le_refl _)) hg (by omega) (by omega))
  have HB := Lib.hid (fun w' (hb : Below w.heap.size w w') => bynode_any N A cap ps w' (h.kept hb (Nat.le_refl _)) hg)
  have HG := Lib.hid hg
  have hX0 : (0 : Int) ≤ (X : Int) := by omega
  have hXN : (X : Int) < (N : Int) + 1 := by omega
  have hN : N ≤ 8 := by have := hg.2.1; omega
  have hKN := dist_le (t := T) hg X (by omega)
  have HL := Lib.hid (distL_len N ps T)
  have HX := Lib.hid (show dA (distL N ps T) X = (K : Int) by rw [distL_at N ps T X (by omega) (by omega)]; exact hd)
  have HAT := Lib.hid (fun (v : Nat) (h1 : 1 ≤ v) (h2 : v ≤ N) => distL_at N ps T v h2 (by omega))
  have hKn : ((K : Int) == -1) = false := beq_eq_false_iff_ne.2 (by omega)
  obtain ⟨i0, hi, hz0, hz1, hz2⟩ := info_parts infoI
  have HDX := Lib.hid hd
  have hK8 : K ≤ 8 := by omega
  clear h hv hv2 hg hd hKN
  go_enter Try.func97, Try.ntmps97
  go_wp2_with (first
    | (go_at_call_of 188 (Value.int IntKind.i64 (X : Int)); refine (H.out _ ((Below.refl _ _).alloc (Nat.le_refl _) _)).mono ?_; rintro e w1 ⟨rfl, hb1⟩; obtain ⟨hc1, hf1⟩ := bcell hb1; have hB1 := Lib.hid (below_alloc_call hb1))
    | (go_at_call_of 188 (Value.int IntKind.i64 (T : Int)); refine (H2.out _ hB1.out).mono ?_; rintro e w2 ⟨rfl, hb2⟩; have hb12 := Lib.hid (hb1.trans (hb2.mono hb1.size)); obtain ⟨hc2, hf2⟩ := bcell hb12.out; have hB2 := Lib.hid (below_alloc_call hb12.out))
    | (go_at_call 157; refine (HD.out _ hB2.out).mono ?_; rintro e w3 ⟨⟨gD, D, rfl, hgD, hdr, hDe⟩, hb3⟩; have cx := hdr.cell (v := X) (by rw [hDe, HL.out]; omega); rw [hDe, HX.out] at cx; have hb13 := Lib.hid (hb12.out.trans (hb3.mono hb12.out.size)); obtain ⟨hc3, hf3⟩ := bcell hb13.out; have hB3 := Lib.hid (below_alloc_call hb13.out))
    | (go_at_call 197; refine (HB.out _ hB3.out).mono ?_; rintro e w4 ⟨⟨G, rfl, hbn⟩, hb4⟩; refine Hid.out ?_)
    | fail)
  have hB4 := Lib.hid (hB3.out.trans (hb4.mono hB3.out.size))
  have hD4 := Lib.hid (hdr.kept (hb4.block gD hdr.lt))
  rw [hDe] at hD4
  have HBN := Lib.hid hbn
  have hgD4 := hD4.out.lt
  have hG4 := hbn.lt
  have hz4 := hB4.out.size
  clear cx hc1 hf1 hc2 hf2 hc3 hf3 hb1 hb2 hb3 hb4 hb12 hb13 hB1 hB2 hB3 hdr hbn hDe hgD H H2 HD HB
  refine Lib.hid ?_
  go_wp2
  have hO := own_empty w4 w4.heap.size (Nat.le_refl _)
  have hb0 : Below w4.heap.size w4 (w4.alloc (.cells #[] 3)) := (Below.refl _ _).alloc (Nat.le_refl _) _
  go_loopg [10, 11] K (fun k v i wr => ∃ (h : Nat) (pre : List Int), i = .int .i64 (h : Int) ∧ 1 ≤ h ∧ h ≤ N ∧ Hid (dist ps T h = (k : Int)) ∧ Hid (pre ++ wayL ps T k h = wayL ps T K X) ∧ pre.length + k = K ∧ Hid (IOwn wr w4.heap.size v pre) ∧ Hid (v ≠ .slice none 0 0) ∧ Below w4.heap.size w4 wr)
  case atStart => exact ⟨X, [], rfl, by omega, by omega, HDX, Lib.hid rfl, by simp, Lib.hid hO, Lib.hid (by simp), hb0⟩
  case round =>
    clear hO hb0
    obtain ⟨h, pre, rfl, hh1, hhN, hdh, hpre, hlen, hown, hvn, hb⟩ := hrel
    by_cases hT : h = T
    · subst hT
      have e0 : gk = 0 := by have := hdh.out; rw [dist_self] at this; omega
      have hfin : pre = wayL ps h K X := by have := hpre.out; rw [e0] at this; simpa [wayL] using this
      have HFIN := Lib.hid hfin
      obtain ⟨g, capg, rfl, hgB⟩ := own_slice hown.out hvn.out
      clear hfin e0
      go_wp2
      go_ret2
      have hlow : IOwn wr w.heap.size (.slice (some ⟨g, 0, none⟩) pre.length capg) pre := own_lower hown.out
      rw [← HFIN.out]
      exact ⟨g, capg, rfl, by omega, hlow, hB4.out.trans (hb.mono hz4)⟩
    · obtain ⟨k, hk⟩ : ∃ k, gk = k + 1 := by
        match gk, hdh with
        | 0, hdh => exact absurd (show h = T by have := dist_zero (show dist ps T h = 0 from hdh.out); omega) hT
        | k + 1, _ => exact ⟨k, rfl⟩
      have HMG := Lib.hid hk
      rw [hk] at hdh hpre hlen
      clear hk
      have hE : ((h : Int) != (T : Int)) = true := by simp; omega
      obtain ⟨AR, capR, hcR, hpR, _⟩ := (HBN.out).at_ (i := h) (by omega)
      have hcR' := (hb.cell (p := ⟨G, h, none⟩) hG4).trans hcR
      have HPR := Lib.hid hpR
      have HNR := Lib.hid (near_row HG.out hdh.out)
      have HRM := Lib.hid (fun (j : Nat) (hj : j < (rowOf ps h).length) => row_mem (ps := ps) (h := h) hj)
      have hRl := rowOf_len ps h
      have hh0 : (0 : Int) ≤ (h : Int) := by omega
      have hhN' : (h : Int) < (N : Int) + 1 := by omega
      have hl10 := HG.out.2.2.1
      have HDH := Lib.hid ((HAT.out h hh1 hhN).trans hdh.out)
      have HWR := Lib.hid (fun (j u : Nat) h1 h2 h3 h4 => way_row (ps := ps) (t := T) (h := h) (k := k) (j := j) (u := u) h1 h2 h3 h4)
      have HNI := Lib.hid (fun (j : Nat) (hj : j < (rowOf ps h).length) => near_iff (t := T) hdh.out (HRM.out j hj).1 (HRM.out j hj).2)
      have HNB := Lib.hid (fun (p : Pp) => show nearB ps T h p = decide (dist ps T (oth p h) < dist ps T h) from rfl)
      clear hcR hpR
      go_wp2
      generalize rowOf ps h = R at *
      obtain ⟨V, hV⟩ : ∃ V, V = u10 := ⟨_, rfl⟩
      subst hV
      have HVN := hvn
      go_loopw [10, 11, 47] (fun v2 i2 j2 wr => ∃ (j : Nat), j ≤ R.length ∧ j2 = .int .i64 (j : Int) ∧ v2 = V ∧ i2 = .int .i64 (h : Int) ∧ Hid (∀ i, i < j → nearB ps T h (pAt R i) = false) ∧ Hid (IOwn wr w4.heap.size V pre) ∧ Below w4.heap.size w4 wr) (fun _ _ j _ => R.length - (intOf j).toNat)
      case atStart => exact ⟨0, Nat.zero_le _, rfl, rfl, rfl, Lib.hid (fun i hi => absurd hi (by omega)), hown, hb⟩
      case round =>
        clear hown hb hcR'
        obtain ⟨j, hj, rfl, rfl, rfl, hnn, hown, hb⟩ := hrel
        by_cases hlt : j < R.length
        · obtain ⟨b, o, hA, hbl, h0, h1, h2, h3⟩ := (HPR.out.kept hb (Nat.le_refl _)).at_ hlt
          subst hA
          obtain ⟨hpm, hpt⟩ := HRM.out j hlt
          have hok := good_pp HG.out hpm
          have hoi := oth_in (x := (h : Int)) hok
          have hnear := HNI.out j hlt
          obtain ⟨u, hu⟩ : ∃ u : Nat, oth (pAt R j) h = (u : Int) := ⟨(oth (pAt R j) h).toNat, by omega⟩
          rw [hu] at hoi
          have HU := Lib.hid hu
          have HO := Lib.hid (fun w => other_v hu w)
          have hnb := HNB.out (pAt R j)
          rw [hu] at hnb hnear
          have HNEAR := Lib.hid hnear
          have HW := Lib.hid (fun h1 h2 => HWR.out j u hlt h1 h2 hu)
          have hu1 : 1 ≤ u := by omega
          have huN : u ≤ N := by omega
          have hu0 : (0 : Int) ≤ (u : Int) := by omega
          have huN' : (u : Int) < (N : Int) + 1 := by omega
          have hzw := hb.size
          have hdu := HAT.out u hu1 huN
          have hDL := HL.out
          clear hpm hpt hok hnear hu hoi
          have HNN := Lib.hid (fun (h1 : nearB ps T h (pAt R j) = false) (i : Nat) (hi : i < j + 1) => show nearB ps T h (pAt R i) = false by
            by_cases e : i = j
            · rw [e]; exact h1
            · exact hnn.out i (by omega))
          generalize pAt R j = p at *
          obtain ⟨x, hx⟩ : ∃ x, dist ps T (u : Int) = x := ⟨_, rfl⟩
          rw [hx] at hnb hdu HNEAR
          rw [hdh.out] at hnb
          have hdW := Lib.hid (hD4.out.kept (hb.block gD hgD4))
          have hgDw : gD < wr.heap.size := by omega
          have hkc : ((k + 1 : Nat) : Int) = (k : Int) + 1 := by omega
          have ho := hown.out
          unfold IOwn at ho
          go_wp2_with (first
            | (go_at_call 170; refine (HO.out _).mono ?_; rintro e w5 ⟨rfl, hb5⟩; refine Hid.out ?_))
          have hz5 := hb5.size
          simp at hz5
          have hd5 := Lib.hid ((hdW.out.kept (Below.heap_alloc wr (.cells #[.int .i64 p.id, .int .i64 p.fr, .int .i64 p.to, .int .i64 p.sz] 75) gD hgDw)).kept (hb5.block gD (by simp; omega)))
          have cu := hd5.out.cell (v := u) (by omega)
          have ch := hd5.out.cell (v := h) (by omega)
          rw [hdu] at cu
          rw [HDH.out] at ch
          have cp : w5.cell? ⟨wr.heap.size, 0, none⟩ = some (iv p.id) := (hb5.cell (p := ⟨wr.heap.size, 0, none⟩) (by simp)).trans (World.cell?_alloc_at _ _ _ _ (by simp))
          have ho5 := own_on (ho.alloc (.cells #[.int .i64 p.id, .int .i64 p.fr, .int .i64 p.to, .int .i64 p.sz] 75)) hb5
          have hB5 := Lib.hid ((hb.alloc hzw (.cells #[.int .i64 p.id, .int .i64 p.fr, .int .i64 p.to, .int .i64 p.sz] 75)).trans (hb5.mono (by simp; omega)))
          have hO5 := Lib.hid ho5
          clear hb5 ho
          refine Lib.hid ?_
          go_wp2
          go_quiet (fail)
          by_cases hxk : x < (k : Int) + 1
          · have hnt := Lib.hid (show nearB ps T h p = true by rw [hnb]; exact decide_eq_true (by omega))
            have hxe := Lib.hid (HNEAR.out.1 hnt.out)
            have hw := HW.out hnn.out hnt.out
            have hpre2 := Lib.hid (show (pre ++ [p.id]) ++ wayL ps T k u = wayL ps T K X by
              have e := hpre.out
              rw [hw] at e
              rw [← e]
              simp)
            have ho6 : (w5.drewN nq).ownsRow w4.heap.size 3 1 _ pre.length (pre.map iv) := hO5.out
            have hb6 := below_drewN hB5.out nq
            have hz6 : w4.heap.size ≤ (w5.drewN nq).heap.size := hb6.size
            clear hw
            go_wp2_with (at_builtin; go_must (refine wpList_append_own _ rfl _ _ 34 rfl w4.heap.size 3 i0 (.int .i64 0) 1 8 Try.underlying34 hi hz0 hz1 hz2 rfl (by decide) _ _ _ rfl (ho6.alloc _) ⟨(w5.drewN nq).heap.size, 0, none⟩ 1 1 [iv p.id] rfl rfl (cell_one_new _ _ _) (by intro u hu; simp at hu; subst hu; rfl) (by unfold maxLen; omega) (by omega) (by simp at hz6 ⊢; omega) ?_))
            intro v' w7 hown' hgrow hnil
            have hown3 := Lib.hid (IOwn.push hown')
            have hB7 := Lib.hid ((hb6.alloc hz6 (.cells #[iv p.id] 3)).grown hgrow (by simp at hz6 ⊢; omega) (fun g hg => (ho6.lt g hg).1))
            have hnil3 := Lib.hid (show v' ≠ .slice none 0 0 from fun e => by simp [e] at hnil)
            clear hown' hgrow hnil ho6
            go_wp2
            go_roundg k
            case measure => have := HMG.out; omega
            case rel => exact ⟨u, pre ++ [p.id], rfl, hu1, huN, Lib.hid (by rw [hx]; exact hxe.out), hpre2, by simp; omega, hown3, hnil3, hB7.out⟩
          · have hnf := Lib.hid (HNN.out (by rw [hnb]; exact decide_eq_false (by omega)))
            go_wp2
            go_roundw
            case rel => exact ⟨j + 1, by omega, by go_num, rfl, rfl, hnf, Lib.hid (show IOwn (w5.drewN nq) _ _ _ from hO5.out), below_drewN hB5.out nq⟩
            case measure => simp [intOf]; omega
        · exact absurd (fun i hi => hnn.out i (by omega)) HNR.out
end Go.Proofs.Ytgjogjmfpbinfaa.S2

namespace Go.Proofs.Ytgjogjmfpbinfaa.S2
open Go.RowKit P2

set_option maxHeartbeats 8000000 in
set_option maxRecDepth 100000 in
theorem l2way_any (N X T : Nat) (A : Option Addr) (cap : Nat) (ps : List Pp) (w : World) (h : PAt w A ps) (hg : P2.Good N ps) (hx1 : 1 ≤ X) (hx2 : X ≤ N) (hy1 : 1 ≤ T) (hy2 : T ≤ N) (K : Nat) (hd : dist ps T X = K) :
    Calls Try.prog 198 #[nv N A ps.length cap, .int .i64 (X : Int), .int .i64 (T : Int)] w (GivesL w (wayL ps T K X)) := by
  have HS := Lib.hid (fun w' (hb : Below w.heap.size w w') => steps_any N T A cap ps w' (h.kept hb (Nat.le_refl _)) hg hy1 hy2)
  have HA := Lib.hid h
  have HG := Lib.hid hg
  have hN : N ≤ 8 := by have := hg.2.1; omega
  have hl10 := hg.2.2.1
  have hKN := dist_le (t := T) hg X (by omega)
  have hK8 : K ≤ 8 := by omega
  have HAT := Lib.hid (fun (v : Nat) (h1 : 1 ≤ v) (h2 : v ≤ N) => distL_at N ps T v h2 (by omega))
  have HLN := Lib.hid (distL_len N ps T)
  have HDX := Lib.hid hd
  obtain ⟨i0, hi, hz0, hz1, hz2⟩ := info_parts infoI
  clear h hg hKN hd
  go_enter Try.func198, Try.ntmps198
  go_wp2_with (first
    | (go_at_call 223; refine (HS.out _ ((Below.refl _ _).alloc (Nat.le_refl _) _)).mono ?_; rintro e w4 ⟨gS, cS, rfl, hgS, hoS, hb4⟩; refine Hid.out ?_)
    | fail)
  have hB1 : Below (w.heap.size + 1) (w.alloc (.cells #[.int .i64 N, .slice A ps.length cap] 30)) w4 := by simpa using hb4
  obtain ⟨b0, b1⟩ := box2 hB1
  have hzB := box_lt hB1
  have HB4 := Lib.hid (below_box hB1)
  have hgS4 : gS < w4.heap.size := (World.ownsRow.lt hoS gS rfl).2
  have HST := Lib.hid (fun (v : Nat) (h1 : 1 ≤ v) (h2 : v ≤ N) => show w4.cell? ⟨gS, v, none⟩ = some (iv (dist ps T v)) by
    have := hoS.cell (by rw [HLN.out]) (v := v) (by rw [HLN.out]; omega)
    rwa [HAT.out v h1 h2] at this)
  have hz4 := HB4.out.size
  clear hB1 hb4 hoS HS hgS
  refine Lib.hid ?_
  go_wp2
  have hO := own_empty w4 w4.heap.size (Nat.le_refl _)
  have hb0 : Below w4.heap.size w4 (w4.alloc (.cells #[] 3)) := (Below.refl _ _).alloc (Nat.le_refl _) _
  go_loopg [1, 8] K (fun k i v wr => ∃ (h : Nat) (pre : List Int), i = .int .i64 (h : Int) ∧ 1 ≤ h ∧ h ≤ N ∧ Hid (dist ps T h = (k : Int)) ∧ Hid (pre ++ wayL ps T k h = wayL ps T K X) ∧ pre.length + k = K ∧ Hid (IOwn wr w4.heap.size v pre) ∧ Hid (v ≠ .slice none 0 0) ∧ Below w4.heap.size w4 wr)
  case atStart => exact ⟨X, [], rfl, by omega, by omega, HDX, Lib.hid rfl, by simp, Lib.hid hO, Lib.hid (by simp), hb0⟩
  case round =>
    clear hO hb0
    obtain ⟨h, pre, rfl, hh1, hhN, hdh, hpre, hlen, hown, hvn, hb⟩ := hrel
    by_cases hT : h = T
    · subst hT
      have e0 : gk = 0 := by have := hdh.out; rw [dist_self] at this; omega
      have hfin : pre = wayL ps h K X := by have := hpre.out; rw [e0] at this; simpa [wayL] using this
      have HFIN := Lib.hid hfin
      obtain ⟨g, capg, rfl, hgB⟩ := own_slice hown.out hvn.out
      clear hfin e0
      go_wp2
      go_ret
      have hlow : IOwn wr w.heap.size (.slice (some ⟨g, 0, none⟩) pre.length capg) pre := own_lower hown.out
      rw [← HFIN.out]
      exact ⟨g, capg, rfl, by omega, hlow, HB4.out.trans (hb.mono hz4)⟩
    · obtain ⟨k, hk⟩ : ∃ k, gk = k + 1 := by
        match gk, hdh with
        | 0, hdh => exact absurd (show h = T by have := dist_zero (show dist ps T h = 0 from hdh.out); omega) hT
        | k + 1, _ => exact ⟨k, rfl⟩
      have HMG := Lib.hid hk
      rw [hk] at hdh hpre hlen
      clear hk
      have hE : ((h : Int) != (T : Int)) = true := by simp; omega
      have HNR := Lib.hid (near_all HG.out hdh.out)
      have hh0 : (0 : Int) ≤ (h : Int) := by omega
      have hhN' : (h : Int) < (N : Int) + 1 := by omega
      obtain ⟨d, hdd⟩ : ∃ d, dist ps T (h : Int) = d := ⟨_, rfl⟩
      have hdk : d = (k : Int) + 1 := by rw [← hdd, hdh.out]; omega
      have ch0 := HST.out h hh1 hhN
      rw [hdd] at ch0
      have hws : IntKind.i64.wrap (d - 1) = d - 1 := IntWalk.i64_in _ (by omega)
      have HNI0 := Lib.hid (fun (p : Pp) hp ht => near_iff (t := T) (p := p) hdh.out hp ht)
      have HWA0 := Lib.hid (fun (j u : Nat) h1 h2 h3 h4 => way_all (ps := ps) (t := T) (h := h) (k := k) (j := j) (u := u) h1 h2 h3 h4)
      clear hdd
      go_wp2
      obtain ⟨V, hV⟩ : ∃ V, V = u8 := ⟨_, rfl⟩
      subst hV
      go_loopw [1, 8, 9] (fun i2 v2 j2 wr => ∃ (j : Nat), j ≤ ps.length ∧ v2 = V ∧ i2 = .int .i64 (h : Int) ∧ j2 = .int .i64 (j : Int) ∧ Hid (∀ i, i < j → (touchB h (pAt ps i) && nearB ps T h (pAt ps i)) = false) ∧ Hid (IOwn wr w4.heap.size V pre) ∧ Below w4.heap.size w4 wr) (fun _ _ j _ => ps.length - (intOf j).toNat)
      case atStart => exact ⟨0, Nat.zero_le _, rfl, rfl, rfl, Lib.hid (fun i hi => absurd hi (by omega)), hown, hb⟩
      case round =>
        clear hown hb
        obtain ⟨j, hj, rfl, rfl, rfl, hnn, hown, hb⟩ := hrel
        have b0w := (hb.cell (p := ⟨w.heap.size, 0, none⟩) hzB).trans b0
        have b1w := (hb.cell (p := ⟨w.heap.size, 1, none⟩) hzB).trans b1
        have hzw := hb.size
        by_cases hlt : j < ps.length
        · obtain ⟨b, o, hA, hbl, h0, h1, h2, h3⟩ := HA.out.at_ hlt
          subst hA
          have hbc : ∀ o, wr.cell? ⟨b, o, none⟩ = w.cell? ⟨b, o, none⟩ := fun o => (HB4.out.trans (hb.mono hz4)).cell (p := ⟨b, o, none⟩) hbl
          have p0 := (hbc _).trans h0
          have p1 := (hbc _).trans h1
          have p2 := (hbc _).trans h2
          have p3 := (hbc _).trans h3
          have hk0i : (0 : Int) ≤ (j : Int) := by omega
          have hk1i : (j : Int) < (ps.length : Int) := by omega
          have hmem : pAt ps j ∈ ps := by
            have e : pAt ps j = ps[j] := by simp [pAt, List.getD, hlt]
            rw [e]; exact List.getElem_mem hlt
          have hok := good_pp HG.out hmem
          unfold PpOk at hok
          have HNI := Lib.hid (HNI0.out _ hmem)
          have HWA := Lib.hid (fun (u : Nat) h2 h3 h4 => HWA0.out j u hlt h2 h3 h4)
          have HNN := Lib.hid (fun (h1 : (touchB h (pAt ps j) && nearB ps T h (pAt ps j)) = false) (i : Nat) (hi : i < j + 1) => show (touchB h (pAt ps i) && nearB ps T h (pAt ps i)) = false by
            by_cases e : i = j
            · rw [e]; exact h1
            · exact hnn.out i (by omega))
          have ch := (hb.cell (p := ⟨gS, h, none⟩) hgS4).trans ch0
          have hgSw : gS < wr.heap.size := by omega
          have ho := hown.out
          unfold IOwn at ho
          clear hbc h0 h1 h2 h3 hmem
          generalize pAt ps j = p at *
          obtain ⟨pid, pfr, pto, psz⟩ := p
          simp only at hok p0 p1 p2 p3
          obtain ⟨fr, rfl⟩ : ∃ f : Nat, pfr = f := ⟨pfr.toNat, by omega⟩
          obtain ⟨tt, rfl⟩ : ∃ f : Nat, pto = f := ⟨pto.toNat, by omega⟩
          by_cases hf1 : (fr : Int) = (h : Int)
          · have hEf : ((fr : Int) == (h : Int)) = true := by simpa using hf1
            have hou : oth ⟨pid, fr, tt, psz⟩ h = (tt : Int) := by
              show (if (fr : Int) = (h : Int) then (tt : Int) else (fr : Int)) = (tt : Int)
              rw [if_pos hf1]
            have hu1 : 1 ≤ tt := by omega
            have huN : tt ≤ N := by omega
            have hu0 : (0 : Int) ≤ (tt : Int) := by omega
            have hup : decide (0 < tt) = true := decide_eq_true (by omega)
            have huN' : (tt : Int) < (N : Int) + 1 := by omega
            have hnear := HNI.out (.inl hf1)
            rw [hou] at hnear
            have HNEAR := Lib.hid hnear
            have HW := Lib.hid (fun h1 h2 => HWA.out tt h1 h2 hou)
            have cu := HST.out tt hu1 huN
            have cu2 := (hb.cell (p := ⟨gS, tt, none⟩) hgS4).trans cu
            obtain ⟨x, hx⟩ : ∃ x, dist ps T (tt : Int) = x := ⟨_, rfl⟩
            rw [hx] at cu2 HNEAR
            have htb : touchB h ⟨pid, fr, tt, psz⟩ = true := by unfold touchB; exact decide_eq_true (.inl hf1)
            clear hnear hou hok cu hf1
            by_cases hxk : x = (k : Int)
            · have hxe : (x == d - 1) = true := by simp; omega
              have hnt : (touchB h ⟨pid, fr, tt, psz⟩ && nearB ps T h ⟨pid, fr, tt, psz⟩) = true := by rw [htb, HNEAR.out.2 hxk]; rfl
              have hw := HW.out hnn.out hnt
              have hpre2 := Lib.hid (show (pre ++ [pid]) ++ wayL ps T k tt = wayL ps T K X by
                have e := hpre.out
                rw [hw] at e
                rw [← e]
                simp)
              clear hw
              go_wp2
              go_quiet (fail)
              have ho6 : ((wr.alloc (.cells #[.int .i64 pid, .int .i64 (fr : Int), .int .i64 (tt : Int), .int .i64 psz] 75)).drewN nq).ownsRow w4.heap.size 3 1 _ pre.length (pre.map iv) := ho.alloc (.cells #[.int .i64 pid, .int .i64 (fr : Int), .int .i64 (tt : Int), .int .i64 psz] 75)
              have hb6 := below_drewN (hb.alloc hzw (.cells #[.int .i64 pid, .int .i64 (fr : Int), .int .i64 (tt : Int), .int .i64 psz] 75)) nq
              have hz6 : w4.heap.size ≤ ((wr.alloc (.cells #[.int .i64 pid, .int .i64 (fr : Int), .int .i64 (tt : Int), .int .i64 psz] 75)).drewN nq).heap.size := hb6.size
              go_wp2_with (at_builtin; go_must (refine wpList_append_own _ rfl _ _ 34 rfl w4.heap.size 3 i0 (.int .i64 0) 1 8 Try.underlying34 hi hz0 hz1 hz2 rfl (by decide) _ _ _ rfl (ho6.alloc _) ⟨wr.heap.size + 1, 0, none⟩ 1 1 [iv pid] rfl rfl (cell_new2 wr (.cells #[.int .i64 pid, .int .i64 (fr : Int), .int .i64 (tt : Int), .int .i64 psz] 75) (iv pid) 3) (by intro u hu; simp at hu; subst hu; rfl) (by unfold maxLen; omega) (by omega) (by simp at hz6 ⊢; omega) ?_))
              intro v' w7 hown' hgrow hnil
              have hown3 := Lib.hid (IOwn.push hown')
              have hB7 := Lib.hid ((hb6.alloc hz6 (.cells #[iv pid] 3)).grown hgrow (by simp at hz6 ⊢; omega) (fun g hg => (ho6.lt g hg).1))
              have hnil3 := Lib.hid (show v' ≠ .slice none 0 0 from fun e => by simp [e] at hnil)
              clear hown' hgrow hnil ho6
              go_wp2
              go_roundg k
              case measure => have := HMG.out; omega
              case rel => exact ⟨tt, pre ++ [pid], rfl, hu1, huN, Lib.hid (by rw [hx]; exact hxk), hpre2, by simp; omega, hown3, hnil3, hB7.out⟩
            · have hxe : (x == d - 1) = false := by simp; omega
              have hnf := Lib.hid (HNN.out (by
                rw [htb, Bool.true_and, ← Bool.not_eq_true]
                exact fun e => hxk (HNEAR.out.1 e)))
              go_wp2
              go_quiet (fail)
              go_wp2
              go_roundw
              case rel => exact ⟨j + 1, by omega, rfl, rfl, by go_num, hnf, Lib.hid (show IOwn ((wr.alloc (.cells #[.int .i64 pid, .int .i64 (fr : Int), .int .i64 (tt : Int), .int .i64 psz] 75)).drewN nq) _ _ _ from ho.alloc (.cells #[.int .i64 pid, .int .i64 (fr : Int), .int .i64 (tt : Int), .int .i64 psz] 75)), below_drewN (hb.alloc hzw (.cells #[.int .i64 pid, .int .i64 (fr : Int), .int .i64 (tt : Int), .int .i64 psz] 75)) nq⟩
              case measure => simp [intOf]; omega
          · have hEf : ((fr : Int) == (h : Int)) = false := by simpa using hf1
            by_cases hf2 : (tt : Int) = (h : Int)
            · have hEt : ((tt : Int) == (h : Int)) = true := by simpa using hf2
              have hou : oth ⟨pid, fr, tt, psz⟩ h = (fr : Int) := by
                show (if (fr : Int) = (h : Int) then (tt : Int) else (fr : Int)) = (fr : Int)
                rw [if_neg hf1]
              have hu1 : 1 ≤ fr := by omega
              have huN : fr ≤ N := by omega
              have hu0 : (0 : Int) ≤ (fr : Int) := by omega
              have hup : decide (0 < fr) = true := decide_eq_true (by omega)
              have huN' : (fr : Int) < (N : Int) + 1 := by omega
              have hnear := HNI.out (.inr hf2)
              rw [hou] at hnear
              have HNEAR := Lib.hid hnear
              have HW := Lib.hid (fun h1 h2 => HWA.out fr h1 h2 hou)
              have cu := HST.out fr hu1 huN
              have cu2 := (hb.cell (p := ⟨gS, fr, none⟩) hgS4).trans cu
              obtain ⟨x, hx⟩ : ∃ x, dist ps T (fr : Int) = x := ⟨_, rfl⟩
              rw [hx] at cu2 HNEAR
              have htb : touchB h ⟨pid, fr, tt, psz⟩ = true := by unfold touchB; exact decide_eq_true (.inr hf2)
              clear hnear hou hok cu hf2
              by_cases hxk : x = (k : Int)
              · have hxe : (x == d - 1) = true := by simp; omega
                have hnt : (touchB h ⟨pid, fr, tt, psz⟩ && nearB ps T h ⟨pid, fr, tt, psz⟩) = true := by rw [htb, HNEAR.out.2 hxk]; rfl
                have hw := HW.out hnn.out hnt
                have hpre2 := Lib.hid (show (pre ++ [pid]) ++ wayL ps T k fr = wayL ps T K X by
                  have e := hpre.out
                  rw [hw] at e
                  rw [← e]
                  simp)
                clear hw
                go_wp2
                go_quiet (fail)
                have ho6 : ((wr.alloc (.cells #[.int .i64 pid, .int .i64 (fr : Int), .int .i64 (tt : Int), .int .i64 psz] 75)).drewN nq).ownsRow w4.heap.size 3 1 _ pre.length (pre.map iv) := ho.alloc (.cells #[.int .i64 pid, .int .i64 (fr : Int), .int .i64 (tt : Int), .int .i64 psz] 75)
                have hb6 := below_drewN (hb.alloc hzw (.cells #[.int .i64 pid, .int .i64 (fr : Int), .int .i64 (tt : Int), .int .i64 psz] 75)) nq
                have hz6 : w4.heap.size ≤ ((wr.alloc (.cells #[.int .i64 pid, .int .i64 (fr : Int), .int .i64 (tt : Int), .int .i64 psz] 75)).drewN nq).heap.size := hb6.size
                go_wp2_with (at_builtin; go_must (refine wpList_append_own _ rfl _ _ 34 rfl w4.heap.size 3 i0 (.int .i64 0) 1 8 Try.underlying34 hi hz0 hz1 hz2 rfl (by decide) _ _ _ rfl (ho6.alloc _) ⟨wr.heap.size + 1, 0, none⟩ 1 1 [iv pid] rfl rfl (cell_new2 wr (.cells #[.int .i64 pid, .int .i64 (fr : Int), .int .i64 (tt : Int), .int .i64 psz] 75) (iv pid) 3) (by intro u hu; simp at hu; subst hu; rfl) (by unfold maxLen; omega) (by omega) (by simp at hz6 ⊢; omega) ?_))
                intro v' w7 hown' hgrow hnil
                have hown3 := Lib.hid (IOwn.push hown')
                have hB7 := Lib.hid ((hb6.alloc hz6 (.cells #[iv pid] 3)).grown hgrow (by simp at hz6 ⊢; omega) (fun g hg => (ho6.lt g hg).1))
                have hnil3 := Lib.hid (show v' ≠ .slice none 0 0 from fun e => by simp [e] at hnil)
                clear hown' hgrow hnil ho6
                go_wp2
                go_roundg k
                case measure => have := HMG.out; omega
                case rel => exact ⟨fr, pre ++ [pid], rfl, hu1, huN, Lib.hid (by rw [hx]; exact hxk), hpre2, by simp; omega, hown3, hnil3, hB7.out⟩
              · have hxe : (x == d - 1) = false := by simp; omega
                have hnf := Lib.hid (HNN.out (by
                  rw [htb, Bool.true_and, ← Bool.not_eq_true]
                  exact fun e => hxk (HNEAR.out.1 e)))
                go_wp2
                go_quiet (fail)
                go_wp2
                go_roundw
                case rel => exact ⟨j + 1, by omega, rfl, rfl, by go_num, hnf, Lib.hid (show IOwn ((wr.alloc (.cells #[.int .i64 pid, .int .i64 (fr : Int), .int .i64 (tt : Int), .int .i64 psz] 75)).drewN nq) _ _ _ from ho.alloc (.cells #[.int .i64 pid, .int .i64 (fr : Int), .int .i64 (tt : Int), .int .i64 psz] 75)), below_drewN (hb.alloc hzw (.cells #[.int .i64 pid, .int .i64 (fr : Int), .int .i64 (tt : Int), .int .i64 psz] 75)) nq⟩
                case measure => simp [intOf]; omega
            · have hEt : ((tt : Int) == (h : Int)) = false := by simpa using hf2
              have hnf := Lib.hid (HNN.out (by
                have : touchB h ⟨pid, fr, tt, psz⟩ = false := by unfold touchB; exact decide_eq_false (by rintro (e | e); exact hf1 e; exact hf2 e)
                rw [this]; rfl))
              go_wp2
              go_quiet (fail)
              go_wp2
              go_roundw
              case rel => exact ⟨j + 1, by omega, rfl, rfl, by go_num, hnf, Lib.hid (show IOwn ((wr.alloc (.cells #[.int .i64 pid, .int .i64 (fr : Int), .int .i64 (tt : Int), .int .i64 psz] 75)).drewN nq) _ _ _ from ho.alloc (.cells #[.int .i64 pid, .int .i64 (fr : Int), .int .i64 (tt : Int), .int .i64 psz] 75)), below_drewN (hb.alloc hzw (.cells #[.int .i64 pid, .int .i64 (fr : Int), .int .i64 (tt : Int), .int .i64 psz] 75)) nq⟩
              case measure => simp [intOf]; omega
        · exact absurd (fun i hi => hnn.out i (by omega)) HNR.out
end Go.Proofs.Ytgjogjmfpbinfaa.S2

namespace Go.Proofs.Ytgjogjmfpbinfaa.S2
open Go.RowKit P2

theorem has_v {l : List Int} {x : Int} {v : Bool} (hv : hasB l x = v) (A : Option Addr) (cap : Nat) (w : World) (h : IAt w A l) (hn : l.length ≤ 1048576) :
    Calls Try.prog 176 #[.slice A l.length cap, .int .i64 x] w fun e w' => e = .returned (.bool v) ∧ w' = w := by
  rw [← hv]; exact has_any A cap l x w h hn

theorem gives_noneA {w w0 : World} (h : Below w0.heap.size w0 w) : GivesA w0 [] false (.returned (.tuple #[.slice (some ⟨w.heap.size, 0, none⟩) 0 0, .bool false])) (w.alloc (.cells #[] 3)) :=
  ⟨_, 0, 0, rfl, h.size, .inl rfl, h.alloc h.size _, by simp⟩

theorem sway_no1 (n : Int) (A : Option Addr) (cap : Nat) (ps : List Pp) (x y : Int) (w : World) (h : PAt w A ps) (hm : ps.length ≤ maxLen) (hv : nodeB n ps x = false) :
    Calls Try.prog 98 #[nv n A ps.length cap, .int .i64 x, .int .i64 y] w (GivesA w [] false) := by
  have H := Lib.hid (fun w' (hb : Below w.heap.size w w') => snode_v hv A cap w' (h.kept hb (Nat.le_refl _)) hm)
  clear h hv
  go_enter Try.func98, Try.ntmps98
  go_wp2_with (go_at_call 126; refine (H.out _ ((Below.refl _ _).alloc (Nat.le_refl _) _)).mono ?_; rintro e w1 ⟨rfl, hb1⟩)
  go_ret2
  exact gives_noneA (below_alloc_call hb1)

theorem sway_no2 (n : Int) (A : Option Addr) (cap : Nat) (ps : List Pp) (x y : Int) (w : World) (h : PAt w A ps) (hm : ps.length ≤ maxLen) (hv : nodeB n ps x = true) (hv2 : nodeB n ps y = false) :
    Calls Try.prog 98 #[nv n A ps.length cap, .int .i64 x, .int .i64 y] w (GivesA w [] false) := by
  have H := Lib.hid (fun w' (hb : Below w.heap.size w w') => snode_v hv A cap w' (h.kept hb (Nat.le_refl _)) hm)
  have H2 := Lib.hid (fun w' (hb : Below w.heap.size w w') => snode_v hv2 A cap w' (h.kept hb (Nat.le_refl _)) hm)
  clear h hv hv2
  go_enter Try.func98, Try.ntmps98
  go_wp2_with (first
    | (go_at_call_of 126 (Value.int IntKind.i64 x); refine (H.out _ ((Below.refl _ _).alloc (Nat.le_refl _) _)).mono ?_; rintro e w1 ⟨rfl, hb1⟩; obtain ⟨hc1, hf1⟩ := bcell hb1; have hB1 := Lib.hid (below_alloc_call hb1))
    | (go_at_call_of 126 (Value.int IntKind.i64 y); refine (H2.out _ hB1.out).mono ?_; rintro e w2 ⟨rfl, hb2⟩))
  go_ret2
  exact gives_noneA (hB1.out.trans (hb2.mono hB1.out.size))

set_option maxHeartbeats 2000000 in
theorem sway_no3 (N X T : Nat) (A : Option Addr) (cap : Nat) (ps : List Pp) (w : World) (h : PAt w A ps) (hm : ps.length ≤ maxLen) (hv : nodeB N ps X = true) (hv2 : nodeB N ps T = true) (hd : dist ps T X = -1) :
    Calls Try.prog 98 #[nv N A ps.length cap, .int .i64 X, .int .i64 T] w (GivesA w [] false) := by
  obtain ⟨hg, hx1, hx2⟩ := nodeB_of hv
  obtain ⟨_, hy1, hy2⟩ := nodeB_of hv2
  have H := Lib.hid (fun w' (hb : Below w.heap.size w w') => snode_v hv A cap w' (h.kept hb (Nat.le_refl _)) hm)
  have H2 := Lib.hid (fun w' (hb : Below w.heap.size w w') => snode_v hv2 A cap w' (h.kept hb (Nat.le_refl _)) hm)
  have HR := Lib.hid (fun w' (hb : Below w.heap.size w w') => sreach_any N X A cap ps w' (h.kept hb (Nat.le_refl _)) hg (by omega) (by omega))
  have hN : N ≤ 8 := by have := hg.2.1; omega
  have hcl := conL_len N ps X
  have HH := Lib.hid (show hasB (conL N ps X) T = false by rw [has_con (by omega) (by omega)]; exact decide_eq_false (fun h => h hd))
  clear h hv hv2 hg hd
  go_enter Try.func98, Try.ntmps98
  go_wp2_with (first
    | (go_at_call_of 126 (Value.int IntKind.i64 (X : Int)); refine (H.out _ ((Below.refl _ _).alloc (Nat.le_refl _) _)).mono ?_; rintro e w1 ⟨rfl, hb1⟩; obtain ⟨hc1, hf1⟩ := bcell hb1; have hB1 := Lib.hid (below_alloc_call hb1))
    | (go_at_call_of 126 (Value.int IntKind.i64 (T : Int)); refine (H2.out _ hB1.out).mono ?_; rintro e w2 ⟨rfl, hb2⟩; have hb12 := Lib.hid (hb1.trans (hb2.mono hb1.size)); obtain ⟨hc2, hf2⟩ := bcell hb12.out; have hB2 := Lib.hid (below_alloc_call hb12.out))
    | (go_at_call 177; refine (HR.out _ hB2.out).mono ?_; rintro e w3 ⟨g, o, c, rfl, hg3, hla, hb3⟩)
    | (go_at_call 176; refine (has_v HH.out _ _ _ hla.iat (by omega)).mono ?_; rintro e w4 ⟨rfl, rfl⟩))
  go_ret2
  exact gives_noneA (hB2.out.trans (hb3.mono hB2.out.size))

set_option maxHeartbeats 2000000 in
theorem sway_yes (N X T : Nat) (A : Option Addr) (cap : Nat) (ps : List Pp) (w : World) (h : PAt w A ps) (hm : ps.length ≤ maxLen) (hv : nodeB N ps X = true) (hv2 : nodeB N ps T = true) (K : Nat) (hd : dist ps T X = K) :
    Calls Try.prog 98 #[nv N A ps.length cap, .int .i64 X, .int .i64 T] w (GivesA w (wayL ps T K X) true) := by
  obtain ⟨hg, hx1, hx2⟩ := nodeB_of hv
  obtain ⟨_, hy1, hy2⟩ := nodeB_of hv2
  have H := Lib.hid (fun w' (hb : Below w.heap.size w w') => snode_v hv A cap w' (h.kept hb (Nat.le_refl _)) hm)
  have H2 := Lib.hid (fun w' (hb : Below w.heap.size w w') => snode_v hv2 A cap w' (h.kept hb (Nat.le_refl _)) hm)
  have HR := Lib.hid (fun w' (hb : Below w.heap.size w w') => sreach_any N X A cap ps w' (h.kept hb (Nat.le_refl _)) hg (by omega) (by omega))
  have HW := Lib.hid (fun w' (hb : Below w.heap.size w w') => l2way_any N X T A cap ps w' (h.kept hb (Nat.le_refl _)) hg (by omega) (by omega) (by omega) (by omega) K hd)
  have hN : N ≤ 8 := by have := hg.2.1; omega
  have hcl := conL_len N ps X
  have HH := Lib.hid (show hasB (conL N ps X) T = true by rw [has_con (by omega) (by omega)]; exact decide_eq_true (by omega))
  clear h hv hv2 hg hd
  go_enter Try.func98, Try.ntmps98
  go_wp2_with (first
    | (go_at_call_of 126 (Value.int IntKind.i64 (X : Int)); refine (H.out _ ((Below.refl _ _).alloc (Nat.le_refl _) _)).mono ?_; rintro e w1 ⟨rfl, hb1⟩; obtain ⟨hc1, hf1⟩ := bcell hb1; have hB1 := Lib.hid (below_alloc_call hb1))
    | (go_at_call_of 126 (Value.int IntKind.i64 (T : Int)); refine (H2.out _ hB1.out).mono ?_; rintro e w2 ⟨rfl, hb2⟩; have hb12 := Lib.hid (hb1.trans (hb2.mono hb1.size)); obtain ⟨hc2, hf2⟩ := bcell hb12.out; have hB2 := Lib.hid (below_alloc_call hb12.out))
    | (go_at_call 177; refine (HR.out _ hB2.out).mono ?_; rintro e w3 ⟨g, o, c, rfl, hg3, hla, hb3⟩; have hb13 := Lib.hid (hb12.out.trans (hb3.mono hb12.out.size)); obtain ⟨hc3, hf3⟩ := bcell hb13.out; have hB3 := Lib.hid (below_alloc_call hb13.out))
    | (go_at_call 176; refine (has_v HH.out _ _ _ hla.iat (by omega)).mono ?_; rintro e w4 ⟨rfl, rfl⟩)
    | (go_at_call 198; refine (HW.out _ hB3.out).mono ?_; rintro e w5 ⟨gW, cW, rfl, hgW, hoW, hbW⟩))
  go_ret2
  have hz := hB3.out.size
  exact ⟨gW, 0, cW, rfl, by omega, hoW.iat, hB3.out.trans (hbW.mono hz), (World.ownsRow.lt hoW gW rfl).2⟩
end Go.Proofs.Ytgjogjmfpbinfaa.S2

namespace Go.Proofs.Ytgjogjmfpbinfaa.S2
open Go.RowKit P2

theorem size_zeroCells (z : Array Value) (n : Nat) : (Builtin.zeroCells z n).size = n * z.size := by
  first
    | simp [Builtin.zeroCells]
    | (unfold Builtin.zeroCells; simp)

set_option maxHeartbeats 2000000 in
set_option maxRecDepth 100000 in
theorem grow_any (M : Nat) (w : World) (h1 : 1 ≤ M) (h9 : M ≤ 10) :
    Calls Try.prog 224 #[.slice none 0 0, .int .i64 (M : Int)] w fun e w' => ∃ g c, e = .returned (.slice (some ⟨g, 0, none⟩) 0 c) ∧ M ≤ c ∧ w'.ownsRow w.heap.size 75 4 (.slice (some ⟨g, 0, none⟩) 0 c) 0 [] ∧ Below w.heap.size w w' := by
  obtain ⟨i0, hi0, hz0, hz1, hz2⟩ := info_parts infoP
  have HR := Lib.hid (Lib.run_append_nil_zeros (P := Try.prog) w 28 3 28 75 i0 _ .i64 .i64 Try.underlying28 Try.underlying3 hi0 hz0 M (by omega) (by omega) (by omega) (by rw [hz2]; omega))
  have hge := grownCap_ge w M 0 75
  have hle := grownCap_le_maxLen w M 0 75 (by simp only [maxLen]; omega)
  have hM0 : (0 : Int) ≤ (M : Int) := by omega
  have hM1 : (0 : Int) < (M : Int) := by omega
  have hM2 : 0 < M := by omega
  have hM9 : (M : Int) ≤ 10 := by omega
  generalize grownCap w M 0 75 = c at *
  go_enter Try.func224, Try.ntmps224
  go_wp2_with (at_builtin; go_must (refine Lib.wpList_append_run _ rfl _ _ _ _ rfl _ _ (by simp [go_sem]) (by simp [go_sem]) _ _ HR.out ?_))
  go_ret
  refine ⟨w.heap.size, c, rfl, hge, ⟨rfl, .inr ⟨w.heap.size, c, _, rfl, Nat.le_refl _, (MapKept.heap_alloc w.drew _).1, Nat.zero_le _, hle, ?_, rfl⟩⟩, (Below.refl _ _).drew.alloc (Nat.le_refl _) _⟩
  rw [Array.size_append, size_zeroCells, size_zeroCells]
  simp
  omega

/-- What has been gathered after j of two slices. -/
def two {α : Type} (z a b : α) (j : Nat) : α := if j = 0 then z else if j = 1 then a else b
set_option maxHeartbeats 4000000 in
set_option maxRecDepth 100000 in
theorem concat_any (S i m c1 c2 : Nat) (a1 a2 : Addr) (xs ys : List Value) (w : World) (hS : S < w.heap.size)
    (h0 : w.cell? ⟨S, 0, none⟩ = some (.slice (some a1) i c1)) (h1 : w.cell? ⟨S, 1, none⟩ = some (.slice (some a2) m c2))
    (hx : xs.length = i * 4) (hy : ys.length = m * 4) (hx1 : ∀ u ∈ xs, u.oneCell' = true) (hy1 : ∀ u ∈ ys, u.oneCell' = true)
    (hxs : ∀ w', Below w.heap.size w w' → ∀ j u, xs[j]? = some u → w'.cell? (a1.add j) = some u) (hys : ∀ w', Below w.heap.size w w' → ∀ j u, ys[j]? = some u → w'.cell? (a2.add j) = some u)
    (hp : 1 ≤ i + m) (h9 : i + m ≤ 10) :
    Calls Try.prog 206 #[.slice (some ⟨S, 0, none⟩) 2 2] w fun e w' => ∃ g c, e = .returned (.slice (some ⟨g, 0, none⟩) (i + m) c) ∧ w'.ownsRow w.heap.size 75 4 (.slice (some ⟨g, 0, none⟩) (i + m) c) (i + m) (xs ++ ys) ∧ Below w.heap.size w w' := by
  obtain ⟨i0, hi0, hz0, hz1, hz2⟩ := info_parts infoP
  have HG := Lib.hid (fun w => grow_any (i + m) w hp h9)
  have HXS := Lib.hid hxs
  have HYS := Lib.hid hys
  have hT : ((i + m : Nat) : Int) = (i : Int) + (m : Int) := by omega
  clear hxs hys
  go_enter Try.func206, Try.ntmps206
  go_wp2
  go_loopw [3, 11] (fun s k wr => ∃ j : Nat, j ≤ 2 ∧ k = .int .i64 (j : Int) ∧ s = .int .i64 ((two 0 i (i + m) j : Nat) : Int) ∧ w = wr) (fun _ k _ => 2 - (intOf k).toNat)
  case atStart => exact ⟨0, by omega, rfl, rfl, rfl⟩
  case round =>
    obtain ⟨j, hj, rfl, rfl, rfl⟩ := hrel
    match j, hj with
    | 0, _ =>
      have e : two 0 i (i + m) 0 = 0 := rfl
      rw [e]
      have hii : (0 : Int) ≤ (i : Int) := by omega
      have hi9 : (i : Int) ≤ 10 := by omega
      go_wp2
      go_roundw
      case rel => exact ⟨1, by omega, rfl, by simp [two], trivial⟩
      case measure => simp [intOf]
    | 1, _ =>
      have e : two 0 i (i + m) 1 = i := rfl
      rw [e]
      have hii : (0 : Int) ≤ (i : Int) := by omega
      have hmm : (0 : Int) ≤ (m : Int) := by omega
      have him : (i : Int) + (m : Int) ≤ 10 := by omega
      have him0 : (0 : Int) ≤ (i : Int) + (m : Int) := by omega
      go_wp2
      go_roundw
      case rel => exact ⟨2, by omega, rfl, by simp [two], trivial⟩
      case measure => simp [intOf]
    | 2, _ =>
      have e : two 0 i (i + m) 2 = i + m := rfl
      rw [e]
      go_wp2_with (first
        | (go_at_call 224; refine (HG.out _).mono ?_; rintro e w1 ⟨g, c, rfl, hgc, hown, hb1⟩; refine Hid.out ?_)
        | fail)
      refine Lib.hid ?_
      go_wp2
      have hB1 : Below w.heap.size w w1 := hb1
      have HO1 := Lib.hid hown
      clear hown hb1 hgc e
      go_loopw [6, 27] (fun v k wr => ∃ j : Nat, j ≤ 2 ∧ k = .int .i64 (j : Int) ∧ Hid (wr.ownsRow w.heap.size 75 4 v (two 0 i (i + m) j) (two [] xs (xs ++ ys) j)) ∧ Hid (v ≠ .slice none 0 0) ∧ Below w.heap.size w wr) (fun _ k _ => 2 - (intOf k).toNat)
      case atStart => exact ⟨0, by omega, rfl, HO1, Lib.hid (by simp), hB1⟩
      case round =>
        clear HO1 hB1
        obtain ⟨j, hj, rfl, hown, hvn, hb⟩ := hrel
        have h0w := (hb.cell (p := ⟨S, 0, none⟩) hS).trans h0
        have h1w := (hb.cell (p := ⟨S, 1, none⟩) hS).trans h1
        have hz := hb.size
        match j, hj with
        | 0, _ =>
          have ho := hown.out
          have ho2 : wr.ownsRow w.heap.size 75 4 _ 0 [] := ho
          go_wp2_with (at_builtin; go_must (refine wpList_append_own _ rfl _ _ 28 rfl w.heap.size 75 i0 _ 4 32 Try.underlying28 hi0 hz0 hz1 hz2 rfl (by omega) _ _ _ rfl ho2 a1 i c1 xs rfl hx (HXS.out _ hb) hx1 (by simp only [maxLen]; omega) (by omega) hz ?_))
          intro v' w3 hown' hgrow hnil
          have hB3 := Lib.hid (hb.grown hgrow hz (fun g hg => (ho2.lt g hg).1))
          have hn3 := Lib.hid (show v' ≠ .slice none 0 0 from fun e => hvn.out (hnil.1 e).1)
          have ho3 := Lib.hid (show w3.ownsRow w.heap.size 75 4 v' (two 0 i (i + m) 1) (two [] xs (xs ++ ys) 1) from hown')
          clear hown' hgrow hnil ho ho2
          go_wp2
          go_roundw
          case rel => exact ⟨1, by omega, rfl, ho3, hn3, hB3.out⟩
          case measure => simp [intOf]
        | 1, _ =>
          have ho2 : wr.ownsRow w.heap.size 75 4 _ i xs := hown.out
          go_wp2_with (at_builtin; go_must (refine wpList_append_own _ rfl _ _ 28 rfl w.heap.size 75 i0 _ 4 32 Try.underlying28 hi0 hz0 hz1 hz2 rfl (by omega) _ _ _ rfl ho2 a2 m c2 ys rfl hy (HYS.out _ hb) hy1 (by simp only [maxLen]; omega) (by omega) hz ?_))
          intro v' w3 hown' hgrow hnil
          have hB3 := Lib.hid (hb.grown hgrow hz (fun g hg => (ho2.lt g hg).1))
          have hn3 := Lib.hid (show v' ≠ .slice none 0 0 from fun e => hvn.out (hnil.1 e).1)
          have ho3 := Lib.hid (show w3.ownsRow w.heap.size 75 4 v' (two 0 i (i + m) 2) (two [] xs (xs ++ ys) 2) from hown')
          clear hown' hgrow hnil ho2
          go_wp2
          go_roundw
          case rel => exact ⟨2, by omega, rfl, ho3, hn3, hB3.out⟩
          case measure => simp [intOf]
        | 2, _ =>
          have ho2 : wr.ownsRow w.heap.size 75 4 _ (i + m) (xs ++ ys) := hown.out
          obtain ⟨g, cp, rfl, _, _⟩ := ho2.form (by omega)
          go_wp2
          go_ret
          exact ⟨g, cp, rfl, ho2, hb⟩
end Go.Proofs.Ytgjogjmfpbinfaa.S2

namespace Go.Proofs.Ytgjogjmfpbinfaa.S2
open Go.RowKit P2

set_option maxHeartbeats 8000000 in
set_option maxRecDepth 100000 in
theorem wo_own (N i b off n cap : Nat) (ps : List Pp) (w : World) (h : PAt w (some ⟨b, off, none⟩) ps) (hn : ps.length = n) (hi : i < n) (h2 : 2 ≤ n) (hc : n ≤ cap) (hl : n ≤ 10) :
    Calls Try.prog 133 #[nv N (some ⟨b, off, none⟩) n cap, .int .i64 (i : Int)] w fun e w' => ∃ g c, e = .returned (nv N (some ⟨g, 0, none⟩) (n - 1) c) ∧ w.heap.size ≤ g ∧ w'.ownsRow (w.heap.size + 3) 75 4 (.slice (some ⟨g, 0, none⟩) (n - 1) c) (n - 1) (pcs (ps.take i ++ ps.drop (i + 1))) ∧ Below w.heap.size w w' := by
  have HA := Lib.hid h
  have hi1 : (0 : Int) ≤ (i : Int) := by omega
  have hi2 : (i : Int) < (n : Int) := by omega
  have hi3 : (i : Int) ≤ (cap : Int) := by omega
  have hi4 : (i : Int) + 1 ≤ (n : Int) := by omega
  have hi5 : (n : Int) ≤ (cap : Int) := by omega
  have hi6 : (0 : Int) ≤ (i : Int) + 1 := by omega
  obtain ⟨a2, ha2, ha3⟩ : ∃ a2 : Addr, (if cap = i + 1 then some (⟨b, off, none⟩ : Addr) else some ⟨b, off + (i + 1) * 4, none⟩) = some a2 ∧ (cap ≠ i + 1 → a2 = ⟨b, off + (i + 1) * 4, none⟩) := by
    by_cases e : cap = i + 1
    · exact ⟨_, by rw [if_pos e], fun h => absurd e h⟩
    · exact ⟨_, by rw [if_neg e], fun _ => rfl⟩
  have HA3 := Lib.hid ha3
  have hw1 : IntKind.i64.wrap ((i : Int) + 1) = (i : Int) + 1 := IntWalk.i64_in _ (by omega)
  have hbl : b < w.heap.size := by
    rcases h with h | ⟨b', off', hA, hlt, _⟩
    · rw [h] at hn; simp at hn; omega
    · injection hA with hA; injection hA with hb' _ _; rw [hb']; exact hlt
  have hlen : (ps.take i ++ ps.drop (i + 1)).length = n - 1 := by rw [List.length_append, List.length_take, List.length_drop]; omega
  have HLEN := Lib.hid hlen
  clear h ha3 hlen
  go_enter Try.func133, Try.ntmps133
  go_wp2
  go_region_held3 (fun w' => w'.cell? ⟨w.heap.size, 0, none⟩ = some (.int .i64 N) ∧ w'.cell? ⟨w.heap.size, 1, none⟩ = some (.slice (some ⟨b, off, none⟩) n cap))
    (first
      | go_keep
      | (go_split_ands
         exact ⟨(hbx.cell (p := ⟨w.heap.size, 0, none⟩) (by simp; omega)).trans (by assumption), (hbx.cell (p := ⟨w.heap.size, 1, none⟩) (by simp; omega)).trans (by assumption)⟩))
    (first
      | (go_at_call 206; refine (concat_any (w.heap.size + 2) i (n - (i + 1)) cap (cap - (i + 1)) ⟨b, off, none⟩ a2 (pcs (ps.take i)) (pcs (ps.drop (i + 1))) _ (by simp) (by go_simp) (by go_simp) (by rw [pcs_len, List.length_take]; omega) (by rw [pcs_len, List.length_drop]; omega) (pcs_one _) (pcs_one _) (fun w' hb' => pat_take HA.out hbl (Below.trans (((((Below.refl _ _).alloc (Nat.le_refl _) _).alloc (by simp) _).alloc (by simp; omega) _).drew) (hb'.mono (by simp; omega))) (by omega)) (fun w' hb' => by
          intro j u hu
          by_cases e : cap = i + 1
          · rw [List.drop_eq_nil_of_le (by omega)] at hu; simp [pcs] at hu
          · rw [HA3.out e]; exact pat_drop HA.out hbl (Below.trans (((((Below.refl _ _).alloc (Nat.le_refl _) _).alloc (by simp) _).alloc (by simp; omega) _).drew) (hb'.mono (by simp; omega))) j u hu) (by omega) (by omega)).mono ?_; rintro e w4 ⟨g, c, rfl, hown, hbx⟩; have hsz := hbx.size; have c0 : w4.cell? ⟨w.heap.size + 1, 0, none⟩ = some (.int .i64 0) := (hbx.cell (p := ⟨w.heap.size + 1, 0, none⟩) (by simp)).trans (by go_simp); have fz0 : w4.frozen? ⟨w.heap.size + 1, 0, none⟩ = false := (hbx.frozen (p := ⟨w.heap.size + 1, 0, none⟩) (by simp)).trans (by go_simp); have c1 : w4.cell? ⟨w.heap.size + 1, 1, none⟩ = some (.slice none 0 0) := (hbx.cell (p := ⟨w.heap.size + 1, 1, none⟩) (by simp)).trans (by go_simp); have fz1 : w4.frozen? ⟨w.heap.size + 1, 1, none⟩ = false := (hbx.frozen (p := ⟨w.heap.size + 1, 1, none⟩) (by simp)).trans (by go_simp)))
  have e : i + (n - (i + 1)) = n - 1 := by omega
  have hbs : w.heap.size + 3 ≤ g ∧ w.heap.size ≤ w4.heap.size := by
    have h3 := (World.ownsRow.lt hown g rfl).1
    simp at h3 hsz
    omega
  have h6 : w4.ownsRow (w.heap.size + 3) 75 4 (.slice (some ⟨g, 0, none⟩) (n - 1) c) (n - 1) (pcs (ps.take i ++ ps.drop (i + 1))) := by
    have e2 : pcs (ps.take i ++ ps.drop (i + 1)) = pcs (ps.take i) ++ pcs (ps.drop (i + 1)) := by simp [pcs, List.flatMap_append]
    rw [e2, ← e]
    simpa using hown
  have HO6 := Lib.hid h6
  have HB6 := Lib.hid (Below.trans (((((Below.refl w.heap.size w).alloc (Nat.le_refl _) _).alloc (by simp) _).alloc (by simp; omega) _).drew) (hbx.mono (by simp; omega)))
  clear hown hbx h6 hsz
  go_wp2
  refine bodyPost_ret (v := nv N (some ⟨g, 0, none⟩) (n - 1) c) (by simp [results, Try.results133, go_sem, c0, c1, e]) rfl ⟨g, c, rfl, by omega, ?_, ?_⟩
  · have h5 := ownsRow_setCell_below (ownsRow_setCell_below HO6.out (a := ⟨w.heap.size + 1, 0, none⟩) (by show w.heap.size + 1 < w.heap.size + 3; omega) (.int .i64 N)) (a := ⟨w.heap.size + 1, 1, none⟩) (by show w.heap.size + 1 < w.heap.size + 3; omega) (.slice (some ⟨g, 0, none⟩) (i + (n - (i + 1))) c)
    simpa only [e] using h5
  · exact (HB6.out.setCell (p := ⟨w.heap.size + 1, 0, none⟩) (by show w.heap.size ≤ w.heap.size + 1; omega) _).setCell (p := ⟨w.heap.size + 1, 1, none⟩) (by show w.heap.size ≤ w.heap.size + 1; omega) _
theorem wo_any (N i b off n cap : Nat) (ps : List Pp) (w : World) (h : PAt w (some ⟨b, off, none⟩) ps) (hn : ps.length = n) (hi : i < n) (h2 : 2 ≤ n) (hc : n ≤ cap) (hl : n ≤ 10) :
    Calls Try.prog 133 #[nv N (some ⟨b, off, none⟩) n cap, .int .i64 (i : Int)] w fun e w' => ∃ g c, e = .returned (nv N (some ⟨g, 0, none⟩) (n - 1) c) ∧ w.heap.size ≤ g ∧ PAt w' (some ⟨g, 0, none⟩) (ps.take i ++ ps.drop (i + 1)) ∧ Below w.heap.size w w' := by
  have hlen : (ps.take i ++ ps.drop (i + 1)).length = n - 1 := by rw [List.length_append, List.length_take, List.length_drop]; omega
  refine (wo_own N i b off n cap ps w h hn hi h2 hc hl).mono ?_
  rintro e w' ⟨g, c, rfl, hg, ho, hb⟩
  refine ⟨g, c, rfl, hg, own_pat (B := w.heap.size + 3) (cap := c) ?_, hb⟩
  rw [hlen]
  exact ho
end Go.Proofs.Ytgjogjmfpbinfaa.S2

namespace Go.Proofs.Ytgjogjmfpbinfaa.S2
open Go.RowKit P2

theorem grow_zero (w : World) :
    Calls Try.prog 224 #[.slice none 0 0, .int .i64 0] w fun e w' => e = .returned (.slice none 0 0) ∧ w' = w := by
  go_enter Try.func224, Try.ntmps224
  go_wp2
  go_ret
  exact ⟨rfl, rfl⟩

set_option maxHeartbeats 4000000 in
set_option maxRecDepth 100000 in
theorem concat_zero (S c1 c2 i m : Nat) (a1 a2 : Addr) (w : World) (hS : S < w.heap.size)
    (h0 : w.cell? ⟨S, 0, none⟩ = some (.slice (some a1) i c1)) (h1 : w.cell? ⟨S, 1, none⟩ = some (.slice (some a2) m c2)) (hi : i = 0) (hm : m = 0) :
    Calls Try.prog 206 #[.slice (some ⟨S, 0, none⟩) 2 2] w fun e w' => e = .returned (.slice none 0 0) ∧ Below w.heap.size w w' := by
  obtain ⟨i0, hi0, hz0, hz1, hz2⟩ := info_parts infoP
  have HG := Lib.hid (fun w => grow_zero w)
  subst hi
  subst hm
  go_enter Try.func206, Try.ntmps206
  go_wp2
  go_loopw [3, 11] (fun s k wr => ∃ j : Nat, j ≤ 2 ∧ k = .int .i64 (j : Int) ∧ s = .int .i64 0 ∧ w = wr) (fun _ k _ => 2 - (intOf k).toNat)
  case atStart => exact ⟨0, by omega, rfl, rfl, rfl⟩
  case round =>
    obtain ⟨j, hj, rfl, rfl, rfl⟩ := hrel
    match j, hj with
    | 0, _ =>
      go_wp2
      go_roundw
      case rel => exact ⟨1, by omega, rfl, rfl, trivial⟩
      case measure => simp [intOf]
    | 1, _ =>
      go_wp2
      go_roundw
      case rel => exact ⟨2, by omega, rfl, rfl, trivial⟩
      case measure => simp [intOf]
    | 2, _ =>
      go_wp2_with (first
        | (go_at_call 224; refine (HG.out _).mono ?_; rintro e w1 ⟨rfl, rfl⟩)
        | fail)
      go_loopw [6, 27] (fun v k wr => ∃ j : Nat, j ≤ 2 ∧ k = .int .i64 (j : Int) ∧ v = .slice none 0 0 ∧ Below w1.heap.size w1 wr) (fun _ k _ => 2 - (intOf k).toNat)
      case atStart => exact ⟨0, by omega, rfl, rfl, Below.refl _ _⟩
      case round =>
        obtain ⟨j, hj, rfl, rfl, hb⟩ := hrel
        have h0w := (hb.cell (p := ⟨S, 0, none⟩) hS).trans h0
        have h1w := (hb.cell (p := ⟨S, 1, none⟩) hS).trans h1
        have hz := hb.size
        have ho2 : wr.ownsRow w1.heap.size 75 4 (.slice none 0 0) 0 [] := ⟨rfl, .inl ⟨rfl, rfl⟩⟩
        match j, hj with
        | 0, _ =>
          go_wp2_with (at_builtin; go_must (refine wpList_append_own _ rfl _ _ 28 rfl w1.heap.size 75 i0 _ 4 32 Try.underlying28 hi0 hz0 hz1 hz2 rfl (by omega) _ _ _ rfl ho2 a1 0 c1 [] rfl rfl (by simp) (by simp) (by simp [maxLen]) (by omega) hz ?_))
          intro v' w3 hown' hgrow hnil
          have hv : v' = .slice none 0 0 := hnil
          subst hv
          have hB3 := Lib.hid (hb.grown hgrow hz (fun g hg => by simp [Value.ownBlock] at hg))
          clear hown' hgrow hnil ho2
          go_wp2
          go_roundw
          case rel => exact ⟨1, by omega, rfl, rfl, hB3.out⟩
          case measure => simp [intOf]
        | 1, _ =>
          go_wp2_with (at_builtin; go_must (refine wpList_append_own _ rfl _ _ 28 rfl w1.heap.size 75 i0 _ 4 32 Try.underlying28 hi0 hz0 hz1 hz2 rfl (by omega) _ _ _ rfl ho2 a2 0 c2 [] rfl rfl (by simp) (by simp) (by simp [maxLen]) (by omega) hz ?_))
          intro v' w3 hown' hgrow hnil
          have hv : v' = .slice none 0 0 := hnil
          subst hv
          have hB3 := Lib.hid (hb.grown hgrow hz (fun g hg => by simp [Value.ownBlock] at hg))
          clear hown' hgrow hnil ho2
          go_wp2
          go_roundw
          case rel => exact ⟨2, by omega, rfl, rfl, hB3.out⟩
          case measure => simp [intOf]
        | 2, _ =>
          go_wp2
          go_ret
          exact ⟨rfl, hb⟩
set_option maxHeartbeats 8000000 in
set_option maxRecDepth 100000 in
theorem wo_one (N i b off n cap : Nat) (ps : List Pp) (w : World) (h : PAt w (some ⟨b, off, none⟩) ps) (hn : ps.length = n) (hi : i < n) (h2 : n = 1) (hc : n ≤ cap) (_hl : n ≤ 10) :
    Calls Try.prog 133 #[nv N (some ⟨b, off, none⟩) n cap, .int .i64 (i : Int)] w fun e w' => e = .returned (nv N none 0 0) ∧ Below w.heap.size w w' := by
  have hi1 : (0 : Int) ≤ (i : Int) := by omega
  have hi2 : (i : Int) < (n : Int) := by omega
  have hi3 : (i : Int) ≤ (cap : Int) := by omega
  have hi4 : (i : Int) + 1 ≤ (n : Int) := by omega
  have hi5 : (n : Int) ≤ (cap : Int) := by omega
  have hi6 : (0 : Int) ≤ (i : Int) + 1 := by omega
  obtain ⟨a2, ha2, ha3⟩ : ∃ a2 : Addr, (if cap = i + 1 then some (⟨b, off, none⟩ : Addr) else some ⟨b, off + (i + 1) * 4, none⟩) = some a2 ∧ (cap ≠ i + 1 → a2 = ⟨b, off + (i + 1) * 4, none⟩) := by
    by_cases e : cap = i + 1
    · exact ⟨_, by rw [if_pos e], fun h => absurd e h⟩
    · exact ⟨_, by rw [if_neg e], fun _ => rfl⟩
  have hw1 : IntKind.i64.wrap ((i : Int) + 1) = (i : Int) + 1 := IntWalk.i64_in _ (by omega)
  have hbl : b < w.heap.size := by
    rcases h with h | ⟨b', off', hA, hlt, _⟩
    · rw [h] at hn; simp at hn; omega
    · injection hA with hA; injection hA with hb' _ _; rw [hb']; exact hlt
  have HN1 := Lib.hid h2
  clear h ha3 h2
  go_enter Try.func133, Try.ntmps133
  go_wp2
  go_region_held3 (fun w' => w'.cell? ⟨w.heap.size, 0, none⟩ = some (.int .i64 N) ∧ w'.cell? ⟨w.heap.size, 1, none⟩ = some (.slice (some ⟨b, off, none⟩) n cap))
    (first
      | go_keep
      | (go_split_ands
         exact ⟨(hbx.cell (p := ⟨w.heap.size, 0, none⟩) (by simp; omega)).trans (by assumption), (hbx.cell (p := ⟨w.heap.size, 1, none⟩) (by simp; omega)).trans (by assumption)⟩))
    (first
      | (go_at_call 206; refine (concat_zero (w.heap.size + 2) cap (cap - (i + 1)) i (n - (i + 1)) ⟨b, off, none⟩ a2 _ (by simp) (by go_simp) (by go_simp) (by have := HN1.out; omega) (by have := HN1.out; omega)).mono ?_; rintro e w4 ⟨rfl, hbx⟩; have hsz := hbx.size; have c0 : w4.cell? ⟨w.heap.size + 1, 0, none⟩ = some (.int .i64 0) := (hbx.cell (p := ⟨w.heap.size + 1, 0, none⟩) (by simp)).trans (by go_simp); have fz0 : w4.frozen? ⟨w.heap.size + 1, 0, none⟩ = false := (hbx.frozen (p := ⟨w.heap.size + 1, 0, none⟩) (by simp)).trans (by go_simp); have c1 : w4.cell? ⟨w.heap.size + 1, 1, none⟩ = some (.slice none 0 0) := (hbx.cell (p := ⟨w.heap.size + 1, 1, none⟩) (by simp)).trans (by go_simp); have fz1 : w4.frozen? ⟨w.heap.size + 1, 1, none⟩ = false := (hbx.frozen (p := ⟨w.heap.size + 1, 1, none⟩) (by simp)).trans (by go_simp)))
  have HB6 := Lib.hid (Below.trans (((((Below.refl w.heap.size w).alloc (Nat.le_refl _) _).alloc (by simp) _).alloc (by simp; omega) _).drew) (hbx.mono (by simp; omega)))
  clear hbx hsz
  go_wp2
  refine bodyPost_ret (v := nv N none 0 0) (by simp [results, Try.results133, go_sem, c0, c1]) rfl ⟨rfl, ?_⟩
  exact (HB6.out.setCell (p := ⟨w.heap.size + 1, 0, none⟩) (by show w.heap.size ≤ w.heap.size + 1; omega) _).setCell (p := ⟨w.heap.size + 1, 1, none⟩) (by show w.heap.size ≤ w.heap.size + 1; omega) _

/-- withoutPipe, whatever the number of pipes. -/
theorem wo_all (N i cap : Nat) (A : Option Addr) (ps : List Pp) (w : World) (h : PAt w A ps) (hi : i < ps.length) (hc : ps.length ≤ cap) (hl : ps.length ≤ 10) :
    Calls Try.prog 133 #[nv N A ps.length cap, .int .i64 (i : Int)] w fun e w' => ∃ A2 c, e = .returned (nv N A2 (wo ps i).length c) ∧ PAt w' A2 (wo ps i) ∧ Below w.heap.size w w' := by
  obtain ⟨b, off, hA, _⟩ := h.at_ hi
  subst hA
  by_cases h2 : 2 ≤ ps.length
  · refine (wo_any N i b off ps.length cap ps w h rfl hi h2 (by omega) hl).mono ?_
    rintro e w' ⟨g, c, rfl, _, hp, hb⟩
    exact ⟨_, c, by rw [wo_len ps i hi], hp, hb⟩
  · have e1 : ps.length = 1 := by omega
    have e2 : i = 0 := by omega
    subst e2
    refine (wo_one N 0 b off ps.length cap ps w h rfl hi e1 (by omega) hl).mono ?_
    rintro e w' ⟨rfl, hb⟩
    have e4 : wo ps 0 = [] := List.length_eq_zero_iff.1 (by rw [wo_len ps 0 hi]; omega)
    exact ⟨none, 0, by rw [e4]; rfl, .inl e4, hb⟩
end Go.Proofs.Ytgjogjmfpbinfaa.S2

namespace Go.Proofs.Ytgjogjmfpbinfaa.S2
open Go.RowKit P2

/-- Without it its ends are not connected. -/
noncomputable def brB (ps : List Pp) (i : Nat) : Bool := decide (dist (wo ps i) (pAt ps i).fr (pAt ps i).to = -1)
noncomputable def brTo (ps : List Pp) (k : Nat) : List Int := ((List.range k).filter (brB ps)).map fun i => (pAt ps i).id
theorem brTo_len (ps : List Pp) (k : Nat) : (brTo ps k).length ≤ k := by
  unfold brTo; rw [List.length_map]; exact Nat.le_trans (List.length_filter_le _ _) (by simp)
theorem brTo_yes (ps : List Pp) (k : Nat) (h : brB ps k = true) : brTo ps (k + 1) = brTo ps k ++ [(pAt ps k).id] := by
  unfold brTo
  rw [List.range_succ, List.filter_append, List.map_append]
  simp [h]
theorem brTo_no (ps : List Pp) (k : Nat) (h : brB ps k = false) : brTo ps (k + 1) = brTo ps k := by
  unfold brTo
  rw [List.range_succ, List.filter_append, List.map_append]
  simp [h]

theorem br_no (n : Int) (A : Option Addr) (cap : Nat) (ps : List Pp) (w : World) (h : PAt w A ps) (hm : ps.length ≤ maxLen) (hv : goodB n ps = false) :
    Calls Try.prog 55 #[nv n A ps.length cap] w (GivesI w [] false) := by
  have H := Lib.hid (fun w' (hb : Below w.heap.size w w') => valid_v hv A cap w' (h.kept hb (Nat.le_refl _)) hm)
  clear h hv
  go_enter Try.func55, Try.ntmps55
  go_wp2_with (go_at_call 115; refine (H.out _ ((Below.refl _ _).alloc (Nat.le_refl _) _)).mono ?_; rintro e w1 ⟨rfl, hb1⟩)
  go_ret2
  exact gives_none (below_alloc_call hb1)

set_option maxHeartbeats 8000000 in
set_option maxRecDepth 100000 in
theorem br_yes (N : Nat) (A : Option Addr) (cap : Nat) (ps : List Pp) (w : World) (h : PAt w A ps) (hm : ps.length ≤ maxLen) (hv : goodB N ps = true) (hc : ps.length ≤ cap) :
    Calls Try.prog 55 #[nv N A ps.length cap] w (GivesI w (brTo ps ps.length) true) := by
  have hg := good_of hv
  have H := Lib.hid (fun w' (hb : Below w.heap.size w w') => valid_v hv A cap w' (h.kept hb (Nat.le_refl _)) hm)
  have HA := Lib.hid h
  have HG := Lib.hid hg
  have hN : N ≤ 8 := by have := hg.2.1; omega
  have hl10 := hg.2.2.1
  have HWO := Lib.hid (fun (i : Nat) (hi : i < ps.length) w' (hb : Below w.heap.size w w') => wo_all N i cap A ps w' (h.kept hb (Nat.le_refl _)) hi hc hl10)
  have HDI := Lib.hid (fun (i t : Nat) A2 c2 w' (h2 : PAt w' A2 (wo ps i)) h3 h4 => dist_any N t A2 c2 (wo ps i) w' h2 (good_sub hg (wo_sub ps i)) h3 h4)
  obtain ⟨i0, hi, hz0, hz1, hz2⟩ := info_parts infoI
  clear h hv hg hm hc
  go_enter Try.func55, Try.ntmps55
  go_wp2_with (go_at_call 115; refine (H.out _ ((Below.refl _ _).alloc (Nat.le_refl _) _)).mono ?_; rintro e w1 ⟨rfl, hb1⟩; obtain ⟨hc1, hf1⟩ := bcell hb1; have hz1' := hb1.size; have hs1 : w.heap.size < w1.heap.size := (by simp at hz1'; omega))
  have hb0 : Below (w.heap.size + 1) (w.alloc (.cells #[.int .i64 N, .slice A ps.length cap] 30)) w1 := by simpa using hb1
  have hzl0 := box_lt hb0
  have hO1 : IOwn (w1.alloc (.cells #[] 3)) (w.heap.size + 1) (.slice (some ⟨w1.heap.size, 0, none⟩) 0 0) [] := own_empty w1 (w.heap.size + 1) (by omega)
  have hB1 := hb0.alloc (by omega) (.cells #[] 3)
  clear hc1 hf1 hb1 H hz1'
  go_loopw [4, 15] (fun v i wr => ∃ k : Nat, k ≤ ps.length ∧ i = .int .i64 k ∧ Hid (IOwn wr (w.heap.size + 1) v (brTo ps k)) ∧ Hid (v ≠ .slice none 0 0) ∧ Below (w.heap.size + 1) (w.alloc (.cells #[.int .i64 N, .slice A ps.length cap] 30)) wr) (fun _ i _ => ps.length - (intOf i).toNat)
  case atStart => exact ⟨0, Nat.zero_le _, rfl, Lib.hid (by have : brTo ps 0 = [] := rfl; rw [this]; exact hO1), Lib.hid (by simp), hB1⟩
  case round =>
    clear hO1 hB1
    obtain ⟨k, hk, rfl, hown, hvn, hb⟩ := hrel
    by_cases hlt : k < ps.length
    · obtain ⟨b, off, hA, hbl, h0, h1, h2, h3⟩ := HA.out.at_ hlt
      subst hA
      obtain ⟨b0, b1⟩ := box2 hb
      have hzl := box_lt hb
      have hbc : ∀ o, wr.cell? ⟨b, o, none⟩ = w.cell? ⟨b, o, none⟩ := fun o => (below_box hb).cell (p := ⟨b, o, none⟩) hbl
      have p0 := (hbc _).trans h0
      have p1 := (hbc _).trans h1
      have p2 := (hbc _).trans h2
      have p3 := (hbc _).trans h3
      have hmem : pAt ps k ∈ ps := by
        have e : pAt ps k = ps[k] := by simp [pAt, List.getD, hlt]
        rw [e]; exact List.getElem_mem hlt
      have hok := good_pp HG.out hmem
      have hby : brB ps k = decide (dist (wo ps k) (pAt ps k).fr (pAt ps k).to = -1) := rfl
      have HY := Lib.hid (brTo_yes ps k)
      have HNo := Lib.hid (brTo_no ps k)
      have hil := brTo_len ps k
      have hk0i : (0 : Int) ≤ (k : Int) := by omega
      have hk1i : (k : Int) < (ps.length : Int) := by omega
      unfold PpOk at hok
      clear hbc h0 h1 h2 h3 hmem
      generalize pAt ps k = p at *
      obtain ⟨pid, pfr, pto, psz⟩ := p
      simp only at hok p0 p1 p2 p3 hby
      obtain ⟨fr, rfl⟩ : ∃ f : Nat, pfr = f := ⟨pfr.toNat, by omega⟩
      obtain ⟨tt, rfl⟩ : ∃ f : Nat, pto = f := ⟨pto.toNat, by omega⟩
      have hf1 : 1 ≤ fr := by omega
      have hf2 : fr ≤ N := by omega
      have ht1 : 1 ≤ tt := by omega
      have ht2 : tt ≤ N := by omega
      have ht0 : (0 : Int) ≤ (tt : Int) := by omega
      have htN : (tt : Int) < (N : Int) + 1 := by omega
      obtain ⟨x, hx⟩ : ∃ x, dist (wo ps k) (fr : Int) (tt : Int) = x := ⟨_, rfl⟩
      rw [hx] at hby
      have HX := Lib.hid (show dA (distL N (wo ps k) fr) tt = x by rw [distL_at N _ fr tt (by omega) (by omega)]; exact hx)
      have HLL := Lib.hid (distL_len N (wo ps k) fr)
      have HBR := Lib.hid hby
      clear hok hx hby
      have hBw := Lib.hid (below_box hb)
      go_wp2
      have hpw : wr.heap.size ≠ w.heap.size := by omega
      refine wp_region_held_drew (S := fun w' => w'.cell? ⟨w.heap.size, 0, none⟩ = some (.int .i64 N) ∧ w'.cell? ⟨w.heap.size, 1, none⟩ = some (.slice (some ⟨b, off, none⟩) ps.length cap) ∧ w'.cell? ⟨wr.heap.size, 0, none⟩ = some (.int .i64 pid) ∧ w'.cell? ⟨wr.heap.size, 1, none⟩ = some (.int .i64 (fr : Int)) ∧ w'.cell? ⟨wr.heap.size, 2, none⟩ = some (.int .i64 (tt : Int))) (by kernel_rfl) (by go_keep) (fun hHeld => ?_)
      refine wpAnyH_take (i := 0) (v := .agg #[.int .i64 N, .slice (some ⟨b, off, none⟩) ps.length cap]) rfl (by kernel_rfl) (by kernel_rfl) (by kernel_rfl) (fun _ _ _ h => h) (Or.inl ⟨by rfl, ?_⟩) (by assumption) ?_
      · (intro w hSw; (try dsimp only at hSw); go_simp)
      simp only [Act.put, List.setIfInBounds_toArray]
      refine wpAnyH_take (i := 1) (v := .int .i64 (k : Int)) rfl (by kernel_rfl) (by kernel_rfl) (by kernel_rfl) (fun _ _ _ h => h) (Or.inl ⟨by rfl, ?_⟩) (by assumption) ?_
      · (intro w hSw; (try dsimp only at hSw); go_simp)
      simp only [Act.put]
      refine wpAnyH_take (i := 3) (v := .pointer (some ⟨wr.heap.size, 1, none⟩)) rfl (by kernel_rfl) (by kernel_rfl) (by kernel_rfl) (fun _ _ _ h => h) (Or.inl ⟨by rfl, ?_⟩) (by assumption) ?_
      · (intro w hSw; (try dsimp only at hSw); go_simp)
      simp only [Act.put]
      refine wpAnyH_take (i := 4) (v := .int .i64 (fr : Int)) rfl (by kernel_rfl) (by kernel_rfl) (by kernel_rfl) (fun _ _ _ h => h) (Or.inl ⟨by rfl, ?_⟩) (by assumption) ?_
      · (intro w hSw; (try dsimp only at hSw); go_simp)
      simp only [Act.put]
      refine wpAnyH_take (i := 6) (v := .pointer (some ⟨wr.heap.size, 2, none⟩)) rfl (by kernel_rfl) (by kernel_rfl) (by kernel_rfl) (fun _ _ _ h => h) (Or.inl ⟨by rfl, ?_⟩) (by assumption) ?_
      · (intro w hSw; (try dsimp only at hSw); go_simp)
      simp only [Act.put]
      refine wpAnyH_take (i := 7) (v := .int .i64 (tt : Int)) rfl (by kernel_rfl) (by kernel_rfl) (by kernel_rfl) (fun _ _ _ h => h) (Or.inl ⟨by rfl, ?_⟩) (by assumption) ?_
      · (intro w hSw; (try dsimp only at hSw); go_simp)
      simp only [Act.put]
      refine wpAnyH_ready (rs := [2]) (by kernel_rfl) (by simp) ?_
      refine AllReadyH.cons rfl (fun K hK => ?_) AllReadyH.nil
      go_simp
      go_at_call 133
      refine (HWO.out k hlt _ ((hBw.out.alloc hBw.out.size _).drew)).mono ?_
      rintro e w5 ⟨A2, c2, rfl, hp2, hbx⟩
      have hsx := hbx.size
      simp at hsx
      refine hK.out _ _ (by rcases hHeld with ⟨q0, q1, q2, q3, q4⟩; exact ⟨(hbx.cell (p := ⟨w.heap.size, 0, none⟩) (by simp; omega)).trans q0, (hbx.cell (p := ⟨w.heap.size, 1, none⟩) (by simp; omega)).trans q1, (hbx.cell (p := ⟨wr.heap.size, 0, none⟩) (by simp)).trans q2, (hbx.cell (p := ⟨wr.heap.size, 1, none⟩) (by simp)).trans q3, (hbx.cell (p := ⟨wr.heap.size, 2, none⟩) (by simp)).trans q4⟩) (fun hHeld => ?_)
      clear hK K
      refine wpAnyH_ready (rs := [5]) (by kernel_rfl) (by simp) ?_
      refine AllReadyH.cons rfl (fun K hK => ?_) AllReadyH.nil
      go_simp
      go_at_call 157
      refine (HDI.out k fr _ _ _ hp2 hf1 hf2).mono ?_
      rintro e w6 ⟨⟨gD, D, rfl, hgD, hdr, hDe⟩, hby⟩
      have cx := hdr.cell (v := tt) (by rw [hDe, HLL.out]; omega)
      rw [hDe, HX.out] at cx
      refine hK.out _ _ (by rcases hHeld with ⟨q0, q1, q2, q3, q4⟩; exact ⟨(hby.cell (p := ⟨w.heap.size, 0, none⟩) (by show w.heap.size < _; omega)).trans q0, (hby.cell (p := ⟨w.heap.size, 1, none⟩) (by show w.heap.size < _; omega)).trans q1, (hby.cell (p := ⟨wr.heap.size, 0, none⟩) (by show wr.heap.size < _; omega)).trans q2, (hby.cell (p := ⟨wr.heap.size, 1, none⟩) (by show wr.heap.size < _; omega)).trans q3, (hby.cell (p := ⟨wr.heap.size, 2, none⟩) (by show wr.heap.size < _; omega)).trans q4⟩) (fun hHeld => ?_)
      clear hK K
      refine wpAnyH_ready (rs := [8]) (by kernel_rfl) (by simp) ?_
      refine AllReadyH.cons rfl (fun K hK => ?_) AllReadyH.nil
      go_simp
      refine hK.out _ _ (by first | assumption | go_keep) (fun hHeld => ?_)
      clear hK K
      refine wpAnyH_ready (rs := [9]) (by kernel_rfl) (by simp) ?_
      refine AllReadyH.cons rfl (fun K hK => ?_) AllReadyH.nil
      go_simp
      refine hK.out _ _ (by first | assumption | go_keep) (fun hHeld => ?_)
      clear hK K
      refine wpAnyH_ready (rs := [10]) (by kernel_rfl) (by simp) ?_
      refine AllReadyH.cons rfl (fun K hK => ?_) AllReadyH.nil
      go_simp
      refine hK.out _ _ (by first | assumption | go_keep) (fun hHeld => ?_)
      clear hK K
      refine wpAnyH_done (by kernel_rfl) ?_ _
      obtain ⟨q0, q1, q2, q3, q4⟩ := hHeld
      have hsy := hby.size
      have ho := hown.out
      unfold IOwn at ho
      have ho4 : ((wr.alloc (.cells #[.int .i64 pid, .int .i64 (fr : Int), .int .i64 (tt : Int), .int .i64 psz] 75)).drew).ownsRow (w.heap.size + 1) 3 1 _ (brTo ps k).length ((brTo ps k).map iv) := ho.alloc (.cells #[.int .i64 pid, .int .i64 (fr : Int), .int .i64 (tt : Int), .int .i64 psz] 75)
      have ho6 := own_on (own_on ho4 hbx) hby
      have hB4 : Below (w.heap.size + 1) (w.alloc (.cells #[.int .i64 N, .slice (some ⟨b, off, none⟩) ps.length cap] 30)) ((wr.alloc (.cells #[.int .i64 pid, .int .i64 (fr : Int), .int .i64 (tt : Int), .int .i64 psz] 75)).drew) := (hb.alloc (by omega) (.cells #[.int .i64 pid, .int .i64 (fr : Int), .int .i64 (tt : Int), .int .i64 psz] 75)).drew
      have hB6 := (hB4.trans (hbx.mono (by simp; omega))).trans (hby.mono (by omega))
      clear ho ho4 hB4 hbx hby hp2 hdr cx hDe hgD
      by_cases hx1 : x = -1
      · have hE : (x == -1) = true := by simpa using hx1
        have hs := Lib.hid (HY.out (by rw [HBR.out]; exact decide_eq_true hx1))
        clear hx1
        go_wp2_with (at_builtin; go_must (refine wpList_append_own _ rfl _ _ 34 rfl (w.heap.size + 1) 3 i0 (.int .i64 0) 1 8 Try.underlying34 hi hz0 hz1 hz2 rfl (by decide) _ _ _ rfl (ho6.alloc _) ⟨w6.heap.size, 0, none⟩ 1 1 [iv pid] rfl rfl (cell_one_new _ _ _) (by intro u hu; simp at hu; subst hu; rfl) (by unfold maxLen; omega) (by omega) (by simp; omega) ?_))
        intro v' w7 hown' hgrow hnil
        have hown3 := Lib.hid (IOwn.push hown')
        rw [← hs.out] at hown3
        have hB7 := Lib.hid ((hB6.alloc (by omega) (.cells #[iv pid] 3)).grown hgrow (by simp; omega) (fun g hg => (ho6.lt g hg).1))
        have hnil3 := Lib.hid (show v' ≠ .slice none 0 0 from fun e => by simp [e] at hnil)
        clear hown' hgrow hnil ho6
        go_wp2
        go_roundw
        case rel => exact ⟨k + 1, by omega, by go_num, hown3, hnil3, hB7.out⟩
        case measure => simp [intOf]; omega
      · have hE : (x == -1) = false := by simpa using hx1
        have hs := Lib.hid (HNo.out (by rw [HBR.out]; exact decide_eq_false hx1))
        have hown3 := Lib.hid (show IOwn w6 (w.heap.size + 1) _ (brTo ps (k + 1)) by rw [hs.out]; exact ho6)
        clear hx1
        go_wp2
        go_roundw
        case rel => exact ⟨k + 1, by omega, by go_num, hown3, hvn, hB6⟩
        case measure => simp [intOf]; omega
    · have hkk : k = ps.length := by omega
      have hown2 := hown.out
      rw [hkk] at hown2
      obtain ⟨g, capg, rfl, hg⟩ := own_slice hown2 hvn.out
      clear hkk
      go_wp2
      go_ret2
      have hlow : IOwn wr w.heap.size (.slice (some ⟨g, 0, none⟩) (brTo ps ps.length).length capg) (brTo ps ps.length) := own_lower hown2
      exact ⟨g, capg, rfl, by omega, hlow, below_box hb⟩
end Go.Proofs.Ytgjogjmfpbinfaa.S2

namespace Go.Proofs.Ytgjogjmfpbinfaa.S2
open Go.RowKit P2
theorem has_br {N : Nat} {ps : List Pp} {i fr tt : Nat} (h1 : 1 ≤ tt) (h2 : tt ≤ N) : hasB (conL N (wo ps i) fr) tt = !(decide (dist (wo ps i) (fr : Int) (tt : Int) = -1)) := by
  rw [has_con h1 h2, ← decide_not]
  refine decide_eq_decide.2 ?_
  rw [dist_conn, ← Ne, dist_conn]
  exact ⟨conn_symm, conn_symm⟩

theorem sbr_no (n : Int) (A : Option Addr) (cap : Nat) (ps : List Pp) (w : World) (h : PAt w A ps) (hm : ps.length ≤ maxLen) (hv : goodB n ps = false) :
    Calls Try.prog 100 #[nv n A ps.length cap] w (GivesI w [] false) := by
  have H := Lib.hid (fun w' (hb : Below w.heap.size w w') => sgood_v hv A cap w' (h.kept hb (Nat.le_refl _)) hm)
  clear h hv
  go_enter Try.func100, Try.ntmps100
  go_wp2_with (go_at_call 112; refine (H.out _ (((Below.refl _ _).alloc (Nat.le_refl _) _).alloc (by simp) _)).mono ?_; rintro e w1 ⟨rfl, hb1⟩)
  go_ret2
  have hb0 : Below w.heap.size w (w.alloc (.cells #[.int .i64 n, .slice A ps.length cap] 30)) := (Below.refl _ _).alloc (Nat.le_refl _) _
  have ho : IOwn w1 w.heap.size (.slice (some ⟨w.heap.size + 1, 0, none⟩) 0 0) [] := by
    have := (own_empty (w.alloc (.cells #[.int .i64 n, .slice A ps.length cap] 30)) w.heap.size (by simp)).on hb1
    simpa using this
  exact ⟨_, _, rfl, by simp, ho, (hb0.alloc (by simp) _).trans (hb1.mono (by simp; omega))⟩

set_option maxHeartbeats 8000000 in
set_option maxRecDepth 100000 in
theorem sbr_yes (N : Nat) (A : Option Addr) (cap : Nat) (ps : List Pp) (w : World) (h : PAt w A ps) (hm : ps.length ≤ maxLen) (hv : goodB N ps = true) (hc : ps.length ≤ cap) :
    Calls Try.prog 100 #[nv N A ps.length cap] w (GivesI w (brTo ps ps.length) true) := by
  have hg := good_of hv
  have H := Lib.hid (fun w' (hb : Below w.heap.size w w') => sgood_v hv A cap w' (h.kept hb (Nat.le_refl _)) hm)
  have HA := Lib.hid h
  have HG := Lib.hid hg
  have hN : N ≤ 8 := by have := hg.2.1; omega
  have hl10 := hg.2.2.1
  have HWO := Lib.hid (fun (i : Nat) (hi : i < ps.length) w' (hb : Below w.heap.size w w') => sw_all N i cap A ps w' (h.kept hb (Nat.le_refl _)) hi hc hl10)
  have HDI := Lib.hid (fun (i t : Nat) A2 c2 w' (h2 : PAt w' A2 (wo ps i)) h3 h4 => sreach_any N t A2 c2 (wo ps i) w' h2 (good_sub hg (wo_sub ps i)) h3 h4)
  obtain ⟨i0, hi, hz0, hz1, hz2⟩ := info_parts infoI
  clear h hv hg hm hc
  go_enter Try.func100, Try.ntmps100
  go_wp2_with (go_at_call 112; refine (H.out _ (((Below.refl _ _).alloc (Nat.le_refl _) _).alloc (by simp) _)).mono ?_; rintro e w1 ⟨rfl, hb1⟩)
  have hb0 : Below (w.heap.size + 1) (w.alloc (.cells #[.int .i64 N, .slice A ps.length cap] 30)) w1 := (((Below.refl _ _).alloc (by simp) _)).trans (hb1.mono (by simp))
  have hO1 : IOwn w1 (w.heap.size + 1) (.slice (some ⟨w.heap.size + 1, 0, none⟩) 0 0) [] := by
    have := (own_empty (w.alloc (.cells #[.int .i64 N, .slice A ps.length cap] 30)) (w.heap.size + 1) (by simp)).on hb1
    simpa using this
  have hB1 := hb0
  clear hb1 H
  go_loopw [4, 5] (fun v i wr => ∃ k : Nat, k ≤ ps.length ∧ i = .int .i64 k ∧ Hid (IOwn wr (w.heap.size + 1) v (brTo ps k)) ∧ Hid (v ≠ .slice none 0 0) ∧ Below (w.heap.size + 1) (w.alloc (.cells #[.int .i64 N, .slice A ps.length cap] 30)) wr) (fun _ i _ => ps.length - (intOf i).toNat)
  case atStart => exact ⟨0, Nat.zero_le _, rfl, Lib.hid (by have : brTo ps 0 = [] := rfl; rw [this]; exact hO1), Lib.hid (by simp), hB1⟩
  case round =>
    clear hO1 hB1
    obtain ⟨k, hk, rfl, hown, hvn, hb⟩ := hrel
    by_cases hlt : k < ps.length
    · obtain ⟨b, off, hA, hbl, h0, h1, h2, h3⟩ := HA.out.at_ hlt
      subst hA
      obtain ⟨b0, b1⟩ := box2 hb
      have hzl := box_lt hb
      have hbc : ∀ o, wr.cell? ⟨b, o, none⟩ = w.cell? ⟨b, o, none⟩ := fun o => (below_box hb).cell (p := ⟨b, o, none⟩) hbl
      have p0 := (hbc _).trans h0
      have p1 := (hbc _).trans h1
      have p2 := (hbc _).trans h2
      have p3 := (hbc _).trans h3
      have hmem : pAt ps k ∈ ps := by
        have e : pAt ps k = ps[k] := by simp [pAt, List.getD, hlt]
        rw [e]; exact List.getElem_mem hlt
      have hok := good_pp HG.out hmem
      have hby : brB ps k = decide (dist (wo ps k) (pAt ps k).fr (pAt ps k).to = -1) := rfl
      have HY := Lib.hid (brTo_yes ps k)
      have HNo := Lib.hid (brTo_no ps k)
      have hil := brTo_len ps k
      have hk0i : (0 : Int) ≤ (k : Int) := by omega
      have hk1i : (k : Int) < (ps.length : Int) := by omega
      unfold PpOk at hok
      clear hbc h0 h1 h2 h3 hmem
      generalize pAt ps k = p at *
      obtain ⟨pid, pfr, pto, psz⟩ := p
      simp only at hok p0 p1 p2 p3 hby
      obtain ⟨fr, rfl⟩ : ∃ f : Nat, pfr = f := ⟨pfr.toNat, by omega⟩
      obtain ⟨tt, rfl⟩ : ∃ f : Nat, pto = f := ⟨pto.toNat, by omega⟩
      have hf1 : 1 ≤ fr := by omega
      have hf2 : fr ≤ N := by omega
      have ht1 : 1 ≤ tt := by omega
      have ht2 : tt ≤ N := by omega
      have ht0 : (0 : Int) ≤ (tt : Int) := by omega
      have htN : (tt : Int) < (N : Int) + 1 := by omega
      have hcl := conL_len N (wo ps k) fr
      have hhb := has_br (ps := ps) (i := k) (fr := fr) ht1 ht2
      rw [← hby] at hhb
      obtain ⟨vb, hvb⟩ : ∃ vb, brB ps k = vb := ⟨_, rfl⟩
      rw [hvb] at hhb
      have HH := Lib.hid hhb
      have HBR := Lib.hid hvb
      clear hok hby hhb hvb
      have hBw := Lib.hid (below_box hb)
      have hbw : b < wr.heap.size := by have := (below_box hb).size; omega
      go_wp2
      have hpw : wr.heap.size ≠ w.heap.size := by omega
      refine wp_region_held_drew (S := fun w' => w'.cell? ⟨w.heap.size, 0, none⟩ = some (.int .i64 N) ∧ w'.cell? ⟨w.heap.size, 1, none⟩ = some (.slice (some ⟨b, off, none⟩) ps.length cap) ∧ w'.cell? ⟨b, off + k * 4, none⟩ = some (.int .i64 pid) ∧ w'.cell? ⟨b, off + k * 4 + 1, none⟩ = some (.int .i64 (fr : Int)) ∧ w'.cell? ⟨b, off + k * 4 + 2, none⟩ = some (.int .i64 (tt : Int))) (by kernel_rfl) (by go_keep) (fun hHeld => ?_)
      refine wpAnyH_take (i := 0) (v := .agg #[.int .i64 N, .slice (some ⟨b, off, none⟩) ps.length cap]) rfl (by kernel_rfl) (by kernel_rfl) (by kernel_rfl) (fun _ _ _ h => h) (Or.inl ⟨by rfl, ?_⟩) (by assumption) ?_
      · (intro w hSw; (try dsimp only at hSw); go_simp)
      simp only [Act.put, List.setIfInBounds_toArray]
      refine wpAnyH_take (i := 1) (v := .int .i64 (k : Int)) rfl (by kernel_rfl) (by kernel_rfl) (by kernel_rfl) (fun _ _ _ h => h) (Or.inl ⟨by rfl, ?_⟩) (by assumption) ?_
      · (intro w hSw; (try dsimp only at hSw); go_simp)
      simp only [Act.put]
      refine wpAnyH_take (i := 3) (v := .pointer (some ⟨w.heap.size, 1, none⟩)) rfl (by kernel_rfl) (by kernel_rfl) (by kernel_rfl) (fun _ _ _ h => h) (Or.inl ⟨by rfl, ?_⟩) (by assumption) ?_
      · (intro w hSw; (try dsimp only at hSw); go_simp)
      simp only [Act.put]
      refine wpAnyH_take (i := 4) (v := .slice (some ⟨b, off, none⟩) ps.length cap) rfl (by kernel_rfl) (by kernel_rfl) (by kernel_rfl) (fun _ _ _ h => h) (Or.inl ⟨by rfl, ?_⟩) (by assumption) ?_
      · (intro w hSw; (try dsimp only at hSw); go_simp)
      simp only [Act.put]
      refine wpAnyH_take (i := 5) (v := .int .i64 (k : Int)) rfl (by kernel_rfl) (by kernel_rfl) (by kernel_rfl) (fun _ _ _ h => h) (Or.inl ⟨by rfl, ?_⟩) (by assumption) ?_
      · (intro w hSw; (try dsimp only at hSw); go_simp)
      simp only [Act.put]
      refine wpAnyH_take (i := 6) (v := .pointer (some ⟨b, off + k * 4, none⟩)) rfl (by kernel_rfl) (by kernel_rfl) (by kernel_rfl) (fun _ _ _ h => h) (Or.inl ⟨by rfl, ?_⟩) (by assumption) ?_
      · (intro w hSw; (try dsimp only at hSw); go_simp)
      simp only [Act.put]
      refine wpAnyH_take (i := 7) (v := .pointer (some ⟨b, off + k * 4 + 1, none⟩)) rfl (by kernel_rfl) (by kernel_rfl) (by kernel_rfl) (fun _ _ _ h => h) (Or.inl ⟨by rfl, ?_⟩) (by assumption) ?_
      · (intro w hSw; (try dsimp only at hSw); go_simp)
      simp only [Act.put]
      refine wpAnyH_take (i := 8) (v := .int .i64 (fr : Int)) rfl (by kernel_rfl) (by kernel_rfl) (by kernel_rfl) (fun _ _ _ h => h) (Or.inl ⟨by rfl, ?_⟩) (by assumption) ?_
      · (intro w hSw; (try dsimp only at hSw); go_simp)
      simp only [Act.put]
      refine wpAnyH_take (i := 10) (v := .pointer (some ⟨w.heap.size, 1, none⟩)) rfl (by kernel_rfl) (by kernel_rfl) (by kernel_rfl) (fun _ _ _ h => h) (Or.inl ⟨by rfl, ?_⟩) (by assumption) ?_
      · (intro w hSw; (try dsimp only at hSw); go_simp)
      simp only [Act.put]
      refine wpAnyH_take (i := 11) (v := .slice (some ⟨b, off, none⟩) ps.length cap) rfl (by kernel_rfl) (by kernel_rfl) (by kernel_rfl) (fun _ _ _ h => h) (Or.inl ⟨by rfl, ?_⟩) (by assumption) ?_
      · (intro w hSw; (try dsimp only at hSw); go_simp)
      simp only [Act.put]
      refine wpAnyH_take (i := 12) (v := .int .i64 (k : Int)) rfl (by kernel_rfl) (by kernel_rfl) (by kernel_rfl) (fun _ _ _ h => h) (Or.inl ⟨by rfl, ?_⟩) (by assumption) ?_
      · (intro w hSw; (try dsimp only at hSw); go_simp)
      simp only [Act.put]
      refine wpAnyH_take (i := 13) (v := .pointer (some ⟨b, off + k * 4, none⟩)) rfl (by kernel_rfl) (by kernel_rfl) (by kernel_rfl) (fun _ _ _ h => h) (Or.inl ⟨by rfl, ?_⟩) (by assumption) ?_
      · (intro w hSw; (try dsimp only at hSw); go_simp)
      simp only [Act.put]
      refine wpAnyH_take (i := 14) (v := .pointer (some ⟨b, off + k * 4 + 2, none⟩)) rfl (by kernel_rfl) (by kernel_rfl) (by kernel_rfl) (fun _ _ _ h => h) (Or.inl ⟨by rfl, ?_⟩) (by assumption) ?_
      · (intro w hSw; (try dsimp only at hSw); go_simp)
      simp only [Act.put]
      refine wpAnyH_take (i := 15) (v := .int .i64 (tt : Int)) rfl (by kernel_rfl) (by kernel_rfl) (by kernel_rfl) (fun _ _ _ h => h) (Or.inl ⟨by rfl, ?_⟩) (by assumption) ?_
      · (intro w hSw; (try dsimp only at hSw); go_simp)
      simp only [Act.put]
      refine wpAnyH_ready (rs := [2]) (by kernel_rfl) (by simp) ?_
      refine AllReadyH.cons rfl (fun K hK => ?_) AllReadyH.nil
      go_simp
      go_at_call 130
      refine (HWO.out k hlt _ (hBw.out.drew)).mono ?_
      rintro e w5 ⟨A2, c2, rfl, hp2, hbx⟩
      have hsx := hbx.size
      simp at hsx
      refine hK.out _ _ (by rcases hHeld with ⟨q0, q1, q2, q3, q4⟩; exact ⟨(hbx.cell (p := ⟨w.heap.size, 0, none⟩) (by show w.heap.size < wr.heap.size; omega)).trans q0, (hbx.cell (p := ⟨w.heap.size, 1, none⟩) (by show w.heap.size < wr.heap.size; omega)).trans q1, (hbx.cell (p := ⟨b, off + k * 4, none⟩) (by show b < wr.heap.size; omega)).trans q2, (hbx.cell (p := ⟨b, off + k * 4 + 1, none⟩) (by show b < wr.heap.size; omega)).trans q3, (hbx.cell (p := ⟨b, off + k * 4 + 2, none⟩) (by show b < wr.heap.size; omega)).trans q4⟩) (fun hHeld => ?_)
      clear hK K
      refine wpAnyH_ready (rs := [9]) (by kernel_rfl) (by simp) ?_
      refine AllReadyH.cons rfl (fun K hK => ?_) AllReadyH.nil
      go_simp
      go_at_call 177
      refine (HDI.out k fr _ _ _ hp2 hf1 hf2).mono ?_
      rintro e w6 ⟨gR, oR, cR, rfl, hgR, hla, hby⟩
      refine hK.out _ _ (by rcases hHeld with ⟨q0, q1, q2, q3, q4⟩; exact ⟨(hby.cell (p := ⟨w.heap.size, 0, none⟩) (by show w.heap.size < _; omega)).trans q0, (hby.cell (p := ⟨w.heap.size, 1, none⟩) (by show w.heap.size < _; omega)).trans q1, (hby.cell (p := ⟨b, off + k * 4, none⟩) (by show b < _; omega)).trans q2, (hby.cell (p := ⟨b, off + k * 4 + 1, none⟩) (by show b < _; omega)).trans q3, (hby.cell (p := ⟨b, off + k * 4 + 2, none⟩) (by show b < _; omega)).trans q4⟩) (fun hHeld => ?_)
      clear hK K
      refine wpAnyH_ready (rs := [16]) (by kernel_rfl) (by simp) ?_
      refine AllReadyH.cons rfl (fun K hK => ?_) AllReadyH.nil
      go_simp
      go_at_call 176
      refine (has_v HH.out _ _ _ hla.iat (by omega)).mono ?_
      rintro e w7 ⟨rfl, hw7⟩
      replace hw7 := hw7.symm
      subst hw7
      refine hK.out _ _ (by first | assumption | exact hHeld) (fun hHeld => ?_)
      clear hK K
      refine wpAnyH_ready (rs := [17]) (by kernel_rfl) (by simp) ?_
      refine AllReadyH.cons rfl (fun K hK => ?_) AllReadyH.nil
      go_simp
      refine hK.out _ _ (by first | assumption | go_keep) (fun hHeld => ?_)
      clear hK K
      refine wpAnyH_done (by kernel_rfl) ?_ _
      obtain ⟨q0, q1, q2, q3, q4⟩ := hHeld
      have hsy := hby.size
      have ho := hown.out
      unfold IOwn at ho
      have ho4 : wr.drew.ownsRow (w.heap.size + 1) 3 1 _ (brTo ps k).length ((brTo ps k).map iv) := ho
      have ho6 := own_on (own_on ho4 hbx) hby
      have hB6 := (hb.drew.trans (hbx.mono (by show w.heap.size + 1 ≤ wr.heap.size; omega))).trans (hby.mono (by omega))
      have hbw6 : b < w6.heap.size := by omega
      have hzw6 : w.heap.size < w6.heap.size := by omega
      clear ho ho4 hbx hby hp2 hla hgR
      cases vb with
      | true =>
        have hs := Lib.hid (HY.out HBR.out)
        go_wp2_with (at_builtin; go_must (refine wpList_append_own _ rfl _ _ 34 rfl (w.heap.size + 1) 3 i0 (.int .i64 0) 1 8 Try.underlying34 hi hz0 hz1 hz2 rfl (by decide) _ _ _ rfl (ho6.alloc _) ⟨w6.heap.size, 0, none⟩ 1 1 [iv pid] rfl rfl (cell_one_new _ _ _) (by intro u hu; simp at hu; subst hu; rfl) (by unfold maxLen; omega) (by omega) (by simp; omega) ?_))
        intro v' w7 hown' hgrow hnil
        have hown3 := Lib.hid (IOwn.push hown')
        rw [← hs.out] at hown3
        have hB7 := Lib.hid ((hB6.alloc (by omega) (.cells #[iv pid] 3)).grown hgrow (by simp; omega) (fun g hg => (ho6.lt g hg).1))
        have hnil3 := Lib.hid (show v' ≠ .slice none 0 0 from fun e => by simp [e] at hnil)
        clear hown' hgrow hnil ho6
        go_wp2
        go_roundw
        case rel => exact ⟨k + 1, by omega, by go_num, hown3, hnil3, hB7.out⟩
        case measure => simp [intOf]; omega
      | false =>
        have hs := Lib.hid (HNo.out HBR.out)
        have hown3 := Lib.hid (show IOwn w6 (w.heap.size + 1) _ (brTo ps (k + 1)) by rw [hs.out]; exact ho6)
        go_wp2
        go_roundw
        case rel => exact ⟨k + 1, by omega, by go_num, hown3, hvn, hB6⟩
        case measure => simp [intOf]; omega
    · have hkk : k = ps.length := by omega
      have hown2 := hown.out
      rw [hkk] at hown2
      obtain ⟨g, capg, rfl, hg⟩ := own_slice hown2 hvn.out
      clear hkk
      obtain ⟨b0, b1⟩ := box2 hb
      go_wp2
      go_ret2
      have hlow : IOwn wr w.heap.size (.slice (some ⟨g, 0, none⟩) (brTo ps ps.length).length capg) (brTo ps ps.length) := own_lower hown2
      exact ⟨g, capg, rfl, by omega, hlow, below_box hb⟩
end Go.Proofs.Ytgjogjmfpbinfaa.S2
