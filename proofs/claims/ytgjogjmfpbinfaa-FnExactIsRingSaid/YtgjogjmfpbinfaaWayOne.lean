/- Plain facts on the shortest way and on levels of a search, no program in them. No conditions. -/
import Derived.Test.YtgjogjmfpbinfaaReachOne
namespace Go.Proofs.Ytgjogjmfpbinfaa.S2
open Go.RowKit P2

/-- One pipe changes the distance by one at most. -/
theorem dist_step {ps : List Pp} {t a b : Int} (ha : Adj ps a b) (hd : dist ps t b ≠ -1) : dist ps t a ≠ -1 ∧ dist ps t a ≤ dist ps t b + 1 := by
  rcases dist_is ps t b with ⟨h1, _⟩ | ⟨k, h1, h2, _⟩
  · exact absurd h1 hd
  · have hp : Path ps (k + 1) a t := ⟨b, ha, h2⟩
    refine ⟨dist_conn.2 ⟨_, hp⟩, ?_⟩
    rcases dist_is ps t a with ⟨g1, _⟩ | ⟨j, g1, _, g3⟩
    · omega
    · have := g3 _ hp; omega
theorem dist_pre {ps : List Pp} {t v : Int} {k : Nat} (h : dist ps t v = (k + 1 : Nat)) : ∃ c, Adj ps v c ∧ dist ps t c = k := by
  rcases dist_is ps t v with ⟨h1, _⟩ | ⟨m, h1, h2, h3⟩
  · omega
  · have e : m = k + 1 := by omega
    subst e
    obtain ⟨c, ha, hp⟩ := h2
    refine ⟨c, ha, isD_one (dist_is ps t c) (.inr ⟨k, rfl, hp, fun j hj => ?_⟩)⟩
    have := h3 (j + 1) ⟨c, ha, hj⟩
    omega
theorem dist_lo (ps : List Pp) (t v : Int) : -1 ≤ dist ps t v := by
  rcases dist_is ps t v with ⟨h1, _⟩ | ⟨m, h1, _, _⟩ <;> omega
theorem dist_zero {ps : List Pp} {t v : Int} (h : dist ps t v = 0) : v = t := by
  rcases dist_is ps t v with ⟨h1, _⟩ | ⟨m, h1, h2, _⟩
  · omega
  · have e : m = 0 := by omega
    subst e
    exact h2
theorem adj_in {n : Nat} {ps : List Pp} (hg : P2.Good n ps) {a b : Int} (h : Adj ps a b) : (1 ≤ a ∧ a ≤ n) ∧ 1 ≤ b ∧ b ≤ n := by
  obtain ⟨p, hp, hj⟩ := h
  have hok := good_pp hg hp
  unfold PpOk at hok
  rcases hj with ⟨h1, h2⟩ | ⟨h1, h2⟩ <;> omega

theorem countP_two (l : List Nat) (r p q : Nat → Bool) (h : ∀ x, r x = (p x || q x)) (hd : ∀ x, ¬ (p x = true ∧ q x = true)) : l.countP r = l.countP p + l.countP q := by
  induction l with
  | nil => rfl
  | cons x l ih =>
    rw [List.countP_cons, List.countP_cons, List.countP_cons, ih, h x]
    have := hd x
    cases hp : p x <;> cases hq : q x <;> simp_all <;> omega
/-- No distance is greater than the number of nodes. -/
theorem dist_le {n : Nat} {ps : List Pp} (hg : P2.Good n ps) {t : Int} (v : Nat) (hv : v ≤ n) : dist ps t v ≤ n := by
  have lev : ∀ (k : Nat) (v : Nat), v ≤ n → dist ps t v = k → k + 1 ≤ (List.range (n + 1)).countP (fun u => decide (0 ≤ dist ps t (u : Nat) ∧ dist ps t (u : Nat) < (k : Int) + 1)) := by
    intro k
    induction k with
    | zero =>
      intro v hv h
      exact List.countP_pos_iff.2 ⟨v, List.mem_range.2 (by omega), by simp; omega⟩
    | succ k ih =>
      intro v hv h
      obtain ⟨c, ha, hc⟩ := dist_pre h
      have hci := (adj_in hg ha).2
      obtain ⟨m, rfl⟩ : ∃ m : Nat, c = m := ⟨c.toNat, by omega⟩
      have h1 := ih m (by omega) hc
      have h2 := countP_two (List.range (n + 1)) (fun u => decide (0 ≤ dist ps t (u : Nat) ∧ dist ps t (u : Nat) < ((k + 1 : Nat) : Int) + 1)) (fun u => decide (0 ≤ dist ps t (u : Nat) ∧ dist ps t (u : Nat) < (k : Int) + 1)) (fun u => decide (dist ps t (u : Nat) = (k : Int) + 1)) (fun x => by
        rw [← Bool.decide_or]
        refine decide_eq_decide.2 ?_
        have := dist_lo ps t (x : Nat)
        omega) (fun x hx => by
          obtain ⟨a, b⟩ := hx
          have a := of_decide_eq_true a
          have b := of_decide_eq_true b
          omega)
      have h3 : 0 < (List.range (n + 1)).countP (fun u => decide (dist ps t (u : Nat) = (k : Int) + 1)) :=
        List.countP_pos_iff.2 ⟨v, List.mem_range.2 (by omega), by simp; omega⟩
      omega
  rcases dist_is ps t v with ⟨h1, _⟩ | ⟨k, h1, _, _⟩
  · omega
  · have h2 := lev k v hv h1
    have h3 : (List.range (n + 1)).countP (fun u => decide (0 ≤ dist ps t (u : Nat) ∧ dist ps t (u : Nat) < (k : Int) + 1)) ≤ n + 1 := by
      have := List.countP_le_length (p := fun u : Nat => decide (0 ≤ dist ps t (u : Nat) ∧ dist ps t (u : Nat) < (k : Int) + 1)) (l := List.range (n + 1))
      simpa using this
    omega

/-! ### The way -/
noncomputable def nearB (ps : List Pp) (t h : Int) (p : Pp) : Bool := decide (dist ps t (oth p h) < dist ps t h)
noncomputable def wayL (ps : List Pp) (t : Int) : Nat → Nat → List Int
  | 0, _ => []
  | k + 1, h => match (rowOf ps h).find? (nearB ps t h) with
    | none => []
    | some p => p.id :: wayL ps t k (oth p h).toNat
theorem wayL_len (ps : List Pp) (t : Int) : ∀ (k h : Nat), (wayL ps t k h).length ≤ k
  | 0, _ => Nat.le_refl _
  | k + 1, h => by
    unfold wayL
    split
    · simp
    · simp only [List.length_cons]; have := wayL_len ps t k (oth (by assumption) h).toNat; omega
theorem find_at {α : Type} [Inhabited α] (q : α → Bool) : ∀ (l : List α) (j : Nat) (d : α), j < l.length → (∀ i, i < j → q (l.getD i d) = false) → q (l.getD j d) = true → l.find? q = some (l.getD j d)
  | [], j, d, h, _, _ => by simp at h
  | x :: l, 0, d, _, _, h2 => by
    have e : (x :: l).getD 0 d = x := rfl
    rw [e] at h2 ⊢
    simp [h2]
  | x :: l, j + 1, d, h, h1, h2 => by
    have h0 : q x = false := h1 0 (by omega)
    have e : (x :: l).getD (j + 1) d = l.getD j d := by simp [List.getD]
    rw [e] at h2 ⊢
    rw [List.find?_cons, h0]
    exact find_at q l j d (by simpa using h) (fun i hi => by
      have := h1 (i + 1) (by omega)
      have e2 : (x :: l).getD (i + 1) d = l.getD i d := by simp [List.getD]
      rwa [e2] at this) h2
instance : Inhabited Pp := ⟨⟨0, 0, 0, 0⟩⟩
theorem way_row {ps : List Pp} {t : Int} {h k j : Nat} {u : Nat} (hj : j < (rowOf ps h).length) (h1 : ∀ i, i < j → nearB ps t h (pAt (rowOf ps h) i) = false) (h2 : nearB ps t h (pAt (rowOf ps h) j) = true) (hu : oth (pAt (rowOf ps h) j) h = u) :
    wayL ps t (k + 1) h = (pAt (rowOf ps h) j).id :: wayL ps t k u := by
  have e := find_at (nearB ps t h) (rowOf ps h) j ⟨0, 0, 0, 0⟩ hj h1 h2
  have e2 : (rowOf ps h).getD j ⟨0, 0, 0, 0⟩ = pAt (rowOf ps h) j := rfl
  rw [e2] at e
  have e3 : wayL ps t (k + 1) h = match (rowOf ps h).find? (nearB ps t h) with
    | none => []
    | some p => p.id :: wayL ps t k (oth p h).toNat := rfl
  rw [e3, e]
  show _ :: wayL ps t k (oth (pAt (rowOf ps h) j) h).toNat = _
  rw [hu]
  rfl
theorem way_all {ps : List Pp} {t : Int} {h k j : Nat} {u : Nat} (hj : j < ps.length) (h1 : ∀ i, i < j → (touchB h (pAt ps i) && nearB ps t h (pAt ps i)) = false) (h2 : (touchB h (pAt ps j) && nearB ps t h (pAt ps j)) = true) (hu : oth (pAt ps j) h = u) :
    wayL ps t (k + 1) h = (pAt ps j).id :: wayL ps t k u := by
  have e := find_at (fun p => touchB h p && nearB ps t h p) ps j ⟨0, 0, 0, 0⟩ hj h1 h2
  have e2 : ps.getD j ⟨0, 0, 0, 0⟩ = pAt ps j := rfl
  rw [e2] at e
  have e4 : (rowOf ps h).find? (nearB ps t h) = ps.find? (fun p => touchB h p && nearB ps t h p) := by
    unfold rowOf
    rw [List.find?_filter]
    congr 1
    funext a
    simp [Bool.decide_and]
  have e3 : wayL ps t (k + 1) h = match (rowOf ps h).find? (nearB ps t h) with
    | none => []
    | some p => p.id :: wayL ps t k (oth p h).toNat := rfl
  rw [e3, e4, e]
  show _ :: wayL ps t k (oth (pAt ps j) h).toNat = _
  rw [hu]
  rfl
theorem near_iff {ps : List Pp} {t : Int} {h k : Nat} {p : Pp} (hd : dist ps t h = (k + 1 : Nat)) (hp : p ∈ ps) (ht : p.fr = (h : Int) ∨ p.to = (h : Int)) : nearB ps t h p = true ↔ dist ps t (oth p h) = k := by
  have ha : Adj ps h (oth p h) := ⟨p, hp, oth_jn ht⟩
  have h1 := dist_step (t := t) ha.symm (by omega)
  have h2 := dist_step (t := t) ha h1.1
  unfold nearB
  rw [decide_eq_true_iff]
  have := dist_lo ps t (oth p h)
  omega
theorem near_ex {n : Nat} {ps : List Pp} (hg : P2.Good n ps) {t : Int} {h k : Nat} (hd : dist ps t h = (k + 1 : Nat)) : ∃ p, p ∈ ps ∧ (p.fr = (h : Int) ∨ p.to = (h : Int)) ∧ nearB ps t h p = true := by
  obtain ⟨c, ha, hc⟩ := dist_pre hd
  obtain ⟨p, hp, hj⟩ := ha
  obtain ⟨ho, ht⟩ := jn_oth (good_pp hg hp) hj
  exact ⟨p, hp, ht, (near_iff hd hp ht).2 (by rw [ho]; exact hc)⟩
theorem near_row {n : Nat} {ps : List Pp} (hg : P2.Good n ps) {t : Int} {h k : Nat} (hd : dist ps t h = (k + 1 : Nat)) : ¬ ∀ i, i < (rowOf ps h).length → nearB ps t h (pAt (rowOf ps h) i) = false := by
  intro hn
  obtain ⟨p, hp, ht, hnr⟩ := near_ex hg hd
  have hm : p ∈ rowOf ps h := List.mem_filter.2 ⟨hp, by simpa [touchB] using ht⟩
  obtain ⟨i, hi⟩ := List.getElem?_of_mem hm
  have hlt : i < (rowOf ps h).length := (List.getElem?_eq_some_iff.1 hi).1
  have e : pAt (rowOf ps h) i = p := by simp [pAt, List.getD, hi]
  have := hn i hlt
  rw [e, hnr] at this
  cases this
theorem near_all {n : Nat} {ps : List Pp} (hg : P2.Good n ps) {t : Int} {h k : Nat} (hd : dist ps t h = (k + 1 : Nat)) : ¬ ∀ i, i < ps.length → (touchB h (pAt ps i) && nearB ps t h (pAt ps i)) = false := by
  intro hn
  obtain ⟨p, hp, ht, hnr⟩ := near_ex hg hd
  obtain ⟨i, hi⟩ := List.getElem?_of_mem hp
  have hlt : i < ps.length := (List.getElem?_eq_some_iff.1 hi).1
  have e : pAt ps i = p := by simp [pAt, List.getD, hi]
  have := hn i hlt
  rw [e, hnr, show touchB h p = true by simpa [touchB] using ht] at this
  cases this

/-! ### Levels -/
/-- In step s of the search by levels: what is told is right; all up to s is told. -/
structure Lv (n : Nat) (ps : List Pp) (t : Int) (s : Nat) (D : List Int) : Prop where
  len : D.length = n + 1
  zero : dA D 0 = -1
  told : ∀ v : Nat, 1 ≤ v → v ≤ n → 0 ≤ dist ps t v → dist ps t v ≤ s → dA D v = dist ps t v
  rest : ∀ v : Nat, 1 ≤ v → v ≤ n → (dist ps t v = -1 ∨ (s : Int) < dist ps t v) → dA D v = -1 ∨ (dA D v = (s : Int) + 1 ∧ dist ps t v = (s : Int) + 1)
def step1 (D : List Int) (a b s : Nat) : List Int := if dA D a = s ∧ dA D b < 0 then D.set b ((s : Int) + 1) else D
theorem step1_yes {D : List Int} {a b s : Nat} (h : dA D a = s ∧ dA D b < 0) : step1 D a b s = D.set b ((s : Int) + 1) := by unfold step1; rw [if_pos h]
theorem step1_no {D : List Int} {a b s : Nat} (h : ¬ (dA D a = s ∧ dA D b < 0)) : step1 D a b s = D := by unfold step1; rw [if_neg h]
theorem step1_len (D : List Int) (a b s : Nat) : (step1 D a b s).length = D.length := by unfold step1; split <;> simp
theorem Lv.step {n : Nat} {ps : List Pp} {t : Int} {s : Nat} {D : List Int} (l : Lv n ps t s D) {a b : Nat} (ha : Adj ps a b) (ha1 : 1 ≤ a) (han : a ≤ n) (hb1 : 1 ≤ b) (hbn : b ≤ n) :
    Lv n ps t s (step1 D a b s) ∧ (∀ v, dA D v ≠ -1 → dA (step1 D a b s) v = dA D v) ∧ (dist ps t a = s → dist ps t b = (s : Int) + 1 → dA (step1 D a b s) b = (s : Int) + 1) := by
  have hbl : b < D.length := by have := l.len; omega
  have lb := dist_lo ps t b
  have la := dist_lo ps t a
  have rb := l.rest b hb1 hbn
  have ra := l.rest a ha1 han
  have tb := l.told b hb1 hbn
  have ta := l.told a ha1 han
  unfold step1
  by_cases hc : dA D a = s ∧ dA D b < 0
  · rw [if_pos hc]
    have hda : dist ps t a = s := by
      by_cases h1 : 0 ≤ dist ps t a ∧ dist ps t a ≤ s
      · have := ta h1.1 h1.2; omega
      · have := ra (by omega); omega
    have hst := dist_step (t := t) ha.symm (by omega)
    have hdb : dist ps t b = (s : Int) + 1 ∧ dA D b = -1 := by
      by_cases h1 : 0 ≤ dist ps t b ∧ dist ps t b ≤ s
      · have := tb h1.1 h1.2; omega
      · have := rb (by omega); omega
    refine ⟨⟨by simpa using l.len, by rw [dA_set_ne _ _ _ _ (by omega)]; exact l.zero, fun v hv1 hvn h0 hs => ?_, fun v hv1 hvn hv => ?_⟩, fun v hv => ?_, fun _ _ => dA_set_same _ _ _ hbl⟩
    · have : v ≠ b := by intro e; subst e; omega
      rw [dA_set_ne _ _ _ _ this]; exact l.told v hv1 hvn h0 hs
    · by_cases e : v = b
      · subst e; rw [dA_set_same _ _ _ hbl]; exact .inr ⟨rfl, hdb.1⟩
      · rw [dA_set_ne _ _ _ _ e]; exact l.rest v hv1 hvn hv
    · have : v ≠ b := by intro e; subst e; exact hv hdb.2
      rw [dA_set_ne _ _ _ _ this]
  · rw [if_neg hc]
    refine ⟨l, fun _ _ => rfl, fun h1 h2 => ?_⟩
    have := ta (by omega) (by omega)
    have := rb (by omega)
    omega
/-- Within a step: the first k pipes have been seen. -/
structure Lk (n : Nat) (ps : List Pp) (t : Int) (s k : Nat) (D : List Int) : Prop where
  lv : Lv n ps t s D
  seen : ∀ i, i < k → i < ps.length → ∀ a b : Nat, Jn (pAt ps i) a b → dist ps t a = s → dist ps t b = (s : Int) + 1 → dA D b = (s : Int) + 1
theorem Lk.start {n : Nat} {ps : List Pp} {t : Int} {s : Nat} {D : List Int} (l : Lv n ps t s D) : Lk n ps t s 0 D := ⟨l, fun i hi => absurd hi (by omega)⟩
theorem Lk.step {n : Nat} {ps : List Pp} {t : Int} {s k : Nat} {D : List Int} (l : Lk n ps t s k D) (hg : P2.Good n ps) (hk : k < ps.length) {a b : Nat} (ha : (pAt ps k).fr = a) (hb : (pAt ps k).to = b) :
    Lk n ps t s (k + 1) (step1 (step1 D a b s) b a s) := by
  have hm : pAt ps k ∈ ps := by
    have e : pAt ps k = ps[k] := by simp [pAt, List.getD, hk]
    rw [e]; exact List.getElem_mem hk
  have hadj : Adj ps a b := ⟨_, hm, .inl ⟨ha, hb⟩⟩
  have hin := adj_in hg hadj
  obtain ⟨l1, m1, p1⟩ := l.lv.step hadj (by omega) (by omega) (by omega) (by omega)
  obtain ⟨l2, m2, p2⟩ := l1.step hadj.symm (by omega) (by omega) (by omega) (by omega)
  refine ⟨l2, fun i hi hr x y hj hx hy => ?_⟩
  by_cases e : i = k
  · subst e
    rcases hj with ⟨h1, h2⟩ | ⟨h1, h2⟩
    · have e1 : a = x := by omega
      have e2 : b = y := by omega
      subst e1; subst e2
      have := p1 hx hy
      rw [m2 _ (by rw [this]; omega)]; exact this
    · have e1 : b = x := by omega
      have e2 : a = y := by omega
      subst e1; subst e2
      exact p2 hx hy
  · have h0 := l.seen i (by omega) hr x y hj hx hy
    have h3 := m1 y (by rw [h0]; omega)
    rw [m2 y (by rw [h3, h0]; omega), h3]
    exact h0
theorem Lk.finish {n : Nat} {ps : List Pp} {t : Int} {s k : Nat} {D : List Int} (l : Lk n ps t s k D) (hg : P2.Good n ps) (hk : ps.length ≤ k) : Lv n ps t (s + 1) D := by
  refine ⟨l.lv.len, l.lv.zero, fun v hv1 hvn h0 hs => ?_, fun v hv1 hvn hv => ?_⟩
  · by_cases h : dist ps t v ≤ s
    · exact l.lv.told v hv1 hvn h0 h
    · have e : dist ps t v = (s + 1 : Nat) := by omega
      obtain ⟨c, ha, hc⟩ := dist_pre e
      have hci := (adj_in hg ha).2
      obtain ⟨m, rfl⟩ : ∃ m : Nat, c = m := ⟨c.toNat, by omega⟩
      obtain ⟨p, hp, hj⟩ := ha
      obtain ⟨i, hi⟩ := List.getElem?_of_mem hp
      have hlt : i < ps.length := (List.getElem?_eq_some_iff.1 hi).1
      have e2 : pAt ps i = p := by simp [pAt, List.getD, hi]
      rw [l.seen i (by omega) hlt m v (by rw [e2]; exact hj.symm) hc (by omega)]
      omega
  · have := l.lv.rest v hv1 hvn (by omega)
    omega
theorem Lv.start (n : Nat) (ps : List Pp) (t : Nat) (h1 : 1 ≤ t) (h2 : t ≤ n) : Lv n ps t 0 ((List.replicate (n + 1) (-1)).set t 0) := by
  have hl : t < (List.replicate (n + 1) (-1 : Int)).length := by simp; omega
  have hr : ∀ v, v ≤ n → dA (List.replicate (n + 1) (-1 : Int)) v = -1 := by
    intro v hv
    have : v < n + 1 := by omega
    simp [dA, List.getD, this]
  refine ⟨by simp, by rw [dA_set_ne _ _ _ _ (by omega)]; exact hr 0 (by omega), fun v hv1 hvn h0 hs => ?_, fun v hv1 hvn hv => ?_⟩
  · have e : dist ps t v = 0 := by omega
    have e2 : v = t := by have := dist_zero e; omega
    subst e2
    rw [dA_set_same _ _ _ hl, e]
  · have e2 : v ≠ t := by intro e; subst e; rw [dist_self] at hv; omega
    rw [dA_set_ne _ _ _ _ e2]
    exact .inl (hr v hvn)
theorem Lv.all {n : Nat} {ps : List Pp} {t : Int} {D : List Int} (l : Lv n ps t n D) (hg : P2.Good n ps) : D = distL n ps t := by
  apply List.ext_getElem
  · rw [l.len]; simp [distL]
  · intro v hv hv2
    have hvN : v ≤ n := by rw [l.len] at hv; omega
    have e : D[v] = dA D v := by simp [dA, List.getD, hv]
    rw [e]
    simp only [distL, List.getElem_map, List.getElem_range]
    by_cases h0 : v = 0
    · rw [if_pos h0, h0]; exact l.zero
    · rw [if_neg h0]
      have hle := dist_le (t := t) hg v hvN
      have hlo := dist_lo ps t v
      by_cases h : 0 ≤ dist ps t v
      · exact l.told v (by omega) hvN h hle
      · have := l.rest v (by omega) hvN (by omega)
        omega
end Go.Proofs.Ytgjogjmfpbinfaa.S2
