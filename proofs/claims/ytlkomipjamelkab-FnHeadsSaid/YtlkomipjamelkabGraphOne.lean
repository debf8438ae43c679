/- Plain facts on paths, distances and the search of a network (chapter 2), no program in them. No conditions. -/
import Derived.Test.YtlkomipjamelkabNetOne
namespace Go.Proofs.Ytlkomipjamelkab.P2

def Jn (p : Pp) (a b : Int) : Prop := (p.fr = a ∧ p.to = b) ∨ (p.to = a ∧ p.fr = b)
theorem Jn.symm {p : Pp} {a b : Int} (h : Jn p a b) : Jn p b a := by
  rcases h with ⟨h1, h2⟩ | ⟨h1, h2⟩
  · exact .inr ⟨h2, h1⟩
  · exact .inl ⟨h2, h1⟩
def Adj (ps : List Pp) (a b : Int) : Prop := ∃ p, p ∈ ps ∧ Jn p a b
theorem Adj.symm {ps : List Pp} {a b : Int} (h : Adj ps a b) : Adj ps b a := by
  obtain ⟨p, hp, hj⟩ := h
  exact ⟨p, hp, hj.symm⟩
/-- A way of k pipes. -/
def Path (ps : List Pp) : Nat → Int → Int → Prop
  | 0, a, b => a = b
  | k + 1, a, b => ∃ c, Adj ps a c ∧ Path ps k c b
theorem Path.snoc {ps : List Pp} : ∀ {k : Nat} {a b c : Int}, Path ps k a b → Adj ps b c → Path ps (k + 1) a c
  | 0, a, b, c, h, hj => by
    have e : a = b := h
    subst e
    exact ⟨c, hj, rfl⟩
  | k + 1, a, b, c, h, hj => by
    obtain ⟨x, h1, h2⟩ := h
    exact ⟨x, h1, h2.snoc hj⟩
theorem Path.symm {ps : List Pp} : ∀ {k : Nat} {a b : Int}, Path ps k a b → Path ps k b a
  | 0, a, b, h => (show a = b from h).symm
  | k + 1, a, b, h => by
    obtain ⟨x, h1, h2⟩ := h
    exact h2.symm.snoc h1.symm
theorem Path.join {ps : List Pp} : ∀ {k j : Nat} {a b c : Int}, Path ps k a b → Path ps j b c → Path ps (k + j) a c
  | 0, j, a, b, c, h, h2 => by
    have e : a = b := h
    subst e
    rw [Nat.zero_add]; exact h2
  | k + 1, j, a, b, c, h, h2 => by
    obtain ⟨x, h1, h3⟩ := h
    rw [show k + 1 + j = (k + j) + 1 by omega]
    exact ⟨x, h1, h3.join h2⟩
def Conn (ps : List Pp) (a b : Int) : Prop := ∃ k, Path ps k a b

theorem least_nat (P : Nat → Prop) (k : Nat) (h : P k) : ∃ m, P m ∧ ∀ j, P j → m ≤ j := by
  induction k using Nat.strongRecOn with
  | _ k ih =>
    by_cases hs : ∃ j, j < k ∧ P j
    · obtain ⟨j, hj, hp⟩ := hs
      exact ih j hj hp
    · exact ⟨k, h, fun j hj => Classical.byContradiction fun hn => hs ⟨j, by omega, hj⟩⟩

/-- d is the distance of v to t. -/
def IsD (ps : List Pp) (t v d : Int) : Prop := (d = -1 ∧ ¬ Conn ps v t) ∨ ∃ k : Nat, d = k ∧ Path ps k v t ∧ ∀ j, Path ps j v t → k ≤ j
theorem isD_ex (ps : List Pp) (t v : Int) : ∃ d, IsD ps t v d := by
  by_cases h : Conn ps v t
  · obtain ⟨k, hk⟩ := h
    obtain ⟨m, hm, hl⟩ := least_nat (fun k => Path ps k v t) k hk
    exact ⟨m, .inr ⟨m, rfl, hm, hl⟩⟩
  · exact ⟨-1, .inl ⟨rfl, h⟩⟩
theorem isD_one {ps : List Pp} {t v d e : Int} (h : IsD ps t v d) (g : IsD ps t v e) : d = e := by
  rcases h with ⟨h1, h2⟩ | ⟨k, h1, h2, h3⟩
  · rcases g with ⟨g1, _⟩ | ⟨j, _, g2, _⟩
    · rw [h1, g1]
    · exact absurd ⟨j, g2⟩ h2
  · rcases g with ⟨_, g2⟩ | ⟨j, g1, g2, g3⟩
    · exact absurd ⟨k, h2⟩ g2
    · have a := h3 j g2
      have b := g3 k h2
      rw [h1, g1]; omega
noncomputable def dist (ps : List Pp) (t v : Int) : Int := Classical.choose (isD_ex ps t v)
theorem dist_is (ps : List Pp) (t v : Int) : IsD ps t v (dist ps t v) := Classical.choose_spec (isD_ex ps t v)
theorem dist_self (ps : List Pp) (t : Int) : dist ps t t = 0 := isD_one (dist_is ps t t) (.inr ⟨0, rfl, rfl, fun _ _ => Nat.zero_le _⟩)
theorem dist_conn {ps : List Pp} {t v : Int} : dist ps t v ≠ -1 ↔ Conn ps v t := by
  rcases dist_is ps t v with ⟨h1, h2⟩ | ⟨k, h1, h2, _⟩
  · exact ⟨fun h => absurd h1 h, fun h => absurd h h2⟩
  · exact ⟨fun _ => ⟨k, h2⟩, fun _ => by omega⟩

/-- The other end. -/
def oth (p : Pp) (x : Int) : Int := if p.fr = x then p.to else p.fr
theorem oth_jn {p : Pp} {x : Int} (h : p.fr = x ∨ p.to = x) : Jn p x (oth p x) := by
  unfold oth
  split
  · rename_i h1; exact .inl ⟨h1, rfl⟩
  · rename_i h1
    rcases h with h | h
    · exact absurd h h1
    · exact .inr ⟨h, rfl⟩
theorem jn_oth {n : Int} {p : Pp} {x u : Int} (hp : PpOk n p) (h : Jn p x u) : oth p x = u ∧ (p.fr = x ∨ p.to = x) := by
  unfold oth
  rcases h with ⟨h1, h2⟩ | ⟨h1, h2⟩
  · rw [if_pos h1]; exact ⟨h2, .inl h1⟩
  · rw [if_neg (by intro e; exact hp.2.2.2.2.2.2.1 (by rw [e, h1]))]; exact ⟨h2, .inr h1⟩
theorem oth_in {n : Int} {p : Pp} {x : Int} (hp : PpOk n p) : 1 ≤ oth p x ∧ oth p x ≤ n := by
  unfold oth
  unfold PpOk at hp
  split <;> omega
theorem good_pp {n : Int} {ps : List Pp} (h : Good n ps) {p : Pp} (hp : p ∈ ps) : PpOk n p := by
  obtain ⟨i, hi⟩ := List.getElem?_of_mem hp
  have hlt : i < ps.length := (List.getElem?_eq_some_iff.1 hi).1
  exact (h.2.2.2 i hlt p hi).1

/-! ### The search -/
def dA (D : List Int) (v : Nat) : Int := D.getD v 0
theorem dA_set_same (D : List Int) (v : Nat) (x : Int) (h : v < D.length) : dA (D.set v x) v = x := by simp [dA, List.getD, h]
theorem dA_set_ne (D : List Int) (v u : Nat) (x : Int) (h : u ≠ v) : dA (D.set v x) u = dA D u := by
  simp [dA, List.getD, Ne.symm h]
/-- How many are not found. -/
def und (D : List Int) : Nat := D.count (-1)
theorem und_set (D : List Int) (v : Nat) (x : Int) (h : v < D.length) (hv : dA D v = -1) (hx : x ≠ -1) : und (D.set v x) + 1 = und D := by
  have e : D = D.take v ++ (-1) :: D.drop (v + 1) := by
    have h1 : D[v] = -1 := by simpa [dA, List.getD, h] using hv
    rw [← h1, List.getElem_cons_drop h, List.take_append_drop]
  have e2 : D.set v x = D.take v ++ x :: D.drop (v + 1) := by
    rw [List.set_eq_take_append_cons_drop, if_pos h]
  unfold und
  rw [e2]
  conv => rhs; rw [e]
  rw [List.count_append, List.count_append, List.count_cons, List.count_cons]
  simp [hx]
  omega

structure Bf (n : Nat) (ps : List Pp) (t : Nat) (D : List Int) (Q : List Nat) : Prop where
  len : D.length = n + 1
  zero : dA D 0 = -1
  self : dA D t = 0
  sound : ∀ v : Nat, v ≤ n → dA D v = -1 ∨ ∃ k : Nat, dA D v = k ∧ Path ps k v t
  inq : ∀ v, v ∈ Q → v ≤ n ∧ dA D v ≠ -1
  done : ∀ v : Nat, v ≤ n → dA D v ≠ -1 → v ∉ Q → ∀ u : Nat, u ≤ n → Adj ps v u → dA D u ≠ -1 ∧ dA D u ≤ dA D v + 1
  mono : Q.Pairwise (fun a b => dA D a ≤ dA D b)
  top : ∀ h r, Q = h :: r → ∀ v : Nat, v ≤ n → dA D v ≤ dA D h + 1
  cnt : und D + Q.length ≤ n + 1

structure Bi (n : Nat) (ps : List Pp) (t : Nat) (D : List Int) (Q : List Nat) (h : Nat) (row : List Pp) (k : Nat) : Prop where
  len : D.length = n + 1
  zero : dA D 0 = -1
  self : dA D t = 0
  sound : ∀ v : Nat, v ≤ n → dA D v = -1 ∨ ∃ k : Nat, dA D v = k ∧ Path ps k v t
  hd : h ≤ n ∧ dA D h ≠ -1
  inq : ∀ v, v ∈ Q → v ≤ n ∧ dA D v ≠ -1
  done : ∀ v : Nat, v ≤ n → dA D v ≠ -1 → v ∉ Q → v ≠ h → ∀ u : Nat, u ≤ n → Adj ps v u → dA D u ≠ -1 ∧ dA D u ≤ dA D v + 1
  part : ∀ i, i < k → i < row.length → ∀ u : Nat, oth (pAt row i) h = u → dA D u ≠ -1 ∧ dA D u ≤ dA D h + 1
  mono : Q.Pairwise (fun a b => dA D a ≤ dA D b)
  lo : ∀ q, q ∈ Q → dA D h ≤ dA D q
  top : ∀ v : Nat, v ≤ n → dA D v ≤ dA D h + 1
  cnt : und D + Q.length ≤ n

/-- No distance told is greater than what has been found allows. -/
def Bd (n : Nat) (D : List Int) : Prop := ∀ v : Nat, v ≤ n → dA D v + und D ≤ n
theorem Bd.start (n t : Nat) (h2 : t ≤ n) : Bd n ((List.replicate (n + 1) (-1)).set t 0) := by
  intro v hv
  have hl : t < (List.replicate (n + 1) (-1 : Int)).length := by simp; omega
  have hr : ∀ v, v ≤ n → dA (List.replicate (n + 1) (-1 : Int)) v = -1 := by
    intro v hv
    have : v < n + 1 := by omega
    simp [dA, List.getD, this]
  have hu := und_set (List.replicate (n + 1) (-1 : Int)) t 0 hl (hr t h2) (by omega)
  have hc : und (List.replicate (n + 1) (-1 : Int)) = n + 1 := by simp [und]
  by_cases e : v = t
  · subst e; rw [dA_set_same _ _ _ hl]; omega
  · rw [dA_set_ne _ _ _ _ e, hr v hv]; omega
theorem Bd.set {n : Nat} {D : List Int} (b : Bd n D) {u h : Nat} (hl : u < D.length) (hu : dA D u = -1) (hh : h ≤ n) (hx : dA D h + 1 ≠ -1) : Bd n (D.set u (dA D h + 1)) := by
  intro v hv
  have h1 := und_set D u (dA D h + 1) hl hu hx
  have h2 := b h hh
  have h3 := b v hv
  by_cases e : v = u
  · subst e; rw [dA_set_same _ _ _ hl]; omega
  · rw [dA_set_ne _ _ _ _ e]; omega

theorem Bf.start (n : Nat) (ps : List Pp) (t : Nat) (h1 : 1 ≤ t) (h2 : t ≤ n) : Bf n ps t ((List.replicate (n + 1) (-1)).set t 0) [t] := by
  have hl : t < (List.replicate (n + 1) (-1 : Int)).length := by simp; omega
  have hr : ∀ v, v ≤ n → dA (List.replicate (n + 1) (-1 : Int)) v = -1 := by
    intro v hv
    have : v < n + 1 := by omega
    simp [dA, List.getD, this]
  have hs : ∀ v, v ≤ n → v ≠ t → dA ((List.replicate (n + 1) (-1 : Int)).set t 0) v = -1 := fun v hv hne => by rw [dA_set_ne _ _ _ _ hne, hr v hv]
  have ht : dA ((List.replicate (n + 1) (-1 : Int)).set t 0) t = 0 := dA_set_same _ _ _ hl
  refine ⟨by simp, hs 0 (by omega) (by omega), ht, fun v hv => ?_, fun v hv => ?_, fun v hv hne hnq => ?_, List.pairwise_singleton _ _, fun h r e v hv => ?_, ?_⟩
  · by_cases e : v = t
    · subst e; exact .inr ⟨0, ht, rfl⟩
    · exact .inl (hs v hv e)
  · have e : v = t := by simpa using hv
    subst e
    exact ⟨h2, by rw [ht]; omega⟩
  · exact absurd (hs v hv (by simpa using hnq)) hne
  · injection e with e _
    subst e
    rw [ht]
    by_cases e : v = t
    · subst e; rw [ht]; omega
    · rw [hs v hv e]; omega
  · have hu := und_set (List.replicate (n + 1) (-1 : Int)) t 0 hl (hr t h2) (by omega)
    have hc : und (List.replicate (n + 1) (-1 : Int)) = n + 1 := by simp [und]
    simp only [List.length_singleton]
    omega

theorem Bf.pop {n : Nat} {ps : List Pp} {t : Nat} {D : List Int} {h : Nat} {Q : List Nat} (b : Bf n ps t D (h :: Q)) (row : List Pp) : Bi n ps t D Q h row 0 := by
  have hm := List.pairwise_cons.1 b.mono
  refine ⟨b.len, b.zero, b.self, b.sound, b.inq h (by simp), fun v hv => b.inq v (by simp [hv]), fun v hv hne hnq hnh => b.done v hv hne (by simp [hnq, hnh]), fun i hi => absurd hi (by omega), hm.2, hm.1, b.top h Q rfl, ?_⟩
  have := b.cnt
  simp at this
  omega

theorem Bi.old {n : Nat} {ps : List Pp} {t : Nat} {D : List Int} {Q : List Nat} {h : Nat} {row : List Pp} {k u : Nat} (b : Bi n ps t D Q h row k) (hu : oth (pAt row k) h = u) (hun : u ≤ n) (hne : dA D u ≠ -1) : Bi n ps t D Q h row (k + 1) := by
  refine { b with part := fun i hi hr v hv => ?_ }
  by_cases e : i = k
  · subst e
    have : (u : Int) = v := by rw [← hu, ← hv]
    have : u = v := by omega
    subst this
    exact ⟨hne, b.top u hun⟩
  · exact b.part i (by omega) hr v hv

theorem Bi.new {n : Nat} {ps : List Pp} {t : Nat} {D : List Int} {Q : List Nat} {h : Nat} {row : List Pp} {k u : Nat} (b : Bi n ps t D Q h row k) (hu : oth (pAt row k) h = u) (hu0 : 1 ≤ u) (hun : u ≤ n) (hne : dA D u = -1) (hadj : Adj ps u h) :
    Bi n ps t (D.set u (dA D h + 1)) (Q ++ [u]) h row (k + 1) := by
  have hl : u < D.length := by have := b.len; omega
  have hsame := dA_set_same D u (dA D h + 1) hl
  have hot : ∀ v, v ≠ u → dA (D.set u (dA D h + 1)) v = dA D v := fun v hv => dA_set_ne D u v _ hv
  have hfound : ∀ v, dA D v ≠ -1 → v ≠ u := fun v hv e => hv (by rw [e]; exact hne)
  have hh : h ≠ u := hfound h b.hd.2
  obtain ⟨kh, hkh, hph⟩ : ∃ k : Nat, dA D h = k ∧ Path ps k h t := by
    rcases b.sound h b.hd.1 with e | e
    · exact absurd e b.hd.2
    · exact e
  have hx : dA D h + 1 ≠ -1 := by omega
  refine ⟨by simpa using b.len, by rw [hot 0 (by omega)]; exact b.zero, ?_, fun v hv => ?_, ⟨b.hd.1, by rw [hot h hh]; exact b.hd.2⟩, fun v hv => ?_, fun v hv hv1 hnq hvh w hw hj => ?_, fun i hi hr v hv => ?_, ?_, fun q hq => ?_, fun v hv => ?_, ?_⟩
  · rw [hot t (hfound t (by rw [b.self]; omega))]; exact b.self
  · by_cases e : v = u
    · subst e
      rw [hsame]
      exact .inr ⟨kh + 1, by omega, ⟨h, hadj, hph⟩⟩
    · rw [hot v e]; exact b.sound v hv
  · rcases List.mem_append.1 hv with hv | hv
    · obtain ⟨h1, h2⟩ := b.inq v hv
      exact ⟨h1, by rw [hot v (hfound v h2)]; exact h2⟩
    · have e : v = u := by simpa using hv
      subst e
      exact ⟨hun, by rw [hsame]; exact hx⟩
  · have hvu : v ≠ u := fun e => hnq (by simp [e])
    rw [hot v hvu] at hv1 ⊢
    obtain ⟨h1, h2⟩ := b.done v hv hv1 (fun e => hnq (by simp [e])) hvh w hw hj
    rw [hot w (hfound w h1)]
    exact ⟨h1, h2⟩
  · rw [hot h hh]
    by_cases e : v = u
    · subst e
      rw [hsame]
      exact ⟨hx, Int.le_refl _⟩
    · rw [hot v e]
      by_cases e2 : i = k
      · subst e2
        exact absurd (by have : (u : Int) = v := by rw [← hu, ← hv]
                         omega) e
      · exact b.part i (by omega) hr v hv
  · rw [List.pairwise_append]
    refine ⟨b.mono.imp_of_mem fun {x y} hx hy hxy => ?_, List.pairwise_singleton _ _, fun x hx y hy => ?_⟩
    · rw [hot x (hfound x (b.inq x hx).2), hot y (hfound y (b.inq y hy).2)]; exact hxy
    · have e : y = u := by simpa using hy
      subst e
      rw [hsame, hot x (hfound x (b.inq x hx).2)]
      exact b.top x (b.inq x hx).1
  · rw [hot h hh]
    rcases List.mem_append.1 hq with hq | hq
    · rw [hot q (hfound q (b.inq q hq).2)]; exact b.lo q hq
    · have e : q = u := by simpa using hq
      subst e
      rw [hsame]; omega
  · rw [hot h hh]
    by_cases e : v = u
    · subst e; rw [hsame]; omega
    · rw [hot v e]; exact b.top v hv
  · have h1 := und_set D u (dA D h + 1) hl hne hx
    have h2 := b.cnt
    simp
    omega

theorem Bi.finish {n : Nat} {ps : List Pp} {t : Nat} {D : List Int} {Q : List Nat} {h : Nat} {row : List Pp} {k : Nat} (b : Bi n ps t D Q h row k) (hk : row.length ≤ k)
    (hrow : ∀ u : Nat, Adj ps h u → ∃ i, i < row.length ∧ oth (pAt row i) h = u) : Bf n ps t D Q := by
  refine ⟨b.len, b.zero, b.self, b.sound, b.inq, fun v hv hv1 hnq u hu hj => ?_, b.mono, fun q r e v hv => ?_, by have := b.cnt; omega⟩
  · by_cases e : v = h
    · subst e
      obtain ⟨i, hi, ho⟩ := hrow u hj
      exact b.part i (by omega) hi u ho
    · exact b.done v hv hv1 hnq e u hu hj
  · have h1 := b.top v hv
    have h2 := b.lo q (by rw [e]; simp)
    omega

/-- When the queue is empty, all distances are told. -/
theorem Bf.told {n : Nat} {ps : List Pp} {t : Nat} {D : List Int} (b : Bf n ps t D []) (hg : Good n ps) (h2 : t ≤ n) : ∀ v : Nat, v ≤ n → dA D v = dist ps t v := by
  have key : ∀ (k : Nat) (v : Nat), v ≤ n → Path ps k v t → dA D v ≠ -1 ∧ dA D v ≤ k := by
    intro k
    induction k with
    | zero =>
      intro v hv h
      have e : (v : Int) = t := h
      have e : v = t := by omega
      subst e
      rw [b.self]; omega
    | succ k ih =>
      intro v hv h
      obtain ⟨c, hj, hp⟩ := h
      obtain ⟨p, hpm, hjn⟩ := hj
      have hok := good_pp hg hpm
      have hc := jn_oth hok hjn.symm
      have hci : 1 ≤ c ∧ c ≤ n := by
        have := oth_in (x := v) hok
        rw [(jn_oth hok hjn).1] at this
        exact this
      obtain ⟨m, rfl⟩ : ∃ m : Nat, c = m := ⟨c.toNat, by omega⟩
      obtain ⟨h3, h4⟩ := ih m (by omega) hp
      obtain ⟨h5, h6⟩ := b.done m (by omega) h3 (by simp) v hv ⟨p, hpm, hjn.symm⟩
      exact ⟨h5, by omega⟩
  intro v hv
  refine isD_one ?_ (dist_is ps t v)
  rcases b.sound v hv with h | ⟨k, h, hp⟩
  · exact .inl ⟨h, fun ⟨k, hk⟩ => (key k v hv hk).1 h⟩
  · exact .inr ⟨k, h, hp, fun j hj => by have := (key j v hv hj).2; omega⟩
end Go.Proofs.Ytlkomipjamelkab.P2
