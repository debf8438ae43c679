/- Plain facts on trees (chapter 8): what lies behind a pipe, branches, labels of parts; no program in them. No conditions. -/
import Derived.Test.YtlkomipjamelkabGraphOne
namespace Go.Proofs.Ytlkomipjamelkab.P2

theorem Conn.rf (ps : List Pp) (a : Int) : Conn ps a a := ⟨0, rfl⟩
theorem Conn.sy {ps : List Pp} {a b : Int} (h : Conn ps a b) : Conn ps b a := h.elim fun k hk => ⟨k, hk.symm⟩
theorem Conn.tr {ps : List Pp} {a b c : Int} (h : Conn ps a b) (g : Conn ps b c) : Conn ps a c := by
  obtain ⟨k, hk⟩ := h
  obtain ⟨j, hj⟩ := g
  exact ⟨k + j, hk.join hj⟩
theorem Conn.adj {ps : List Pp} {a b : Int} (h : Adj ps a b) : Conn ps a b := ⟨1, b, h, rfl⟩
theorem Conn.step {ps : List Pp} {a b c : Int} (h : Conn ps a b) (g : Adj ps b c) : Conn ps a c := h.tr (Conn.adj g)
theorem conn_ind {ps : List Pp} {a : Int} (P : Int → Prop) (h0 : P a) (hs : ∀ u v, Conn ps a u → P u → Adj ps u v → P v) : ∀ b, Conn ps a b → P b := by
  rintro b ⟨k, hk⟩
  induction k generalizing b with
  | zero => have e : a = b := hk; rw [← e]; exact h0
  | succ k ih =>
    obtain ⟨c, hj, hp⟩ := hk.symm
    exact hs c b ⟨k, hp.symm⟩ (ih c hp.symm) hj.symm
theorem conn_mono {ps qs : List Pp} (h : ∀ e, e ∈ ps → e ∈ qs) {a b : Int} (hc : Conn ps a b) : Conn qs a b :=
  conn_ind (P := fun v => Conn qs a v) (Conn.rf _ _) (fun _ _ _ hu ⟨e, he, hj⟩ => hu.step ⟨e, h e he, hj⟩) b hc

/-- Without a pipe. -/
def Wo (ps : List Pp) (q : Pp) : List Pp := ps.filter fun e => decide (e ≠ q)
theorem mem_Wo {ps : List Pp} {q e : Pp} : e ∈ Wo ps q ↔ e ∈ ps ∧ e ≠ q := by simp [Wo]
/-- An end of it. -/
def Tch (p : Pp) (x : Int) : Prop := p.fr = x ∨ p.to = x
theorem jn_tch {p : Pp} {a b : Int} (h : Jn p a b) : Tch p a ∧ Tch p b := by
  rcases h with ⟨h1, h2⟩ | ⟨h1, h2⟩
  · exact ⟨.inl h1, .inr h2⟩
  · exact ⟨.inr h1, .inl h2⟩
theorem jn_one {p : Pp} {a b x : Int} (h : Jn p a b) (hx : Tch p x) : x = a ∨ x = b := by
  rcases h with ⟨h1, h2⟩ | ⟨h1, h2⟩ <;> rcases hx with hx | hx
  · exact .inl (hx.symm.trans h1)
  · exact .inr (hx.symm.trans h2)
  · exact .inr (hx.symm.trans h2)
  · exact .inl (hx.symm.trans h1)
theorem oth_oth {p : Pp} {x : Int} (hx : Tch p x) : oth p (oth p x) = x := by
  unfold oth Tch at *
  split
  · split at * <;> omega
  · split at * <;> omega
theorem oth_tch {p : Pp} {x : Int} (hx : Tch p x) : Tch p (oth p x) := (jn_tch (oth_jn hx)).2
theorem oth_ne {n : Int} {p : Pp} {x : Int} (hp : PpOk n p) (_hx : Tch p x) : oth p x ≠ x := by
  unfold oth Tch PpOk at *
  split <;> omega

/-- No pipe joins what is connected without it. -/
def Acy (ps : List Pp) : Prop := ∀ p, p ∈ ps → ¬ Conn (Wo ps p) p.fr p.to
theorem Acy.oth {ps : List Pp} (h : Acy ps) {p : Pp} (hp : p ∈ ps) {x : Int} (hx : Tch p x) : ¬ Conn (Wo ps p) (oth p x) x := by
  intro hc
  have hj := oth_jn hx
  rcases hj with ⟨h1, h2⟩ | ⟨h1, h2⟩
  · exact h p hp (by rw [h1, h2]; exact hc.sy)
  · exact h p hp (by rw [h1, h2]; exact hc)

theorem far_conn {ps : List Pp} {p q : Pp} {x y v : Int} (hx : Tch q x ∨ q ∉ ps) (hn : ¬ Conn (Wo ps p) y x) (h : Conn (Wo ps p) y v) : Conn (Wo ps q) y v := by
  refine conn_ind (ps := Wo ps p) (P := fun v => Conn (Wo ps q) y v) (Conn.rf _ _) ?_ v h
  rintro u v hu hq ⟨e, he, hj⟩
  obtain ⟨he1, he2⟩ := mem_Wo.1 he
  refine hq.step ⟨e, mem_Wo.2 ⟨he1, ?_⟩, hj⟩
  rintro rfl
  rcases hx with hx | hx
  · rcases jn_one hj hx with e1 | e1
    · rw [e1] at hn; exact hn hu
    · rw [e1] at hn; exact hn (hu.step ⟨e, he, hj⟩)
  · exact hx he1

/-- What a branch begins with: its node, and the pipe by which the water comes. -/
structure BrOk (n : Nat) (ps : List Pp) (x : Int) (q : Pp) : Prop where
  lo : 1 ≤ x
  hi : x ≤ n
  at_ : Tch q x ∨ q ∉ ps
/-- The pipes that lead on. -/
def kidsL (ps : List Pp) (x : Int) (q : Pp) : List Pp := ps.filter fun e => decide ((e.fr = x ∨ e.to = x) ∧ e ≠ q)
theorem mem_kids {ps : List Pp} {x : Int} {q p : Pp} : p ∈ kidsL ps x q ↔ p ∈ ps ∧ Tch p x ∧ p ≠ q := by
  unfold kidsL Tch
  rw [List.mem_filter, decide_eq_true_iff]
theorem BrOk.kid {n : Nat} {ps : List Pp} {x : Int} {q p : Pp} (_h : BrOk n ps x q) (hg : Good n ps) (hp : p ∈ kidsL ps x q) : BrOk n ps (oth p x) p := by
  obtain ⟨h1, h2, h3⟩ := mem_kids.1 hp
  have ho := oth_in (x := x) (good_pp hg h1)
  exact ⟨ho.1, ho.2, .inl (oth_tch h2)⟩
theorem kid_sub {n : Nat} {ps : List Pp} {x : Int} {q p : Pp} (ha : Acy ps) (h : BrOk n ps x q) (hp : p ∈ kidsL ps x q) {v : Int} (hv : Conn (Wo ps p) (oth p x) v) : Conn (Wo ps q) x v := by
  obtain ⟨h1, h2, h3⟩ := mem_kids.1 hp
  have g := far_conn h.at_ (ha.oth h1 h2) hv
  exact (Conn.adj ⟨p, mem_Wo.2 ⟨h1, h3⟩, oth_jn h2⟩).tr g
theorem kid_all {ps : List Pp} {x : Int} {q : Pp} {v : Int} (hok : ∀ e, e ∈ ps → ∀ a b, Jn e a b → oth e a = b) (hv : Conn (Wo ps q) x v) : v = x ∨ ∃ p, p ∈ kidsL ps x q ∧ Conn (Wo ps p) (oth p x) v := by
  refine conn_ind (ps := Wo ps q) (P := fun v => v = x ∨ ∃ p, p ∈ kidsL ps x q ∧ Conn (Wo ps p) (oth p x) v) (.inl rfl) ?_ v hv
  rintro u v hu hP ⟨e, he, hj⟩
  obtain ⟨he1, he2⟩ := mem_Wo.1 he
  by_cases hvx : v = x
  · exact .inl hvx
  · right
    have hax : Tch e x → u = x := fun ht => by
      rcases jn_one hj ht with h | h
      · exact h.symm
      · exact absurd h.symm hvx
    rcases hP with rfl | ⟨p, hp, hc⟩
    · refine ⟨e, mem_kids.2 ⟨he1, (jn_tch hj).1, he2⟩, ?_⟩
      rw [hok e he1 _ _ hj]
      exact Conn.rf _ _
    · by_cases hep : e = p
      · subst hep
        have hx := hax (mem_kids.1 hp).2.1
        subst hx
        refine ⟨e, hp, ?_⟩
        rw [hok e he1 _ _ hj]
        exact Conn.rf _ _
      · exact ⟨p, hp, hc.step ⟨e, mem_Wo.2 ⟨he1, hep⟩, hj⟩⟩
theorem kid_apart {ps : List Pp} {x : Int} {q p1 p2 : Pp} {v : Int} (ha : Acy ps) (h1 : p1 ∈ kidsL ps x q) (h2 : p2 ∈ kidsL ps x q) (hne : p1 ≠ p2) (hv1 : Conn (Wo ps p1) (oth p1 x) v) (hv2 : Conn (Wo ps p2) (oth p2 x) v) : False := by
  obtain ⟨a1, b1, _⟩ := mem_kids.1 h1
  obtain ⟨a2, b2, _⟩ := mem_kids.1 h2
  have g := far_conn (q := p2) (.inl b2) (ha.oth a1 b1) hv1
  have g2 : Conn (Wo ps p2) x (oth p1 x) := Conn.adj ⟨p1, mem_Wo.2 ⟨a1, hne⟩, oth_jn b1⟩
  exact ha.oth a2 b2 (hv2.tr (g2.tr g).sy)

/-! ### How many nodes are there -/
open Classical in
noncomputable def cB (ps : List Pp) (q : Pp) (x v : Int) : Bool := decide (Conn (Wo ps q) x v)
theorem cB_of {ps : List Pp} {q : Pp} {x v : Int} (h : cB ps q x v = true) : Conn (Wo ps q) x v := by simpa [cB] using h
theorem cB_mk {ps : List Pp} {q : Pp} {x v : Int} (h : Conn (Wo ps q) x v) : cB ps q x v = true := by simpa [cB] using h
theorem cB_no {ps : List Pp} {q : Pp} {x v : Int} (h : ¬ Conn (Wo ps q) x v) : cB ps q x v = false := by simpa [cB] using h
noncomputable def cntB (n : Nat) (ps : List Pp) (x : Int) (q : Pp) : Nat := ((List.range (n + 1)).filter fun v : Nat => cB ps q x (v : Int)).length
theorem filter_less {α : Type} (l : List α) (P Q : α → Bool) (h : ∀ a, P a = true → Q a = true) (a : α) (ha : a ∈ l) (hq : Q a = true) (hp : P a = false) : (l.filter P).length < (l.filter Q).length := by
  have hle : ∀ m : List α, (m.filter P).length ≤ (m.filter Q).length := by
    intro m
    induction m with
    | nil => simp
    | cons b m ih =>
      rw [List.filter_cons, List.filter_cons]
      by_cases hb : P b = true
      · rw [if_pos hb, if_pos (h b hb)]; simp; exact ih
      · rw [if_neg hb]; split <;> first | (simp; omega) | omega
  induction l with
  | nil => simp at ha
  | cons b l ih =>
    rw [List.filter_cons, List.filter_cons]
    by_cases e : a = b
    · subst e
      rw [if_pos hq, if_neg (by simp [hp])]
      have := hle l
      simp; omega
    · have hm : a ∈ l := by
        rcases List.mem_cons.1 ha with h | h
        · exact absurd h e
        · exact h
      have := ih hm
      by_cases hb : P b = true
      · rw [if_pos hb, if_pos (h b hb)]; simp; exact this
      · rw [if_neg hb]; split <;> first | (simp; omega) | omega
theorem cnt_kid {n : Nat} {ps : List Pp} {x : Int} {q p : Pp} (ha : Acy ps) (h : BrOk n ps x q) (hp : p ∈ kidsL ps x q) : cntB n ps (oth p x) p < cntB n ps x q := by
  obtain ⟨h1, h2, h3⟩ := mem_kids.1 hp
  unfold cntB
  have hx0 := h.lo
  have hx1 := h.hi
  have hxx : ((x.toNat : Nat) : Int) = x := Int.toNat_of_nonneg (by omega)
  refine filter_less _ _ _ (fun v hv => ?_) x.toNat (List.mem_range.2 (by omega)) ?_ ?_
  · exact cB_mk (kid_sub ha h hp (cB_of hv))
  · rw [hxx]; exact cB_mk (Conn.rf _ _)
  · rw [hxx]; exact cB_no (ha.oth h1 h2)
theorem cnt_pos {n : Nat} {ps : List Pp} {x : Int} {q : Pp} (h : BrOk n ps x q) : 0 < cntB n ps x q := by
  have hx0 := h.lo
  have hx1 := h.hi
  unfold cntB
  exact List.length_pos_iff.2 (List.ne_nil_of_mem (List.mem_filter.2 ⟨List.mem_range.2 (show x.toNat < n + 1 by omega), by rw [Int.toNat_of_nonneg (by omega)]; exact cB_mk (Conn.rf _ _)⟩))
theorem cnt_le (n : Nat) (ps : List Pp) (x : Int) (q : Pp) : cntB n ps x q ≤ n + 1 := by
  unfold cntB
  exact Nat.le_trans (List.length_filter_le _ _) (by simp)

/-! ### The nodes of a branch -/
def nodesL (ps : List Pp) : Nat → Int → Pp → List Int
  | 0, x, _ => [x]
  | d + 1, x, q => x :: (kidsL ps x q).flatMap fun p => nodesL ps d (oth p x) p
theorem good_oth {n : Nat} {ps : List Pp} (hg : Good n ps) : ∀ e, e ∈ ps → ∀ a b, Jn e a b → oth e a = b := fun _ he _ _ hj => (jn_oth (good_pp hg he) hj).1
theorem nodes_mem {n : Nat} {ps : List Pp} (hg : Good n ps) (ha : Acy ps) : ∀ (d : Nat) (x : Int) (q : Pp), BrOk n ps x q → cntB n ps x q ≤ d → ∀ v, v ∈ nodesL ps d x q ↔ Conn (Wo ps q) x v := by
  intro d
  induction d with
  | zero => intro x q h hc; have := cnt_pos h; omega
  | succ d ih =>
    intro x q h hc v
    show v ∈ x :: (kidsL ps x q).flatMap (fun p => nodesL ps d (oth p x) p) ↔ _
    rw [List.mem_cons, List.mem_flatMap]
    constructor
    · rintro (rfl | ⟨p, hp, hv⟩)
      · exact Conn.rf _ _
      · have h1 := cnt_kid ha h hp
        exact kid_sub ha h hp ((ih _ _ (h.kid hg hp) (by omega) v).1 hv)
    · intro hv
      rcases kid_all (good_oth hg) hv with rfl | ⟨p, hp, hv⟩
      · exact .inl rfl
      · have h1 := cnt_kid ha h hp
        exact .inr ⟨p, hp, (ih _ _ (h.kid hg hp) (by omega) v).2 hv⟩
theorem good_pairs {n : Int} {ps : List Pp} (h : Good n ps) : ps.Pairwise (fun p q => p.id < q.id) := by
  rw [List.pairwise_iff_getElem]
  intro i j hi hj hij
  have key : ∀ m, i < m → m < ps.length → ∀ p q, ps[i]? = some p → ps[m]? = some q → p.id < q.id := by
    intro m
    induction m with
    | zero => intro h1; omega
    | succ m ih =>
      intro h1 h2 p q hp hq
      have h3 := (h.2.2.2 (m + 1) h2 q hq).2
      by_cases e : i = m
      · subst e; exact h3 p (by omega) hp
      · have hmq : ps[m]? = some ps[m] := List.getElem?_eq_getElem (by omega)
        have a := ih (by omega) (by omega) p _ hp hmq
        have b := h3 _ (by omega) hmq
        omega
  exact key j hij hj _ _ (List.getElem?_eq_getElem hi) (List.getElem?_eq_getElem hj)
theorem kids_pair {n : Nat} {ps : List Pp} (hg : Good n ps) (x : Int) (q : Pp) : (kidsL ps x q).Pairwise (· ≠ ·) := by
  unfold kidsL
  exact ((good_pairs hg).sublist List.filter_sublist).imp (fun h e => by rw [e] at h; omega)
theorem nodes_nodup {n : Nat} {ps : List Pp} (hg : Good n ps) (ha : Acy ps) : ∀ (d : Nat) (x : Int) (q : Pp), BrOk n ps x q → cntB n ps x q ≤ d → (nodesL ps d x q).Pairwise (· ≠ ·) := by
  intro d
  induction d with
  | zero => intro x q h hc; have := cnt_pos h; omega
  | succ d ih =>
    intro x q h hc
    show (x :: (kidsL ps x q).flatMap (fun p => nodesL ps d (oth p x) p)).Pairwise (· ≠ ·)
    rw [List.pairwise_cons, List.pairwise_flatMap]
    have hm : ∀ p, p ∈ kidsL ps x q → ∀ v, v ∈ nodesL ps d (oth p x) p ↔ Conn (Wo ps p) (oth p x) v := fun p hp v => by
      have h1 := cnt_kid ha h hp
      exact nodes_mem hg ha d _ _ (h.kid hg hp) (by omega) v
    refine ⟨fun v hv => ?_, fun p hp => ?_, ?_⟩
    · obtain ⟨p, hp, hv⟩ := List.mem_flatMap.1 hv
      rintro rfl
      exact ha.oth (mem_kids.1 hp).1 (mem_kids.1 hp).2.1 ((hm p hp _).1 hv)
    · have h1 := cnt_kid ha h hp
      exact ih _ _ (h.kid hg hp) (by omega)
    · refine (kids_pair hg x q).imp_of_mem ?_
      intro p1 p2 hp1 hp2 hne v hv u hu e
      subst e
      exact kid_apart ha hp1 hp2 hne ((hm p1 hp1 _).1 hv) ((hm p2 hp2 _).1 hu)

/-! ### The branch behind a pipe -/
def fnd (ps : List Pp) (p0 : Pp) : Nat → Int → Pp → Option Int
  | 0, x, q => if q = p0 then some x else none
  | d + 1, x, q => if q = p0 then some x else (kidsL ps x q).findSome? fun p => fnd ps p0 d (oth p x) p
theorem fnd_yes {n : Nat} {ps : List Pp} (hg : Good n ps) (ha : Acy ps) {p0 : Pp} (hp0 : p0 ∈ ps) : ∀ (d : Nat) (x : Int) (q : Pp), BrOk n ps x q → cntB n ps x q ≤ d → (q = p0 ∨ Conn (Wo ps q) x p0.fr) → fnd ps p0 d x q ≠ none := by
  intro d
  induction d with
  | zero => intro x q h hc; have := cnt_pos h; omega
  | succ d ih =>
    intro x q h hc hq
    show (if q = p0 then some x else (kidsL ps x q).findSome? fun p => fnd ps p0 d (oth p x) p) ≠ none
    by_cases e : q = p0
    · rw [if_pos e]; simp
    · rw [if_neg e]
      have hc2 : Conn (Wo ps q) x p0.fr := by
        rcases hq with h | h
        · exact absurd h e
        · exact h
      have hex : ∃ p, p ∈ kidsL ps x q ∧ (p = p0 ∨ Conn (Wo ps p) (oth p x) p0.fr) := by
        by_cases ht : Tch p0 x
        · exact ⟨p0, mem_kids.2 ⟨hp0, ht, fun h => e h.symm⟩, .inl rfl⟩
        · rcases kid_all (good_oth hg) hc2 with h1 | ⟨p, hp, hv⟩
          · exact absurd (.inl h1) ht
          · exact ⟨p, hp, .inr hv⟩
      obtain ⟨p, hp, hv⟩ := hex
      have h1 := cnt_kid ha h hp
      have h2 := ih _ _ (h.kid hg hp) (by omega) hv
      intro hn
      exact h2 (List.findSome?_eq_none_iff.1 hn p hp)
theorem fnd_is {n : Nat} {ps : List Pp} (hg : Good n ps) (ha : Acy ps) {p0 : Pp} {y : Int} : ∀ (d : Nat) (x : Int) (q : Pp), BrOk n ps x q → cntB n ps x q ≤ d → fnd ps p0 d x q = some y →
    (q = p0 ∧ y = x) ∨ (p0 ∈ ps ∧ Tch p0 y ∧ (∀ v, Conn (Wo ps p0) y v → Conn (Wo ps q) x v) ∧ ¬ Conn (Wo ps p0) y x) := by
  intro d
  induction d with
  | zero => intro x q h hc; have := cnt_pos h; omega
  | succ d ih =>
    intro x q h hc hf
    have hf' : (if q = p0 then some x else (kidsL ps x q).findSome? fun p => fnd ps p0 d (oth p x) p) = some y := hf
    by_cases e : q = p0
    · rw [if_pos e] at hf'
      injection hf' with hf'
      exact .inl ⟨e, hf'.symm⟩
    · rw [if_neg e] at hf'
      obtain ⟨p, hp, hpf⟩ := List.exists_of_findSome?_eq_some hf'
      have h1 := cnt_kid ha h hp
      have hm := mem_kids.1 hp
      right
      rcases ih _ _ (h.kid hg hp) (by omega) hpf with ⟨rfl, rfl⟩ | ⟨a, b, c, dd⟩
      · exact ⟨hm.1, oth_tch hm.2.1, fun v hv => kid_sub ha h hp hv, ha.oth hm.1 hm.2.1⟩
      · exact ⟨a, b, fun v hv => kid_sub ha h hp (c v hv), fun hx => ha.oth hm.1 hm.2.1 (c _ hx)⟩
/-- Which nodes lie behind it. -/
theorem behind {ps : List Pp} {p0 : Pp} {s y v : Int} (_hp : p0 ∈ ps) (ht : Tch p0 y) (hs : ¬ Conn (Wo ps p0) y s) (hcs : Conn ps y s) (hcv : Conn ps y v) : ¬ Conn (Wo ps p0) v s ↔ Conn (Wo ps p0) y v := by
  have hq : ∀ v, Conn ps y v → Conn (Wo ps p0) (oth p0 y) v ∨ Conn (Wo ps p0) y v := by
    refine conn_ind (P := fun v => Conn (Wo ps p0) (oth p0 y) v ∨ Conn (Wo ps p0) y v) (.inr (Conn.rf _ _)) ?_
    rintro u v _ hu ⟨e, he, hj⟩
    by_cases hep : e = p0
    · subst hep
      have h1 := jn_one hj ht
      have h2 := jn_one hj (oth_tch ht)
      have h3 := jn_tch hj
      rcases jn_one (oth_jn ht) h3.2 with h | h
      · right; rw [h]; exact Conn.rf _ _
      · left; rw [h]; exact Conn.rf _ _
    · rcases hu with hu | hu
      · exact .inl (hu.step ⟨e, mem_Wo.2 ⟨he, hep⟩, hj⟩)
      · exact .inr (hu.step ⟨e, mem_Wo.2 ⟨he, hep⟩, hj⟩)
  have h1 : Conn (Wo ps p0) (oth p0 y) s := by
    rcases hq s hcs with h | h
    · exact h
    · exact absurd h hs
  constructor
  · intro hn
    rcases hq v hcv with h | h
    · exact absurd (h.sy.tr h1) hn
    · exact h
  · intro hv hn
    exact hs (hv.tr hn)

/-! ### How many parts are there -/
/-- Labels of the parts: f has one value on each; L lists some of the values. -/
theorem labels_low {N : Nat} (qs : List Pp) : ∃ (f : Int → Int) (L : List Int), (∀ p, p ∈ qs → f p.fr = f p.to) ∧ L.Nodup ∧ (∀ l, l ∈ L → ∃ v : Nat, 1 ≤ v ∧ v ≤ N ∧ f v = l) ∧ N ≤ L.length + qs.length := by
  induction qs with
  | nil =>
    refine ⟨id, (List.range N).map (fun v => ((v + 1 : Nat) : Int)), by simp, ?_, ?_, by simp⟩
    · unfold List.Nodup
      rw [List.pairwise_map]
      exact List.nodup_range.imp (fun h e => h (by omega))
    · intro l hl
      obtain ⟨v, hv, rfl⟩ := List.mem_map.1 hl
      have := List.mem_range.1 hv
      exact ⟨v + 1, by omega, by omega, rfl⟩
  | cons p qs ih =>
    obtain ⟨f, L, h1, h2, h3, h4⟩ := ih
    refine ⟨fun v => if f v = f p.to then f p.fr else f v, L.erase (f p.to), ?_, h2.erase _, ?_, ?_⟩
    · intro e he
      rcases List.mem_cons.1 he with rfl | he
      · simp
      · simp only [h1 e he]
    · intro l hl
      have hl2 := (h2.mem_erase_iff).1 hl
      obtain ⟨v, a, b, rfl⟩ := h3 l hl2.2
      exact ⟨v, a, b, if_neg hl2.1⟩
    · have := List.length_erase_le (a := f p.to) (l := L)
      have h5 : L.length ≤ (L.erase (f p.to)).length + 1 := by rw [List.length_erase]; split <;> omega
      simp; omega
theorem label_conn {qs : List Pp} {f : Int → Int} (h : ∀ p, p ∈ qs → f p.fr = f p.to) {a b : Int} (hc : Conn qs a b) : f a = f b :=
  conn_ind (P := fun v => f a = f v) rfl (fun _ _ _ hu ⟨e, he, hj⟩ => by
    rcases hj with ⟨h1, h2⟩ | ⟨h1, h2⟩
    · rw [hu, ← h1, ← h2]; exact h e he
    · rw [hu, ← h1, ← h2]; exact (h e he).symm) b hc
theorem conn_need {N : Nat} {qs : List Pp} (_hN : 1 ≤ N) (hc : ∀ v : Nat, 1 ≤ v → v ≤ N → Conn qs 1 v) : N ≤ qs.length + 1 := by
  obtain ⟨f, L, h1, h2, h3, h4⟩ := labels_low (N := N) qs
  have hL : L.length ≤ 1 := by
    match L, h2, h3 with
    | [], _, _ => simp
    | [_], _, _ => simp
    | a :: b :: L, h2, h3 =>
      obtain ⟨u, u1, u2, u3⟩ := h3 a (by simp)
      obtain ⟨v, v1, v2, v3⟩ := h3 b (by simp)
      have e1 := label_conn h1 (hc u u1 u2)
      have e2 := label_conn h1 (hc v v1 v2)
      have : a = b := by rw [← u3, ← v3, ← e1, ← e2]
      subst this
      simp [List.nodup_cons] at h2
  omega
/-- Connected with one pipe fewer than nodes: none can be left out. -/
theorem tree_acy {N : Nat} {ps : List Pp} (hg : Good N ps) (hl : ps.length + 1 = N) (hc : ∀ v : Nat, 1 ≤ v → v ≤ N → Conn ps 1 v) : Acy ps := by
  intro p hp hcon
  have hlt : (Wo ps p).length < ps.length := by
    have h1 := filter_less ps (fun e => decide (e ≠ p)) (fun _ => true) (fun _ _ => rfl) p hp rfl (by simp)
    have h2 : ps.filter (fun _ => true) = ps := List.filter_eq_self.2 (by simp)
    rw [h2] at h1
    exact h1
  have hall : ∀ v : Nat, 1 ≤ v → v ≤ N → Conn (Wo ps p) 1 v := by
    intro v h1 h2
    refine conn_ind (P := fun v => Conn (Wo ps p) 1 v) (Conn.rf _ _) ?_ _ (hc v h1 h2)
    rintro u v _ hu ⟨e, he, hj⟩
    by_cases hep : e = p
    · subst hep
      rcases hj with ⟨a, b⟩ | ⟨a, b⟩
      · rw [← a] at hu; rw [← b]; exact hu.tr hcon
      · rw [← a] at hu; rw [← b]; exact hu.tr hcon.sy
    · exact hu.step ⟨e, mem_Wo.2 ⟨he, hep⟩, hj⟩
  have h1 := hg.1
  have := conn_need (by omega) hall
  omega
end Go.Proofs.Ytlkomipjamelkab.P2
