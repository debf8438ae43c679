/- Plain facts on what the model's search of a network gathers, no program in them. No conditions. -/
import Derived.Test.YtlkomipjamelkabPutOne
import Derived.Test.YtlkomipjamelkabConOne
namespace Go.Proofs.Ytlkomipjamelkab.S2
open Go.RowKit P2

theorem sorted_len : ∀ (l : List Int) (a n : Int), l.Pairwise (· < ·) → (∀ y, y ∈ l → a < y ∧ y ≤ n) → (l.length : Int) ≤ max 0 (n - a)
  | [], a, n, _, _ => by simp; omega
  | x :: t, a, n, hp, hy => by
    have h1 := List.pairwise_cons.1 hp
    have hx := hy x (by simp)
    have h2 := sorted_len t x n h1.2 (fun y hm => ⟨h1.1 y hm, (hy y (by simp [hm])).2⟩)
    simp only [List.length_cons]
    omega
theorem sorted_ext : ∀ (l m : List Int), l.Pairwise (· < ·) → m.Pairwise (· < ·) → (∀ y, y ∈ l ↔ y ∈ m) → l = m
  | [], [], _, _, _ => rfl
  | [], y :: m, _, _, h => by have := (h y).2 (by simp); simp at this
  | x :: l, [], _, _, h => by have := (h x).1 (by simp); simp at this
  | x :: l, y :: m, hl, hm, h => by
    have h1 := List.pairwise_cons.1 hl
    have h2 := List.pairwise_cons.1 hm
    have hxy : x = y := by
      have a := (h x).1 (by simp)
      have b := (h y).2 (by simp)
      rcases List.mem_cons.1 a with a | a
      · exact a
      · rcases List.mem_cons.1 b with b | b
        · exact b.symm
        · have := h2.1 x a
          have := h1.1 y b
          omega
    subst hxy
    rw [sorted_ext l m h1.2 h2.2 fun z => ?_]
    constructor
    · intro hz
      have := h1.1 z hz
      rcases List.mem_cons.1 ((h z).1 (by simp [hz])) with e | e
      · omega
      · exact e
    · intro hz
      have := h2.1 z hz
      rcases List.mem_cons.1 ((h z).2 (by simp [hz])) with e | e
      · omega
      · exact e

/-- What has been gathered. -/
structure Ga (n : Nat) (ps : List Pp) (t : Int) (r : List Int) : Prop where
  sorted : r.Pairwise (· < ·)
  has : t ∈ r
  conn : ∀ y, y ∈ r → 1 ≤ y ∧ y ≤ n ∧ Conn ps y t
theorem Ga.start (n : Nat) (ps : List Pp) (t : Int) (h1 : 1 ≤ t) (h2 : t ≤ n) : Ga n ps t [t] :=
  ⟨List.pairwise_singleton _ _, by simp, fun y hy => by
    have e : y = t := by simpa using hy
    subst e; exact ⟨h1, h2, 0, rfl⟩⟩
theorem Ga.len {n : Nat} {ps : List Pp} {t : Int} {r : List Int} (g : Ga n ps t r) : r.length ≤ n := by
  have := sorted_len r 0 n g.sorted (fun y hy => by have := g.conn y hy; omega)
  omega
theorem Ga.more {n : Nat} {ps : List Pp} {t : Int} {r r1 r2 : List Int} {p : Pp} (g : Ga n ps t r) (hp : p ∈ ps) (hok : PpOk n p) (h1 : PutOk r p.fr r1) (h2 : PutOk r1 p.to r2) (hne : hasB r p.fr ≠ hasB r p.to) : Ga n ps t r2 ∧ r.length < r2.length := by
  have hfr : 1 ≤ p.fr ∧ p.fr ≤ n := ⟨hok.2.2.1, hok.2.2.2.1⟩
  have hto : 1 ≤ p.to ∧ p.to ≤ n := ⟨hok.2.2.2.2.1, hok.2.2.2.2.2.1⟩
  have hadj : Adj ps p.fr p.to := ⟨p, hp, .inl ⟨rfl, rfl⟩⟩
  have both : Conn ps p.fr t ∧ Conn ps p.to t := by
    by_cases ha : p.fr ∈ r
    · obtain ⟨_, _, k, hk⟩ := g.conn _ ha
      exact ⟨⟨k, hk⟩, ⟨k + 1, p.fr, hadj.symm, hk⟩⟩
    · have hb : p.to ∈ r := Classical.byContradiction fun hb => hne (by simp [hasB, ha, hb])
      obtain ⟨_, _, k, hk⟩ := g.conn _ hb
      exact ⟨⟨k + 1, p.to, hadj, hk⟩, ⟨k, hk⟩⟩
  refine ⟨⟨h2.1 (h1.1 g.sorted), (h2.2.1 t).2 (.inl ((h1.2.1 t).2 (.inl g.has))), fun y hy => ?_⟩, ?_⟩
  · rcases (h2.2.1 y).1 hy with hy | hy
    · rcases (h1.2.1 y).1 hy with hy | hy
      · exact g.conn y hy
      · rw [hy]; exact ⟨hfr.1, hfr.2, both.1⟩
    · rw [hy]; exact ⟨hto.1, hto.2, both.2⟩
  · by_cases ha : p.fr ∈ r
    · have hb : p.to ∉ r := fun hb => hne (by simp [hasB, ha, hb])
      have e1 := h1.2.2.2 ha
      subst e1
      have := h2.2.2.1 hb
      omega
    · have l1 := h1.2.2.1 ha
      by_cases hb : p.to ∈ r1
      · rw [h2.2.2.2 hb]; omega
      · have := h2.2.2.1 hb; omega
/-- Every pipe has both ends in the list, or none. -/
def Cl (ps : List Pp) (r : List Int) (k : Nat) : Prop := ∀ j, j < k → j < ps.length → hasB r (pAt ps j).fr = hasB r (pAt ps j).to
theorem Ga.all {n : Nat} {ps : List Pp} {t : Int} {r : List Int} (g : Ga n ps t r) (hc : Cl ps r ps.length) : r = conL n ps t := by
  have step : ∀ a b, Adj ps a b → a ∈ r → b ∈ r := by
    rintro a b ⟨p, hp, hj⟩ ha
    obtain ⟨i, hi⟩ := List.getElem?_of_mem hp
    have hlt : i < ps.length := (List.getElem?_eq_some_iff.1 hi).1
    have e : pAt ps i = p := by simp [pAt, List.getD, hi]
    have h1 := hc i hlt hlt
    rw [e] at h1
    have h2 : (p.fr ∈ r ↔ p.to ∈ r) := by simpa [hasB] using h1
    rcases hj with ⟨h3, h4⟩ | ⟨h3, h4⟩
    · rw [← h4]; rw [← h3] at ha; exact h2.1 ha
    · rw [← h4]; rw [← h3] at ha; exact h2.2 ha
  have path : ∀ (k : Nat) (a : Int), Path ps k t a → a ∈ r := by
    intro k
    induction k with
    | zero => intro a h; rw [← (show t = a from h)]; exact g.has
    | succ k ih =>
      intro a h
      have h' := h.symm
      obtain ⟨c, hj, hp⟩ := h'
      exact step c a hj.symm (ih c hp.symm)
  have hmem : ∀ y, y ∈ conL n ps t ↔ 1 ≤ y ∧ y ≤ n ∧ Conn ps y t := by
    intro y
    unfold conL conTo
    rw [List.mem_map]
    constructor
    · rintro ⟨v, hv, rfl⟩
      obtain ⟨hv1, hv2⟩ := List.mem_filter.1 hv
      have hvn : v ≤ n := by have := List.mem_range.1 hv1; omega
      have hv0 : v ≠ 0 := by
        intro e
        rw [e, distL_zero] at hv2
        simp at hv2
      rw [distL_at n ps t v hvn hv0] at hv2
      exact ⟨by omega, by omega, dist_conn.1 (by simpa using hv2)⟩
    · rintro ⟨h1, h2, h3⟩
      refine ⟨y.toNat, List.mem_filter.2 ⟨List.mem_range.2 (by omega), ?_⟩, by omega⟩
      rw [distL_at n ps t _ (by omega) (by omega), Int.toNat_of_nonneg (by omega)]
      simpa using dist_conn.2 h3
  have hsort : (conL n ps t).Pairwise (· < ·) := by
    unfold conL conTo
    rw [List.pairwise_map]
    refine (List.pairwise_lt_range.sublist List.filter_sublist).imp ?_
    intro a b h
    omega
  refine sorted_ext r _ g.sorted hsort fun y => ?_
  rw [hmem]
  constructor
  · exact g.conn y
  · rintro ⟨_, _, k, hk⟩
    exact path k y hk.symm
end Go.Proofs.Ytlkomipjamelkab.S2
