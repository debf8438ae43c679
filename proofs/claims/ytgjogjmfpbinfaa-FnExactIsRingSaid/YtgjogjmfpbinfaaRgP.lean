/- Plain facts on rings (chapter 10): the pipes that are no bridges are one loop, and the way around it; no program in them. Conditions: each theorem's own premises. -/
import Derived.Test.YtgjogjmfpbinfaaTflS
import Derived.Test.YtgjogjmfpbinfaaBrOne
namespace Go.Proofs.Ytgjogjmfpbinfaa.S2
open Go.RowKit P2

/-- A ring: as many pipes as nodes, all connected. -/
noncomputable def ringB (N : Nat) (ps : List Pp) : Bool := decide (ps.length = N) && decide ((conL N ps 1).length = N)

theorem brB_true {ps : List Pp} {i : Nat} : brB ps i = true ↔ ¬ Conn (wo ps i) (pAt ps i).fr (pAt ps i).to := by
  unfold brB
  rw [decide_eq_true_iff]
  constructor
  · intro h hc; exact (dist_conn.2 hc.sy) h
  · intro h; exact Classical.byContradiction fun hd => h (dist_conn.1 hd).sy
theorem brB_false {ps : List Pp} {i : Nat} : brB ps i = false ↔ Conn (wo ps i) (pAt ps i).fr (pAt ps i).to := by
  rw [← Bool.not_eq_true, brB_true, Classical.not_not]

/-- A way from one node to another, pipe by pipe, each nearer to its end. -/
structure Wy (qs : List Pp) (t : Int) (K : Nat) (e : Nat → Pp) (v : Nat → Int) : Prop where
  mem : ∀ j, j < K → e j ∈ qs
  jn : ∀ j, j < K → Jn (e j) (v j) (v (j + 1))
  far : ∀ j, j ≤ K → dist qs t (v j) = ((K - j : Nat) : Int)

theorem Wy.inj {qs : List Pp} {t : Int} {K : Nat} {e : Nat → Pp} {v : Nat → Int} (h : Wy qs t K e v) {i j : Nat} (hi : i ≤ K) (hj : j ≤ K) (he : v i = v j) : i = j := by
  have a := h.far i hi
  have b := h.far j hj
  rw [he] at a
  omega
theorem Wy.last {qs : List Pp} {t : Int} {K : Nat} {e : Nat → Pp} {v : Nat → Int} (h : Wy qs t K e v) : v K = t :=
  dist_zero (by rw [h.far K (Nat.le_refl _)]; simp)
theorem Wy.tch {qs : List Pp} {t : Int} {K : Nat} {e : Nat → Pp} {v : Nat → Int} (h : Wy qs t K e v) {i j : Nat} (hi : i < K) (hj : j ≤ K) (ht : Tch (e i) (v j)) : j = i ∨ j = i + 1 := by
  rcases jn_one (h.jn i hi) ht with e | e
  · exact .inl (h.inj hj (by omega) e)
  · exact .inr (h.inj hj (by omega) e)
theorem Wy.einj {qs : List Pp} {t : Int} {K : Nat} {e : Nat → Pp} {v : Nat → Int} (h : Wy qs t K e v) {i j : Nat} (hi : i < K) (hj : j < K) (he : e i = e j) : i = j := by
  have a := jn_tch (h.jn j hj)
  rw [← he] at a
  have b := h.tch hi (by omega) a.1
  have c := h.tch hi (by omega) a.2
  omega
/-- Two nodes of the way are connected without a pipe that is none of those between them. -/
theorem Wy.conn {qs : List Pp} {t : Int} {K : Nat} {e : Nat → Pp} {v : Nat → Int} (h : Wy qs t K e v) {rs : List Pp} {i : Nat} : ∀ d, i + d ≤ K → (∀ j, i ≤ j → j < i + d → e j ∈ rs) → Conn rs (v i) (v (i + d)) := by
  intro d
  induction d with
  | zero => intro _ _; exact Conn.rf _ _
  | succ d ih =>
    intro hd hm
    exact (ih (by omega) fun j h1 h2 => hm j h1 (by omega)).step ⟨e (i + d), hm _ (by omega) (by omega), h.jn (i + d) (by omega)⟩

/-- The loop of a ring: a first pipe, the last one that is no bridge being told by the way back. -/
structure Lp (N : Nat) (ps : List Pp) (i0 K : Nat) (e : Nat → Pp) (v : Nat → Int) : Prop where
  good : P2.Good N ps
  lt : i0 < ps.length
  acy : Acy (wo ps i0)
  wy : Wy (wo ps i0) (pAt ps i0).fr K e v
  st : v 0 = (pAt ps i0).to

theorem Lp.ne {N : Nat} {ps : List Pp} {i0 K : Nat} {e : Nat → Pp} {v : Nat → Int} (h : Lp N ps i0 K e v) {j : Nat} (hj : j < K) : e j ∈ ps ∧ e j ≠ pAt ps i0 := mem_Wo.1 ((wo_mem h.good h.lt).1 (h.wy.mem j hj))
/-- A pipe is no bridge exactly if it is the first one or one of the way. -/
theorem Lp.cyc {N : Nat} {ps : List Pp} {i0 K : Nat} {e : Nat → Pp} {v : Nat → Int} (h : Lp N ps i0 K e v) {i : Nat} (hi : i < ps.length) : brB ps i = false ↔ i = i0 ∨ ∃ j, j < K ∧ e j = pAt ps i := by
  have hK := h.wy.last
  rw [brB_false]
  constructor
  · intro hc
    refine Classical.byContradiction fun hn => ?_
    have hi0 : i ≠ i0 := fun x => hn (.inl x)
    have hne : pAt ps i ≠ pAt ps i0 := by
      intro x
      have hids := good_ids h.good
      have h1 : ¬ i < i0 := fun y => by have := hids i i0 y h.lt; rw [x] at this; omega
      have h2 : ¬ i0 < i := fun y => by have := hids i0 i y hi; rw [x] at this; omega
      omega
    have hq : pAt ps i ∈ wo ps i0 := (wo_mem h.good h.lt).2 (mem_Wo.2 ⟨pAt_mem hi, hne⟩)
    refine h.acy _ hq (conn_ind (ps := Wo ps (pAt ps i)) (P := fun x => Conn (Wo (wo ps i0) (pAt ps i)) (pAt ps i).fr x) (Conn.rf _ _) (fun a b _ ha hab => ?_) _ ((wo_conn h.good hi).1 hc))
    obtain ⟨q, hqm, hj⟩ := hab
    obtain ⟨q1, q2⟩ := mem_Wo.1 hqm
    by_cases hq0 : q = pAt ps i0
    · subst hq0
      have hway : Conn (Wo (wo ps i0) (pAt ps i)) (v 0) (v (0 + K)) := h.wy.conn K (by omega) fun j _ hj => mem_Wo.2 ⟨h.wy.mem j (by omega), fun x => hn (.inr ⟨j, by omega, x⟩)⟩
      rw [Nat.zero_add, hK, h.st] at hway
      rcases hj with ⟨x1, x2⟩ | ⟨x1, x2⟩
      · rw [← x2]; rw [← x1] at ha; exact ha.tr hway.sy
      · rw [← x2]; rw [← x1] at ha; exact ha.tr hway
    · exact ha.step ⟨q, mem_Wo.2 ⟨(wo_mem h.good h.lt).2 (mem_Wo.2 ⟨q1, hq0⟩), q2⟩, hj⟩
  · rintro (rfl | ⟨j, hj, he⟩)
    · have hway : Conn (wo ps i) (v 0) (v (0 + K)) := h.wy.conn K (by omega) fun j _ hj => h.wy.mem j (by omega)
      rw [Nat.zero_add, hK, h.st] at hway
      exact hway.sy
    · rw [wo_conn h.good hi]
      have hin : ∀ k, k < K → k ≠ j → e k ∈ Wo ps (pAt ps i) := fun k hk hkj => mem_Wo.2 ⟨(h.ne hk).1, fun x => hkj (h.wy.einj hk hj (by rw [x, he]))⟩
      have h1 : Conn (Wo ps (pAt ps i)) (v 0) (v (0 + j)) := h.wy.conn j (by omega) fun k _ hk => hin k (by omega) (by omega)
      have h2 : Conn (Wo ps (pAt ps i)) (v (j + 1)) (v (j + 1 + (K - (j + 1)))) := h.wy.conn _ (by omega) fun k hk hk2 => hin k (by omega) (by omega)
      rw [show j + 1 + (K - (j + 1)) = K by omega, hK] at h2
      rw [Nat.zero_add, h.st] at h1
      have h0 : Adj (Wo ps (pAt ps i)) (pAt ps i0).fr (pAt ps i0).to := ⟨pAt ps i0, mem_Wo.2 ⟨pAt_mem h.lt, fun x => (h.ne hj).2 (by rw [he, ← x])⟩, .inl ⟨rfl, rfl⟩⟩
      have h3 : Conn (Wo ps (pAt ps i)) (v (j + 1)) (v j) := (h2.step h0).tr h1
      rw [← he] at h3 ⊢
      rcases h.wy.jn j hj with ⟨x1, x2⟩ | ⟨x1, x2⟩
      · rw [x1, x2]; exact h3.sy
      · rw [x1, x2]; exact h3

/-! ### The signs -/
/-- The place of the k-th pipe of the way. -/
noncomputable def ix (ps : List Pp) (p : Pp) : Nat := plc ps p.id
theorem ix_at {n : Int} {ps : List Pp} (hg : P2.Good n ps) {i : Nat} (hi : i < ps.length) : ix ps (pAt ps i) = i := (plc_at hg hi).1
theorem ix_in {n : Int} {ps : List Pp} (hg : P2.Good n ps) {p : Pp} (hp : p ∈ ps) : ix ps p < ps.length ∧ pAt ps (ix ps p) = p := by
  obtain ⟨i, hi, rfl⟩ := pp_at hp
  rw [ix_at hg hi]
  exact ⟨hi, rfl⟩
def sgn (p : Pp) (a : Int) : Int := if p.fr = a then 1 else -1
theorem sgn_ne (p : Pp) (a : Int) : sgn p a ≠ 0 := by unfold sgn; split <;> decide
theorem sgn_in (p : Pp) (a : Int) : sgn p a = 1 ∨ sgn p a = -1 := by unfold sgn; split <;> simp
/-- The signs after the first pipe and k pipes of the way. -/
noncomputable def sgA (ps : List Pp) (i0 : Nat) (e : Nat → Pp) (v : Nat → Int) : Nat → List Int
  | 0 => (List.replicate ps.length 0).set i0 1
  | k + 1 => (sgA ps i0 e v k).set (ix ps (e k)) (sgn (e k) (v k))
theorem sgA_len (ps : List Pp) (i0 : Nat) (e : Nat → Pp) (v : Nat → Int) : ∀ k, (sgA ps i0 e v k).length = ps.length
  | 0 => by simp [sgA]
  | k + 1 => by simp [sgA, sgA_len ps i0 e v k]
theorem sgA_in (ps : List Pp) (i0 : Nat) (e : Nat → Pp) (v : Nat → Int) : ∀ k i, (sgA ps i0 e v k).getD i 0 = 0 ∨ (sgA ps i0 e v k).getD i 0 = 1 ∨ (sgA ps i0 e v k).getD i 0 = -1
  | 0, i => by
    by_cases h : i0 = i
    · subst h
      by_cases hl : i0 < ps.length
      · right; left; simp [sgA, List.getD, hl]
      · left; simp [sgA, List.getD, hl]
    · left
      simp only [sgA, List.getD]
      rw [List.getElem?_set_ne h]
      by_cases hl : i < ps.length
      · simp [hl]
      · simp [hl]
  | k + 1, i => by
    by_cases h : ix ps (e k) = i
    · subst h
      by_cases hl : ix ps (e k) < (sgA ps i0 e v k).length
      · rcases sgn_in (e k) (v k) with x | x
        · right; left; simp [sgA, List.getD, hl, x]
        · right; right; simp [sgA, List.getD, hl, x]
      · left; simp [sgA, List.getD, hl]
    · have := sgA_in ps i0 e v k i
      simp only [sgA, List.getD] at this ⊢
      rw [List.getElem?_set_ne h]
      exact this
/-- Where a sign stands. -/
theorem Lp.marked {N : Nat} {ps : List Pp} {i0 K : Nat} {e : Nat → Pp} {v : Nat → Int} (h : Lp N ps i0 K e v) : ∀ k, k ≤ K → ∀ i, i < ps.length → ((sgA ps i0 e v k).getD i 0 ≠ 0 ↔ i = i0 ∨ ∃ j, j < k ∧ e j = pAt ps i) := by
  intro k
  induction k with
  | zero =>
    intro _ i hi
    constructor
    · intro hn
      refine .inl (Classical.byContradiction fun x => hn ?_)
      simp only [sgA, List.getD]
      rw [List.getElem?_set_ne (fun y => x y.symm)]
      simp [hi]
    · rintro (rfl | ⟨j, hj, _⟩)
      · simp [sgA, List.getD, hi]
      · omega
  | succ k ih =>
    intro hk i hi
    have hek := ix_in h.good (h.ne (j := k) (by omega)).1
    by_cases hx : ix ps (e k) = i
    · have he : e k = pAt ps i := by rw [← hx]; exact hek.2.symm
      constructor
      · intro _; exact .inr ⟨k, by omega, he⟩
      · intro _
        subst hx
        have hl : ix ps (e k) < (sgA ps i0 e v k).length := by rw [sgA_len]; exact hi
        simp only [sgA, List.getD]
        rw [List.getElem?_set_self hl]
        exact sgn_ne _ _
    · have e1 : (sgA ps i0 e v (k + 1)).getD i 0 = (sgA ps i0 e v k).getD i 0 := by
        simp only [sgA, List.getD]
        rw [List.getElem?_set_ne hx]
      rw [e1, ih (by omega) i hi]
      constructor
      · rintro (x | ⟨j, hj, x⟩)
        · exact .inl x
        · exact .inr ⟨j, by omega, x⟩
      · rintro (x | ⟨j, hj, x⟩)
        · exact .inl x
        · refine .inr ⟨j, ?_, x⟩
          have : j ≠ k := fun y => hx (by rw [← y, x]; exact ix_at h.good hi)
          omega
/-- What leads on from where one stands: the next pipe of the way and no other. -/
theorem Lp.next {N : Nat} {ps : List Pp} {i0 K : Nat} {e : Nat → Pp} {v : Nat → Int} (h : Lp N ps i0 K e v) {k : Nat} (hk : k ≤ K) {i : Nat} (hi : i < ps.length) :
    ((sgA ps i0 e v k).getD i 0 = 0 ∧ brB ps i = false ∧ Tch (pAt ps i) (v k)) ↔ k < K ∧ i = ix ps (e k) := by
  have hm := h.marked k hk i hi
  constructor
  · rintro ⟨h1, h2, h3⟩
    have hn : ¬ (i = i0 ∨ ∃ j, j < k ∧ e j = pAt ps i) := fun x => hm.2 x h1
    rcases (h.cyc hi).1 h2 with x | ⟨j, hj, x⟩
    · exact absurd (.inl x) hn
    · have hjk : ¬ j < k := fun y => hn (.inr ⟨j, y, x⟩)
      rw [← x] at h3
      have := h.wy.tch hj hk h3
      have e1 : j = k := by omega
      subst e1
      exact ⟨hj, by rw [x, ix_at h.good hi]⟩
  · rintro ⟨hlt, rfl⟩
    have hek := ix_in h.good (h.ne (j := k) hlt).1
    refine ⟨Classical.byContradiction fun x => ?_, (h.cyc hi).2 (.inr ⟨k, hlt, hek.2.symm⟩), by rw [hek.2]; exact (jn_tch (h.wy.jn k hlt)).1⟩
    rcases hm.1 x with y | ⟨j, hj, y⟩
    · exact (h.ne hlt).2 (by rw [← y]; exact hek.2.symm)
    · have := h.wy.einj (i := j) (j := k) (by omega) hlt (by rw [y, hek.2])
      omega
/-- Where one stands behind the next pipe. -/
theorem Lp.step {N : Nat} {ps : List Pp} {i0 K : Nat} {e : Nat → Pp} {v : Nat → Int} (h : Lp N ps i0 K e v) {k : Nat} (hk : k < K) : oth (e k) (v k) = v (k + 1) ∧ Tch (e k) (v k) ∧ (e k).fr ≠ (e k).to := by
  have hok := good_pp h.good (h.ne hk).1
  exact ⟨(jn_oth hok (h.wy.jn k hk)).1, (jn_tch (h.wy.jn k hk)).1, hok.2.2.2.2.2.2.1⟩

/-! ### A ring has a loop -/
/-- The first pipe that is no bridge. -/
theorem first_ex {N : Nat} {ps : List Pp} (hg : P2.Good N ps) (hl : ps.length = N) : ∃ i, i < ps.length ∧ brB ps i = false ∧ ∀ j, j < i → brB ps j = true := by
  have hN : 1 ≤ N := by have := hg.1; omega
  have hx : ∃ i, i < ps.length ∧ brB ps i = false := by
    refine Classical.byContradiction fun hn => ?_
    have hall : ∀ k, k ≤ ps.length → spT ps k = ps.take k := by
      intro k
      induction k with
      | zero => intro _; rfl
      | succ k ih =>
        intro hk
        have e := ih (by omega)
        rw [take_snoc' (by omega : k < ps.length), ← e]
        refine spT_more fun hc => hn ⟨k, by omega, brB_false.2 ?_⟩
        rw [e] at hc
        refine conn_mono (fun q hq => ?_) hc
        unfold wo
        exact List.mem_append_left _ hq
    obtain ⟨f, L, _, h4, h5⟩ := labels_up hg ps.length (Nat.le_refl _)
    have h6 := List.length_pos_of_mem (h4 1 (Nat.le_refl _) hN)
    rw [hall _ (Nat.le_refl _), List.take_length] at h5
    omega
  obtain ⟨i, hi⟩ := hx
  obtain ⟨m, ⟨h1, h2⟩, h3⟩ := least_nat (fun i => i < ps.length ∧ brB ps i = false) i hi
  refine ⟨m, h1, h2, fun j hj => ?_⟩
  cases hb : brB ps j with
  | true => rfl
  | false => have := h3 j ⟨by omega, hb⟩; omega
theorem ring_full {N : Nat} {ps : List Pp} (h : ringB N ps = true) : ps.length = N ∧ (conL N ps 1).length = N := by
  simpa [ringB] using h
/-- Without the first pipe of the loop it is a tree. -/
theorem ring_tree {N : Nat} {ps : List Pp} (hg : P2.Good N ps) (hr : ringB N ps = true) {i : Nat} (hi : i < ps.length) (hb : brB ps i = false) : treeB N (wo ps i) = true := by
  obtain ⟨hl, hc⟩ := ring_full hr
  have hN : 1 ≤ N := by have := hg.1; omega
  have hall := con_full hN hc
  have hcn : ∀ a b, Conn (wo ps i) a b ↔ Conn ps a b := by
    intro a b
    constructor
    · exact conn_mono fun _ hx => (wo_sub ps i).subset hx
    · intro hab
      refine conn_ind (P := fun x => Conn (wo ps i) a x) (Conn.rf _ _) (fun x y _ hx hxy => ?_) _ hab
      obtain ⟨q, hq, hj⟩ := hxy
      by_cases e : q = pAt ps i
      · subst e
        have hw := brB_false.1 hb
        rcases hj with ⟨x1, x2⟩ | ⟨x1, x2⟩
        · rw [← x2]; rw [← x1] at hx; exact hx.tr hw
        · rw [← x2]; rw [← x1] at hx; exact hx.tr hw.sy
      · exact hx.step ⟨q, (wo_mem hg hi).2 (mem_Wo.2 ⟨hq, e⟩), hj⟩
  unfold treeB
  rw [conL_of hcn, wo_len ps i hi]
  simp [hc]
  omega
end Go.Proofs.Ytgjogjmfpbinfaa.S2
