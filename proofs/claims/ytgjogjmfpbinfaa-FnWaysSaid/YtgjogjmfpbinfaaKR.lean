/- The program's signsAround: contracts. Conditions: each theorem's own premises. -/
import Derived.Test.YtgjogjmfpbinfaaKT
import Derived.Test.YtgjogjmfpbinfaaKW
import Derived.Test.YtgjogjmfpbinfaaKQ
import Derived.Test.YtgjogjmfpbinfaaKV
import Derived.Test.YtgjogjmfpbinfaaKB
import Derived.Deep.DeepCutAuto
import Derived.WalkMore
import Derived.ScopeJumps
namespace Go.Proofs.Ytgjogjmfpbinfaa.S2
open Go.RowKit P2

/-- A ring: as many pipes as nodes, all connected. -/
noncomputable def ringB (N : Nat) (ps : List Pp) : Bool := decide (ps.length = N) && decide ((conL N ps 1).length = N)

theorem brB_true {ps : List Pp} {i : Nat} : brB ps i = true ↔ ¬ Conn (wo ps i) (pAt ps i).fr (pAt ps i).to := by
  unfold brB
  rw [decide_eq_true_iff]
  constructor
  · intro h hc; exact (dist_conn.2 hc.sy) h
  · intro h; exact Classical.byContradiction fun hd => h (dist_conn.1 hd).sy
theorem brB_false {ps : List Pp} {i : Nat} : brB ps i = false ↔ Conn (wo ps i) (pAt ps i).fr (pAt ps i).to := by
  rw [← Bool.not_eq_true, brB_true, Classical.not_not]

/-- A way from one node to another, pipe by pipe, each nearer to its end. -/
structure Wy (qs : List Pp) (t : Int) (K : Nat) (e : Nat → Pp) (v : Nat → Int) : Prop where
  mem : ∀ j, j < K → e j ∈ qs
  jn : ∀ j, j < K → Jn (e j) (v j) (v (j + 1))
  far : ∀ j, j ≤ K → dist qs t (v j) = ((K - j : Nat) : Int)

theorem Wy.inj {qs : List Pp} {t : Int} {K : Nat} {e : Nat → Pp} {v : Nat → Int} (h : Wy qs t K e v) {i j : Nat} (hi : i ≤ K) (hj : j ≤ K) (he : v i = v j) : i = j := by
  have a := h.far i hi
  have b := h.far j hj
  rw [he] at a
  omega
theorem Wy.last {qs : List Pp} {t : Int} {K : Nat} {e : Nat → Pp} {v : Nat → Int} (h : Wy qs t K e v) : v K = t :=
  dist_zero (by rw [h.far K (Nat.le_refl _)]; simp)
theorem Wy.tch {qs : List Pp} {t : Int} {K : Nat} {e : Nat → Pp} {v : Nat → Int} (h : Wy qs t K e v) {i j : Nat} (hi : i < K) (hj : j ≤ K) (ht : Tch (e i) (v j)) : j = i ∨ j = i + 1 := by
  rcases jn_one (h.jn i hi) ht with e | e
  · exact .inl (h.inj hj (by omega) e)
  · exact .inr (h.inj hj (by omega) e)
theorem Wy.einj {qs : List Pp} {t : Int} {K : Nat} {e : Nat → Pp} {v : Nat → Int} (h : Wy qs t K e v) {i j : Nat} (hi : i < K) (hj : j < K) (he : e i = e j) : i = j := by
  have a := jn_tch (h.jn j hj)
  rw [← he] at a
  have b := h.tch hi (by omega) a.1
  have c := h.tch hi (by omega) a.2
  omega
/-- Two nodes of the way are connected without a pipe that is none of those between them. -/
theorem Wy.conn {qs : List Pp} {t : Int} {K : Nat} {e : Nat → Pp} {v : Nat → Int} (h : Wy qs t K e v) {rs : List Pp} {i : Nat} : ∀ d, i + d ≤ K → (∀ j, i ≤ j → j < i + d → e j ∈ rs) → Conn rs (v i) (v (i + d)) := by
  intro d
  induction d with
  | zero => intro _ _; exact Conn.rf _ _
  | succ d ih =>
    intro hd hm
    exact (ih (by omega) fun j h1 h2 => hm j h1 (by omega)).step ⟨e (i + d), hm _ (by omega) (by omega), h.jn (i + d) (by omega)⟩

/-- The loop of a ring: a first pipe, the last one that is no bridge being told by the way back. -/
structure Lp (N : Nat) (ps : List Pp) (i0 K : Nat) (e : Nat → Pp) (v : Nat → Int) : Prop where
  good : P2.Good N ps
  lt : i0 < ps.length
  acy : Acy (wo ps i0)
  wy : Wy (wo ps i0) (pAt ps i0).fr K e v
  st : v 0 = (pAt ps i0).to

theorem Lp.ne {N : Nat} {ps : List Pp} {i0 K : Nat} {e : Nat → Pp} {v : Nat → Int} (h : Lp N ps i0 K e v) {j : Nat} (hj : j < K) : e j ∈ ps ∧ e j ≠ pAt ps i0 := mem_Wo.1 ((wo_mem h.good h.lt).1 (h.wy.mem j hj))
/-- A pipe is no bridge exactly if it is the first one or one of the way. -/
theorem Lp.cyc {N : Nat} {ps : List Pp} {i0 K : Nat} {e : Nat → Pp} {v : Nat → Int} (h : Lp N ps i0 K e v) {i : Nat} (hi : i < ps.length) : brB ps i = false ↔ i = i0 ∨ ∃ j, j < K ∧ e j = pAt ps i := by
  have hK := h.wy.last
  rw [brB_false]
  constructor
  · intro hc
    refine Classical.byContradiction fun hn => ?_
    have hi0 : i ≠ i0 := fun x => hn (.inl x)
    have hne : pAt ps i ≠ pAt ps i0 := by
      intro x
      have hids := good_ids h.good
      have h1 : ¬ i < i0 := fun y => by have := hids i i0 y h.lt; rw [x] at this; omega
      have h2 : ¬ i0 < i := fun y => by have := hids i0 i y hi; rw [x] at this; omega
      omega
    have hq : pAt ps i ∈ wo ps i0 := (wo_mem h.good h.lt).2 (mem_Wo.2 ⟨pAt_mem hi, hne⟩)
    refine h.acy _ hq (conn_ind (ps := Wo ps (pAt ps i)) (P := fun x => Conn (Wo (wo ps i0) (pAt ps i)) (pAt ps i).fr x) (Conn.rf _ _) (fun a b _ ha hab => ?_) _ ((wo_conn h.good hi).1 hc))
    obtain ⟨q, hqm, hj⟩ := hab
    obtain ⟨q1, q2⟩ := mem_Wo.1 hqm
    by_cases hq0 : q = pAt ps i0
    · subst hq0
      have hway : Conn (Wo (wo ps i0) (pAt ps i)) (v 0) (v (0 + K)) := h.wy.conn K (by omega) fun j _ hj => mem_Wo.2 ⟨h.wy.mem j (by omega), fun x => hn (.inr ⟨j, by omega, x⟩)⟩
      rw [Nat.zero_add, hK, h.st] at hway
      rcases hj with ⟨x1, x2⟩ | ⟨x1, x2⟩
      · rw [← x2]; rw [← x1] at ha; exact ha.tr hway.sy
      · rw [← x2]; rw [← x1] at ha; exact ha.tr hway
    · exact ha.step ⟨q, mem_Wo.2 ⟨(wo_mem h.good h.lt).2 (mem_Wo.2 ⟨q1, hq0⟩), q2⟩, hj⟩
  · rintro (rfl | ⟨j, hj, he⟩)
    · have hway : Conn (wo ps i) (v 0) (v (0 + K)) := h.wy.conn K (by omega) fun j _ hj => h.wy.mem j (by omega)
      rw [Nat.zero_add, hK, h.st] at hway
      exact hway.sy
    · rw [wo_conn h.good hi]
      have hin : ∀ k, k < K → k ≠ j → e k ∈ Wo ps (pAt ps i) := fun k hk hkj => mem_Wo.2 ⟨(h.ne hk).1, fun x => hkj (h.wy.einj hk hj (by rw [x, he]))⟩
      have h1 : Conn (Wo ps (pAt ps i)) (v 0) (v (0 + j)) := h.wy.conn j (by omega) fun k _ hk => hin k (by omega) (by omega)
      have h2 : Conn (Wo ps (pAt ps i)) (v (j + 1)) (v (j + 1 + (K - (j + 1)))) := h.wy.conn _ (by omega) fun k hk hk2 => hin k (by omega) (by omega)
      rw [show j + 1 + (K - (j + 1)) = K by omega, hK] at h2
      rw [Nat.zero_add, h.st] at h1
      have h0 : Adj (Wo ps (pAt ps i)) (pAt ps i0).fr (pAt ps i0).to := ⟨pAt ps i0, mem_Wo.2 ⟨pAt_mem h.lt, fun x => (h.ne hj).2 (by rw [he, ← x])⟩, .inl ⟨rfl, rfl⟩⟩
      have h3 : Conn (Wo ps (pAt ps i)) (v (j + 1)) (v j) := (h2.step h0).tr h1
      rw [← he] at h3 ⊢
      rcases h.wy.jn j hj with ⟨x1, x2⟩ | ⟨x1, x2⟩
      · rw [x1, x2]; exact h3.sy
      · rw [x1, x2]; exact h3

/-! ### The signs -/
/-- The place of the k-th pipe of the way. -/
noncomputable def ix (ps : List Pp) (p : Pp) : Nat := plc ps p.id
theorem ix_at {n : Int} {ps : List Pp} (hg : P2.Good n ps) {i : Nat} (hi : i < ps.length) : ix ps (pAt ps i) = i := (plc_at hg hi).1
theorem ix_in {n : Int} {ps : List Pp} (hg : P2.Good n ps) {p : Pp} (hp : p ∈ ps) : ix ps p < ps.length ∧ pAt ps (ix ps p) = p := by
  obtain ⟨i, hi, rfl⟩ := pp_at hp
  rw [ix_at hg hi]
  exact ⟨hi, rfl⟩
def sgn (p : Pp) (a : Int) : Int := if p.fr = a then 1 else -1
theorem sgn_ne (p : Pp) (a : Int) : sgn p a ≠ 0 := by unfold sgn; split <;> decide
theorem sgn_in (p : Pp) (a : Int) : sgn p a = 1 ∨ sgn p a = -1 := by unfold sgn; split <;> simp
/-- The signs after the first pipe and k pipes of the way. -/
noncomputable def sgA (ps : List Pp) (i0 : Nat) (e : Nat → Pp) (v : Nat → Int) : Nat → List Int
  | 0 => (List.replicate ps.length 0).set i0 1
  | k + 1 => (sgA ps i0 e v k).set (ix ps (e k)) (sgn (e k) (v k))
theorem sgA_len (ps : List Pp) (i0 : Nat) (e : Nat → Pp) (v : Nat → Int) : ∀ k, (sgA ps i0 e v k).length = ps.length
  | 0 => by simp [sgA]
  | k + 1 => by simp [sgA, sgA_len ps i0 e v k]
theorem sgA_in (ps : List Pp) (i0 : Nat) (e : Nat → Pp) (v : Nat → Int) : ∀ k i, (sgA ps i0 e v k).getD i 0 = 0 ∨ (sgA ps i0 e v k).getD i 0 = 1 ∨ (sgA ps i0 e v k).getD i 0 = -1
  | 0, i => by
    by_cases h : i0 = i
    · subst h
      by_cases hl : i0 < ps.length
      · right; left; simp [sgA, List.getD, hl]
      · left; simp [sgA, List.getD, hl]
    · left
      simp only [sgA, List.getD]
      rw [List.getElem?_set_ne h]
      by_cases hl : i < ps.length
      · simp [hl]
      · simp [hl]
  | k + 1, i => by
    by_cases h : ix ps (e k) = i
    · subst h
      by_cases hl : ix ps (e k) < (sgA ps i0 e v k).length
      · rcases sgn_in (e k) (v k) with x | x
        · right; left; simp [sgA, List.getD, hl, x]
        · right; right; simp [sgA, List.getD, hl, x]
      · left; simp [sgA, List.getD, hl]
    · have := sgA_in ps i0 e v k i
      simp only [sgA, List.getD] at this ⊢
      rw [List.getElem?_set_ne h]
      exact this
/-- Where a sign stands. -/
theorem Lp.marked {N : Nat} {ps : List Pp} {i0 K : Nat} {e : Nat → Pp} {v : Nat → Int} (h : Lp N ps i0 K e v) : ∀ k, k ≤ K → ∀ i, i < ps.length → ((sgA ps i0 e v k).getD i 0 ≠ 0 ↔ i = i0 ∨ ∃ j, j < k ∧ e j = pAt ps i) := by
  intro k
  induction k with
  | zero =>
    intro _ i hi
    constructor
    · intro hn
      refine .inl (Classical.byContradiction fun x => hn ?_)
      simp only [sgA, List.getD]
      rw [List.getElem?_set_ne (fun y => x y.symm)]
      simp [hi]
    · rintro (rfl | ⟨j, hj, _⟩)
      · simp [sgA, List.getD, hi]
      · omega
  | succ k ih =>
    intro hk i hi
    have hek := ix_in h.good (h.ne (j := k) (by omega)).1
    by_cases hx : ix ps (e k) = i
    · have he : e k = pAt ps i := by rw [← hx]; exact hek.2.symm
      constructor
      · intro _; exact .inr ⟨k, by omega, he⟩
      · intro _
        subst hx
        have hl : ix ps (e k) < (sgA ps i0 e v k).length := by rw [sgA_len]; exact hi
        simp only [sgA, List.getD]
        rw [List.getElem?_set_self hl]
        exact sgn_ne _ _
    · have e1 : (sgA ps i0 e v (k + 1)).getD i 0 = (sgA ps i0 e v k).getD i 0 := by
        simp only [sgA, List.getD]
        rw [List.getElem?_set_ne hx]
      rw [e1, ih (by omega) i hi]
      constructor
      · rintro (x | ⟨j, hj, x⟩)
        · exact .inl x
        · exact .inr ⟨j, by omega, x⟩
      · rintro (x | ⟨j, hj, x⟩)
        · exact .inl x
        · refine .inr ⟨j, ?_, x⟩
          have : j ≠ k := fun y => hx (by rw [← y, x]; exact ix_at h.good hi)
          omega
/-- What leads on from where one stands: the next pipe of the way and no other. -/
theorem Lp.next {N : Nat} {ps : List Pp} {i0 K : Nat} {e : Nat → Pp} {v : Nat → Int} (h : Lp N ps i0 K e v) {k : Nat} (hk : k ≤ K) {i : Nat} (hi : i < ps.length) :
    ((sgA ps i0 e v k).getD i 0 = 0 ∧ brB ps i = false ∧ Tch (pAt ps i) (v k)) ↔ k < K ∧ i = ix ps (e k) := by
  have hm := h.marked k hk i hi
  constructor
  · rintro ⟨h1, h2, h3⟩
    have hn : ¬ (i = i0 ∨ ∃ j, j < k ∧ e j = pAt ps i) := fun x => hm.2 x h1
    rcases (h.cyc hi).1 h2 with x | ⟨j, hj, x⟩
    · exact absurd (.inl x) hn
    · have hjk : ¬ j < k := fun y => hn (.inr ⟨j, y, x⟩)
      rw [← x] at h3
      have := h.wy.tch hj hk h3
      have e1 : j = k := by omega
      subst e1
      exact ⟨hj, by rw [x, ix_at h.good hi]⟩
  · rintro ⟨hlt, rfl⟩
    have hek := ix_in h.good (h.ne (j := k) hlt).1
    refine ⟨Classical.byContradiction fun x => ?_, (h.cyc hi).2 (.inr ⟨k, hlt, hek.2.symm⟩), by rw [hek.2]; exact (jn_tch (h.wy.jn k hlt)).1⟩
    rcases hm.1 x with y | ⟨j, hj, y⟩
    · exact (h.ne hlt).2 (by rw [← y]; exact hek.2.symm)
    · have := h.wy.einj (i := j) (j := k) (by omega) hlt (by rw [y, hek.2])
      omega
/-- Where one stands behind the next pipe. -/
theorem Lp.step {N : Nat} {ps : List Pp} {i0 K : Nat} {e : Nat → Pp} {v : Nat → Int} (h : Lp N ps i0 K e v) {k : Nat} (hk : k < K) : oth (e k) (v k) = v (k + 1) ∧ Tch (e k) (v k) ∧ (e k).fr ≠ (e k).to := by
  have hok := good_pp h.good (h.ne hk).1
  exact ⟨(jn_oth hok (h.wy.jn k hk)).1, (jn_tch (h.wy.jn k hk)).1, hok.2.2.2.2.2.2.1⟩

/-! ### A ring has a loop -/
/-- The first pipe that is no bridge. -/
theorem first_ex {N : Nat} {ps : List Pp} (hg : P2.Good N ps) (hl : ps.length = N) : ∃ i, i < ps.length ∧ brB ps i = false ∧ ∀ j, j < i → brB ps j = true := by
  have hN : 1 ≤ N := by have := hg.1; omega
  have hx : ∃ i, i < ps.length ∧ brB ps i = false := by
    refine Classical.byContradiction fun hn => ?_
    have hall : ∀ k, k ≤ ps.length → spT ps k = ps.take k := by
      intro k
      induction k with
      | zero => intro _; rfl
      | succ k ih =>
        intro hk
        have e := ih (by omega)
        rw [take_snoc' (by omega : k < ps.length), ← e]
        refine spT_more fun hc => hn ⟨k, by omega, brB_false.2 ?_⟩
        rw [e] at hc
        refine conn_mono (fun q hq => ?_) hc
        unfold wo
        exact List.mem_append_left _ hq
    obtain ⟨f, L, _, h4, h5⟩ := labels_up hg ps.length (Nat.le_refl _)
    have h6 := List.length_pos_of_mem (h4 1 (Nat.le_refl _) hN)
    rw [hall _ (Nat.le_refl _), List.take_length] at h5
    omega
  obtain ⟨i, hi⟩ := hx
  obtain ⟨m, ⟨h1, h2⟩, h3⟩ := least_nat (fun i => i < ps.length ∧ brB ps i = false) i hi
  refine ⟨m, h1, h2, fun j hj => ?_⟩
  cases hb : brB ps j with
  | true => rfl
  | false => have := h3 j ⟨by omega, hb⟩; omega
theorem ring_full {N : Nat} {ps : List Pp} (h : ringB N ps = true) : ps.length = N ∧ (conL N ps 1).length = N := by
  simpa [ringB] using h
/-- Without the first pipe of the loop it is a tree. -/
theorem ring_tree {N : Nat} {ps : List Pp} (hg : P2.Good N ps) (hr : ringB N ps = true) {i : Nat} (hi : i < ps.length) (hb : brB ps i = false) : treeB N (wo ps i) = true := by
  obtain ⟨hl, hc⟩ := ring_full hr
  have hN : 1 ≤ N := by have := hg.1; omega
  have hall := con_full hN hc
  have hcn : ∀ a b, Conn (wo ps i) a b ↔ Conn ps a b := by
    intro a b
    constructor
    · exact conn_mono fun _ hx => (wo_sub ps i).subset hx
    · intro hab
      refine conn_ind (P := fun x => Conn (wo ps i) a x) (Conn.rf _ _) (fun x y _ hx hxy => ?_) _ hab
      obtain ⟨q, hq, hj⟩ := hxy
      by_cases e : q = pAt ps i
      · subst e
        have hw := brB_false.1 hb
        rcases hj with ⟨x1, x2⟩ | ⟨x1, x2⟩
        · rw [← x2]; rw [← x1] at hx; exact hx.tr hw
        · rw [← x2]; rw [← x1] at hx; exact hx.tr hw.sy
      · exact hx.step ⟨q, (wo_mem hg hi).2 (mem_Wo.2 ⟨hq, e⟩), hj⟩
  unfold treeB
  rw [conL_of hcn, wo_len ps i hi]
  simp [hc]
  omega
end Go.Proofs.Ytgjogjmfpbinfaa.S2

namespace Go.Proofs.Ytgjogjmfpbinfaa.S2
open Go.RowKit P2

/-- The pipe that leads on. -/
noncomputable def eA (qs : List Pp) (t : Int) (h : Nat) : Pp := ((rowOf qs h).find? (nearB qs t h)).getD ⟨0, 0, 0, 0⟩
noncomputable def vA (qs : List Pp) (t : Int) (h : Nat) : Nat → Nat
  | 0 => h
  | k + 1 => (oth (eA qs t (vA qs t h k)) (vA qs t h k)).toNat
theorem vA_next (qs : List Pp) (t : Int) (h : Nat) : ∀ k, vA qs t h (k + 1) = vA qs t (vA qs t h 1) k
  | 0 => rfl
  | k + 1 => by rw [vA, vA_next qs t h k]; rfl
theorem eA_is {N : Nat} {qs : List Pp} (hg : P2.Good N qs) {t : Int} {h k : Nat} (hd : dist qs t h = ((k + 1 : Nat) : Int)) :
    (rowOf qs h).find? (nearB qs t h) = some (eA qs t h) ∧ eA qs t h ∈ qs ∧ Tch (eA qs t h) h ∧ dist qs t (oth (eA qs t h) h) = k ∧ 1 ≤ oth (eA qs t h) h ∧ oth (eA qs t h) h ≤ N := by
  cases hf : (rowOf qs h).find? (nearB qs t h) with
  | none =>
    exfalso
    refine near_row hg hd fun i hi => ?_
    have := List.find?_eq_none.1 hf (pAt (rowOf qs h) i) (by
      have e : pAt (rowOf qs h) i = (rowOf qs h)[i] := by simp [pAt, List.getD, hi]
      rw [e]; exact List.getElem_mem hi)
    simpa using this
  | some p =>
    have e : eA qs t h = p := by unfold eA; rw [hf]; rfl
    rw [e]
    have hm := List.mem_of_find?_eq_some hf
    have hn := List.find?_some hf
    obtain ⟨h1, h2⟩ := List.mem_filter.1 hm
    have ht : p.fr = (h : Int) ∨ p.to = (h : Int) := by simpa [touchB] using h2
    have ho := oth_in (x := (h : Int)) (good_pp hg h1)
    exact ⟨rfl, h1, ht, (near_iff hd h1 ht).1 hn, ho.1, ho.2⟩
theorem vA_far {N : Nat} {qs : List Pp} (hg : P2.Good N qs) {t : Int} {h K : Nat} (h1 : 1 ≤ h) (h2 : h ≤ N) (hd : dist qs t h = K) : ∀ k, k ≤ K → dist qs t (vA qs t h k) = ((K - k : Nat) : Int) ∧ 1 ≤ vA qs t h k ∧ vA qs t h k ≤ N := by
  intro k
  induction k with
  | zero => intro _; exact ⟨by simpa [vA] using hd, h1, h2⟩
  | succ k ih =>
    intro hk
    obtain ⟨x, y1, y2⟩ := ih (by omega)
    have hx : dist qs t (vA qs t h k) = ((K - (k + 1) + 1 : Nat) : Int) := by rw [x]; congr 1; omega
    obtain ⟨_, _, _, z, z1, z2⟩ := eA_is hg hx
    have e : ((vA qs t h (k + 1) : Nat) : Int) = oth (eA qs t (vA qs t h k)) (vA qs t h k) := by
      show (((oth (eA qs t (vA qs t h k)) (vA qs t h k)).toNat : Nat) : Int) = _
      exact Int.toNat_of_nonneg (by omega)
    rw [e]
    exact ⟨z, by omega, by omega⟩
theorem way_wy {N : Nat} {qs : List Pp} (hg : P2.Good N qs) {t : Int} {h K : Nat} (h1 : 1 ≤ h) (h2 : h ≤ N) (hd : dist qs t h = K) : Wy qs t K (fun j => eA qs t (vA qs t h j)) (fun j => (vA qs t h j : Int)) := by
  have hx : ∀ j, j < K → dist qs t (vA qs t h j) = ((K - (j + 1) + 1 : Nat) : Int) := fun j hj => by
    rw [(vA_far hg h1 h2 hd j (by omega)).1]; congr 1; omega
  refine ⟨fun j hj => (eA_is hg (hx j hj)).2.1, fun j hj => ?_, fun j hj => (vA_far hg h1 h2 hd j hj).1⟩
  obtain ⟨_, _, ht, _, z1, z2⟩ := eA_is hg (hx j hj)
  have e : ((vA qs t h (j + 1) : Nat) : Int) = oth (eA qs t (vA qs t h j)) (vA qs t h j) := by
    show (((oth (eA qs t (vA qs t h j)) (vA qs t h j)).toNat : Nat) : Int) = _
    exact Int.toNat_of_nonneg (by omega)
  show Jn (eA qs t (vA qs t h j)) (vA qs t h j : Nat) (vA qs t h (j + 1) : Nat)
  rw [e]
  exact oth_jn ht
theorem way_ids {N : Nat} {qs : List Pp} (hg : P2.Good N qs) {t : Int} : ∀ (K h : Nat), 1 ≤ h → h ≤ N → dist qs t h = K → wayL qs t K h = (List.range K).map fun j => (eA qs t (vA qs t h j)).id := by
  intro K
  induction K with
  | zero => intro h _ _ _; rfl
  | succ K ih =>
    intro h h1 h2 hd
    obtain ⟨x, _, _, z, z1, z2⟩ := eA_is hg hd
    have e3 : wayL qs t (K + 1) h = match (rowOf qs h).find? (nearB qs t h) with
      | none => []
      | some p => p.id :: wayL qs t K (oth p h).toNat := rfl
    rw [e3, x]
    show (eA qs t h).id :: wayL qs t K (oth (eA qs t h) h).toNat = _
    have e : (((oth (eA qs t h) h).toNat : Nat) : Int) = oth (eA qs t h) h := Int.toNat_of_nonneg (by omega)
    rw [ih (oth (eA qs t h) h).toNat (by omega) (by omega) (by rw [e]; exact z), List.range_succ_eq_map, List.map_cons, List.map_map]
    congr 1
    refine List.map_congr_left fun j _ => ?_
    show _ = (eA qs t (vA qs t h (j + 1))).id
    rw [vA_next]
    rfl

/-! ### The loop of a ring -/
theorem loop_ex (N : Nat) (ps : List Pp) : ∃ i0 : Nat, (P2.Good N ps ∧ ps.length = N → i0 < ps.length ∧ brB ps i0 = false ∧ ∀ j, j < i0 → brB ps j = true) := by
  by_cases h : P2.Good N ps ∧ ps.length = N
  · obtain ⟨i, hi⟩ := first_ex h.1 h.2
    exact ⟨i, fun _ => hi⟩
  · exact ⟨0, fun x => absurd x h⟩
noncomputable def fst0 (N : Nat) (ps : List Pp) : Nat := Classical.choose (loop_ex N ps)
/-- The length of the way back, its pipes and its nodes. -/
noncomputable def kW (N : Nat) (ps : List Pp) : Nat := (dist (wo ps (fst0 N ps)) (pAt ps (fst0 N ps)).fr (pAt ps (fst0 N ps)).to).toNat
noncomputable def eW (N : Nat) (ps : List Pp) (j : Nat) : Pp := eA (wo ps (fst0 N ps)) (pAt ps (fst0 N ps)).fr (vA (wo ps (fst0 N ps)) (pAt ps (fst0 N ps)).fr (pAt ps (fst0 N ps)).to.toNat j)
noncomputable def vW (N : Nat) (ps : List Pp) (j : Nat) : Int := (vA (wo ps (fst0 N ps)) (pAt ps (fst0 N ps)).fr (pAt ps (fst0 N ps)).to.toNat j : Nat)
noncomputable def sgT (N : Nat) (ps : List Pp) (k : Nat) : List Int := sgA ps (fst0 N ps) (eW N ps) (vW N ps) k
noncomputable def sgL (N : Nat) (ps : List Pp) : List Int := sgT N ps (kW N ps)
structure Rg (N : Nat) (ps : List Pp) : Prop where
  lp : Lp N ps (fst0 N ps) (kW N ps) (eW N ps) (vW N ps)
  br : brB ps (fst0 N ps) = false
  low : ∀ j, j < fst0 N ps → brB ps j = true
  tree : treeB N (wo ps (fst0 N ps)) = true
  len : ps.length = N
  dst : dist (wo ps (fst0 N ps)) (pAt ps (fst0 N ps)).fr (pAt ps (fst0 N ps)).to = (kW N ps : Nat)
  way : wayL (wo ps (fst0 N ps)) (pAt ps (fst0 N ps)).fr (kW N ps) (pAt ps (fst0 N ps)).to.toNat = (List.range (kW N ps)).map fun j => (eW N ps j).id
  kN : kW N ps ≤ N
theorem ring_rg {N : Nat} {ps : List Pp} (hg : P2.Good N ps) (hr : ringB N ps = true) : Rg N ps := by
  obtain ⟨hl, _⟩ := ring_full hr
  obtain ⟨h1, h2, h3⟩ := Classical.choose_spec (loop_ex N ps) ⟨hg, hl⟩
  have hw := good_sub hg (wo_sub ps (fst0 N ps))
  have ht := ring_tree hg hr h1 h2
  have ha := (tree_full hw ht).1
  have hok := good_pp hg (pAt_mem h1)
  have hc := brB_false.1 h2
  have hd : dist (wo ps (fst0 N ps)) (pAt ps (fst0 N ps)).fr (pAt ps (fst0 N ps)).to = (kW N ps : Nat) := by
    have h4 := dist_conn.2 hc.sy
    have h5 := dist_lo (wo ps (fst0 N ps)) (pAt ps (fst0 N ps)).fr (pAt ps (fst0 N ps)).to
    unfold kW
    show dist (wo ps (fst0 N ps)) (pAt ps (fst0 N ps)).fr (pAt ps (fst0 N ps)).to = _
    have h6 : dist (wo ps (fst0 N ps)) (pAt ps (fst0 N ps)).fr (pAt ps (fst0 N ps)).to ≠ -1 := h4
    omega
  unfold PpOk at hok
  have hto : (((pAt ps (fst0 N ps)).to.toNat : Nat) : Int) = (pAt ps (fst0 N ps)).to := Int.toNat_of_nonneg (by have : 1 ≤ (pAt ps (fst0 N ps)).to := hok.2.2.2.2.1; omega)
  have hto1 : 1 ≤ (pAt ps (fst0 N ps)).to := hok.2.2.2.2.1
  have hto2 : (pAt ps (fst0 N ps)).to ≤ N := hok.2.2.2.2.2.1
  have hd2 : dist (wo ps (fst0 N ps)) (pAt ps (fst0 N ps)).fr ((pAt ps (fst0 N ps)).to.toNat : Nat) = (kW N ps : Nat) := by rw [hto]; exact hd
  refine ⟨⟨hg, h1, ha, way_wy hw (by omega) (by omega) hd2, hto⟩, h2, h3, ht, hl, hd, way_ids hw _ _ (by omega) (by omega) hd2, ?_⟩
  have := dist_le hw (t := (pAt ps (fst0 N ps)).fr) (pAt ps (fst0 N ps)).to.toNat (by omega)
  omega
theorem sgL_len (N : Nat) (ps : List Pp) : (sgL N ps).length = ps.length := sgA_len _ _ _ _ _
theorem sgT_len (N : Nat) (ps : List Pp) (k : Nat) : (sgT N ps k).length = ps.length := sgA_len _ _ _ _ _
theorem sgL_in (N : Nat) (ps : List Pp) (i : Nat) : (sgL N ps).getD i 0 = 0 ∨ (sgL N ps).getD i 0 = 1 ∨ (sgL N ps).getD i 0 = -1 := sgA_in _ _ _ _ _ _
theorem sgT_in (N : Nat) (ps : List Pp) (k i : Nat) : (sgT N ps k).getD i 0 = 0 ∨ (sgT N ps k).getD i 0 = 1 ∨ (sgT N ps k).getD i 0 = -1 := sgA_in _ _ _ _ _ _
/-- A pipe is of the loop exactly if it is no bridge. -/
theorem Rg.sign {N : Nat} {ps : List Pp} (h : Rg N ps) {i : Nat} (hi : i < ps.length) : (sgL N ps).getD i 0 ≠ 0 ↔ brB ps i = false :=
  (h.lp.marked _ (Nat.le_refl _) i hi).trans (h.lp.cyc hi).symm
/-- The first sign is 1, and those before it are 0. -/
theorem sgA_first (ps : List Pp) (i0 : Nat) (e : Nat → Pp) (v : Nat → Int) (hi : i0 < ps.length) : ∀ k, (∀ j, j < k → ix ps (e j) ≠ i0) → (sgA ps i0 e v k).getD i0 0 = 1
  | 0, _ => by simp [sgA, List.getD, hi]
  | k + 1, h => by
    have := sgA_first ps i0 e v hi k fun j hj => h j (by omega)
    simp only [sgA, List.getD] at this ⊢
    rw [List.getElem?_set_ne (h k (by omega))]
    exact this
theorem Rg.first {N : Nat} {ps : List Pp} (h : Rg N ps) : (sgL N ps).getD (fst0 N ps) 0 = 1 ∧ ∀ j, j < fst0 N ps → (sgL N ps).getD j 0 = 0 := by
  refine ⟨sgA_first _ _ _ _ h.lp.lt _ fun j hj e => (h.lp.ne hj).2 ?_, fun j hj => ?_⟩
  · have := (ix_in h.lp.good (h.lp.ne hj).1).2
    rw [← this, e]
  · refine Classical.byContradiction fun hn => ?_
    have := (h.sign (i := j) (by have := h.lp.lt; omega)).1 hn
    rw [h.low j hj] at this
    cases this
end Go.Proofs.Ytgjogjmfpbinfaa.S2

namespace Go.Proofs.Ytgjogjmfpbinfaa.S2
open Go.RowKit P2

set_option maxHeartbeats 1000000 in
theorem isring_any (N : Nat) (A : Option Addr) (cap : Nat) (ps : List Pp) (w : World) (h : PAt w A ps) (hg : P2.Good N ps) :
    Calls Try.prog 116 #[nv N A ps.length cap] w fun e w' => e = .returned (.bool (ringB N ps)) ∧ Below w.heap.size w w' := by
  have hN1 : 1 ≤ N := by have := hg.1; omega
  have hN : N ≤ 8 := by have := hg.2.1; omega
  have hl10 := hg.2.2.1
  have HC := Lib.hid (fun w' (hb : Below w.heap.size w w') => (show Calls Try.prog 199 #[nv N A ps.length cap, .int .i64 1] w' (GivesL w' (conL N ps 1)) from con_any N 1 A cap ps w' (h.kept hb (Nat.le_refl _)) hg (by omega) (by omega)))
  have hcl : (conL N ps 1).length ≤ N + 1 := conL_len N ps 1
  unfold ringB
  clear h hg
  by_cases he : ps.length = N
  · have g1 : ((ps.length : Int) == (N : Int)) = true := beq_iff_eq.2 (by omega)
    rw [show decide (ps.length = N) = true by simp [he], Bool.true_and]
    generalize (conL N ps 1) = C at *
    obtain ⟨u, hu⟩ : ∃ u, decide (C.length = N) = u := ⟨_, rfl⟩
    have g2 : ((C.length : Int) == (N : Int)) = u := by rw [← hu, Bool.eq_iff_iff]; simp; omega
    rw [hu]
    clear hu he
    go_enter Try.func116, Try.ntmps116
    go_wp2
    go_region_held3 (fun w' => w'.cell? ⟨w.heap.size, 0, none⟩ = some (.int .i64 N) ∧ w'.cell? ⟨w.heap.size, 1, none⟩ = some (.slice A ps.length cap))
      (first
        | go_keep
        | (go_split_ands
           exact ⟨(hbx.cell (p := ⟨w.heap.size, 0, none⟩) (by simp)).trans (by assumption), (hbx.cell (p := ⟨w.heap.size, 1, none⟩) (by simp)).trans (by assumption)⟩))
      ((go_at_call 199; refine (HC.out _ (((Below.refl _ _).alloc (Nat.le_refl _) _).drew)).mono ?_; rintro e w4 ⟨g, capg, rfl, hgg, ho, hbx⟩))
    go_wp2
    go_ret
    exact ⟨rfl, (((Below.refl w.heap.size w).alloc (Nat.le_refl _) _).drew).trans (hbx.mono (by simp))⟩
  · have g1 : ((ps.length : Int) == (N : Int)) = false := beq_eq_false_iff_ne.2 (by omega)
    rw [show decide (ps.length = N) = false by simp [he], Bool.false_and]
    clear he
    go_enter Try.func116, Try.ntmps116
    go_wp2
    go_quiet (fail)
    go_wp2
    go_ret
    exact ⟨rfl, below_drewN ((Below.refl _ _).alloc (Nat.le_refl _) _) _⟩
set_option maxHeartbeats 1000000 in
theorem sring_any (N : Nat) (A : Option Addr) (cap : Nat) (ps : List Pp) (w : World) (h : PAt w A ps) (hg : P2.Good N ps) :
    Calls Try.prog 113 #[nv N A ps.length cap] w fun e w' => e = .returned (.bool (ringB N ps)) ∧ Below w.heap.size w w' := by
  have hN1 : 1 ≤ N := by have := hg.1; omega
  have hN : N ≤ 8 := by have := hg.2.1; omega
  have hl10 := hg.2.2.1
  have HC := Lib.hid (fun w' (hb : Below w.heap.size w w') => (show Calls Try.prog 177 #[nv N A ps.length cap, .int .i64 1] w' _ from sreach_any N 1 A cap ps w' (h.kept hb (Nat.le_refl _)) hg (by omega) (by omega)))
  have hcl : (conL N ps 1).length ≤ N + 1 := conL_len N ps 1
  unfold ringB
  clear h hg
  obtain ⟨C, hC⟩ : ∃ C, conL N ps 1 = C := ⟨_, rfl⟩
  simp only [Int.natCast_one] at HC
  rw [hC] at HC hcl ⊢
  clear hC
  obtain ⟨u, hu⟩ : ∃ u, decide (ps.length = N) = u := ⟨_, rfl⟩
  have g1 : ((ps.length : Int) == (N : Int)) = u := by rw [← hu, Bool.eq_iff_iff]; simp; omega
  rw [hu]
  clear hu
  by_cases he : C.length = N
  · have g2 : ((C.length : Int) == (N : Int)) = true := beq_iff_eq.2 (by omega)
    rw [show decide (C.length = N) = true by simp [he], Bool.and_true]
    clear he
    go_enter Try.func113, Try.ntmps113
    go_wp2
    go_region_held3 (fun w' => w'.cell? ⟨w.heap.size, 0, none⟩ = some (.int .i64 N) ∧ w'.cell? ⟨w.heap.size, 1, none⟩ = some (.slice A ps.length cap))
      (first
        | go_keep
        | (go_split_ands
           exact ⟨(hbx.cell (p := ⟨w.heap.size, 0, none⟩) (by simp)).trans (by assumption), (hbx.cell (p := ⟨w.heap.size, 1, none⟩) (by simp)).trans (by assumption)⟩))
      ((go_at_call 177; refine (HC.out _ (((Below.refl _ _).alloc (Nat.le_refl _) _).drew)).mono ?_; rintro e w4 ⟨g, o, capg, rfl, hgg, ho, hbx⟩))
    go_wp2
    go_ret
    exact ⟨rfl, (((Below.refl w.heap.size w).alloc (Nat.le_refl _) _).drew).trans (hbx.mono (by simp))⟩
  · have g2 : ((C.length : Int) == (N : Int)) = false := beq_eq_false_iff_ne.2 (by omega)
    rw [show decide (C.length = N) = false by simp [he], Bool.and_false]
    clear he
    go_enter Try.func113, Try.ntmps113
    go_wp2
    refine wp_region_held_drew (S := fun w' => w'.cell? ⟨w.heap.size, 0, none⟩ = some (.int .i64 N) ∧ w'.cell? ⟨w.heap.size, 1, none⟩ = some (.slice A ps.length cap)) (by kernel_rfl) (by go_keep) (fun hHeld => ?_)
    refine wpAnyH_take (i := 0) (v := .agg #[.int .i64 N, .slice A ps.length cap]) rfl (by kernel_rfl) (by kernel_rfl) (by kernel_rfl) (fun _ _ _ h => h) (Or.inl ⟨by rfl, ?_⟩) (by assumption) ?_
    · (intro w hSw; (try dsimp only at hSw); go_simp)
    simp only [Act.put, List.setIfInBounds_toArray]
    refine wpAnyH_take (i := 3) (v := .pointer (some ⟨w.heap.size, 0, none⟩)) rfl (by kernel_rfl) (by kernel_rfl) (by kernel_rfl) (fun _ _ _ h => h) (Or.inl ⟨by rfl, ?_⟩) (by assumption) ?_
    · (intro w hSw; (try dsimp only at hSw); go_simp)
    simp only [Act.put]
    refine wpAnyH_take (i := 4) (v := .int .i64 (N : Int)) rfl (by kernel_rfl) (by kernel_rfl) (by kernel_rfl) (fun _ _ _ h => h) (Or.inl ⟨by rfl, ?_⟩) (by assumption) ?_
    · (intro w hSw; (try dsimp only at hSw); go_simp)
    simp only [Act.put]
    refine wpAnyH_ready (rs := [1]) (by kernel_rfl) (by simp) ?_
    refine AllReadyH.cons rfl (fun K hK => ?_) AllReadyH.nil
    go_simp
    go_at_call 177
    refine (HC.out _ (((Below.refl _ _).alloc (Nat.le_refl _) _).drew)).mono ?_
    rintro e w4 ⟨g, o, capg, rfl, hgg, ho, hbx⟩
    refine hK.out _ _ (by (rcases hHeld with ⟨q0, q1⟩; exact ⟨(hbx.cell (p := ⟨w.heap.size, 0, none⟩) (by simp)).trans q0, (hbx.cell (p := ⟨w.heap.size, 1, none⟩) (by simp)).trans q1⟩)) (fun hHeld => ?_)
    clear hK K
    refine wpAnyH_ready (rs := [2]) (by kernel_rfl) (by simp) ?_
    refine AllReadyH.cons rfl (fun K hK => ?_) AllReadyH.nil
    go_simp
    refine hK.out _ _ (by first | assumption | go_keep) (fun hHeld => ?_)
    clear hK K
    refine wpAnyH_ready (rs := [5]) (by kernel_rfl) (by simp) ?_
    refine AllReadyH.cons rfl (fun K hK => ?_) AllReadyH.nil
    go_simp
    refine hK.out _ _ (by first | assumption | go_keep) (fun hHeld => ?_)
    clear hK K
    refine wpAnyH_ready (rs := [6]) (by kernel_rfl) (by simp) ?_
    refine AllReadyH.cons rfl (fun K hK => ?_) AllReadyH.nil
    go_simp
    refine hK.out _ _ (by first | assumption | go_keep) (fun hHeld => ?_)
    clear hK K
    refine wpAnyH_take (i := 7) (v := undef) rfl (by kernel_rfl) (by kernel_rfl) (by kernel_rfl) (fun _ _ _ h => h) (Or.inr ⟨by rfl, rfl⟩) (by assumption) ?_
    simp only [Act.put]
    refine wpAnyH_take (i := 8) (v := undef) rfl (by kernel_rfl) (by kernel_rfl) (by kernel_rfl) (fun _ _ _ h => h) (Or.inr ⟨by rfl, rfl⟩) (by assumption) ?_
    simp only [Act.put]
    refine wpAnyH_take (i := 9) (v := undef) rfl (by kernel_rfl) (by kernel_rfl) (by kernel_rfl) (fun _ _ _ h => h) (Or.inr ⟨by rfl, rfl⟩) (by assumption) ?_
    simp only [Act.put]
    refine wpAnyH_take (i := 10) (v := undef) rfl (by kernel_rfl) (by kernel_rfl) (by kernel_rfl) (fun _ _ _ h => h) (Or.inr ⟨by rfl, rfl⟩) (by assumption) ?_
    simp only [Act.put]
    refine wpAnyH_take (i := 11) (v := undef) rfl (by kernel_rfl) (by kernel_rfl) (by kernel_rfl) (fun _ _ _ h => h) (Or.inr ⟨by rfl, rfl⟩) (by assumption) ?_
    simp only [Act.put]
    refine wpAnyH_take (i := 12) (v := undef) rfl (by kernel_rfl) (by kernel_rfl) (by kernel_rfl) (fun _ _ _ h => h) (Or.inr ⟨by rfl, rfl⟩) (by assumption) ?_
    simp only [Act.put]
    refine wpAnyH_ready (rs := [13]) (by kernel_rfl) (by simp) ?_
    refine AllReadyH.cons rfl (fun K hK => ?_) AllReadyH.nil
    go_simp
    refine hK.out _ _ (by first | assumption | go_keep) (fun hHeld => ?_)
    clear hK K
    refine wpAnyH_ready (rs := [14]) (by kernel_rfl) (by simp) ?_
    refine AllReadyH.cons rfl (fun K hK => ?_) AllReadyH.nil
    go_simp
    refine hK.out _ _ (by first | assumption | go_keep) (fun hHeld => ?_)
    clear hK K
    refine wpAnyH_done (by kernel_rfl) ?_ _
    go_wp2
    go_ret
    exact ⟨rfl, (((Below.refl w.heap.size w).alloc (Nat.le_refl _) _).drew).trans (hbx.mono (by simp))⟩

theorem isring_v {N : Nat} {ps : List Pp} {v : Bool} (hv : ringB N ps = v) (A : Option Addr) (cap : Nat) (w : World) (h : PAt w A ps) (hg : P2.Good N ps) :
    Calls Try.prog 116 #[nv N A ps.length cap] w fun e w' => e = .returned (.bool v) ∧ Below w.heap.size w w' := by
  rw [← hv]; exact isring_any N A cap ps w h hg
theorem sring_v {N : Nat} {ps : List Pp} {v : Bool} (hv : ringB N ps = v) (A : Option Addr) (cap : Nat) (w : World) (h : PAt w A ps) (hg : P2.Good N ps) :
    Calls Try.prog 113 #[nv N A ps.length cap] w fun e w' => e = .returned (.bool v) ∧ Below w.heap.size w w' := by
  rw [← hv]; exact sring_any N A cap ps w h hg

/-- IsRing's answer. -/
noncomputable def isRA (n : Int) (ps : List Pp) : Bool × Bool := (goodB n ps && ringB n.toNat ps, goodB n ps)

set_option maxHeartbeats 1000000 in
theorem irg_any (n : Int) (A : Option Addr) (cap : Nat) (ps : List Pp) (w : World) (h : PAt w A ps) (hm : ps.length ≤ maxLen) :
    Calls Try.prog 22 #[nv n A ps.length cap] w fun e w' => e = .returned (.tuple #[.bool (isRA n ps).1, .bool (isRA n ps).2]) ∧ Below w.heap.size w w' := by
  unfold isRA
  cases hv : goodB n ps with
  | false =>
    have H := Lib.hid (fun w' (hb : Below w.heap.size w w') => valid_v hv A cap w' (h.kept hb (Nat.le_refl _)) hm)
    clear h hv
    go_enter Try.func22, Try.ntmps22
    go_wp2_with (go_at_call 115; refine (H.out _ ((Below.refl _ _).alloc (Nat.le_refl _) _)).mono ?_; rintro e w1 ⟨rfl, hb1⟩)
    go_ret2
    exact ⟨rfl, below_alloc_call hb1⟩
  | true =>
    have hg := good_of hv
    obtain ⟨N, rfl⟩ := good_nat hg
    obtain ⟨v, hvv⟩ : ∃ v, ringB N ps = v := ⟨_, rfl⟩
    have H := Lib.hid (fun w' (hb : Below w.heap.size w w') => valid_v hv A cap w' (h.kept hb (Nat.le_refl _)) hm)
    have HT := Lib.hid (fun w' (hb : Below w.heap.size w w') => isring_v hvv A cap w' (h.kept hb (Nat.le_refl _)) hg)
    simp only [Int.toNat_natCast, Bool.true_and]
    rw [hvv]
    clear h hv hg hvv
    go_enter Try.func22, Try.ntmps22
    go_wp2_with (first
      | (go_at_call 115; refine (H.out _ ((Below.refl _ _).alloc (Nat.le_refl _) _)).mono ?_; rintro e w1 ⟨rfl, hb1⟩; obtain ⟨hc1, hf1⟩ := bcell hb1; have hz1 := hb1.size; simp at hz1; have hb2 := Lib.hid (below_alloc_call hb1))
      | (go_at_call 116; refine (HT.out _ hb2.out).mono ?_; rintro e w2 ⟨rfl, hb3⟩))
    go_ret2
    exact ⟨rfl, hb2.out.trans (hb3.mono hb2.out.size)⟩

set_option maxHeartbeats 1000000 in
theorem sirg_any (n : Int) (A : Option Addr) (cap : Nat) (ps : List Pp) (w : World) (h : PAt w A ps) (hm : ps.length ≤ maxLen) :
    Calls Try.prog 20 #[nv n A ps.length cap] w fun e w' => e = .returned (.tuple #[.bool (isRA n ps).1, .bool (isRA n ps).2]) ∧ Below w.heap.size w w' := by
  unfold isRA
  cases hv : goodB n ps with
  | false =>
    have H := Lib.hid (fun w' (hb : Below w.heap.size w w') => sgood_v hv A cap w' (h.kept hb (Nat.le_refl _)) hm)
    clear h hv
    go_enter Try.func20, Try.ntmps20
    go_wp2_with (go_at_call 112; refine (H.out _ ((Below.refl _ _).alloc (Nat.le_refl _) _)).mono ?_; rintro e w1 ⟨rfl, hb1⟩)
    go_ret2
    exact ⟨rfl, below_alloc_call hb1⟩
  | true =>
    have hg := good_of hv
    obtain ⟨N, rfl⟩ := good_nat hg
    obtain ⟨v, hvv⟩ : ∃ v, ringB N ps = v := ⟨_, rfl⟩
    have H := Lib.hid (fun w' (hb : Below w.heap.size w w') => sgood_v hv A cap w' (h.kept hb (Nat.le_refl _)) hm)
    have HT := Lib.hid (fun w' (hb : Below w.heap.size w w') => sring_v hvv A cap w' (h.kept hb (Nat.le_refl _)) hg)
    simp only [Int.toNat_natCast, Bool.true_and]
    rw [hvv]
    clear h hv hg hvv
    go_enter Try.func20, Try.ntmps20
    go_wp2_with (first
      | (go_at_call 112; refine (H.out _ ((Below.refl _ _).alloc (Nat.le_refl _) _)).mono ?_; rintro e w1 ⟨rfl, hb1⟩; obtain ⟨hc1, hf1⟩ := bcell hb1; have hz1 := hb1.size; simp at hz1; have hb2 := Lib.hid (below_alloc_call hb1))
      | (go_at_call 113; refine (HT.out _ hb2.out).mono ?_; rintro e w2 ⟨rfl, hb3⟩))
    go_ret2
    exact ⟨rfl, hb2.out.trans (hb3.mono hb2.out.size)⟩
end Go.Proofs.Ytgjogjmfpbinfaa.S2

namespace Go.Proofs.Ytgjogjmfpbinfaa.S2
open Go.RowKit P2

set_option maxHeartbeats 1000000 in
theorem idx_is (A : Option Addr) (cap : Nat) (l : List Int) (v : Int) (w : World) (h : IAt w A l) (hl : l.length ≤ 1048576) :
    Calls Try.prog 132 #[.slice A l.length cap, .int .i64 v] w fun e w' => (∃ r : Int, e = .returned (.int .i64 r) ∧ ((r = -1 ∧ v ∉ l) ∨ (0 ≤ r ∧ v ∈ l))) ∧ w' = w := by
  have HA := Lib.hid h
  clear h
  go_enter Try.func132, Try.ntmps132
  go_wp2
  go_loopw [8] (fun i wr => ∃ k : Nat, k ≤ l.length ∧ i = .int .i64 k ∧ Hid (∀ j, j < k → l.getD j 0 ≠ v) ∧ wr = w) (fun i _ => l.length - (intOf i).toNat)
  case atStart => exact ⟨0, by omega, rfl, Lib.hid (fun j hj => absurd hj (by omega)), rfl⟩
  case round =>
    obtain ⟨k, hk, rfl, hno, hw⟩ := hrel
    replace hw := hw.symm
    subst hw
    by_cases hlt : k < l.length
    · obtain ⟨b, off, hA, hbl, h1⟩ := HA.out.at_ (i := k) hlt
      subst hA
      have hk0 : (0 : Int) ≤ (k : Int) := by omega
      have hkn : (k : Int) < (l.length : Int) := by omega
      by_cases he : l.getD k 0 = v
      · have HM := Lib.hid (show v ∈ l from by rw [← he]; simp [List.getD, hlt])
        rw [he] at h1
        clear he hno
        go_wp2
        go_ret
        exact ⟨⟨_, rfl, .inr ⟨by omega, HM.out⟩⟩, rfl⟩
      · have hne : ¬ v = l.getD k 0 := fun e => he e.symm
        have hno2 := Lib.hid (show ∀ j, j < k + 1 → l.getD j 0 ≠ v from fun j hj => by
          by_cases e : j = k
          · subst e; exact he
          · exact hno.out j (by omega))
        clear he hno
        generalize l.getD k 0 = x at *
        go_wp2
        go_roundw
        case rel => exact ⟨k + 1, by omega, by go_num, hno2, trivial⟩
        case measure => simp [intOf]; omega
    · have HM := Lib.hid (show v ∉ l from fun hm => by
        obtain ⟨j, hj, e⟩ := List.getElem_of_mem hm
        exact hno.out j (by omega) (by simp [List.getD, hj, e]))
      clear hno
      go_wp2
      go_ret
      exact ⟨⟨-1, rfl, .inl ⟨rfl, HM.out⟩⟩, rfl⟩
theorem ctn_any (A : Option Addr) (cap : Nat) (l : List Int) (v : Int) (w : World) (h : IAt w A l) (hl : l.length ≤ 1048576) :
    Calls Try.prog 147 #[.slice A l.length cap, .int .i64 v] w fun e w' => e = .returned (.bool (decide (v ∈ l))) ∧ w' = w := by
  have H := Lib.hid (idx_is A cap l v w h hl)
  clear h
  go_enter Try.func147, Try.ntmps147
  go_wp2_with (go_at_call 132; refine H.out.mono ?_; rintro e w1 ⟨⟨r, rfl, hr⟩, hw⟩; replace hw := hw.symm; subst hw)
  go_ret
  refine ⟨?_, rfl⟩
  rcases hr with ⟨rfl, hm⟩ | ⟨h0, hm⟩
  · simp [hm]
  · simp [hm, h0]
theorem ctn_v {l : List Int} {x : Int} {v : Bool} (hv : decide (x ∈ l) = v) (A : Option Addr) (cap : Nat) (w : World) (h : IAt w A l) (hl : l.length ≤ 1048576) :
    Calls Try.prog 147 #[.slice A l.length cap, .int .i64 x] w fun e w' => e = .returned (.bool v) ∧ w' = w := by
  rw [← hv]; exact ctn_any A cap l x w h hl
end Go.Proofs.Ytgjogjmfpbinfaa.S2

namespace Go.Proofs.Ytgjogjmfpbinfaa.S2
open Go.RowKit P2

theorem rep0_succ (k : Nat) : List.replicate (k + 1) (0 : Int) = List.replicate k 0 ++ [0] := List.replicate_succ'
theorem sw_at (N i cap : Nat) (A : Option Addr) (ps : List Pp) (w : World) (h : PAt w A ps) (hi : i < ps.length) (hc : ps.length ≤ cap) (hl : ps.length ≤ 10) :
    Calls Try.prog 130 #[nv N A ps.length cap, .int .i64 (i : Int)] w fun e w' => ∃ g c, e = .returned (nv N (some ⟨g, 0, none⟩) (wo ps i).length c) ∧ w.heap.size ≤ g ∧ (wo ps i).length ≤ c ∧ PAt w' (some ⟨g, 0, none⟩) (wo ps i) ∧ Below w.heap.size w w' := by
  obtain ⟨b, off, hA, _⟩ := h.at_ hi
  subst hA
  refine (swo_any N i b off ps.length cap ps w h rfl hi (by omega) hl).mono ?_
  rintro e w' ⟨g, c, rfl, hg, hcc, hp, hb⟩
  exact ⟨_, c, by rw [wo_len ps i hi], hg, by rw [wo_len ps i hi]; exact hcc, hp, hb⟩
theorem cell_farS {w : World} {b o c i : Nat} {v : Value} (h : b ≠ c) : (w.setCell ⟨c, i, none⟩ v).cell? ⟨b, o, none⟩ = w.cell? ⟨b, o, none⟩ :=
  World.cell?_of_block (heap_setCell_other w ⟨c, i, none⟩ b v (fun e => h e))
/-- The first pipe found among the first k. -/
noncomputable def f0 (N : Nat) (ps : List Pp) (k : Nat) : Int := if fst0 N ps < k then (fst0 N ps : Int) else -1

set_option maxHeartbeats 4000000 in
set_option maxRecDepth 100000 in
theorem slp_any (N : Nat) (A : Option Addr) (cap : Nat) (ps : List Pp) (w : World) (h : PAt w A ps) (hc : ps.length ≤ cap) (hg : P2.Good N ps) (hr : ringB N ps = true) :
    Calls Try.prog 118 #[nv N A ps.length cap] w (GivesL w (sgL N ps)) := by
  have R := ring_rg hg hr
  have HA := Lib.hid h
  have hN : N ≤ 8 := by have := hg.2.1; omega
  have hl10 := hg.2.2.1
  have HG := Lib.hid (fun k (hk : k < ps.length) => good_pp hg (pAt_mem hk))
  have HWO := Lib.hid (fun (i : Nat) (hi : i < ps.length) w' (hb : Below w.heap.size w w') => sw_at N i cap A ps w' (h.kept hb (Nat.le_refl _)) hi hc hl10)
  have HDI := Lib.hid (fun (i t : Nat) A2 c2 w' (h2 : PAt w' A2 (wo ps i)) h3 h4 => sreach_any N t A2 c2 (wo ps i) w' h2 (good_sub hg (wo_sub ps i)) h3 h4)
  have HLO := Lib.hid (show ∀ k, k < fst0 N ps → brB ps k = true from R.low)
  have HBR := Lib.hid R.br
  have hlt0 := R.lp.lt
  obtain ⟨i0, hi, hz0, hz1, hz2⟩ := info_parts infoI
  clear h hg hc
  go_enter Try.func118, Try.ntmps118
  go_wp2
  have hb0 : Below (w.heap.size + 1) (w.alloc (nb N A ps.length cap)) ((w.alloc (nb N A ps.length cap)).alloc (.cells #[] 3)) := (Below.refl _ _).alloc (by simp) _
  have hO1 : IOwn ((w.alloc (nb N A ps.length cap)).alloc (.cells #[] 3)) (w.heap.size + 1) (.slice (some ⟨w.heap.size + 1, 0, none⟩) 0 0) [] := by
    have := own_empty (w.alloc (nb N A ps.length cap)) (w.heap.size + 1) (by simp)
    simpa using this
  go_loopw [3, 4, 5] (fun v f i wr => ∃ k : Nat, k ≤ ps.length ∧ i = .int .i64 k ∧ f = .int .i64 (f0 N ps k) ∧ Hid (IOwn wr (w.heap.size + 1) v (List.replicate k 0)) ∧ Hid (v ≠ .slice none 0 0) ∧ Below (w.heap.size + 1) (w.alloc (nb N A ps.length cap)) wr) (fun _ _ i _ => ps.length - (intOf i).toNat)
  case atStart => exact ⟨0, Nat.zero_le _, rfl, by simp [f0], Lib.hid (by simpa using hO1), Lib.hid (by simp), hb0⟩
  case round =>
    clear hO1 hb0
    obtain ⟨k, hk, rfl, rfl, hown, hvn, hb⟩ := hrel
    by_cases hlt : k < ps.length
    · obtain ⟨b, off, hA, hbl, h0, h1, h2, h3⟩ := HA.out.at_ hlt
      subst hA
      obtain ⟨b0, b1⟩ := box2 hb
      have hzl := box_lt hb
      have hbc : ∀ o, wr.cell? ⟨b, o, none⟩ = w.cell? ⟨b, o, none⟩ := fun o => (below_box hb).cell (p := ⟨b, o, none⟩) hbl
      have p1 := (hbc _).trans h1
      have p2 := (hbc _).trans h2
      have hk0i : (0 : Int) ≤ (k : Int) := by omega
      have hk1i : (k : Int) < (ps.length : Int) := by omega
      have hok := HG.out k hlt
      unfold PpOk at hok
      obtain ⟨fr, hfr⟩ : ∃ a : Nat, (pAt ps k).fr = (a : Int) := ⟨(pAt ps k).fr.toNat, by omega⟩
      obtain ⟨tt, htt⟩ : ∃ b : Nat, (pAt ps k).to = (b : Int) := ⟨(pAt ps k).to.toNat, by omega⟩
      rw [hfr] at p1
      rw [htt] at p2
      have hf1 : 1 ≤ fr := by omega
      have hf2 : fr ≤ N := by omega
      have ht1 : 1 ≤ tt := by omega
      have ht2 : tt ≤ N := by omega
      have ho := hown.out
      unfold IOwn at ho
      rw [List.length_replicate] at ho
      have hbw : b < wr.heap.size := by have := (below_box hb).size; omega
      go_wp2_with (at_builtin; go_must (refine wpList_append_own _ rfl _ _ 34 rfl (w.heap.size + 1) 3 i0 (.int .i64 0) 1 8 Try.underlying34 hi hz0 hz1 hz2 rfl (by decide) _ _ _ rfl (ho.alloc _) ⟨wr.heap.size, 0, none⟩ 1 1 [iv 0] rfl rfl (cell_one_new _ _ _) (by intro u hu; simp at hu; subst hu; rfl) (by unfold maxLen; omega) (by omega) (by have := hb.size; simp at this ⊢; omega) ?_))
      intro v' w3 hown' hgrow hnil
      have hown3 := Lib.hid (show IOwn w3 (w.heap.size + 1) v' (List.replicate (k + 1) 0) by
        rw [rep0_succ]
        refine IOwn.push ?_
        rw [List.length_replicate, List.map_replicate]
        exact hown')
      have hB3 := Lib.hid ((hb.alloc hzl (.cells #[iv 0] 3)).grown hgrow (by simp; omega) (fun g hg => (ho.lt g hg).1))
      have hnil3 := Lib.hid (show v' ≠ .slice none 0 0 from fun e => by simp [e] at hnil)
      clear hown' hgrow hnil ho hown hvn b0 b1 hbc hzl
      obtain ⟨b0, b1⟩ := box2 hB3.out
      have hzl := box_lt hB3.out
      have hbc : ∀ o, w3.cell? ⟨b, o, none⟩ = w.cell? ⟨b, o, none⟩ := fun o => (below_box hB3.out).cell (p := ⟨b, o, none⟩) hbl
      have r1 := (hbc _).trans h1
      have r2 := (hbc _).trans h2
      rw [hfr] at r1
      rw [htt] at r2
      have hb3 : b < w3.heap.size := by have := (below_box hB3.out).size; omega
      clear p1 p2 hbc h0 h1 h2 h3 hok hb hbw
      by_cases hkf : k ≤ fst0 N ps
      · have hf0 : f0 N ps k = -1 := by unfold f0; rw [if_neg (by omega)]
        rw [hf0]
        clear hf0
        have hcl := conL_len N (wo ps k) fr
        have hby : brB ps k = decide (dist (wo ps k) (fr : Int) (tt : Int) = -1) := by unfold brB; rw [hfr, htt]
        have hhb := has_br (N := N) (ps := ps) (i := k) (fr := fr) ht1 ht2
        rw [← hby] at hhb
        obtain ⟨vb, hvb⟩ : ∃ vb, brB ps k = vb := ⟨_, rfl⟩
        rw [hvb] at hhb
        have HH := Lib.hid hhb
        have HVB := Lib.hid (show (vb = true → f0 N ps (k + 1) = -1) ∧ (vb = false → f0 N ps (k + 1) = (k : Int)) by
          constructor
          · intro e
            have hne : k ≠ fst0 N ps := fun x => by have := HBR.out; rw [← x, hvb, e] at this; cases this
            unfold f0; rw [if_neg (by omega)]
          · intro e
            have hne : ¬ k < fst0 N ps := fun x => by have := HLO.out k x; rw [hvb, e] at this; cases this
            have e2 : k = fst0 N ps := by omega
            unfold f0; rw [if_pos (by omega), e2])
        clear hby hhb hvb hfr htt
        have hneg : decide ((-1 : Int) < 0) = true := by decide
        go_wp2
        refine wp_region_held_drew (S := fun w' => w'.cell? ⟨w.heap.size, 0, none⟩ = some (.int .i64 (N : Int)) ∧ w'.cell? ⟨w.heap.size, 1, none⟩ = some (.slice (some ⟨b, off, none⟩) ps.length cap) ∧ w'.cell? ⟨b, off + k * 4 + 1, none⟩ = some (.int .i64 (fr : Int)) ∧ w'.cell? ⟨b, off + k * 4 + 2, none⟩ = some (.int .i64 (tt : Int))) (by kernel_rfl) (by go_keep) (fun hHeld => ?_)
        refine wpAnyH_take (i := 0) (v := .int .i64 (-1)) rfl (by kernel_rfl) (by kernel_rfl) (by kernel_rfl) (fun _ _ _ h => h) (Or.inl ⟨by kernel_rfl, ?_⟩) (by assumption) ?_
        · (intro w hSw; (try dsimp only at hSw); go_simp)
        simp only [Act.put, List.setIfInBounds_toArray]
        refine wpAnyH_take (i := 1) (v := .bool true) rfl (by kernel_rfl) (by kernel_rfl) (by kernel_rfl) (fun _ _ _ h => h) (Or.inl ⟨by kernel_rfl, ?_⟩) (by assumption) ?_
        · (intro w hSw; (try dsimp only at hSw); go_simp)
        simp only [Act.put]
        refine wpAnyH_take (i := 2) (v := .bool true) rfl (by kernel_rfl) (by kernel_rfl) (by kernel_rfl) (fun _ _ _ h => h) (Or.inl ⟨by kernel_rfl, ?_⟩) (by assumption) ?_
        · (intro w hSw; (try dsimp only at hSw); go_simp)
        simp only [Act.put]
        refine wpAnyH_take (i := 3) (v := .agg #[.int .i64 (N : Int), .slice (some ⟨b, off, none⟩) ps.length cap]) rfl (by kernel_rfl) (by kernel_rfl) (by kernel_rfl) (fun _ _ _ h => h) (Or.inl ⟨by kernel_rfl, ?_⟩) (by assumption) ?_
        · (intro w hSw; (try dsimp only at hSw); go_simp)
        simp only [Act.put]
        refine wpAnyH_take (i := 4) (v := .int .i64 (k : Int)) rfl (by kernel_rfl) (by kernel_rfl) (by kernel_rfl) (fun _ _ _ h => h) (Or.inl ⟨by kernel_rfl, ?_⟩) (by assumption) ?_
        · (intro w hSw; (try dsimp only at hSw); go_simp)
        simp only [Act.put]
        refine wpAnyH_take (i := 6) (v := .pointer (some ⟨w.heap.size, 1, none⟩)) rfl (by kernel_rfl) (by kernel_rfl) (by kernel_rfl) (fun _ _ _ h => h) (Or.inl ⟨by kernel_rfl, ?_⟩) (by assumption) ?_
        · (intro w hSw; (try dsimp only at hSw); go_simp)
        simp only [Act.put]
        refine wpAnyH_take (i := 7) (v := .slice (some ⟨b, off, none⟩) ps.length cap) rfl (by kernel_rfl) (by kernel_rfl) (by kernel_rfl) (fun _ _ _ h => h) (Or.inl ⟨by kernel_rfl, ?_⟩) (by assumption) ?_
        · (intro w hSw; (try dsimp only at hSw); go_simp)
        simp only [Act.put]
        refine wpAnyH_take (i := 8) (v := .int .i64 (k : Int)) rfl (by kernel_rfl) (by kernel_rfl) (by kernel_rfl) (fun _ _ _ h => h) (Or.inl ⟨by kernel_rfl, ?_⟩) (by assumption) ?_
        · (intro w hSw; (try dsimp only at hSw); go_simp)
        simp only [Act.put]
        refine wpAnyH_take (i := 9) (v := .pointer (some ⟨b, off + k * 4, none⟩)) rfl (by kernel_rfl) (by kernel_rfl) (by kernel_rfl) (fun _ _ _ h => h) (Or.inl ⟨by kernel_rfl, ?_⟩) (by assumption) ?_
        · (intro w hSw; (try dsimp only at hSw); go_simp)
        simp only [Act.put]
        refine wpAnyH_take (i := 10) (v := .pointer (some ⟨b, off + k * 4 + 1, none⟩)) rfl (by kernel_rfl) (by kernel_rfl) (by kernel_rfl) (fun _ _ _ h => h) (Or.inl ⟨by kernel_rfl, ?_⟩) (by assumption) ?_
        · (intro w hSw; (try dsimp only at hSw); go_simp)
        simp only [Act.put]
        refine wpAnyH_take (i := 11) (v := .int .i64 (fr : Int)) rfl (by kernel_rfl) (by kernel_rfl) (by kernel_rfl) (fun _ _ _ h => h) (Or.inl ⟨by kernel_rfl, ?_⟩) (by assumption) ?_
        · (intro w hSw; (try dsimp only at hSw); go_simp)
        simp only [Act.put]
        refine wpAnyH_take (i := 13) (v := .pointer (some ⟨w.heap.size, 1, none⟩)) rfl (by kernel_rfl) (by kernel_rfl) (by kernel_rfl) (fun _ _ _ h => h) (Or.inl ⟨by kernel_rfl, ?_⟩) (by assumption) ?_
        · (intro w hSw; (try dsimp only at hSw); go_simp)
        simp only [Act.put]
        refine wpAnyH_take (i := 14) (v := .slice (some ⟨b, off, none⟩) ps.length cap) rfl (by kernel_rfl) (by kernel_rfl) (by kernel_rfl) (fun _ _ _ h => h) (Or.inl ⟨by kernel_rfl, ?_⟩) (by assumption) ?_
        · (intro w hSw; (try dsimp only at hSw); go_simp)
        simp only [Act.put]
        refine wpAnyH_take (i := 15) (v := .int .i64 (k : Int)) rfl (by kernel_rfl) (by kernel_rfl) (by kernel_rfl) (fun _ _ _ h => h) (Or.inl ⟨by kernel_rfl, ?_⟩) (by assumption) ?_
        · (intro w hSw; (try dsimp only at hSw); go_simp)
        simp only [Act.put]
        refine wpAnyH_take (i := 16) (v := .pointer (some ⟨b, off + k * 4, none⟩)) rfl (by kernel_rfl) (by kernel_rfl) (by kernel_rfl) (fun _ _ _ h => h) (Or.inl ⟨by kernel_rfl, ?_⟩) (by assumption) ?_
        · (intro w hSw; (try dsimp only at hSw); go_simp)
        simp only [Act.put]
        refine wpAnyH_take (i := 17) (v := .pointer (some ⟨b, off + k * 4 + 2, none⟩)) rfl (by kernel_rfl) (by kernel_rfl) (by kernel_rfl) (fun _ _ _ h => h) (Or.inl ⟨by kernel_rfl, ?_⟩) (by assumption) ?_
        · (intro w hSw; (try dsimp only at hSw); go_simp)
        simp only [Act.put]
        refine wpAnyH_take (i := 18) (v := .int .i64 (tt : Int)) rfl (by kernel_rfl) (by kernel_rfl) (by kernel_rfl) (fun _ _ _ h => h) (Or.inl ⟨by kernel_rfl, ?_⟩) (by assumption) ?_
        · (intro w hSw; (try dsimp only at hSw); go_simp)
        simp only [Act.put]
        refine wpAnyH_ready (rs := [5]) (by kernel_rfl) (by simp) ?_
        refine AllReadyH.cons rfl (fun K hK => ?_) AllReadyH.nil
        go_simp
        go_at_call 130
        refine (HWO.out k hlt _ ((below_box hB3.out).drew)).mono ?_
        rintro e w5 ⟨g2, c2, rfl, hg2, hcc, hp2, hbx⟩
        have hsx := hbx.size
        simp at hsx
        refine hK.out _ _ (by rcases hHeld with ⟨q0, q1, q2, q3⟩; exact ⟨(hbx.cell (p := ⟨w.heap.size, 0, none⟩) (by show w.heap.size < w3.heap.size; omega)).trans q0, (hbx.cell (p := ⟨w.heap.size, 1, none⟩) (by show w.heap.size < w3.heap.size; omega)).trans q1, (hbx.cell (p := ⟨b, off + k * 4 + 1, none⟩) (by show b < w3.heap.size; omega)).trans q2, (hbx.cell (p := ⟨b, off + k * 4 + 2, none⟩) (by show b < w3.heap.size; omega)).trans q3⟩) (fun hHeld => ?_)
        clear hK K
        refine wpAnyH_ready (rs := [12]) (by kernel_rfl) (by simp) ?_
        refine AllReadyH.cons rfl (fun K hK => ?_) AllReadyH.nil
        go_simp
        go_at_call 177
        refine (HDI.out k fr _ _ _ hp2 hf1 hf2).mono ?_
        rintro e w6 ⟨gR, oR, cR, rfl, hgR, hla, hby⟩
        refine hK.out _ _ (by rcases hHeld with ⟨q0, q1, q2, q3⟩; exact ⟨(hby.cell (p := ⟨w.heap.size, 0, none⟩) (by show w.heap.size < _; omega)).trans q0, (hby.cell (p := ⟨w.heap.size, 1, none⟩) (by show w.heap.size < _; omega)).trans q1, (hby.cell (p := ⟨b, off + k * 4 + 1, none⟩) (by show b < _; omega)).trans q2, (hby.cell (p := ⟨b, off + k * 4 + 2, none⟩) (by show b < _; omega)).trans q3⟩) (fun hHeld => ?_)
        clear hK K
        refine wpAnyH_ready (rs := [19]) (by kernel_rfl) (by simp) ?_
        refine AllReadyH.cons rfl (fun K hK => ?_) AllReadyH.nil
        go_simp
        go_at_call 176
        refine (has_v HH.out _ _ _ hla.iat (by omega)).mono ?_
        rintro e w7 ⟨rfl, hw7⟩
        replace hw7 := hw7.symm
        subst hw7
        refine hK.out _ _ (by first | assumption | exact hHeld) (fun hHeld => ?_)
        clear hK K
        refine wpAnyH_ready (rs := [20]) (by kernel_rfl) (by simp) ?_
        refine AllReadyH.cons rfl (fun K hK => ?_) AllReadyH.nil
        go_simp
        refine hK.out _ _ (by first | assumption | go_keep) (fun hHeld => ?_)
        clear hK K
        refine wpAnyH_done (by kernel_rfl) ?_ _
        have hsy := hby.size
        have ho4 : w3.drew.ownsRow (w.heap.size + 1) 3 1 v' (List.replicate (k + 1) (0 : Int)).length ((List.replicate (k + 1) (0 : Int)).map iv) := hown3.out
        have ho6 := Lib.hid (show IOwn w6 (w.heap.size + 1) v' (List.replicate (k + 1) 0) from own_on (own_on ho4 hbx) hby)
        have hB6 := Lib.hid ((hB3.out.drew.trans (hbx.mono (by show w.heap.size + 1 ≤ w3.heap.size; omega))).trans (hby.mono (by omega)))
        clear hbx hby hp2 hla hgR hg2 ho4 hHeld hown3 hB3 b0 b1 r1 r2
        cases vb with
        | true =>
          have hs := Lib.hid (HVB.out.1 rfl)
          go_wp2
          go_roundw
          case rel => exact ⟨k + 1, by omega, by go_num, by rw [hs.out], ho6, hnil3, hB6.out⟩
          case measure => simp [intOf]; omega
        | false =>
          have hs := Lib.hid (HVB.out.2 rfl)
          go_wp2
          go_roundw
          case rel => exact ⟨k + 1, by omega, by go_num, by rw [hs.out], ho6, hnil3, hB6.out⟩
          case measure => simp [intOf]; omega
      · have hf0 : f0 N ps k = (fst0 N ps : Int) := by unfold f0; rw [if_pos (by omega)]
        have HF1 := Lib.hid (show f0 N ps (k + 1) = (fst0 N ps : Int) by unfold f0; rw [if_pos (by omega)])
        rw [hf0]
        clear hf0
        have hnn : (0 : Int) ≤ (fst0 N ps : Int) := by omega
        generalize (fst0 N ps : Int) = fi at *
        have hneg : decide (fi < 0) = false := decide_eq_false (by omega)
        go_wp2
        refine wp_region_held_drew (S := fun w' => w'.cell? ⟨w.heap.size, 0, none⟩ = some (.int .i64 (N : Int)) ∧ w'.cell? ⟨w.heap.size, 1, none⟩ = some (.slice (some ⟨b, off, none⟩) ps.length cap) ∧ w'.cell? ⟨b, off + k * 4 + 1, none⟩ = some (.int .i64 (fr : Int)) ∧ w'.cell? ⟨b, off + k * 4 + 2, none⟩ = some (.int .i64 (tt : Int))) (by kernel_rfl) (by go_keep) (fun hHeld => ?_)
        refine wpAnyH_take (i := 0) (v := .int .i64 fi) rfl (by kernel_rfl) (by kernel_rfl) (by kernel_rfl) (fun _ _ _ h => h) (Or.inl ⟨by kernel_rfl, ?_⟩) (by assumption) ?_
        · (intro w hSw; (try dsimp only at hSw); go_simp)
        simp only [Act.put, List.setIfInBounds_toArray]
        refine wpAnyH_take (i := 1) (v := .bool false) rfl (by kernel_rfl) (by kernel_rfl) (by kernel_rfl) (fun _ _ _ h => h) (Or.inl ⟨by kernel_rfl, ?_⟩) (by assumption) ?_
        · (intro w hSw; (try dsimp only at hSw); go_simp)
        simp only [Act.put]
        refine wpAnyH_take (i := 2) (v := .bool false) rfl (by kernel_rfl) (by kernel_rfl) (by kernel_rfl) (fun _ _ _ h => h) (Or.inl ⟨by kernel_rfl, ?_⟩) (by assumption) ?_
        · (intro w hSw; (try dsimp only at hSw); go_simp)
        simp only [Act.put]
        refine wpAnyH_take (i := 3) (v := undef) rfl (by kernel_rfl) (by kernel_rfl) (by kernel_rfl) (fun _ _ _ h => h) (Or.inr ⟨by kernel_rfl, rfl⟩) (by assumption) ?_
        simp only [Act.put]
        refine wpAnyH_take (i := 4) (v := undef) rfl (by kernel_rfl) (by kernel_rfl) (by kernel_rfl) (fun _ _ _ h => h) (Or.inr ⟨by kernel_rfl, rfl⟩) (by assumption) ?_
        simp only [Act.put]
        refine wpAnyH_take (i := 5) (v := undef) rfl (by kernel_rfl) (by kernel_rfl) (by kernel_rfl) (fun _ _ _ h => h) (Or.inr ⟨by kernel_rfl, rfl⟩) (by assumption) ?_
        simp only [Act.put]
        refine wpAnyH_take (i := 6) (v := undef) rfl (by kernel_rfl) (by kernel_rfl) (by kernel_rfl) (fun _ _ _ h => h) (Or.inr ⟨by kernel_rfl, rfl⟩) (by assumption) ?_
        simp only [Act.put]
        refine wpAnyH_take (i := 7) (v := undef) rfl (by kernel_rfl) (by kernel_rfl) (by kernel_rfl) (fun _ _ _ h => h) (Or.inr ⟨by kernel_rfl, rfl⟩) (by assumption) ?_
        simp only [Act.put]
        refine wpAnyH_take (i := 8) (v := undef) rfl (by kernel_rfl) (by kernel_rfl) (by kernel_rfl) (fun _ _ _ h => h) (Or.inr ⟨by kernel_rfl, rfl⟩) (by assumption) ?_
        simp only [Act.put]
        refine wpAnyH_take (i := 9) (v := undef) rfl (by kernel_rfl) (by kernel_rfl) (by kernel_rfl) (fun _ _ _ h => h) (Or.inr ⟨by kernel_rfl, rfl⟩) (by assumption) ?_
        simp only [Act.put]
        refine wpAnyH_take (i := 10) (v := undef) rfl (by kernel_rfl) (by kernel_rfl) (by kernel_rfl) (fun _ _ _ h => h) (Or.inr ⟨by kernel_rfl, rfl⟩) (by assumption) ?_
        simp only [Act.put]
        refine wpAnyH_take (i := 11) (v := undef) rfl (by kernel_rfl) (by kernel_rfl) (by kernel_rfl) (fun _ _ _ h => h) (Or.inr ⟨by kernel_rfl, rfl⟩) (by assumption) ?_
        simp only [Act.put]
        refine wpAnyH_take (i := 12) (v := undef) rfl (by kernel_rfl) (by kernel_rfl) (by kernel_rfl) (fun _ _ _ h => h) (Or.inr ⟨by kernel_rfl, rfl⟩) (by assumption) ?_
        simp only [Act.put]
        refine wpAnyH_take (i := 13) (v := undef) rfl (by kernel_rfl) (by kernel_rfl) (by kernel_rfl) (fun _ _ _ h => h) (Or.inr ⟨by kernel_rfl, rfl⟩) (by assumption) ?_
        simp only [Act.put]
        refine wpAnyH_take (i := 14) (v := undef) rfl (by kernel_rfl) (by kernel_rfl) (by kernel_rfl) (fun _ _ _ h => h) (Or.inr ⟨by kernel_rfl, rfl⟩) (by assumption) ?_
        simp only [Act.put]
        refine wpAnyH_take (i := 15) (v := undef) rfl (by kernel_rfl) (by kernel_rfl) (by kernel_rfl) (fun _ _ _ h => h) (Or.inr ⟨by kernel_rfl, rfl⟩) (by assumption) ?_
        simp only [Act.put]
        refine wpAnyH_take (i := 16) (v := undef) rfl (by kernel_rfl) (by kernel_rfl) (by kernel_rfl) (fun _ _ _ h => h) (Or.inr ⟨by kernel_rfl, rfl⟩) (by assumption) ?_
        simp only [Act.put]
        refine wpAnyH_take (i := 17) (v := undef) rfl (by kernel_rfl) (by kernel_rfl) (by kernel_rfl) (fun _ _ _ h => h) (Or.inr ⟨by kernel_rfl, rfl⟩) (by assumption) ?_
        simp only [Act.put]
        refine wpAnyH_take (i := 18) (v := undef) rfl (by kernel_rfl) (by kernel_rfl) (by kernel_rfl) (fun _ _ _ h => h) (Or.inr ⟨by kernel_rfl, rfl⟩) (by assumption) ?_
        simp only [Act.put]
        refine wpAnyH_take (i := 19) (v := undef) rfl (by kernel_rfl) (by kernel_rfl) (by kernel_rfl) (fun _ _ _ h => h) (Or.inr ⟨by kernel_rfl, rfl⟩) (by assumption) ?_
        simp only [Act.put]
        refine wpAnyH_ready (rs := [20]) (by kernel_rfl) (by simp) ?_
        refine AllReadyH.cons rfl (fun K hK => ?_) AllReadyH.nil
        go_simp
        refine hK.out _ _ (by first | assumption | go_keep) (fun hHeld => ?_)
        clear hK K
        refine wpAnyH_done (by kernel_rfl) ?_ _
        have hB6 := Lib.hid hB3.out.drew
        have ho6 := Lib.hid (show IOwn w3.drew (w.heap.size + 1) v' (List.replicate (k + 1) 0) from hown3.out)
        clear hHeld hown3 hB3 b0 b1 r1 r2
        go_wp2
        go_roundw
        case rel => exact ⟨k + 1, by omega, by go_num, by rw [HF1.out], ho6, hnil3, hB6.out⟩
        case measure => simp [intOf]; omega
    · have hkk : k = ps.length := by omega
      subst hkk
      have hf0 : f0 N ps ps.length = (fst0 N ps : Int) := by unfold f0; rw [if_pos (by omega)]
      have hown2 := hown.out
      obtain ⟨g, capg, rfl, hgB⟩ := own_slice hown2 hvn.out
      rw [List.length_replicate] at hown2
      rw [hf0, List.length_replicate]
      clear hf0 hvn hlt
      obtain ⟨z, hz⟩ : ∃ z, fst0 N ps = z := ⟨_, rfl⟩
      have HSN := Lib.hid (show sgT N ps 0 = (List.replicate ps.length 0).set z 1 by rw [← hz]; rfl)
      have HDS := Lib.hid R.dst
      have HWY := Lib.hid R.way
      have HKN := Lib.hid R.kN
      have hwt := R.tree
      have HLP := Lib.hid R.lp
      have hgw : P2.Good N (wo ps z) := good_sub R.lp.good (wo_sub ps z)
      rw [hz] at hlt0 HDS HWY hwt ⊢
      have HSS := Lib.hid (show ∀ j, sgT N ps (j + 1) = (sgT N ps j).set (ix ps (eW N ps j)) (sgn (eW N ps j) (vW N ps j)) from fun _ => rfl)
      have HV0 := Lib.hid (show vW N ps 0 = (pAt ps z).to from by have := R.lp.st; rw [hz] at this; exact this)
      have HSL := Lib.hid (fun j => sgT_len N ps j)
      have HFI := Lib.hid (show sgT N ps (kW N ps) = sgL N ps from rfl)
      have hqz := HG.out z hlt0
      unfold PpOk at hqz
      obtain ⟨fz, hfz⟩ : ∃ a : Nat, (pAt ps z).fr = (a : Int) := ⟨(pAt ps z).fr.toNat, by omega⟩
      obtain ⟨tz, htz⟩ : ∃ b : Nat, (pAt ps z).to = (b : Int) := ⟨(pAt ps z).to.toNat, by omega⟩
      have hWY := HWY.out
      have hDS := HDS.out
      rw [hfz, htz] at hDS
      rw [hfz, htz, Int.toNat_natCast] at hWY
      have HWAY := Lib.hid (fun A2 c2 w' (h2 : PAt w' A2 (wo ps z)) => l2way_any N tz fz A2 c2 (wo ps z) w' h2 hgw (by omega) (by omega) (by omega) (by omega) (kW N ps) hDS)
      have HWL := Lib.hid (show (wayL (wo ps z) fz (kW N ps) tz).length = kW N ps by rw [hWY]; simp)
      have HWA := Lib.hid (fun j (hj : j < kW N ps) => (show (wayL (wo ps z) fz (kW N ps) tz).getD j 0 = (eW N ps j).id by rw [hWY]; simp [List.getD, hj]))
      rw [htz] at HV0
      obtain ⟨W, hW⟩ : ∃ W, wayL (wo ps z) fz (kW N ps) tz = W := ⟨_, rfl⟩
      rw [hW] at HWAY HWL HWA
      obtain ⟨b, off, hA, hbl, h0, h1, h2, h3⟩ := HA.out.at_ hlt0
      subst hA
      have hWOz := Lib.hid (HWO.out z hlt0)
      have HKP := Lib.hid (fun w' (hb : Below w.heap.size w w') => HA.out.kept hb (Nat.le_refl _))
      have HFN := Lib.hid (fun v (i : Nat) (hf : FindIs ps v (i : Int)) w' (hb : Below w.heap.size w w') => (find_any N (some ⟨b, off, none⟩) cap ps v w' (HA.out.kept hb (Nat.le_refl _)) (by omega)).mono (R' := fun e w'' => e = .returned (.int .i64 (i : Int)) ∧ Below w'.heap.size w' w'') fun e w'' ⟨⟨r, he, hr⟩, hb⟩ => ⟨by rw [he, find_one hr hf], hb⟩)
      clear hz hW hWY hDS hwt hgw HWO HDI HLO HBR R HDS HWY HA hqz
      obtain ⟨b0, b1⟩ := box2 hb
      have hzl := box_lt hb
      have hz0i : (0 : Int) ≤ (z : Int) := by omega
      have hz1i : (z : Int) < (ps.length : Int) := by omega
      refine Hid.out ?_
      refine Lib.hid ?_
      go_wp2_with (first
        | (go_at_call 130; refine (hWOz.out _ (below_box hb)).mono ?_; rintro e w4 ⟨g2, c2, rfl, hg2, hcc, hp2, hb4⟩; refine Hid.out ?_))
      have hgl4 : g < w4.heap.size := by have h1 := (World.ownsRow.lt hown2 g rfl).2; have := hb4.size; omega
      have HFAR := Lib.hid (show g ≠ g2 by have h1 := (World.ownsRow.lt hown2 g rfl).2; omega)
      have hX4 := on_call hb hb4
      have HO5 := Lib.hid (show IOwn (w4.alloc (.cells #[.int .i64 (N : Int), .slice (some ⟨g2, 0, none⟩) (wo ps z).length c2] 30)) (w.heap.size + 1) (.slice (some ⟨g, 0, none⟩) ps.length capg) (List.replicate ps.length 0) from (hown2.on hb4).alloc (.cells #[.int .i64 (N : Int), .slice (some ⟨g2, 0, none⟩) (wo ps z).length c2] 30))
      have HB5 := Lib.hid (hX4.alloc (by have := box_lt hX4; omega) (.cells #[.int .i64 (N : Int), .slice (some ⟨g2, 0, none⟩) (wo ps z).length c2] 30))
      have hw4l : w.heap.size < w4.heap.size := box_lt hX4
      have HP2 := Lib.hid (hp2.kept (alloc_belowE w4 (.cells #[.int .i64 (N : Int), .slice (some ⟨g2, 0, none⟩) (wo ps z).length c2] 30)) (Nat.le_refl _))
      have HNE := Lib.hid (show w4.heap.size ≠ g by omega)
      have hs5 : (w4.alloc (.cells #[.int .i64 (N : Int), .slice (some ⟨g2, 0, none⟩) (wo ps z).length c2] 30)).heap.size = w4.heap.size + 1 := by simp
      obtain ⟨w5, hw5⟩ : ∃ w5, w4.alloc (.cells #[.int .i64 (N : Int), .slice (some ⟨g2, 0, none⟩) (wo ps z).length c2] 30) = w5 := ⟨_, rfl⟩
      have HD0 := Lib.hid (show w5.cell? ⟨w4.heap.size, 0, none⟩ = some (.int .i64 (N : Int)) by rw [← hw5]; exact boxA0)
      have HD1 := Lib.hid (show w5.cell? ⟨w4.heap.size, 1, none⟩ = some (.slice (some ⟨g2, 0, none⟩) (wo ps z).length c2) by rw [← hw5]; exact boxA1)
      rw [hw5] at HO5 HB5 HP2 hs5
      have HW5 := Lib.hid hw5
      have HRL := Lib.hid (show (List.replicate ps.length (0 : Int)).length = ps.length by simp)
      have HO6 := Lib.hid (show IOwn (w5.setCell ⟨g, z, none⟩ (iv 1)) (w.heap.size + 1) (.slice (some ⟨g, 0, none⟩) ps.length capg) (sgT N ps 0) by rw [HSN.out]; exact (HO5.out.set HRL.out z 1))
      have c5 := HO5.out.cell HRL.out (v := z) (by rw [HRL.out]; exact hlt0)
      have f5 := HO5.out.frozen HRL.out z
      have HB6 := Lib.hid (HB5.out.setCell (p := ⟨g, z, none⟩) (by show w.heap.size + 1 ≤ g; omega) (iv 1))
      have HE0 := Lib.hid (show (w5.setCell ⟨g, z, none⟩ (iv 1)).cell? ⟨w4.heap.size, 0, none⟩ = some (.int .i64 (N : Int)) by rw [cell_farS HNE.out]; exact HD0.out)
      have HE1 := Lib.hid (show (w5.setCell ⟨g, z, none⟩ (iv 1)).cell? ⟨w4.heap.size, 1, none⟩ = some (.slice (some ⟨g2, 0, none⟩) (wo ps z).length c2) by rw [cell_farS HNE.out]; exact HD1.out)
      have HP6 := Lib.hid (show PAt (w5.setCell ⟨g, z, none⟩ (iv 1)) (some ⟨g2, 0, none⟩) (wo ps z) from HP2.out.grown (setCell_off w5 g z (iv 1)) (fun b hb e => by simp at hb e; have := HFAR.out; omega))
      have r3 := (below_box HB5.out).cell (p := ⟨b, off + z * 4 + 2, none⟩) hbl |>.trans h2
      rw [htz] at r3
      have hb5l : b < w5.heap.size := by have := (below_box HB5.out).size; omega
      have hbg : b ≠ g := by omega
      have r4 := (cell_farS (w := w5) (i := z) (v := iv 1) (o := off + z * 4 + 2) hbg).trans r3
      have r5 := (cell_farS (w := w5) (i := z) (v := iv 1) (o := off + z * 4 + 1) hbg).trans ((below_box HB5.out).cell (p := ⟨b, off + z * 4 + 1, none⟩) hbl |>.trans h1)
      rw [hfz] at r5
      clear b0 b1
      obtain ⟨b0, b1⟩ := box2 HB5.out
      obtain ⟨e0, e1⟩ := box2 HB6.out
      obtain ⟨w6, hw6⟩ : ∃ w6, w5.setCell ⟨g, z, none⟩ (iv 1) = w6 := ⟨_, rfl⟩
      have hs6 : w6.heap.size = w5.heap.size := by rw [← hw6]; simp
      rw [hw6] at HO6 HB6 HE0 HE1 HP6 r4 r5 e0 e1
      have HW6 := Lib.hid hw6
      have HC := Lib.hid (show w6.heap.size = w5.heap.size from hs6)
      clear hw6 HP2 HO5 hp2 hX4 h0 h1 h2 h3
      have HR4 := Lib.hid r4
      have HR5 := Lib.hid r5
      have HEE0 := Lib.hid e0
      have HEE1 := Lib.hid e1
      clear r3 r4 r5 e0 e1 b0 b1
      have hg5 : g < w5.heap.size := by omega
      refine Lib.hid ?_
      go_upto_region 10 with (fail)

      clear hw5
      go_upto_region 11 with (fail)
      rw [HW6.out]
      have r4 := HR4.out
      have r5 := HR5.out
      have e0 := HEE0.out
      have e1 := HEE1.out
      have hb6l : b < w6.heap.size := by omega
      go_upto_region 12 with (fail)
      refine wp_region_held_drew (S := fun w' => w'.cell? ⟨w.heap.size, 0, none⟩ = some (.int .i64 (N : Int)) ∧ w'.cell? ⟨w.heap.size, 1, none⟩ = some (.slice (some ⟨b, off, none⟩) ps.length cap) ∧ w'.cell? ⟨w4.heap.size, 0, none⟩ = some (.int .i64 (N : Int)) ∧ w'.cell? ⟨w4.heap.size, 1, none⟩ = some (.slice (some ⟨g2, 0, none⟩) (wo ps z).length c2) ∧ w'.cell? ⟨b, off + z * 4 + 1, none⟩ = some (.int .i64 (fz : Int))) (by kernel_rfl) (by exact ⟨e0, e1, HE0.out, HE1.out, r5⟩) (fun hHeld => ?_)
      refine wpAnyH_take (i := 0) (v := .agg #[.int .i64 (N : Int), .slice (some ⟨g2, 0, none⟩) (wo ps z).length c2]) rfl (by kernel_rfl) (by kernel_rfl) (by kernel_rfl) (fun _ _ _ h => h) (Or.inl ⟨by kernel_rfl, ?_⟩) (by assumption) ?_
      · (intro w hSw; (try dsimp only at hSw); go_simp)
      simp only [Act.put, List.setIfInBounds_toArray]
      refine wpAnyH_take (i := 1) (v := .int .i64 (tz : Int)) rfl (by kernel_rfl) (by kernel_rfl) (by kernel_rfl) (fun _ _ _ h => h) (Or.inl ⟨by kernel_rfl, ?_⟩) (by assumption) ?_
      · (intro w hSw; (try dsimp only at hSw); go_simp)
      simp only [Act.put]
      refine wpAnyH_take (i := 2) (v := .pointer (some ⟨w.heap.size, 1, none⟩)) rfl (by kernel_rfl) (by kernel_rfl) (by kernel_rfl) (fun _ _ _ h => h) (Or.inl ⟨by kernel_rfl, ?_⟩) (by assumption) ?_
      · (intro w hSw; (try dsimp only at hSw); go_simp)
      simp only [Act.put]
      refine wpAnyH_take (i := 3) (v := .slice (some ⟨b, off, none⟩) ps.length cap) rfl (by kernel_rfl) (by kernel_rfl) (by kernel_rfl) (fun _ _ _ h => h) (Or.inl ⟨by kernel_rfl, ?_⟩) (by assumption) ?_
      · (intro w hSw; (try dsimp only at hSw); go_simp)
      simp only [Act.put]
      refine wpAnyH_take (i := 4) (v := .int .i64 (z : Int)) rfl (by kernel_rfl) (by kernel_rfl) (by kernel_rfl) (fun _ _ _ h => h) (Or.inl ⟨by kernel_rfl, ?_⟩) (by assumption) ?_
      · (intro w hSw; (try dsimp only at hSw); go_simp)
      simp only [Act.put]
      refine wpAnyH_take (i := 5) (v := .pointer (some ⟨b, off + z * 4, none⟩)) rfl (by kernel_rfl) (by kernel_rfl) (by kernel_rfl) (fun _ _ _ h => h) (Or.inl ⟨by kernel_rfl, ?_⟩) (by assumption) ?_
      · (intro w hSw; (try dsimp only at hSw); go_simp)
      simp only [Act.put]
      refine wpAnyH_take (i := 6) (v := .pointer (some ⟨b, off + z * 4 + 1, none⟩)) rfl (by kernel_rfl) (by kernel_rfl) (by kernel_rfl) (fun _ _ _ h => h) (Or.inl ⟨by kernel_rfl, ?_⟩) (by assumption) ?_
      · (intro w hSw; (try dsimp only at hSw); go_simp)
      simp only [Act.put]
      refine wpAnyH_take (i := 7) (v := .int .i64 (fz : Int)) rfl (by kernel_rfl) (by kernel_rfl) (by kernel_rfl) (fun _ _ _ h => h) (Or.inl ⟨by kernel_rfl, ?_⟩) (by assumption) ?_
      · (intro w hSw; (try dsimp only at hSw); go_simp)
      simp only [Act.put]
      refine wpAnyH_ready (rs := [8]) (by kernel_rfl) (by simp) ?_
      refine AllReadyH.cons rfl (fun K hK => ?_) AllReadyH.nil
      go_simp
      go_at_call 198
      refine (HWAY.out _ _ w6.drew (show PAt w6.drew (some ⟨g2, 0, none⟩) (wo ps z) from HP6.out)).mono ?_
      rintro e w8 ⟨gW, cW, rfl, hgW, hOW, hb8⟩
      have HB8 := Lib.hid (HB6.out.drew.trans (hb8.mono (by show w.heap.size + 1 ≤ w6.heap.size; omega)))
      have HO8 := Lib.hid (show IOwn w8 (w.heap.size + 1) (.slice (some ⟨g, 0, none⟩) ps.length capg) (sgT N ps 0) from IOwn.on (show IOwn w6.drew (w.heap.size + 1) (.slice (some ⟨g, 0, none⟩) ps.length capg) (sgT N ps 0) from HO6.out) hb8)
      have HI8 := Lib.hid hOW.iat
      have hgg : g < gW := by have : w6.heap.size ≤ gW := hgW; omega
      refine hK.out _ _ (by rcases hHeld with ⟨q0, q1, q2, q3, q4⟩; exact ⟨(hb8.cell (p := ⟨w.heap.size, 0, none⟩) (by show w.heap.size < w6.heap.size; omega)).trans q0, (hb8.cell (p := ⟨w.heap.size, 1, none⟩) (by show w.heap.size < w6.heap.size; omega)).trans q1, (hb8.cell (p := ⟨w4.heap.size, 0, none⟩) (by show w4.heap.size < w6.heap.size; omega)).trans q2, (hb8.cell (p := ⟨w4.heap.size, 1, none⟩) (by show w4.heap.size < w6.heap.size; omega)).trans q3, (hb8.cell (p := ⟨b, off + z * 4 + 1, none⟩) (by show b < w6.heap.size; omega)).trans q4⟩) (fun hHeld => ?_)
      clear hK K
      refine wpAnyH_ready (rs := [9]) (by kernel_rfl) (by simp) ?_
      refine AllReadyH.cons rfl (fun K hK => ?_) AllReadyH.nil
      go_simp
      refine hK.out _ _ (by first | assumption | go_keep) (fun hHeld => ?_)
      clear hK K
      refine wpAnyH_done (by kernel_rfl) ?_ _
      clear hHeld e0 e1 HE0 HE1 r4 r5 HP6 HB6 HO6 hb8 hOW hgW HB5 HC HFAR HNE HRL
      rw [← HV0.out]
      clear hs5 hs6 hb5l hb6l hg5 hw4l hgl4
      go_wp2
      have hWN : W.length ≤ 8 := by rw [HWL.out]; have := HKN.out; omega
      go_loopw [7, 9] (fun h i wr => ∃ j : Nat, j ≤ W.length ∧ i = .int .i64 (j : Int) ∧ h = .int .i64 (vW N ps j) ∧ Hid (IOwn wr (w.heap.size + 1) (.slice (some ⟨g, 0, none⟩) ps.length capg) (sgT N ps j)) ∧ Hid (IAt wr (some ⟨gW, 0, none⟩) W) ∧ Hid (Below (w.heap.size + 1) (w.alloc (nb N (some ⟨b, off, none⟩) ps.length cap)) wr)) (fun _ i _ => W.length - (intOf i).toNat)
      case atStart => exact ⟨0, Nat.zero_le _, rfl, rfl, HO8, HI8, HB8⟩
      case round =>
        clear HO8 HI8 HB8 HV0 HSN
        obtain ⟨j, hj, rfl, rfl, hown, hia, hB⟩ := hrel
        by_cases hlt : j < W.length
        · have hjk : j < kW N ps := by rw [← HWL.out]; exact hlt
          obtain ⟨c0, c1⟩ := box2 hB.out
          have hz2 := box_lt hB.out
          obtain ⟨bW, oW, hAW, hblW, w0⟩ := hia.out.at_ hlt
          simp only [Option.some.injEq, Addr.mk.injEq, and_true] at hAW
          obtain ⟨rfl, rfl⟩ := hAW
          rw [Nat.zero_add, HWA.out j hjk] at w0
          have hk0 : (0 : Int) ≤ (j : Int) := by omega
          have hkn : (j : Int) < (W.length : Int) := by omega
          obtain ⟨hjp, hne0⟩ := HLP.out.ne hjk
          obtain ⟨hil, hip⟩ := ix_in HLP.out.good hjp
          obtain ⟨hst1, hst2, _⟩ := HLP.out.step hjk
          have hpf := (plc_at HLP.out.good hil).2
          rw [hip] at hpf
          have hFN := Lib.hid (fun w' hb' => HFN.out (eW N ps j).id (ix ps (eW N ps j)) hpf w' ((below_box hB.out).trans (Below.mono hb' (below_box hB.out).size)))
          have hAP := Lib.hid (fun w' hb => (HKP.out w' hb).at_ hil)
          have hsg := HSS.out j
          have HTO := Lib.hid (show ((eW N ps j).fr = vW N ps j → sgn (eW N ps j) (vW N ps j) = 1 ∧ vW N ps (j + 1) = (eW N ps j).to) ∧ (¬ (eW N ps j).fr = vW N ps j → sgn (eW N ps j) (vW N ps j) = -1 ∧ vW N ps (j + 1) = (eW N ps j).fr) from ⟨fun e => ⟨by unfold sgn; rw [if_pos e], by rw [← hst1]; unfold oth; rw [if_pos e]⟩, fun e => ⟨by unfold sgn; rw [if_neg e], by rw [← hst1]; unfold oth; rw [if_neg e]⟩⟩)
          have HSJ := Lib.hid hsg
          rw [hip] at hAP
          obtain ⟨h2, hh2⟩ : ∃ z, vW N ps (j + 1) = z := ⟨_, rfl⟩
          rw [hh2] at HTO
          have HH2 := Lib.hid hh2
          clear hsg hh2 hst1 hst2 hpf hip hne0 hjp
          generalize eW N ps j = p at *
          generalize ix ps p = i at *
          generalize vW N ps j = hh at *
          have hj0 : (0 : Int) ≤ (i : Int) := by omega
          have hjn : (i : Int) < (ps.length : Int) := by omega
          go_wp2
          have hG := @cell_g
          refine region_below (by kernel_rfl) (by kernel_rfl) ?_
          repeat (first | go_big_quiet_step ((go_at_call 146; exact met_at hFN.out)))
          refine wpQuiet_nil ?_
          intro w9 hb9
          have hX9 := on_call hB.out hb9
          have HB9 := Lib.hid hX9
          have hO9 := Lib.hid (hown.out.on hb9)
          have hI9 := Lib.hid (hia.out.kept hb9 (Nat.le_refl _))
          clear c0 c1 hz2 w0 hblW hG hown hia hB
          obtain ⟨c0, c1⟩ := box2 hX9
          have hz9 := box_lt hX9
          obtain ⟨bx, ofx, hA, hbx, p0, p1, p2, p3⟩ := hAP.out _ (below_box hX9)
          simp only [Option.some.injEq, Addr.mk.injEq, and_true] at hA
          obtain ⟨rfl, rfl⟩ := hA
          clear hX9 hb9
          have hab := alloc_belowE w9 (.cells #[.int .i64 p.id, .int .i64 p.fr, .int .i64 p.to, .int .i64 p.sz] 75)
          have d0 := cells4 w9 (.int .i64 p.id) (.int .i64 p.fr) (.int .i64 p.to) (.int .i64 p.sz) 75 0 _ rfl
          have d1 := cells4 w9 (.int .i64 p.id) (.int .i64 p.fr) (.int .i64 p.to) (.int .i64 p.sz) 75 1 _ rfl
          have d2 := cells4 w9 (.int .i64 p.id) (.int .i64 p.fr) (.int .i64 p.to) (.int .i64 p.sz) 75 2 _ rfl
          have d3 := cells4 w9 (.int .i64 p.id) (.int .i64 p.fr) (.int .i64 p.to) (.int .i64 p.sz) 75 3 _ rfl
          have hzz : w9.heap.size < (w9.alloc (.cells #[.int .i64 p.id, .int .i64 p.fr, .int .i64 p.to, .int .i64 p.sz] 75)).heap.size := by simp
          have hOA := Lib.hid (show IOwn (w9.alloc (.cells #[.int .i64 p.id, .int .i64 p.fr, .int .i64 p.to, .int .i64 p.sz] 75)) (w.heap.size + 1) (.slice (some ⟨g, 0, none⟩) ps.length capg) (sgT N ps j) from hO9.out.alloc _)
          have hIA := Lib.hid (hI9.out.kept hab (Nat.le_refl _))
          have hBA := Lib.hid (HB9.out.alloc (by omega) (.cells #[.int .i64 p.id, .int .i64 p.fr, .int .i64 p.to, .int .i64 p.sz] 75))
          have hgA := (World.ownsRow.lt hOA.out g rfl)
          have hcA := hOA.out.cell (HSL.out j) (v := i) (by rw [HSL.out]; exact hil)
          have hfA := hOA.out.frozen (HSL.out j) i
          clear hab
          have hg9 : g ≠ w9.heap.size := by have := (World.ownsRow.lt hO9.out g rfl).2; omega
          by_cases hto : p.fr = hh
          · have g0 : (p.fr == hh) = true := beq_iff_eq.2 hto
            obtain ⟨he, he2⟩ := HTO.out.1 hto
            rw [he] at HSJ
            have HE3 := Lib.hid he2
            have HN1 := Lib.hid (show IOwn ((w9.alloc (.cells #[.int .i64 p.id, .int .i64 p.fr, .int .i64 p.to, .int .i64 p.sz] 75)).setCell ⟨g, i, none⟩ (iv 1)) (w.heap.size + 1) (.slice (some ⟨g, 0, none⟩) ps.length capg) (sgT N ps (j + 1)) by rw [HSJ.out]; exact hOA.out.set (HSL.out j) i 1)
            have HN2 := Lib.hid (IAt.far hIA.out (setCell_off _ g i (iv 1)) (by omega))
            have HN3 := Lib.hid (hBA.out.setCell (p := ⟨g, i, none⟩) hgA.1 (iv 1))
            have r2 := (cell_farS (w := w9.alloc (.cells #[.int .i64 p.id, .int .i64 p.fr, .int .i64 p.to, .int .i64 p.sz] 75)) (b := w9.heap.size) (o := 2) (i := i) (v := iv 1) (Ne.symm hg9)).trans d2
            clear hto he he2 hgA hBA hIA hOA HSJ hO9 hI9 HB9
            go_wp2
            go_roundw
            case rel => exact ⟨j + 1, by omega, by go_num, by rw [HH2.out, HE3.out], HN1, HN2, HN3⟩
            case measure => simp [intOf]; omega
          · have g0 : (p.fr == hh) = false := beq_eq_false_iff_ne.2 hto
            obtain ⟨he, he2⟩ := HTO.out.2 hto
            rw [he] at HSJ
            have HE3 := Lib.hid he2
            have HN1 := Lib.hid (show IOwn ((w9.alloc (.cells #[.int .i64 p.id, .int .i64 p.fr, .int .i64 p.to, .int .i64 p.sz] 75)).setCell ⟨g, i, none⟩ (iv (-1))) (w.heap.size + 1) (.slice (some ⟨g, 0, none⟩) ps.length capg) (sgT N ps (j + 1)) by rw [HSJ.out]; exact hOA.out.set (HSL.out j) i (-1))
            have HN2 := Lib.hid (IAt.far hIA.out (setCell_off _ g i (iv (-1))) (by omega))
            have HN3 := Lib.hid (hBA.out.setCell (p := ⟨g, i, none⟩) hgA.1 (iv (-1)))
            have r2 := (cell_farS (w := w9.alloc (.cells #[.int .i64 p.id, .int .i64 p.fr, .int .i64 p.to, .int .i64 p.sz] 75)) (b := w9.heap.size) (o := 1) (i := i) (v := iv (-1)) (Ne.symm hg9)).trans d1
            clear hto he he2 hgA hBA hIA hOA HSJ hO9 hI9 HB9
            go_wp2
            go_roundw
            case rel => exact ⟨j + 1, by omega, by go_num, by rw [HH2.out, HE3.out], HN1, HN2, HN3⟩
            case measure => simp [intOf]; omega
        · have hjj : j = kW N ps := by rw [← HWL.out]; omega
          have HO := Lib.hid hown.out
          rw [hjj, HFI.out] at HO
          have HB := Lib.hid (below_box hB.out)
          clear hown hia hB hjj
          go_wp2
          go_ret
          exact ⟨g, capg, by rw [sgL_len]; rfl, by omega, by have := own_lower (B' := w.heap.size) HO.out; rw [sgL_len]; exact this, HB.out⟩
end Go.Proofs.Ytgjogjmfpbinfaa.S2

namespace Go.Proofs.Ytgjogjmfpbinfaa.S2
open Go.RowKit P2

/-- The Id of a bridge is among those of the bridges. -/
theorem brTo_mem {N : Nat} {ps : List Pp} (hg : P2.Good N ps) {j : Nat} (hj : j < ps.length) : decide ((pAt ps j).id ∈ brTo ps ps.length) = brB ps j := by
  rw [Bool.eq_iff_iff, decide_eq_true_iff]
  unfold brTo
  rw [List.mem_map]
  constructor
  · rintro ⟨i, hi, he⟩
    obtain ⟨h1, h2⟩ := List.mem_filter.1 hi
    have hil := List.mem_range.1 h1
    have hids := good_ids hg
    have e : i = j := by
      have a : ¬ i < j := fun x => by have := hids i j x hj; omega
      have b : ¬ j < i := fun x => by have := hids j i x hil; omega
      omega
    rw [← e]; exact h2
  · intro h
    exact ⟨j, List.mem_filter.2 ⟨List.mem_range.2 hj, h⟩, rfl⟩

set_option maxHeartbeats 1000000 in
theorem sga_no1 (n : Int) (A : Option Addr) (cap : Nat) (ps : List Pp) (w : World) (h : PAt w A ps) (hm : ps.length ≤ maxLen) (hv : goodB n ps = false) :
    Calls Try.prog 119 #[nv n A ps.length cap] w (GivesI w [] false) := by
  have H := Lib.hid (fun w' (hb : Below w.heap.size w w') => br_no n A cap ps w' (h.kept hb (Nat.le_refl _)) hm hv)
  clear h hv
  go_enter Try.func119, Try.ntmps119
  go_wp2
  try go_step3
  go_wp2_with (go_at_call 55; refine (H.out _ ((Below.refl _ _).alloc (Nat.le_refl _) _)).mono ?_; rintro e w1 ⟨g, c, rfl, hg, hO, hb1⟩)
  rw [Exit.noGoto_ret]
  go_ret2
  exact gives_none (below_alloc_call hb1)
set_option maxHeartbeats 1000000 in
theorem sga_no2 (N : Nat) (A : Option Addr) (cap : Nat) (ps : List Pp) (w : World) (h : PAt w A ps) (hm : ps.length ≤ maxLen) (hv : goodB N ps = true) (hc : ps.length ≤ cap) (hr : ringB N ps = false) :
    Calls Try.prog 119 #[nv N A ps.length cap] w (GivesI w [] false) := by
  have H := Lib.hid (fun w' (hb : Below w.heap.size w w') => br_yes N A cap ps w' (h.kept hb (Nat.le_refl _)) hm hv hc)
  have HR := Lib.hid (fun w' (hb : Below w.heap.size w w') => isring_v hr A cap w' (h.kept hb (Nat.le_refl _)) (good_of hv))
  clear h hv hr
  go_enter Try.func119, Try.ntmps119
  go_wp2
  try go_step3
  go_wp2_with (first
    | (go_at_call 55; refine (H.out _ ((Below.refl _ _).alloc (Nat.le_refl _) _)).mono ?_; rintro e w1 ⟨g, c, rfl, hg, hO, hb1⟩; obtain ⟨hc1, hf1⟩ := bcell hb1; have hz1 := hb1.size; simp at hz1; have hb2 := Lib.hid (below_alloc_call hb1); clear hb1)
    | (go_at_call 116; refine (HR.out _ hb2.out).mono ?_; rintro e w2 ⟨rfl, hb3⟩))
  rw [Exit.noGoto_ret]
  go_ret2
  exact gives_none (hb2.out.trans (hb3.mono hb2.out.size))

set_option maxHeartbeats 4000000 in
set_option maxRecDepth 100000 in
theorem sga_yes (N : Nat) (A : Option Addr) (cap : Nat) (ps : List Pp) (w : World) (h : PAt w A ps) (hm : ps.length ≤ maxLen) (hv : goodB N ps = true) (hc : ps.length ≤ cap) (hr : ringB N ps = true) :
    Calls Try.prog 119 #[nv N A ps.length cap] w (GivesI w (sgL N ps) true) := by
  have hg := good_of hv
  have R := ring_rg hg hr
  have hN : N ≤ 8 := by have := hg.2.1; omega
  have hl10 := hg.2.2.1
  have H := Lib.hid (fun w' (hb : Below w.heap.size w w') => br_yes N A cap ps w' (h.kept hb (Nat.le_refl _)) hm hv hc)
  have HR := Lib.hid (fun w' (hb : Below w.heap.size w w') => isring_v hr A cap w' (h.kept hb (Nat.le_refl _)) hg)
  have HBM := Lib.hid (fun j (hj : j < ps.length) => brTo_mem hg hj)
  have HBL := brTo_len ps ps.length
  have HLP := Lib.hid R.lp
  have HBR := Lib.hid R.br
  have HSL := Lib.hid (fun j => sgT_len N ps j)
  have HG := Lib.hid (fun j (hj : j < ps.length) => good_pp hg (pAt_mem hj))
  have HFI := Lib.hid (show sgT N ps (kW N ps) = sgL N ps from rfl)
  have HS0 := Lib.hid (show sgT N ps 0 = (List.replicate ps.length 0).set (fst0 N ps) 1 from rfl)
  have HSS := Lib.hid (show ∀ j, sgT N ps (j + 1) = (sgT N ps j).set (ix ps (eW N ps j)) (sgn (eW N ps j) (vW N ps j)) from fun _ => rfl)
  have HLW := Lib.hid R.low
  have HDI := Lib.hid (show ∀ k, k ≤ kW N ps → (dist (wo ps (fst0 N ps)) (pAt ps (fst0 N ps)).fr (vW N ps k)).toNat = kW N ps - k from fun k hk => by rw [R.lp.wy.far k hk]; simp)
  have HV1 := Lib.hid (show ∀ k, k ≤ kW N ps → 1 ≤ vW N ps k from fun k hk => by
    by_cases e : k < kW N ps
    · have h1 := (R.lp.step e).2.1
      have h2 := good_pp hg (R.lp.ne e).1
      unfold PpOk at h2
      rcases h1 with h1 | h1 <;> omega
    · have e2 : k = kW N ps := by omega
      have h1 := R.lp.wy.last
      have h2 := good_pp hg (pAt_mem R.lp.lt)
      unfold PpOk at h2
      rw [e2, h1]; omega)
  have hlt0 := R.lp.lt
  have hmk := run_make_row' (P := Try.prog) 34 3 (.int .i64 0) 8 Try.underlying34 infoI rfl .i64 .i64 ps.length (by omega) (by omega)
  have HMO := Lib.hid (fun w' => made_row (List.replicate ps.length (0 : Int)) w' (by rw [List.length_replicate]; omega))
  have HM0 := Lib.hid (show fiI (List.replicate ps.length (0 : Int)) 0 = (List.replicate ps.length (0 : Int)).map iv by simp [fiI])
  obtain ⟨b, off, hA, hbl, _⟩ := h.at_ hlt0
  subst hA
  have HA := Lib.hid (fun w' (hb : Below w.heap.size w w') => h.kept hb (Nat.le_refl _))
  clear h hv hr hm hc hg R
  go_enter Try.func119, Try.ntmps119
  go_wp2
  refine wp_scope_jumps 0 (fun a' w' => ∃ (k gB cB g : Nat) (u8 u9 u10 u11 u12 u13 u14 u15 u16 u17 u18 u19 u20 u21 u22 u23 u24 u25 u26 u27 u28 u29 u30 u31 u32 u33 u34 u35 u36 u37 u38 u39 u40 u41 u42 u43 u44 u45 u46 u47 u48 u49 u50 u51 u52 u53 u54 u55 u56 u57 u58 u59 u60 u61 u62 u63 u64 u65 u66 : Value), a' = { tmps := #[nv N (some ⟨b, off, none⟩) ps.length cap, .pointer (some ⟨w.heap.size, 0, none⟩), .slice none 0 0, .bool false, .slice (some ⟨gB, 0, none⟩) (brTo ps ps.length).length cB, .bool true, .slice (some ⟨g, 0, none⟩) ps.length ps.length, .int .i64 (vW N ps k), u8, u9, u10, u11, u12, u13, u14, u15, u16, u17, u18, u19, u20, u21, u22, u23, u24, u25, u26, u27, u28, u29, u30, u31, u32, u33, u34, u35, u36, u37, u38, u39, u40, u41, u42, u43, u44, u45, u46, u47, u48, u49, u50, u51, u52, u53, u54, u55, u56, u57, u58, u59, u60, u61, u62, u63, u64, u65, u66, undef], defers := [] } ∧ k ≤ kW N ps ∧ Hid (IOwn w' (w.heap.size + 1) (.slice (some ⟨g, 0, none⟩) ps.length ps.length) (sgT N ps k)) ∧ Hid (IAt w' (some ⟨gB, 0, none⟩) (brTo ps ps.length)) ∧ Hid (gB ≠ g) ∧ Hid (Below (w.heap.size + 1) (w.alloc (nb N (some ⟨b, off, none⟩) ps.length cap)) w')) (fun a' _ => (dist (wo ps (fst0 N ps)) (pAt ps (fst0 N ps)).fr (intOf (a'.tmps.getD 7 undef))).toNat) rfl ?_ ?_
  · go_wp2_with (first
      | (go_at_call 55; refine (H.out _ ((Below.refl _ _).alloc (Nat.le_refl _) _)).mono ?_; rintro e w1 ⟨gB, cB, rfl, hgB, hOB, hb1⟩; have HX1 := Lib.hid (show Below (w.heap.size + 1) (w.alloc (nb N (some ⟨b, off, none⟩) ps.length cap)) w1 by simpa using hb1); obtain ⟨b0, b1⟩ := box2 HX1.out; have hy1 := box_lt HX1.out; have HI1 := Lib.hid hOB.iat; have hgB1 := (World.ownsRow.lt hOB gB rfl).2; clear hb1 hOB)
      | (go_at_call 116; refine (HR.out _ (below_box HX1.out)).mono ?_; rintro e w2 ⟨rfl, hb2⟩; have HX2 := Lib.hid (on_call HX1.out hb2); have HI2 := Lib.hid (HI1.out.kept hb2 (Nat.le_refl _)); clear b0 b1; obtain ⟨b0, b1⟩ := box2 HX2.out; have hy2 := box_lt HX2.out; have hgB2 : gB < w2.heap.size := (by have := hb2.size; omega); clear hb2))
    have HO3 := HMO.out w2
    rw [List.length_replicate, HM0.out] at HO3
    have hown3 := Lib.hid (own_lower (B' := w.heap.size + 1) (show IOwn (w2.alloc (.cells (madeCells #[.int .i64 0] ps.length) 3)) w2.heap.size (.slice (some ⟨w2.heap.size, 0, none⟩) ps.length ps.length) (List.replicate ps.length 0) by unfold IOwn; rw [List.length_replicate]; exact HO3.out))
    have hia3 := Lib.hid (HI2.out.kept (alloc_belowE w2 (.cells (madeCells #[.int .i64 0] ps.length) 3)) (Nat.le_refl _))
    have hB3 := Lib.hid (HX2.out.alloc (by omega) (.cells (madeCells #[.int .i64 0] ps.length) 3))
    have hne : Hid (gB ≠ w2.heap.size) := Lib.hid (by omega)
    have hg0 : w.heap.size + 1 ≤ w2.heap.size := by omega
    generalize w2.alloc (.cells (madeCells #[.int .i64 0] ps.length) 3) = w3 at *
    generalize w2.heap.size = g at *
    clear HO3 HMO HM0 hmk H HR HX1 HX2 HI1 HI2 b0 b1
    go_step3
    obtain ⟨b0, b1⟩ := box2 hB3.out
    have hzl := box_lt hB3.out
    go_wp2
    have HRL := Lib.hid (show (List.replicate ps.length (0 : Int)).length = ps.length by simp)
    have HST := Lib.hid HLP.out.st
    go_loopw [7, 30] (fun h i wr => ∃ j : Nat, j ≤ ps.length ∧ i = .int .i64 (j : Int) ∧ h = .int .i64 0 ∧ Hid (∀ j', j' < j → brB ps j' = true) ∧ Hid (IOwn wr (w.heap.size + 1) (.slice (some ⟨g, 0, none⟩) ps.length ps.length) (List.replicate ps.length 0)) ∧ Hid (IAt wr (some ⟨gB, 0, none⟩) (brTo ps ps.length)) ∧ Hid (Below (w.heap.size + 1) (w.alloc (nb N (some ⟨b, off, none⟩) ps.length cap)) wr)) (fun _ i _ => ps.length - (intOf i).toNat)
    case atStart => exact ⟨0, Nat.zero_le _, rfl, rfl, Lib.hid (fun j' hj => absurd hj (by omega)), hown3, hia3, hB3⟩
    case round =>
      clear hown3 hia3 hB3 b0 b1 hzl
      obtain ⟨j, hj, rfl, rfl, hno, hown, hia, hB⟩ := hrel
      have hlt : j < ps.length := Classical.byContradiction fun hx => by
        have h1 := hno.out (fst0 N ps) (by omega)
        rw [HBR.out] at h1
        cases h1
      obtain ⟨b0, b1⟩ := box2 hB.out
      have hzl := box_lt hB.out
      obtain ⟨bx, ofx, hA, hbx, p0, p1, p2, p3⟩ := (HA.out _ (below_box hB.out)).at_ hlt
      simp only [Option.some.injEq, Addr.mk.injEq, and_true] at hA
      obtain ⟨rfl, rfl⟩ := hA
      have hj0 : (0 : Int) ≤ (j : Int) := by omega
      have hj1 : (j : Int) < (ps.length : Int) := by omega
      obtain ⟨p, hp⟩ : ∃ p, pAt ps j = p := ⟨_, rfl⟩
      have hbm := HBM.out j hlt
      rw [hp] at p0 p1 p2 p3 hbm
      have hab := alloc_belowE wr (.cells #[.int .i64 p.id, .int .i64 p.fr, .int .i64 p.to, .int .i64 p.sz] 75)
      have d0 := cells4 wr (.int .i64 p.id) (.int .i64 p.fr) (.int .i64 p.to) (.int .i64 p.sz) 75 0 _ rfl
      have d1 := cells4 wr (.int .i64 p.id) (.int .i64 p.fr) (.int .i64 p.to) (.int .i64 p.sz) 75 1 _ rfl
      have d2 := cells4 wr (.int .i64 p.id) (.int .i64 p.fr) (.int .i64 p.to) (.int .i64 p.sz) 75 2 _ rfl
      have d3 := cells4 wr (.int .i64 p.id) (.int .i64 p.fr) (.int .i64 p.to) (.int .i64 p.sz) 75 3 _ rfl
      have HOA := Lib.hid (show IOwn (wr.alloc (.cells #[.int .i64 p.id, .int .i64 p.fr, .int .i64 p.to, .int .i64 p.sz] 75)) (w.heap.size + 1) (.slice (some ⟨g, 0, none⟩) ps.length ps.length) (List.replicate ps.length 0) from hown.out.alloc _)
      have HIA := Lib.hid (hia.out.kept hab (Nat.le_refl _))
      have HBA := Lib.hid (hB.out.alloc (by omega) (.cells #[.int .i64 p.id, .int .i64 p.fr, .int .i64 p.to, .int .i64 p.sz] 75))
      have hcA := HOA.out.cell HRL.out (v := j) (by rw [HRL.out]; exact hlt)
      have hfA := HOA.out.frozen HRL.out j
      have hda : dA (List.replicate ps.length (0 : Int)) j = 0 := by simp [dA, List.getD, hlt]
      rw [hda] at hcA
      obtain ⟨vb, hvb⟩ : ∃ vb, brB ps j = vb := ⟨_, rfl⟩
      have hctn := hbm.trans hvb
      have HCT := Lib.hid (fun w' (hi : IAt w' (some ⟨gB, 0, none⟩) (brTo ps ps.length)) => ctn_v hctn (some ⟨gB, 0, none⟩) cB w' hi (by omega))
      have HJ1 := Lib.hid (show vb = true → ∀ j', j' < j + 1 → brB ps j' = true from fun hx j' hj' => by
        by_cases e : j' = j
        · subst e; rw [hvb]; exact hx
        · exact hno.out j' (by omega))
      have HJ0 := Lib.hid (show vb = false → j = fst0 N ps from fun hx => by
        have h1 : ¬ j < fst0 N ps := fun hy => by have := HLW.out j hy; rw [hvb, hx] at this; cases this
        have h2 : ¬ fst0 N ps < j := fun hy => by have := hno.out _ hy; rw [HBR.out] at this; cases this
        omega)
      have hg2 : g ≠ wr.heap.size := by have := (World.ownsRow.lt hown.out g rfl).2; omega
      have hwa : wr.heap.size < (wr.alloc (.cells #[.int .i64 p.id, .int .i64 p.fr, .int .i64 p.to, .int .i64 p.sz] 75)).heap.size := by simp
      have hga : w.heap.size + 1 ≤ g ∧ g < (wr.alloc (.cells #[.int .i64 p.id, .int .i64 p.fr, .int .i64 p.to, .int .i64 p.sz] 75)).heap.size := World.ownsRow.lt HOA.out g rfl
      clear hbm hctn hda hab hvb hno hown hia hB
      go_upto_region 9 with (fail)
      clear p0 p1 p2 p3 b0 b1 hbx
      generalize wr.alloc (.cells #[.int .i64 p.id, .int .i64 p.fr, .int .i64 p.to, .int .i64 p.sz] 75) = wa at *
      cases vb with
      | true =>
        have HJ2 := Lib.hid (HJ1.out rfl)
        clear HJ1 HJ0
        go_wp2_with (go_at_call 147; refine (HCT.out _ HIA.out).mono ?_; rintro e w1 ⟨rfl, hw⟩; replace hw := hw.symm; subst hw)
        go_roundw
        case rel => exact ⟨j + 1, by omega, by go_num, rfl, HJ2, HOA, HIA, HBA⟩
        case measure => simp [intOf]; omega
      | false =>
        have hji := HJ0.out rfl
        have HS3 := Lib.hid (show sgT N ps 0 = (List.replicate ps.length 0).set j 1 by rw [HS0.out, ← hji])
        have HNX2 := Lib.hid (show vW N ps 0 = p.to by rw [HST.out, ← hji, hp])
        have HN1 := Lib.hid (show IOwn (wa.drew.setCell ⟨g, j, none⟩ (iv 1)) (w.heap.size + 1) (.slice (some ⟨g, 0, none⟩) ps.length ps.length) (sgT N ps 0) by rw [HS3.out]; exact IOwn.set (show IOwn wa.drew (w.heap.size + 1) (.slice (some ⟨g, 0, none⟩) ps.length ps.length) (List.replicate ps.length 0) from HOA.out) HRL.out j 1)
        have HN2 := Lib.hid (IAt.far (show IAt wa.drew (some ⟨gB, 0, none⟩) (brTo ps ps.length) from HIA.out) (setCell_off _ g j (iv 1)) hne.out)
        have HN3 := Lib.hid (HBA.out.drew.setCell (p := ⟨g, j, none⟩) hga.1 (iv 1))
        have hcA2 : wa.drew.cell? ⟨g, j, none⟩ = some (iv 0) := hcA
        have hfA2 : wa.drew.frozen? ⟨g, j, none⟩ = false := hfA
        clear hji HJ1 HJ0 HS3
        go_upto_region 13 with (go_at_call 147; refine (HCT.out _ HIA.out).mono ?_; rintro e w1 ⟨rfl, hw⟩; replace hw := hw.symm; subst hw)
        refine wp_region_held_drew (S := fun w' => w'.cell? ⟨wr.heap.size, 2, none⟩ = some (.int .i64 p.to)) (by kernel_rfl) (by exact d2) (fun hHeld => ?_)
        refine wpAnyH_take (i := 0) (v := .slice (some ⟨g, 0, none⟩) ps.length ps.length) rfl (by kernel_rfl) (by kernel_rfl) (by kernel_rfl) (fun _ _ _ h => h) (Or.inl ⟨by kernel_rfl, ?_⟩) (by assumption) ?_
        · (intro w hSw; (try dsimp only at hSw); go_simp)
        simp only [Act.put, List.setIfInBounds_toArray]
        refine wpAnyH_take (i := 1) (v := .int .i64 (j : Int)) rfl (by kernel_rfl) (by kernel_rfl) (by kernel_rfl) (fun _ _ _ h => h) (Or.inl ⟨by kernel_rfl, ?_⟩) (by assumption) ?_
        · (intro w hSw; (try dsimp only at hSw); go_simp)
        simp only [Act.put]
        refine wpAnyH_take (i := 2) (v := .pointer (some ⟨wr.heap.size, 2, none⟩)) rfl (by kernel_rfl) (by kernel_rfl) (by kernel_rfl) (fun _ _ _ h => h) (Or.inl ⟨by kernel_rfl, ?_⟩) (by assumption) ?_
        · (intro w hSw; (try dsimp only at hSw); go_simp)
        simp only [Act.put]
        refine wpAnyH_take (i := 3) (v := .int .i64 p.to) rfl (by kernel_rfl) (by kernel_rfl) (by kernel_rfl) (fun _ _ _ h => h) (Or.inl ⟨by kernel_rfl, ?_⟩) (by assumption) ?_
        · (intro w hSw; (try dsimp only at hSw); go_simp)
        simp only [Act.put]
        refine wpAnyH_take (i := 4) (v := .pointer (some ⟨g, j, none⟩)) rfl (by kernel_rfl) (by kernel_rfl) (by kernel_rfl) (fun _ _ _ h => h) (Or.inl ⟨by kernel_rfl, ?_⟩) (by assumption) ?_
        · (intro w hSw; (try dsimp only at hSw); go_simp)
        simp only [Act.put]
        refine wpAnyH_ready (rs := [5]) (by kernel_rfl) (by simp) ?_
        refine AllReadyH.cons rfl (fun K hK => ?_) AllReadyH.nil
        go_simp
        refine hK.out _ _ (by exact (cell_farS (Ne.symm hg2)).trans hHeld) (fun hHeld => ?_)
        clear hK K
        refine wpAnyH_ready (rs := [6]) (by kernel_rfl) (by simp) ?_
        refine AllReadyH.cons rfl (fun K hK => ?_) AllReadyH.nil
        go_simp
        refine hK.out _ _ (by first | assumption | go_keep) (fun hHeld => ?_)
        clear hK K
        refine wpAnyH_done (by kernel_rfl) ?_ _
        rw [← HNX2.out]
        go_wp2_with (fail)
        go_step3
        exact ⟨rfl, 0, gB, cB, g, _, _, _, _, _, _, _, _, _, _, _, _, _, _, _, _, _, _, _, _, _, _, _, _, _, _, _, _, _, _, _, _, _, _, _, _, _, _, _, _, _, _, _, _, _, _, _, _, _, _, _, _, _, _, _, _, _, _, _, rfl, Nat.zero_le _, HN1, HN2, hne, HN3⟩
  · intro a' w'
    simp only [forall_exists_index, and_imp]
    intro k gB cB g u8 u9 u10 u11 u12 u13 u14 u15 u16 u17 u18 u19 u20 u21 u22 u23 u24 u25 u26 u27 u28 u29 u30 u31 u32 u33 u34 u35 u36 u37 u38 u39 u40 u41 u42 u43 u44 u45 u46 u47 u48 u49 u50 u51 u52 u53 u54 u55 u56 u57 u58 u59 u60 u61 u62 u63 u64 u65 u66 ha hk hown hia hne hB
    subst ha
    obtain ⟨b0, b1⟩ := box2 hB.out
    have hzl := box_lt hB.out
    go_wp2
    go_loopw [7, 30] (fun h i wr => ∃ j : Nat, j ≤ ps.length ∧ i = .int .i64 (j : Int) ∧ h = .int .i64 (vW N ps k) ∧ Hid (∀ j', j' < j → ¬ ((sgT N ps k).getD j' 0 = 0 ∧ brB ps j' = false ∧ Tch (pAt ps j') (vW N ps k))) ∧ Hid (IOwn wr (w.heap.size + 1) (.slice (some ⟨g, 0, none⟩) ps.length ps.length) (sgT N ps k)) ∧ Hid (IAt wr (some ⟨gB, 0, none⟩) (brTo ps ps.length)) ∧ Hid (Below (w.heap.size + 1) (w.alloc (nb N (some ⟨b, off, none⟩) ps.length cap)) wr)) (fun _ i _ => ps.length - (intOf i).toNat)
    case atStart => exact ⟨0, Nat.zero_le _, rfl, rfl, Lib.hid (fun j' hj => absurd hj (by omega)), hown, hia, hB⟩
    case round =>
      clear hown hia hB b0 b1 hzl
      obtain ⟨j, hj, rfl, rfl, hno, hown, hia, hB⟩ := hrel
      by_cases hlt : j < ps.length
      · obtain ⟨b0, b1⟩ := box2 hB.out
        have hzl := box_lt hB.out
        obtain ⟨bx, ofx, hA, hbx, p0, p1, p2, p3⟩ := (HA.out _ (below_box hB.out)).at_ hlt
        simp only [Option.some.injEq, Addr.mk.injEq, and_true] at hA
        obtain ⟨rfl, rfl⟩ := hA
        have hj0 : (0 : Int) ≤ (j : Int) := by omega
        have hj1 : (j : Int) < (ps.length : Int) := by omega
        obtain ⟨p, hp⟩ : ∃ p, pAt ps j = p := ⟨_, rfl⟩
        have HNX := Lib.hid (show ((sgT N ps k).getD j 0 = 0 ∧ brB ps j = false ∧ Tch (pAt ps j) (vW N ps k)) ↔ k < kW N ps ∧ j = ix ps (eW N ps k) from HLP.out.next hk hlt)
        have hbm := HBM.out j hlt
        rw [hp] at p0 p1 p2 p3 HNX hbm
        have hab := alloc_belowE wr (.cells #[.int .i64 p.id, .int .i64 p.fr, .int .i64 p.to, .int .i64 p.sz] 75)
        have d0 := cells4 wr (.int .i64 p.id) (.int .i64 p.fr) (.int .i64 p.to) (.int .i64 p.sz) 75 0 _ rfl
        have d1 := cells4 wr (.int .i64 p.id) (.int .i64 p.fr) (.int .i64 p.to) (.int .i64 p.sz) 75 1 _ rfl
        have d2 := cells4 wr (.int .i64 p.id) (.int .i64 p.fr) (.int .i64 p.to) (.int .i64 p.sz) 75 2 _ rfl
        have d3 := cells4 wr (.int .i64 p.id) (.int .i64 p.fr) (.int .i64 p.to) (.int .i64 p.sz) 75 3 _ rfl
        have HOA := Lib.hid (show IOwn (wr.alloc (.cells #[.int .i64 p.id, .int .i64 p.fr, .int .i64 p.to, .int .i64 p.sz] 75)) (w.heap.size + 1) (.slice (some ⟨g, 0, none⟩) ps.length ps.length) (sgT N ps k) from hown.out.alloc _)
        have HIA := Lib.hid (hia.out.kept hab (Nat.le_refl _))
        have HBA := Lib.hid (hB.out.alloc (by omega) (.cells #[.int .i64 p.id, .int .i64 p.fr, .int .i64 p.to, .int .i64 p.sz] 75))
        have hcA := HOA.out.cell (HSL.out k) (v := j) (by rw [HSL.out]; exact hlt)
        have hfA := HOA.out.frozen (HSL.out k) j
        have hv1 := HV1.out k hk
        obtain ⟨vb, hvb⟩ : ∃ vb, brB ps j = vb := ⟨_, rfl⟩
        have hctn := hbm.trans hvb
        have HCT := Lib.hid (fun w' (hi : IAt w' (some ⟨gB, 0, none⟩) (brTo ps ps.length)) => ctn_v hctn (some ⟨gB, 0, none⟩) cB w' hi (by omega))
        have HJ1 := Lib.hid (show (¬ ((sgT N ps k).getD j 0 = 0 ∧ vb = false ∧ Tch p (vW N ps k))) → ∀ j', j' < j + 1 → ¬ ((sgT N ps k).getD j' 0 = 0 ∧ brB ps j' = false ∧ Tch (pAt ps j') (vW N ps k)) from fun hx j' hj' => by
          by_cases e : j' = j
          · subst e; rw [hvb, hp]; exact hx
          · exact hno.out j' (by omega))
        have hda : dA (sgT N ps k) j = (sgT N ps k).getD j 0 := rfl
        rw [hda] at hcA
        rw [hvb] at HNX
        have HSS2 := Lib.hid (HSS.out k)
        have hg2 : g ≠ wr.heap.size := by have := (World.ownsRow.lt hown.out g rfl).2; omega
        have hwa : wr.heap.size < (wr.alloc (.cells #[.int .i64 p.id, .int .i64 p.fr, .int .i64 p.to, .int .i64 p.sz] 75)).heap.size := by simp
        have hga : w.heap.size + 1 ≤ g ∧ g < (wr.alloc (.cells #[.int .i64 p.id, .int .i64 p.fr, .int .i64 p.to, .int .i64 p.sz] 75)).heap.size := World.ownsRow.lt HOA.out g rfl
        clear hbm hctn hda hab hvb hno hown hia hB
        go_upto_region 9 with (fail)
        clear p0 p1 p2 p3 b0 b1 hbx
        generalize wr.alloc (.cells #[.int .i64 p.id, .int .i64 p.fr, .int .i64 p.to, .int .i64 p.sz] 75) = wa at *
        generalize hsx : (sgT N ps k).getD j 0 = sx at *
        by_cases hs0 : sx = 0
        · have hd : (sx != 0) = false := by rw [hs0]; rfl
          cases vb with
          | true =>
            have HJ2 := Lib.hid (HJ1.out (fun hx => by cases hx.2.1))
            clear HJ1 HNX hsx hs0
            go_wp2_with (go_at_call 147; refine (HCT.out _ HIA.out).mono ?_; rintro e w1 ⟨rfl, hw⟩; replace hw := hw.symm; subst hw)
            go_roundw
            case rel => exact ⟨j + 1, by omega, by go_num, rfl, HJ2, HOA, HIA, HBA⟩
            case measure => simp [intOf]; omega
          | false =>
            have hz0 : (vW N ps k == 0) = false := beq_eq_false_iff_ne.2 (by omega)
            by_cases hfr : vW N ps k = p.fr
            · have g0 : (vW N ps k == p.fr) = true := beq_iff_eq.2 hfr
              obtain ⟨hkK, hji⟩ := HNX.out.1 ⟨hs0, rfl, .inl hfr.symm⟩
              have hek := ix_in HLP.out.good (HLP.out.ne hkK).1
              have hst := HLP.out.step hkK
              rw [← hji, hp] at hek
              have hsg : sgn (eW N ps k) (vW N ps k) = 1 := by rw [← hek.2]; unfold sgn; rw [if_pos hfr.symm]
              have hnx : vW N ps (k + 1) = p.to := by rw [← hst.1, ← hek.2]; unfold oth; rw [if_pos hfr.symm]
              have HS3 := Lib.hid (show sgT N ps (k + 1) = (sgT N ps k).set j (1) by rw [HSS2.out, hsg, ← hji])
              have HN1 := Lib.hid (show IOwn (wa.drew.setCell ⟨g, j, none⟩ (iv (1))) (w.heap.size + 1) (.slice (some ⟨g, 0, none⟩) ps.length ps.length) (sgT N ps (k + 1)) by rw [HS3.out]; exact IOwn.set (show IOwn wa.drew (w.heap.size + 1) (.slice (some ⟨g, 0, none⟩) ps.length ps.length) (sgT N ps k) from HOA.out) (HSL.out k) j (1))
              have HN2 := Lib.hid (IAt.far (show IAt wa.drew (some ⟨gB, 0, none⟩) (brTo ps ps.length) from HIA.out) (setCell_off _ g j (iv (1))) hne.out)
              have HN3 := Lib.hid (HBA.out.drew.setCell (p := ⟨g, j, none⟩) hga.1 (iv (1)))
              have HNX2 := Lib.hid hnx
              have hcA2 : wa.drew.cell? ⟨g, j, none⟩ = some (iv sx) := hcA
              have hfA2 : wa.drew.frozen? ⟨g, j, none⟩ = false := hfA
              have HM := Lib.hid (show kW N ps - (k + 1) < kW N ps - k by omega)
              clear hji HJ1 HNX hsx hs0 hek hst hsg hnx HS3 HSS2
              go_upto_region 13 with (go_at_call 147; refine (HCT.out _ HIA.out).mono ?_; rintro e w1 ⟨rfl, hw⟩; replace hw := hw.symm; subst hw)
              refine wp_region_held_drew (S := fun w' => w'.cell? ⟨wr.heap.size, 2, none⟩ = some (.int .i64 p.to)) (by kernel_rfl) (by exact d2) (fun hHeld => ?_)
              refine wpAnyH_take (i := 0) (v := .slice (some ⟨g, 0, none⟩) ps.length ps.length) rfl (by kernel_rfl) (by kernel_rfl) (by kernel_rfl) (fun _ _ _ h => h) (Or.inl ⟨by kernel_rfl, ?_⟩) (by assumption) ?_
              · (intro w hSw; (try dsimp only at hSw); go_simp)
              simp only [Act.put, List.setIfInBounds_toArray]
              refine wpAnyH_take (i := 1) (v := .int .i64 (j : Int)) rfl (by kernel_rfl) (by kernel_rfl) (by kernel_rfl) (fun _ _ _ h => h) (Or.inl ⟨by kernel_rfl, ?_⟩) (by assumption) ?_
              · (intro w hSw; (try dsimp only at hSw); go_simp)
              simp only [Act.put]
              refine wpAnyH_take (i := 2) (v := .pointer (some ⟨wr.heap.size, 2, none⟩)) rfl (by kernel_rfl) (by kernel_rfl) (by kernel_rfl) (fun _ _ _ h => h) (Or.inl ⟨by kernel_rfl, ?_⟩) (by assumption) ?_
              · (intro w hSw; (try dsimp only at hSw); go_simp)
              simp only [Act.put]
              refine wpAnyH_take (i := 3) (v := .int .i64 p.to) rfl (by kernel_rfl) (by kernel_rfl) (by kernel_rfl) (fun _ _ _ h => h) (Or.inl ⟨by kernel_rfl, ?_⟩) (by assumption) ?_
              · (intro w hSw; (try dsimp only at hSw); go_simp)
              simp only [Act.put]
              refine wpAnyH_take (i := 4) (v := .pointer (some ⟨g, j, none⟩)) rfl (by kernel_rfl) (by kernel_rfl) (by kernel_rfl) (fun _ _ _ h => h) (Or.inl ⟨by kernel_rfl, ?_⟩) (by assumption) ?_
              · (intro w hSw; (try dsimp only at hSw); go_simp)
              simp only [Act.put]
              refine wpAnyH_ready (rs := [5]) (by kernel_rfl) (by simp) ?_
              refine AllReadyH.cons rfl (fun K hK => ?_) AllReadyH.nil
              go_simp
              refine hK.out _ _ (by exact (cell_farS (Ne.symm hg2)).trans hHeld) (fun hHeld => ?_)
              clear hK K
              refine wpAnyH_ready (rs := [6]) (by kernel_rfl) (by simp) ?_
              refine AllReadyH.cons rfl (fun K hK => ?_) AllReadyH.nil
              go_simp
              refine hK.out _ _ (by first | assumption | go_keep) (fun hHeld => ?_)
              clear hK K
              refine wpAnyH_done (by kernel_rfl) ?_ _
              rw [← HNX2.out]
              go_wp2_with (fail)
              go_step3
              have HD1 := HDI.out k (by omega)
              have HD2 := HDI.out (k + 1) (by omega)
              refine ⟨rfl, ⟨k + 1, gB, cB, g, _, _, _, _, _, _, _, _, _, _, _, _, _, _, _, _, _, _, _, _, _, _, _, _, _, _, _, _, _, _, _, _, _, _, _, _, _, _, _, _, _, _, _, _, _, _, _, _, _, _, _, _, _, _, _, _, _, _, _, rfl, by omega, HN1, HN2, hne, HN3⟩, ?_⟩
              have := HM.out
              simp [intOf]
              omega
            · have g0 : (vW N ps k == p.fr) = false := beq_eq_false_iff_ne.2 hfr
              by_cases hto : vW N ps k = p.to
              · have g1 : (vW N ps k == p.to) = true := beq_iff_eq.2 hto
                obtain ⟨hkK, hji⟩ := HNX.out.1 ⟨hs0, rfl, .inr hto.symm⟩
                have hek := ix_in HLP.out.good (HLP.out.ne hkK).1
                have hst := HLP.out.step hkK
                rw [← hji, hp] at hek
                have hsg : sgn (eW N ps k) (vW N ps k) = -1 := by rw [← hek.2]; unfold sgn; rw [if_neg (fun e => hfr e.symm)]
                have hnx : vW N ps (k + 1) = p.fr := by rw [← hst.1, ← hek.2]; unfold oth; rw [if_neg (fun e => hfr e.symm)]
                have HS3 := Lib.hid (show sgT N ps (k + 1) = (sgT N ps k).set j (-1) by rw [HSS2.out, hsg, ← hji])
                have HN1 := Lib.hid (show IOwn (wa.drew.setCell ⟨g, j, none⟩ (iv (-1))) (w.heap.size + 1) (.slice (some ⟨g, 0, none⟩) ps.length ps.length) (sgT N ps (k + 1)) by rw [HS3.out]; exact IOwn.set (show IOwn wa.drew (w.heap.size + 1) (.slice (some ⟨g, 0, none⟩) ps.length ps.length) (sgT N ps k) from HOA.out) (HSL.out k) j (-1))
                have HN2 := Lib.hid (IAt.far (show IAt wa.drew (some ⟨gB, 0, none⟩) (brTo ps ps.length) from HIA.out) (setCell_off _ g j (iv (-1))) hne.out)
                have HN3 := Lib.hid (HBA.out.drew.setCell (p := ⟨g, j, none⟩) hga.1 (iv (-1)))
                have HNX2 := Lib.hid hnx
                have hcA2 : wa.drew.cell? ⟨g, j, none⟩ = some (iv sx) := hcA
                have hfA2 : wa.drew.frozen? ⟨g, j, none⟩ = false := hfA
                have HM := Lib.hid (show kW N ps - (k + 1) < kW N ps - k by omega)
                clear hji HJ1 HNX hsx hs0 hek hst hsg hnx HS3 HSS2
                go_upto_region 15 with (go_at_call 147; refine (HCT.out _ HIA.out).mono ?_; rintro e w1 ⟨rfl, hw⟩; replace hw := hw.symm; subst hw)
                refine wp_region_held_drew (S := fun w' => w'.cell? ⟨wr.heap.size, 1, none⟩ = some (.int .i64 p.fr)) (by kernel_rfl) (by exact d1) (fun hHeld => ?_)
                refine wpAnyH_take (i := 0) (v := .slice (some ⟨g, 0, none⟩) ps.length ps.length) rfl (by kernel_rfl) (by kernel_rfl) (by kernel_rfl) (fun _ _ _ h => h) (Or.inl ⟨by kernel_rfl, ?_⟩) (by assumption) ?_
                · (intro w hSw; (try dsimp only at hSw); go_simp)
                simp only [Act.put, List.setIfInBounds_toArray]
                refine wpAnyH_take (i := 1) (v := .int .i64 (j : Int)) rfl (by kernel_rfl) (by kernel_rfl) (by kernel_rfl) (fun _ _ _ h => h) (Or.inl ⟨by kernel_rfl, ?_⟩) (by assumption) ?_
                · (intro w hSw; (try dsimp only at hSw); go_simp)
                simp only [Act.put]
                refine wpAnyH_take (i := 2) (v := .pointer (some ⟨wr.heap.size, 1, none⟩)) rfl (by kernel_rfl) (by kernel_rfl) (by kernel_rfl) (fun _ _ _ h => h) (Or.inl ⟨by kernel_rfl, ?_⟩) (by assumption) ?_
                · (intro w hSw; (try dsimp only at hSw); go_simp)
                simp only [Act.put]
                refine wpAnyH_take (i := 3) (v := .int .i64 p.fr) rfl (by kernel_rfl) (by kernel_rfl) (by kernel_rfl) (fun _ _ _ h => h) (Or.inl ⟨by kernel_rfl, ?_⟩) (by assumption) ?_
                · (intro w hSw; (try dsimp only at hSw); go_simp)
                simp only [Act.put]
                refine wpAnyH_take (i := 4) (v := .pointer (some ⟨g, j, none⟩)) rfl (by kernel_rfl) (by kernel_rfl) (by kernel_rfl) (fun _ _ _ h => h) (Or.inl ⟨by kernel_rfl, ?_⟩) (by assumption) ?_
                · (intro w hSw; (try dsimp only at hSw); go_simp)
                simp only [Act.put]
                refine wpAnyH_ready (rs := [5]) (by kernel_rfl) (by simp) ?_
                refine AllReadyH.cons rfl (fun K hK => ?_) AllReadyH.nil
                go_simp
                refine hK.out _ _ (by exact (cell_farS (Ne.symm hg2)).trans hHeld) (fun hHeld => ?_)
                clear hK K
                refine wpAnyH_ready (rs := [6]) (by kernel_rfl) (by simp) ?_
                refine AllReadyH.cons rfl (fun K hK => ?_) AllReadyH.nil
                go_simp
                refine hK.out _ _ (by first | assumption | go_keep) (fun hHeld => ?_)
                clear hK K
                refine wpAnyH_done (by kernel_rfl) ?_ _
                rw [← HNX2.out]
                go_wp2_with (fail)
                go_step3
                have HD1 := HDI.out k (by omega)
                have HD2 := HDI.out (k + 1) (by omega)
                refine ⟨rfl, ⟨k + 1, gB, cB, g, _, _, _, _, _, _, _, _, _, _, _, _, _, _, _, _, _, _, _, _, _, _, _, _, _, _, _, _, _, _, _, _, _, _, _, _, _, _, _, _, _, _, _, _, _, _, _, _, _, _, _, _, _, _, _, _, _, _, _, rfl, by omega, HN1, HN2, hne, HN3⟩, ?_⟩
                have := HM.out
                simp [intOf]
                omega
              · have g1 : (vW N ps k == p.to) = false := beq_eq_false_iff_ne.2 hto
                have HJ2 := Lib.hid (HJ1.out (fun hx => by rcases hx.2.2 with e | e; exact hfr e.symm; exact hto e.symm))
                clear HJ1 HNX hsx hs0 hfr hto
                go_wp2_with (go_at_call 147; refine (HCT.out _ HIA.out).mono ?_; rintro e w1 ⟨rfl, hw⟩; replace hw := hw.symm; subst hw)
                go_roundw
                case rel => exact ⟨j + 1, by omega, by go_num, rfl, HJ2, HOA, HIA, HBA⟩
                case measure => simp [intOf]; omega
        · have hd : (sx != 0) = true := bne_iff_ne.2 hs0
          have HJ2 := Lib.hid (HJ1.out (fun hx => hs0 hx.1))
          clear HJ1 HNX hsx hs0
          go_wp2_with (fail)
          go_roundw
          case rel => exact ⟨j + 1, by omega, by go_num, rfl, HJ2, HOA, HIA, HBA⟩
          case measure => simp [intOf]; omega
      · have hkk : k = kW N ps := Classical.byContradiction fun hne2 => by
          have hkl : k < kW N ps := by omega
          have h1 := ix_in HLP.out.good (HLP.out.ne hkl).1
          exact hno.out (ix ps (eW N ps k)) (by omega) ((HLP.out.next hk h1.1).2 ⟨hkl, rfl⟩)
        have HO := Lib.hid hown.out
        rw [hkk, HFI.out] at HO
        have HB := Lib.hid (below_box hB.out)
        have hgl := World.ownsRow.lt hown.out g rfl
        clear hown hia hB hno hkk
        go_wp2
        simp only [Exit.jump]
        go_ret2
        exact ⟨g, ps.length, by rw [sgL_len]; rfl, by omega, by have := own_lower (B' := w.heap.size) HO.out; rw [sgL_len]; exact this, HB.out⟩
end Go.Proofs.Ytgjogjmfpbinfaa.S2
