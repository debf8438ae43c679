/- SpanningTree of the model: contracts. Conditions: each theorem's own premises. -/
import Derived.Test.YtlkomipjamelkabTrOne
import Derived.Test.YtlkomipjamelkabWoPl
import Derived.Test.YtlkomipjamelkabTrI
import Derived.Test.YtlkomipjamelkabReachOne
import Derived.Test.YtlkomipjamelkabAm
import Derived.Test.YtlkomipjamelkabAmN
import Derived.Test.YtlkomipjamelkabFindOne
import Derived.Test.YtlkomipjamelkabAmB
import Derived.Test.YtlkomipjamelkabDistOne
import Derived.StillTailTactics
import Derived.Deep.DeepCutAuto
import Derived.Test.YtlkomipjamelkabWoA
import Derived.Test.YtlkomipjamelkabTrS
import Derived.Test.YtlkomipjamelkabNetKit
namespace Go.Proofs.Ytlkomipjamelkab.S2
open Go.RowKit P2

open Classical in
/-- The pipes among the first k that join what those before them do not connect. -/
noncomputable def spT (ps : List Pp) : Nat → List Pp
  | 0 => []
  | k + 1 => if Conn (spT ps k) (pAt ps k).fr (pAt ps k).to then spT ps k else spT ps k ++ [pAt ps k]
theorem spT_same {ps : List Pp} {k : Nat} (h : Conn (spT ps k) (pAt ps k).fr (pAt ps k).to) : spT ps (k + 1) = spT ps k := by rw [spT, if_pos h]
theorem spT_more {ps : List Pp} {k : Nat} (h : ¬ Conn (spT ps k) (pAt ps k).fr (pAt ps k).to) : spT ps (k + 1) = spT ps k ++ [pAt ps k] := by rw [spT, if_neg h]
theorem take_snoc' {ps : List Pp} {k : Nat} (hk : k < ps.length) : ps.take (k + 1) = ps.take k ++ [pAt ps k] := by
  rw [List.take_succ_eq_append_getElem hk]
  simp [pAt, List.getD, hk]
theorem spT_sub (ps : List Pp) : ∀ k, k ≤ ps.length → (spT ps k).Sublist (ps.take k)
  | 0, _ => by simp [spT]
  | k + 1, h => by
    have ih := spT_sub ps k (by omega)
    rw [take_snoc' (show k < ps.length by omega)]
    by_cases hc : Conn (spT ps k) (pAt ps k).fr (pAt ps k).to
    · rw [spT_same hc]
      exact ih.trans (List.sublist_append_left _ _)
    · rw [spT_more hc]
      exact ih.append (List.Sublist.refl _)
theorem spT_len (ps : List Pp) (k : Nat) (h : k ≤ ps.length) : (spT ps k).length ≤ k := by
  have := (spT_sub ps k h).length_le
  simp at this; omega
theorem spT_good {N : Int} {ps : List Pp} (hg : P2.Good N ps) (k : Nat) (h : k ≤ ps.length) : P2.Good N (spT ps k) := good_sub hg ((spT_sub ps k h).trans (List.take_sublist _ _))
theorem conn_sub {ps qs : List Pp} (h : ps.Sublist qs) {a b : Int} (hc : Conn ps a b) : Conn qs a b := conn_mono (fun _ he => h.subset he) hc
theorem spT_conn {ps : List Pp} : ∀ k, k ≤ ps.length → ∀ a b, Conn (spT ps k) a b ↔ Conn (ps.take k) a b
  | 0, _, a, b => by simp [spT]
  | k + 1, h, a, b => by
    have ih := spT_conn (ps := ps) k (by omega)
    refine ⟨conn_sub (spT_sub ps (k + 1) h), fun hc => ?_⟩
    have hmono : ∀ x y, Conn (spT ps k) x y → Conn (spT ps (k + 1)) x y := fun x y hxy => by
      by_cases hj : Conn (spT ps k) (pAt ps k).fr (pAt ps k).to
      · rw [spT_same hj]; exact hxy
      · rw [spT_more hj]; exact conn_mono (fun e he => List.mem_append.2 (.inl he)) hxy
    have hnew : Conn (spT ps (k + 1)) (pAt ps k).fr (pAt ps k).to := by
      by_cases hj : Conn (spT ps k) (pAt ps k).fr (pAt ps k).to
      · exact hmono _ _ hj
      · rw [spT_more hj]; exact Conn.adj ⟨pAt ps k, by simp, .inl ⟨rfl, rfl⟩⟩
    refine conn_ind (ps := ps.take (k + 1)) (P := fun v => Conn (spT ps (k + 1)) a v) (Conn.rf _ _) ?_ b hc
    rintro u v _ hu ⟨e, he, hj⟩
    rw [take_snoc' (show k < ps.length by omega)] at he
    rcases List.mem_append.1 he with he | he
    · exact hu.tr (hmono _ _ ((ih u v).2 (Conn.adj ⟨e, he, hj⟩)))
    · have e1 : e = pAt ps k := by simpa using he
      subst e1
      rcases hj with ⟨h1, h2⟩ | ⟨h1, h2⟩
      · rw [← h2]; rw [← h1] at hu; exact hu.tr hnew
      · rw [← h2]; rw [← h1] at hu; exact hu.tr hnew.sy
noncomputable def spL (ps : List Pp) : List Pp := spT ps ps.length
theorem spL_conn {ps : List Pp} (a b : Int) : Conn (spL ps) a b ↔ Conn ps a b := by
  have := spT_conn (ps := ps) ps.length (Nat.le_refl _) a b
  rwa [List.take_length] at this

/-- What is connected decides what is gathered. -/
theorem conL_of {N : Nat} {ps qs : List Pp} {t : Int} (h : ∀ a b, Conn ps a b ↔ Conn qs a b) : conL N ps t = conL N qs t := by
  unfold conL conTo
  congr 1
  refine List.filter_congr fun v hv => ?_
  have hv2 := List.mem_range.1 hv
  by_cases h0 : v = 0
  · subst h0; rw [distL_zero, distL_zero]
  · rw [distL_at N ps t v (by omega) h0, distL_at N qs t v (by omega) h0, Bool.eq_iff_iff, bne_iff_ne, bne_iff_ne, dist_conn, dist_conn, h]

/-- Labels that tell the parts of a forest apart. -/
theorem labels_up {N : Nat} {ps : List Pp} (hg : P2.Good N ps) : ∀ k, k ≤ ps.length → ∃ (f : Int → Int) (L : List Int), (∀ a b, f a = f b → Conn (spT ps k) a b) ∧ (∀ v : Nat, 1 ≤ v → v ≤ N → f v ∈ L) ∧ L.length + (spT ps k).length ≤ N := by
  intro k
  induction k with
  | zero =>
    intro _
    refine ⟨id, (List.range N).map (fun v => ((v + 1 : Nat) : Int)), fun a b h => ?_, fun v h1 h2 => ?_, by simp [spT]⟩
    · have e : a = b := h
      rw [e]; exact Conn.rf _ _
    · exact List.mem_map.2 ⟨v - 1, List.mem_range.2 (by omega), by simp; omega⟩
  | succ k ih =>
    intro hk
    obtain ⟨f, L, h1, h2, h3⟩ := ih (by omega)
    by_cases hj : Conn (spT ps k) (pAt ps k).fr (pAt ps k).to
    · rw [spT_same hj]; exact ⟨f, L, h1, h2, h3⟩
    · rw [spT_more hj]
      have hmem : pAt ps k ∈ ps := by
        have e : pAt ps k = ps[k] := by simp [pAt, List.getD, show k < ps.length by omega]
        rw [e]; exact List.getElem_mem _
      have hok := good_pp hg hmem
      generalize pAt ps k = p at *
      have hne : f p.fr ≠ f p.to := fun e => hj (h1 _ _ e)
      unfold PpOk at hok
      have hin : ∀ x : Int, 1 ≤ x → x ≤ N → f x ∈ L := fun x h1 h4 => by
        have := h2 x.toNat (by omega) (by omega)
        rwa [Int.toNat_of_nonneg (by omega)] at this
      have hto := hin p.to (by omega) (by omega)
      have hfr := hin p.fr (by omega) (by omega)
      have hold : ∀ x y, Conn (spT ps k) x y → Conn (spT ps k ++ [p]) x y := fun x y h => conn_mono (fun e he => List.mem_append.2 (.inl he)) h
      have hnew : Conn (spT ps k ++ [p]) p.fr p.to := Conn.adj ⟨p, by simp, .inl ⟨rfl, rfl⟩⟩
      refine ⟨fun v => if f v = f p.to then f p.fr else f v, L.erase (f p.to), fun a b hab => ?_, fun v hv1 hv2 => ?_, ?_⟩
      · simp only at hab
        by_cases ha : f a = f p.to
        · rw [if_pos ha] at hab
          by_cases hb : f b = f p.to
          · exact hold _ _ (h1 _ _ (ha.trans hb.symm))
          · rw [if_neg hb] at hab
            exact ((hold _ _ (h1 _ _ ha)).tr hnew.sy).tr (hold _ _ (h1 _ _ hab))
        · rw [if_neg ha] at hab
          by_cases hb : f b = f p.to
          · rw [if_pos hb] at hab
            exact ((hold _ _ (h1 _ _ hab)).tr hnew).tr (hold _ _ (h1 _ _ hb).sy)
          · rw [if_neg hb] at hab
            exact hold _ _ (h1 _ _ hab)
      · show (if f v = f p.to then f p.fr else f v) ∈ _
        by_cases hv : f v = f p.to
        · rw [if_pos hv]; exact (List.mem_erase_of_ne hne).2 hfr
        · rw [if_neg hv]; exact (List.mem_erase_of_ne hv).2 (h2 v hv1 hv2)
      · have hp := List.length_pos_of_mem hto
        rw [List.length_erase, if_pos hto, List.length_append]
        simp; omega
theorem con_full {N : Nat} {ps : List Pp} (_hN : 1 ≤ N) (h : (conL N ps 1).length = N) : ∀ v : Nat, 1 ≤ v → v ≤ N → Conn ps 1 v := by
  intro v h1 h2
  refine Classical.byContradiction fun hn => ?_
  have hd0 : dA (distL N ps 1) 0 = -1 := distL_zero N ps 1
  have hdv : dA (distL N ps 1) v = -1 := by
    rw [distL_at N ps 1 v h2 (by omega)]
    exact Classical.byContradiction fun hd => hn (dist_conn.1 hd).sy
  have hl : (conL N ps 1).length < ((List.range (N + 1)).filter fun u => decide (u ≠ 0)).length := by
    unfold conL conTo
    rw [List.length_map]
    refine filter_less _ _ _ (fun u hu => ?_) v (List.mem_range.2 (by omega)) (by simp; omega) (by simp [hdv])
    simp only [decide_eq_true_eq]
    rintro rfl
    simp [hd0] at hu
  have h3 : ((List.range (N + 1)).filter fun u => decide (u ≠ 0)).length ≤ N := by
    rw [List.range_succ_eq_map, List.filter_cons]
    simp
    exact Nat.le_trans (List.length_filter_le _ _) (by simp)
  omega
theorem tree_sp {N : Nat} {ps : List Pp} (hg : P2.Good N ps) : treeB N (spL ps) = decide ((conL N ps 1).length = N) := by
  have hN : 1 ≤ N := by have := hg.1; omega
  have e := conL_of (N := N) (t := 1) (spL_conn (ps := ps))
  unfold treeB
  rw [e]
  by_cases hc : (conL N ps 1).length = N
  · have hl : (spL ps).length + 1 = N := by
      have h1 := con_full hN (by rw [e]; exact hc : (conL N (spL ps) 1).length = N)
      have h2 := conn_need hN h1
      obtain ⟨f, L, _, h4, h5⟩ := labels_up hg ps.length (Nat.le_refl _)
      have h6 := List.length_pos_of_mem (h4 1 (Nat.le_refl _) hN)
      unfold spL at h2 ⊢
      omega
    simp [hl, hc]
  · simp [hc]
end Go.Proofs.Ytlkomipjamelkab.S2

namespace Go.Proofs.Ytlkomipjamelkab.S2
open Go.RowKit P2

/-- One pipe changes the distance by one at most. -/
theorem dist_step {ps : List Pp} {t a b : Int} (ha : Adj ps a b) (hd : dist ps t b ≠ -1) : dist ps t a ≠ -1 ∧ dist ps t a ≤ dist ps t b + 1 := by
  rcases dist_is ps t b with ⟨h1, _⟩ | ⟨k, h1, h2, _⟩
  · exact absurd h1 hd
  · have hp : Path ps (k + 1) a t := ⟨b, ha, h2⟩
    refine ⟨dist_conn.2 ⟨_, hp⟩, ?_⟩
    rcases dist_is ps t a with ⟨g1, _⟩ | ⟨j, g1, _, g3⟩
    · omega
    · have := g3 _ hp; omega
theorem dist_pre {ps : List Pp} {t v : Int} {k : Nat} (h : dist ps t v = (k + 1 : Nat)) : ∃ c, Adj ps v c ∧ dist ps t c = k := by
  rcases dist_is ps t v with ⟨h1, _⟩ | ⟨m, h1, h2, h3⟩
  · omega
  · have e : m = k + 1 := by omega
    subst e
    obtain ⟨c, ha, hp⟩ := h2
    refine ⟨c, ha, isD_one (dist_is ps t c) (.inr ⟨k, rfl, hp, fun j hj => ?_⟩)⟩
    have := h3 (j + 1) ⟨c, ha, hj⟩
    omega
theorem dist_lo (ps : List Pp) (t v : Int) : -1 ≤ dist ps t v := by
  rcases dist_is ps t v with ⟨h1, _⟩ | ⟨m, h1, _, _⟩ <;> omega
theorem dist_zero {ps : List Pp} {t v : Int} (h : dist ps t v = 0) : v = t := by
  rcases dist_is ps t v with ⟨h1, _⟩ | ⟨m, h1, h2, _⟩
  · omega
  · have e : m = 0 := by omega
    subst e
    exact h2
theorem adj_in {n : Nat} {ps : List Pp} (hg : P2.Good n ps) {a b : Int} (h : Adj ps a b) : (1 ≤ a ∧ a ≤ n) ∧ 1 ≤ b ∧ b ≤ n := by
  obtain ⟨p, hp, hj⟩ := h
  have hok := good_pp hg hp
  unfold PpOk at hok
  rcases hj with ⟨h1, h2⟩ | ⟨h1, h2⟩ <;> omega

theorem countP_two (l : List Nat) (r p q : Nat → Bool) (h : ∀ x, r x = (p x || q x)) (hd : ∀ x, ¬ (p x = true ∧ q x = true)) : l.countP r = l.countP p + l.countP q := by
  induction l with
  | nil => rfl
  | cons x l ih =>
    rw [List.countP_cons, List.countP_cons, List.countP_cons, ih, h x]
    have := hd x
    cases hp : p x <;> cases hq : q x <;> simp_all <;> omega
/-- No distance is greater than the number of nodes. -/
theorem dist_le {n : Nat} {ps : List Pp} (hg : P2.Good n ps) {t : Int} (v : Nat) (hv : v ≤ n) : dist ps t v ≤ n := by
  have lev : ∀ (k : Nat) (v : Nat), v ≤ n → dist ps t v = k → k + 1 ≤ (List.range (n + 1)).countP (fun u => decide (0 ≤ dist ps t (u : Nat) ∧ dist ps t (u : Nat) < (k : Int) + 1)) := by
    intro k
    induction k with
    | zero =>
      intro v hv h
      exact List.countP_pos_iff.2 ⟨v, List.mem_range.2 (by omega), by simp; omega⟩
    | succ k ih =>
      intro v hv h
      obtain ⟨c, ha, hc⟩ := dist_pre h
      have hci := (adj_in hg ha).2
      obtain ⟨m, rfl⟩ : ∃ m : Nat, c = m := ⟨c.toNat, by omega⟩
      have h1 := ih m (by omega) hc
      have h2 := countP_two (List.range (n + 1)) (fun u => decide (0 ≤ dist ps t (u : Nat) ∧ dist ps t (u : Nat) < ((k + 1 : Nat) : Int) + 1)) (fun u => decide (0 ≤ dist ps t (u : Nat) ∧ dist ps t (u : Nat) < (k : Int) + 1)) (fun u => decide (dist ps t (u : Nat) = (k : Int) + 1)) (fun x => by
        rw [← Bool.decide_or]
        refine decide_eq_decide.2 ?_
        have := dist_lo ps t (x : Nat)
        omega) (fun x hx => by
          obtain ⟨a, b⟩ := hx
          have a := of_decide_eq_true a
          have b := of_decide_eq_true b
          omega)
      have h3 : 0 < (List.range (n + 1)).countP (fun u => decide (dist ps t (u : Nat) = (k : Int) + 1)) :=
        List.countP_pos_iff.2 ⟨v, List.mem_range.2 (by omega), by simp; omega⟩
      omega
  rcases dist_is ps t v with ⟨h1, _⟩ | ⟨k, h1, _, _⟩
  · omega
  · have h2 := lev k v hv h1
    have h3 : (List.range (n + 1)).countP (fun u => decide (0 ≤ dist ps t (u : Nat) ∧ dist ps t (u : Nat) < (k : Int) + 1)) ≤ n + 1 := by
      have := List.countP_le_length (p := fun u : Nat => decide (0 ≤ dist ps t (u : Nat) ∧ dist ps t (u : Nat) < (k : Int) + 1)) (l := List.range (n + 1))
      simpa using this
    omega

/-! ### The way -/
noncomputable def nearB (ps : List Pp) (t h : Int) (p : Pp) : Bool := decide (dist ps t (oth p h) < dist ps t h)
noncomputable def wayL (ps : List Pp) (t : Int) : Nat → Nat → List Int
  | 0, _ => []
  | k + 1, h => match (rowOf ps h).find? (nearB ps t h) with
    | none => []
    | some p => p.id :: wayL ps t k (oth p h).toNat
theorem wayL_len (ps : List Pp) (t : Int) : ∀ (k h : Nat), (wayL ps t k h).length ≤ k
  | 0, _ => Nat.le_refl _
  | k + 1, h => by
    unfold wayL
    split
    · simp
    · simp only [List.length_cons]; have := wayL_len ps t k (oth (by assumption) h).toNat; omega
theorem find_at {α : Type} [Inhabited α] (q : α → Bool) : ∀ (l : List α) (j : Nat) (d : α), j < l.length → (∀ i, i < j → q (l.getD i d) = false) → q (l.getD j d) = true → l.find? q = some (l.getD j d)
  | [], j, d, h, _, _ => by simp at h
  | x :: l, 0, d, _, _, h2 => by
    have e : (x :: l).getD 0 d = x := rfl
    rw [e] at h2 ⊢
    simp [h2]
  | x :: l, j + 1, d, h, h1, h2 => by
    have h0 : q x = false := h1 0 (by omega)
    have e : (x :: l).getD (j + 1) d = l.getD j d := by simp [List.getD]
    rw [e] at h2 ⊢
    rw [List.find?_cons, h0]
    exact find_at q l j d (by simpa using h) (fun i hi => by
      have := h1 (i + 1) (by omega)
      have e2 : (x :: l).getD (i + 1) d = l.getD i d := by simp [List.getD]
      rwa [e2] at this) h2
instance : Inhabited Pp := ⟨⟨0, 0, 0, 0⟩⟩
theorem way_row {ps : List Pp} {t : Int} {h k j : Nat} {u : Nat} (hj : j < (rowOf ps h).length) (h1 : ∀ i, i < j → nearB ps t h (pAt (rowOf ps h) i) = false) (h2 : nearB ps t h (pAt (rowOf ps h) j) = true) (hu : oth (pAt (rowOf ps h) j) h = u) :
    wayL ps t (k + 1) h = (pAt (rowOf ps h) j).id :: wayL ps t k u := by
  have e := find_at (nearB ps t h) (rowOf ps h) j ⟨0, 0, 0, 0⟩ hj h1 h2
  have e2 : (rowOf ps h).getD j ⟨0, 0, 0, 0⟩ = pAt (rowOf ps h) j := rfl
  rw [e2] at e
  have e3 : wayL ps t (k + 1) h = match (rowOf ps h).find? (nearB ps t h) with
    | none => []
    | some p => p.id :: wayL ps t k (oth p h).toNat := rfl
  rw [e3, e]
  show _ :: wayL ps t k (oth (pAt (rowOf ps h) j) h).toNat = _
  rw [hu]
  rfl
theorem way_all {ps : List Pp} {t : Int} {h k j : Nat} {u : Nat} (hj : j < ps.length) (h1 : ∀ i, i < j → (touchB h (pAt ps i) && nearB ps t h (pAt ps i)) = false) (h2 : (touchB h (pAt ps j) && nearB ps t h (pAt ps j)) = true) (hu : oth (pAt ps j) h = u) :
    wayL ps t (k + 1) h = (pAt ps j).id :: wayL ps t k u := by
  have e := find_at (fun p => touchB h p && nearB ps t h p) ps j ⟨0, 0, 0, 0⟩ hj h1 h2
  have e2 : ps.getD j ⟨0, 0, 0, 0⟩ = pAt ps j := rfl
  rw [e2] at e
  have e4 : (rowOf ps h).find? (nearB ps t h) = ps.find? (fun p => touchB h p && nearB ps t h p) := by
    unfold rowOf
    rw [List.find?_filter]
    congr 1
    funext a
    simp [Bool.decide_and]
  have e3 : wayL ps t (k + 1) h = match (rowOf ps h).find? (nearB ps t h) with
    | none => []
    | some p => p.id :: wayL ps t k (oth p h).toNat := rfl
  rw [e3, e4, e]
  show _ :: wayL ps t k (oth (pAt ps j) h).toNat = _
  rw [hu]
  rfl
theorem near_iff {ps : List Pp} {t : Int} {h k : Nat} {p : Pp} (hd : dist ps t h = (k + 1 : Nat)) (hp : p ∈ ps) (ht : p.fr = (h : Int) ∨ p.to = (h : Int)) : nearB ps t h p = true ↔ dist ps t (oth p h) = k := by
  have ha : Adj ps h (oth p h) := ⟨p, hp, oth_jn ht⟩
  have h1 := dist_step (t := t) ha.symm (by omega)
  have h2 := dist_step (t := t) ha h1.1
  unfold nearB
  rw [decide_eq_true_iff]
  have := dist_lo ps t (oth p h)
  omega
theorem near_ex {n : Nat} {ps : List Pp} (hg : P2.Good n ps) {t : Int} {h k : Nat} (hd : dist ps t h = (k + 1 : Nat)) : ∃ p, p ∈ ps ∧ (p.fr = (h : Int) ∨ p.to = (h : Int)) ∧ nearB ps t h p = true := by
  obtain ⟨c, ha, hc⟩ := dist_pre hd
  obtain ⟨p, hp, hj⟩ := ha
  obtain ⟨ho, ht⟩ := jn_oth (good_pp hg hp) hj
  exact ⟨p, hp, ht, (near_iff hd hp ht).2 (by rw [ho]; exact hc)⟩
theorem near_row {n : Nat} {ps : List Pp} (hg : P2.Good n ps) {t : Int} {h k : Nat} (hd : dist ps t h = (k + 1 : Nat)) : ¬ ∀ i, i < (rowOf ps h).length → nearB ps t h (pAt (rowOf ps h) i) = false := by
  intro hn
  obtain ⟨p, hp, ht, hnr⟩ := near_ex hg hd
  have hm : p ∈ rowOf ps h := List.mem_filter.2 ⟨hp, by simpa [touchB] using ht⟩
  obtain ⟨i, hi⟩ := List.getElem?_of_mem hm
  have hlt : i < (rowOf ps h).length := (List.getElem?_eq_some_iff.1 hi).1
  have e : pAt (rowOf ps h) i = p := by simp [pAt, List.getD, hi]
  have := hn i hlt
  rw [e, hnr] at this
  cases this
theorem near_all {n : Nat} {ps : List Pp} (hg : P2.Good n ps) {t : Int} {h k : Nat} (hd : dist ps t h = (k + 1 : Nat)) : ¬ ∀ i, i < ps.length → (touchB h (pAt ps i) && nearB ps t h (pAt ps i)) = false := by
  intro hn
  obtain ⟨p, hp, ht, hnr⟩ := near_ex hg hd
  obtain ⟨i, hi⟩ := List.getElem?_of_mem hp
  have hlt : i < ps.length := (List.getElem?_eq_some_iff.1 hi).1
  have e : pAt ps i = p := by simp [pAt, List.getD, hi]
  have := hn i hlt
  rw [e, hnr, show touchB h p = true by simpa [touchB] using ht] at this
  cases this

/-! ### Levels -/
/-- In step s of the search by levels: what is told is right; all up to s is told. -/
structure Lv (n : Nat) (ps : List Pp) (t : Int) (s : Nat) (D : List Int) : Prop where
  len : D.length = n + 1
  zero : dA D 0 = -1
  told : ∀ v : Nat, 1 ≤ v → v ≤ n → 0 ≤ dist ps t v → dist ps t v ≤ s → dA D v = dist ps t v
  rest : ∀ v : Nat, 1 ≤ v → v ≤ n → (dist ps t v = -1 ∨ (s : Int) < dist ps t v) → dA D v = -1 ∨ (dA D v = (s : Int) + 1 ∧ dist ps t v = (s : Int) + 1)
def step1 (D : List Int) (a b s : Nat) : List Int := if dA D a = s ∧ dA D b < 0 then D.set b ((s : Int) + 1) else D
theorem step1_yes {D : List Int} {a b s : Nat} (h : dA D a = s ∧ dA D b < 0) : step1 D a b s = D.set b ((s : Int) + 1) := by unfold step1; rw [if_pos h]
theorem step1_no {D : List Int} {a b s : Nat} (h : ¬ (dA D a = s ∧ dA D b < 0)) : step1 D a b s = D := by unfold step1; rw [if_neg h]
theorem step1_len (D : List Int) (a b s : Nat) : (step1 D a b s).length = D.length := by unfold step1; split <;> simp
theorem Lv.step {n : Nat} {ps : List Pp} {t : Int} {s : Nat} {D : List Int} (l : Lv n ps t s D) {a b : Nat} (ha : Adj ps a b) (ha1 : 1 ≤ a) (han : a ≤ n) (hb1 : 1 ≤ b) (hbn : b ≤ n) :
    Lv n ps t s (step1 D a b s) ∧ (∀ v, dA D v ≠ -1 → dA (step1 D a b s) v = dA D v) ∧ (dist ps t a = s → dist ps t b = (s : Int) + 1 → dA (step1 D a b s) b = (s : Int) + 1) := by
  have hbl : b < D.length := by have := l.len; omega
  have lb := dist_lo ps t b
  have la := dist_lo ps t a
  have rb := l.rest b hb1 hbn
  have ra := l.rest a ha1 han
  have tb := l.told b hb1 hbn
  have ta := l.told a ha1 han
  unfold step1
  by_cases hc : dA D a = s ∧ dA D b < 0
  · rw [if_pos hc]
    have hda : dist ps t a = s := by
      by_cases h1 : 0 ≤ dist ps t a ∧ dist ps t a ≤ s
      · have := ta h1.1 h1.2; omega
      · have := ra (by omega); omega
    have hst := dist_step (t := t) ha.symm (by omega)
    have hdb : dist ps t b = (s : Int) + 1 ∧ dA D b = -1 := by
      by_cases h1 : 0 ≤ dist ps t b ∧ dist ps t b ≤ s
      · have := tb h1.1 h1.2; omega
      · have := rb (by omega); omega
    refine ⟨⟨by simpa using l.len, by rw [dA_set_ne _ _ _ _ (by omega)]; exact l.zero, fun v hv1 hvn h0 hs => ?_, fun v hv1 hvn hv => ?_⟩, fun v hv => ?_, fun _ _ => dA_set_same _ _ _ hbl⟩
    · have : v ≠ b := by intro e; subst e; omega
      rw [dA_set_ne _ _ _ _ this]; exact l.told v hv1 hvn h0 hs
    · by_cases e : v = b
      · subst e; rw [dA_set_same _ _ _ hbl]; exact .inr ⟨rfl, hdb.1⟩
      · rw [dA_set_ne _ _ _ _ e]; exact l.rest v hv1 hvn hv
    · have : v ≠ b := by intro e; subst e; exact hv hdb.2
      rw [dA_set_ne _ _ _ _ this]
  · rw [if_neg hc]
    refine ⟨l, fun _ _ => rfl, fun h1 h2 => ?_⟩
    have := ta (by omega) (by omega)
    have := rb (by omega)
    omega
/-- Within a step: the first k pipes have been seen. -/
structure Lk (n : Nat) (ps : List Pp) (t : Int) (s k : Nat) (D : List Int) : Prop where
  lv : Lv n ps t s D
  seen : ∀ i, i < k → i < ps.length → ∀ a b : Nat, Jn (pAt ps i) a b → dist ps t a = s → dist ps t b = (s : Int) + 1 → dA D b = (s : Int) + 1
theorem Lk.start {n : Nat} {ps : List Pp} {t : Int} {s : Nat} {D : List Int} (l : Lv n ps t s D) : Lk n ps t s 0 D := ⟨l, fun i hi => absurd hi (by omega)⟩
theorem Lk.step {n : Nat} {ps : List Pp} {t : Int} {s k : Nat} {D : List Int} (l : Lk n ps t s k D) (hg : P2.Good n ps) (hk : k < ps.length) {a b : Nat} (ha : (pAt ps k).fr = a) (hb : (pAt ps k).to = b) :
    Lk n ps t s (k + 1) (step1 (step1 D a b s) b a s) := by
  have hm : pAt ps k ∈ ps := by
    have e : pAt ps k = ps[k] := by simp [pAt, List.getD, hk]
    rw [e]; exact List.getElem_mem hk
  have hadj : Adj ps a b := ⟨_, hm, .inl ⟨ha, hb⟩⟩
  have hin := adj_in hg hadj
  obtain ⟨l1, m1, p1⟩ := l.lv.step hadj (by omega) (by omega) (by omega) (by omega)
  obtain ⟨l2, m2, p2⟩ := l1.step hadj.symm (by omega) (by omega) (by omega) (by omega)
  refine ⟨l2, fun i hi hr x y hj hx hy => ?_⟩
  by_cases e : i = k
  · subst e
    rcases hj with ⟨h1, h2⟩ | ⟨h1, h2⟩
    · have e1 : a = x := by omega
      have e2 : b = y := by omega
      subst e1; subst e2
      have := p1 hx hy
      rw [m2 _ (by rw [this]; omega)]; exact this
    · have e1 : b = x := by omega
      have e2 : a = y := by omega
      subst e1; subst e2
      exact p2 hx hy
  · have h0 := l.seen i (by omega) hr x y hj hx hy
    have h3 := m1 y (by rw [h0]; omega)
    rw [m2 y (by rw [h3, h0]; omega), h3]
    exact h0
theorem Lk.finish {n : Nat} {ps : List Pp} {t : Int} {s k : Nat} {D : List Int} (l : Lk n ps t s k D) (hg : P2.Good n ps) (hk : ps.length ≤ k) : Lv n ps t (s + 1) D := by
  refine ⟨l.lv.len, l.lv.zero, fun v hv1 hvn h0 hs => ?_, fun v hv1 hvn hv => ?_⟩
  · by_cases h : dist ps t v ≤ s
    · exact l.lv.told v hv1 hvn h0 h
    · have e : dist ps t v = (s + 1 : Nat) := by omega
      obtain ⟨c, ha, hc⟩ := dist_pre e
      have hci := (adj_in hg ha).2
      obtain ⟨m, rfl⟩ : ∃ m : Nat, c = m := ⟨c.toNat, by omega⟩
      obtain ⟨p, hp, hj⟩ := ha
      obtain ⟨i, hi⟩ := List.getElem?_of_mem hp
      have hlt : i < ps.length := (List.getElem?_eq_some_iff.1 hi).1
      have e2 : pAt ps i = p := by simp [pAt, List.getD, hi]
      rw [l.seen i (by omega) hlt m v (by rw [e2]; exact hj.symm) hc (by omega)]
      omega
  · have := l.lv.rest v hv1 hvn (by omega)
    omega
theorem Lv.start (n : Nat) (ps : List Pp) (t : Nat) (h1 : 1 ≤ t) (h2 : t ≤ n) : Lv n ps t 0 ((List.replicate (n + 1) (-1)).set t 0) := by
  have hl : t < (List.replicate (n + 1) (-1 : Int)).length := by simp; omega
  have hr : ∀ v, v ≤ n → dA (List.replicate (n + 1) (-1 : Int)) v = -1 := by
    intro v hv
    have : v < n + 1 := by omega
    simp [dA, List.getD, this]
  refine ⟨by simp, by rw [dA_set_ne _ _ _ _ (by omega)]; exact hr 0 (by omega), fun v hv1 hvn h0 hs => ?_, fun v hv1 hvn hv => ?_⟩
  · have e : dist ps t v = 0 := by omega
    have e2 : v = t := by have := dist_zero e; omega
    subst e2
    rw [dA_set_same _ _ _ hl, e]
  · have e2 : v ≠ t := by intro e; subst e; rw [dist_self] at hv; omega
    rw [dA_set_ne _ _ _ _ e2]
    exact .inl (hr v hvn)
theorem Lv.all {n : Nat} {ps : List Pp} {t : Int} {D : List Int} (l : Lv n ps t n D) (hg : P2.Good n ps) : D = distL n ps t := by
  apply List.ext_getElem
  · rw [l.len]; simp [distL]
  · intro v hv hv2
    have hvN : v ≤ n := by rw [l.len] at hv; omega
    have e : D[v] = dA D v := by simp [dA, List.getD, hv]
    rw [e]
    simp only [distL, List.getElem_map, List.getElem_range]
    by_cases h0 : v = 0
    · rw [if_pos h0, h0]; exact l.zero
    · rw [if_neg h0]
      have hle := dist_le (t := t) hg v hvN
      have hlo := dist_lo ps t v
      by_cases h : 0 ≤ dist ps t v
      · exact l.told v (by omega) hvN h hle
      · have := l.rest v (by omega) hvN (by omega)
        omega
end Go.Proofs.Ytlkomipjamelkab.S2

namespace Go.Proofs.Ytlkomipjamelkab.S2
open Go.RowKit P2

def absI (x : Int) : Int := max x (-x)
theorem absI_nn (x : Int) : 0 ≤ absI x := by unfold absI; omega
theorem absI_le {x b : Int} (h0 : -b ≤ x) (h1 : x ≤ b) : absI x ≤ b := by unfold absI; omega
theorem mul_bd {x y : Int} {a b : Nat} (hx : -(a : Int) ≤ x) (hx2 : x ≤ a) (hy : -(b : Int) ≤ y) (hy2 : y ≤ b) : -((a * b : Nat) : Int) ≤ x * y ∧ x * y ≤ ((a * b : Nat) : Int) := by
  have h := Nat.mul_le_mul (show x.natAbs ≤ a by omega) (show y.natAbs ≤ b by omega)
  rw [← Int.natAbs_mul] at h
  omega
def lossI (p : Pp) (f : Int) : Int := p.sz * f * absI f
theorem loss_in {n : Int} {p : Pp} (hp : PpOk n p) {f : Int} (h0 : -8000 ≤ f) (h1 : f ≤ 8000) : (-72000 ≤ p.sz * f ∧ p.sz * f ≤ 72000) ∧ -576000000 ≤ lossI p f ∧ lossI p f ≤ 576000000 := by
  obtain ⟨_, _, _, _, _, _, _, hs1, hs2⟩ := hp
  have a := mul_bd (x := p.sz) (y := f) (a := 9) (b := 8000) (by omega) (by omega) (by omega) (by omega)
  have hn := absI_nn f
  have hl := absI_le h0 h1
  have b := mul_bd (x := p.sz * f) (y := absI f) (a := 72000) (b := 8000) (by omega) (by omega) (by omega) (by omega)
  unfold lossI
  omega

/-! ### Where a pipe stands -/
noncomputable def plc (ps : List Pp) (x : Int) : Nat := (Classical.choose (find_ex ps x)).toNat
theorem plc_find {ps : List Pp} {x : Int} {i : Nat} (h : FindIs ps x (i : Int)) : plc ps x = i := by
  unfold plc
  rw [find_one (Classical.choose_spec (find_ex ps x)) h]
  exact Int.toNat_natCast i
theorem pp_at {ps : List Pp} {p : Pp} (h : p ∈ ps) : ∃ i, i < ps.length ∧ pAt ps i = p := by
  obtain ⟨i, hi, rfl⟩ := List.getElem_of_mem h
  exact ⟨i, hi, by simp [pAt, List.getD, hi]⟩
theorem pAt_mem {ps : List Pp} {i : Nat} (h : i < ps.length) : pAt ps i ∈ ps := List.mem_of_getElem? (pAt_get ps i h)
/-- A pipe of a valid network is found at its place. -/
theorem plc_at {n : Int} {ps : List Pp} (hg : P2.Good n ps) {i : Nat} (hi : i < ps.length) : plc ps (pAt ps i).id = i ∧ FindIs ps (pAt ps i).id (i : Int) := by
  have h : FindIs ps (pAt ps i).id (i : Int) := .inr ⟨i, hi, rfl, rfl, fun j hj he => by have := good_ids hg j i hj hi; omega⟩
  exact ⟨plc_find h, h⟩

/-! ### Along a way -/
noncomputable def hereA (ps : List Pp) (W : List Int) (s : Int) : Nat → Int
  | 0 => s
  | k + 1 => oth (pAt ps (plc ps (lA W k))) (hereA ps W s k)
noncomputable def turnA (ps : List Pp) (fl W : List Int) (s : Int) (k : Nat) : Int :=
  if (pAt ps (plc ps (lA W k))).fr = hereA ps W s k then lossI (pAt ps (plc ps (lA W k))) (lA fl (plc ps (lA W k))) else -lossI (pAt ps (plc ps (lA W k))) (lA fl (plc ps (lA W k)))
noncomputable def alongA (ps : List Pp) (fl W : List Int) (s : Int) : Int := sumK (turnA ps fl W s) W.length
/-- Each pipe of the way leads on from where one stands. -/
def WayOk (ps : List Pp) (W : List Int) (s : Int) : Prop := W.length ≤ 8 ∧ ∀ k, k < W.length → plc ps (lA W k) < ps.length ∧ FindIs ps (lA W k) (plc ps (lA W k)) ∧ ((pAt ps (plc ps (lA W k))).fr = hereA ps W s k ∨ (pAt ps (plc ps (lA W k))).to = hereA ps W s k)
theorem here_cons (ps : List Pp) (x : Int) (W : List Int) (s : Int) : ∀ k, hereA ps (x :: W) s (k + 1) = hereA ps W (oth (pAt ps (plc ps x)) s) k
  | 0 => rfl
  | k + 1 => by
    show oth (pAt ps (plc ps (lA (x :: W) (k + 1)))) (hereA ps (x :: W) s (k + 1)) = oth (pAt ps (plc ps (lA W k))) (hereA ps W (oth (pAt ps (plc ps x)) s) k)
    rw [here_cons ps x W s k]
    rfl
theorem way_steps {n : Nat} {ps : List Pp} (hg : P2.Good n ps) {t : Int} : ∀ (k h : Nat), dist ps t h = (k : Int) → ∀ i, i < (wayL ps t k h).length → plc ps (lA (wayL ps t k h) i) < ps.length ∧ FindIs ps (lA (wayL ps t k h) i) (plc ps (lA (wayL ps t k h) i)) ∧ ((pAt ps (plc ps (lA (wayL ps t k h) i))).fr = hereA ps (wayL ps t k h) h i ∨ (pAt ps (plc ps (lA (wayL ps t k h) i))).to = hereA ps (wayL ps t k h) h i)
  | 0, _, _, i, hi => by simp [wayL] at hi
  | k + 1, h, hd, i, hi => by
    obtain ⟨j, hj, hjn⟩ : ∃ j, (j < (rowOf ps h).length ∧ nearB ps t h (pAt (rowOf ps h) j) = true) ∧ ∀ m, (m < (rowOf ps h).length ∧ nearB ps t h (pAt (rowOf ps h) m) = true) → j ≤ m := by
      have hx : ∃ j, j < (rowOf ps h).length ∧ nearB ps t h (pAt (rowOf ps h) j) = true := Classical.byContradiction fun hc => near_row hg hd fun i hi => by
        cases he : nearB ps t h (pAt (rowOf ps h) i) with
        | false => rfl
        | true => exact absurd ⟨i, hi, he⟩ hc
      obtain ⟨j, hj⟩ := hx
      exact least_nat _ j hj
    obtain ⟨hm, ht⟩ := row_mem hj.1
    have hp := good_pp hg hm
    have ho := oth_in (x := (h : Int)) hp
    obtain ⟨u, hu⟩ : ∃ u : Nat, oth (pAt (rowOf ps h) j) h = (u : Int) := ⟨(oth (pAt (rowOf ps h) j) h).toNat, by omega⟩
    have hw := way_row (k := k) hj.1 (fun i hi => by
      cases he : nearB ps t h (pAt (rowOf ps h) i) with
      | false => rfl
      | true => have := hjn i ⟨by omega, he⟩; omega) hj.2 hu
    have hdu : dist ps t (u : Int) = (k : Int) := by rw [← hu]; exact (near_iff hd hm ht).1 hj.2
    rw [hw] at hi ⊢
    obtain ⟨q, hq, hqe⟩ := pp_at hm
    rw [← hqe] at hu ht ⊢
    obtain ⟨hpl, hfi⟩ := plc_at hg hq
    match i with
    | 0 =>
      show plc ps (pAt ps q).id < ps.length ∧ FindIs ps (pAt ps q).id (plc ps (pAt ps q).id) ∧ ((pAt ps (plc ps (pAt ps q).id)).fr = (h : Int) ∨ (pAt ps (plc ps (pAt ps q).id)).to = (h : Int))
      rw [hpl]
      exact ⟨hq, hfi, ht⟩
    | i + 1 =>
      rw [here_cons, hpl, hu]
      exact way_steps hg k u hdu i (by simpa using hi)
theorem way_ok {n : Nat} {ps : List Pp} (hg : P2.Good n ps) {t : Int} {k h : Nat} (hh : h ≤ n) (hd : dist ps t h = (k : Int)) : WayOk ps (wayL ps t k h) h := by
  have h1 := wayL_len ps t k h
  have h2 := dist_le (t := t) hg h hh
  have h3 := hg.2.1
  exact ⟨by omega, way_steps hg k h hd⟩
theorem turn_in {n : Int} {ps : List Pp} (hg : P2.Good n ps) {fl W : List Int} {s : Int} (hf : allR (-8000) 8000 fl = true) (hl : fl.length = ps.length) (hw : WayOk ps W s) {k : Nat} (hk : k < W.length) : -576000000 ≤ turnA ps fl W s k ∧ turnA ps fl W s k ≤ 576000000 := by
  have h1 := (hw.2 k hk).1
  have h2 := allR_at hf (i := plc ps (lA W k)) (by omega)
  have h3 := (loss_in (good_pp hg (pAt_mem h1)) h2.1 h2.2).2
  unfold turnA
  split
  · exact h3
  · have e : lA fl (plc ps (lA W k)) = fl.getD (plc ps (lA W k)) 0 := rfl
    rw [e]; omega
theorem along_in {n : Int} {ps : List Pp} (hg : P2.Good n ps) {fl W : List Int} {s : Int} (hf : allR (-8000) 8000 fl = true) (hl : fl.length = ps.length) (hw : WayOk ps W s) {k : Nat} (hk : k ≤ W.length) : -4608000000 ≤ sumK (turnA ps fl W s) k ∧ sumK (turnA ps fl W s) k ≤ 4608000000 := by
  have h1 := sumK_le (f := turnA ps fl W s) (B := 576000000) (by omega) (k := k) (fun i hi => turn_in hg hf hl hw (by omega))
  have h2 : (k : Int) ≤ 8 := by have := hw.1; omega
  have h3 : (576000000 : Int) * k ≤ 576000000 * 8 := Int.mul_le_mul_of_nonneg_left h2 (by omega)
  omega
end Go.Proofs.Ytlkomipjamelkab.S2

namespace Go.Proofs.Ytlkomipjamelkab.S2
open Go.RowKit P2

set_option maxHeartbeats 1000000 in
theorem sup_no (n : Int) (A : Option Addr) (cap : Nat) (ps : List Pp) (AD : Option Addr) (dc : Nat) (dm : List Int) (w : World) (h : PAt w A ps) (hm : ps.length ≤ maxLen) (hd : IAt w AD dm) (hdl : dm.length ≤ 1048576) (hv : demB n ps dm = false) :
    Calls Try.prog 13 #[nv n A ps.length cap, .slice AD dm.length dc] w fun e w' => e = .returned (.tuple #[.int .i64 0, .bool false]) ∧ Below w.heap.size w w' := by
  have H := Lib.hid (fun w' (hb : Below w.heap.size w w') => dem_v hv A cap AD dc w' (h.kept hb (Nat.le_refl _)) hm (hd.kept hb (Nat.le_refl _)) hdl)
  clear h hd hv
  go_enter Try.func13, Try.ntmps13
  go_wp2_with (go_at_call 58; refine (H.out _ ((Below.refl _ _).alloc (Nat.le_refl _) _)).mono ?_; rintro e w1 ⟨rfl, hb1⟩)
  go_ret2
  exact ⟨rfl, below_alloc_call hb1⟩
set_option maxHeartbeats 1000000 in
theorem sup_yes (n : Int) (A : Option Addr) (cap : Nat) (ps : List Pp) (AD : Option Addr) (dc : Nat) (dm : List Int) (w : World) (h : PAt w A ps) (hm : ps.length ≤ maxLen) (hd : IAt w AD dm) (hdl : dm.length ≤ 1048576) (hv : demB n ps dm = true) :
    Calls Try.prog 13 #[nv n A ps.length cap, .slice AD dm.length dc] w fun e w' => e = .returned (.tuple #[.int .i64 (sumL dm), .bool true]) ∧ Below w.heap.size w w' := by
  obtain ⟨hg, hdn, hr⟩ := demB_of hv
  have hd8 : dm.length ≤ 8 := by have := hg.2.1; omega
  have H := Lib.hid (fun w' (hb : Below w.heap.size w w') => dem_v hv A cap AD dc w' (h.kept hb (Nat.le_refl _)) hm (hd.kept hb (Nat.le_refl _)) hdl)
  have HA := Lib.hid (fun w' (hb : Below w.heap.size w w') => hd.kept hb (Nat.le_refl _))
  have HB := Lib.hid (fun k (hk : k ≤ dm.length) => sum_in hr (by omega) (by omega) hk (by omega))
  have HE := Lib.hid (fun k (hk : k < dm.length) => allR_at hr hk)
  clear h hd hv hr hg hdn hm
  go_enter Try.func13, Try.ntmps13
  go_wp2_with (go_at_call 58; refine (H.out _ ((Below.refl _ _).alloc (Nat.le_refl _) _)).mono ?_; rintro e w1 ⟨rfl, hb1⟩)
  have hB := Lib.hid (below_alloc_call hb1)
  clear hb1 H
  go_loop [6, 15] (fun s i => ∃ k : Nat, k ≤ dm.length ∧ i = .int .i64 (k : Int) ∧ s = .int .i64 (sumK (lA dm) k)) (fun _ i => dm.length - (intOf i).toNat)
  case atStart => exact ⟨0, Nat.zero_le _, rfl, rfl⟩
  case round =>
    obtain ⟨k, hk, rfl, rfl⟩ := hrel
    obtain ⟨hs0, hs1⟩ := HB.out k hk
    by_cases hlt : k < dm.length
    · obtain ⟨bb, off, hA, hbl, h0⟩ := (HA.out _ hB.out).at_ hlt
      subst hA
      have hk0 : (0 : Int) ≤ (k : Int) := by omega
      have hkn : (k : Int) < (dm.length : Int) := by omega
      have hy0 : 0 ≤ dm.getD k 0 := (HE.out k hlt).1
      have hy1 : dm.getD k 0 ≤ 1000 := (HE.out k hlt).2
      have hsn := Lib.hid (show sumK (lA dm) (k + 1) = sumK (lA dm) k + dm.getD k 0 from rfl)
      generalize dm.getD k 0 = y at *
      generalize sumK (lA dm) k = s at *
      go_wp2
      go_round
      case rel => exact ⟨k + 1, by omega, by go_num, by rw [hsn.out]⟩
      case measure => simp [intOf]; omega
    · have hkk : k = dm.length := by omega
      have hf := Lib.hid (show sumK (lA dm) k = sumL dm by rw [hkk]; rfl)
      clear hkk
      go_wp2
      go_ret2
      exact ⟨by rw [hf.out]; rfl, hB.out⟩
end Go.Proofs.Ytlkomipjamelkab.S2

namespace Go.Proofs.Ytlkomipjamelkab.S2
open Go.RowKit P2

/-- Behind k demands. -/
def dS (s : Nat) (dm : List Int) (k v : Nat) : Int := (if v = s then sumK (lA dm) k else 0) - (if 1 ≤ v ∧ v ≤ k then lA dm (v - 1) else 0)
def fT (ps : List Pp) (fl : List Int) (v i : Nat) : Int := (if (pAt ps i).to = (v : Int) then lA fl i else 0) - (if (pAt ps i).fr = (v : Int) then lA fl i else 0)
/-- Behind all demands and k pipes. -/
def iS (s : Nat) (dm : List Int) (ps : List Pp) (fl : List Int) (k v : Nat) : Int := dS s dm dm.length v + sumK (fT ps fl v) k
/-- The imbalance at a node. -/
def imbA (s : Nat) (dm : List Int) (ps : List Pp) (fl : List Int) (v : Nat) : Int := iS s dm ps fl ps.length v

theorem dS_step (s : Nat) (dm : List Int) (k v : Nat) :
    upd (upd (dS s dm k) s (dS s dm k s + lA dm k)) (k + 1) (upd (dS s dm k) s (dS s dm k s + lA dm k) (k + 1) - lA dm k) v = dS s dm (k + 1) v := by
  have e : sumK (lA dm) (k + 1) = sumK (lA dm) k + lA dm k := rfl
  unfold upd dS
  rw [e]
  by_cases h1 : v = k + 1
  · subst h1
    rw [if_pos rfl]
    have e2 : k + 1 - 1 = k := by omega
    by_cases h2 : k + 1 = s
    · subst h2
      simp
      omega
    · rw [if_neg h2]
      simp [h2, e2]
      rw [if_neg (by omega)]; omega
  · rw [if_neg h1]
    by_cases h2 : v = s
    · subst h2
      simp
      by_cases h3 : 1 ≤ v ∧ v ≤ k
      · rw [if_pos h3, if_pos ⟨h3.1, by omega⟩]; omega
      · rw [if_neg h3, if_neg (by omega)]; omega
    · simp only [if_neg h2]
      by_cases h3 : 1 ≤ v ∧ v ≤ k
      · rw [if_pos h3, if_pos ⟨h3.1, by omega⟩]
      · rw [if_neg h3, if_neg (by omega)]
theorem dS_zero (s : Nat) (dm : List Int) (v : Nat) : dS s dm 0 v = 0 := by
  unfold dS
  rw [if_neg (show ¬ (1 ≤ v ∧ v ≤ 0) by omega)]
  split <;> simp [sumK]
theorem iS_step {s : Nat} {dm : List Int} {ps : List Pp} {fl : List Int} {k a c : Nat} (ha : (pAt ps k).fr = (a : Int)) (hc : (pAt ps k).to = (c : Int)) (hne : a ≠ c) (v : Nat) :
    upd (upd (iS s dm ps fl k) a (iS s dm ps fl k a - lA fl k)) c (iS s dm ps fl k c + lA fl k) v = iS s dm ps fl (k + 1) v := by
  have e : iS s dm ps fl (k + 1) v = iS s dm ps fl k v + fT ps fl v k := by unfold iS; rw [sumK]; omega
  rw [e]
  unfold upd fT
  rw [ha, hc]
  by_cases h1 : v = c
  · subst h1
    rw [if_pos rfl, if_pos rfl, if_neg (by omega)]; omega
  · rw [if_neg h1, if_neg (show ¬ (c : Int) = (v : Int) by omega)]
    by_cases h2 : v = a
    · subst h2
      rw [if_pos rfl, if_pos rfl]; omega
    · rw [if_neg h2, if_neg (show ¬ (a : Int) = (v : Int) by omega)]; omega
theorem dS_in {s : Nat} {dm : List Int} (hr : allR 0 1000 dm = true) (hl : dm.length ≤ 8) {k : Nat} (hk : k ≤ dm.length) (v : Nat) : -90000 ≤ dS s dm k v ∧ dS s dm k v ≤ 90000 := by
  have h1 := sum_in hr (by omega) (by omega) hk (by omega)
  have h2 : 1 ≤ v ∧ v ≤ k → 0 ≤ lA dm (v - 1) ∧ lA dm (v - 1) ≤ 1000 := fun h => allR_at hr (i := v - 1) (by omega)
  unfold dS
  split <;> split <;> first | omega | (have := h2 (by assumption); omega)
theorem iS_in {s : Nat} {dm : List Int} {ps : List Pp} {fl : List Int} (hr : allR 0 1000 dm = true) (hl : dm.length ≤ 8) (hf : allR (-8000) 8000 fl = true) (hfl : fl.length ≤ 10) {k : Nat} (hk : k ≤ fl.length) (v : Nat) : -300000 ≤ iS s dm ps fl k v ∧ iS s dm ps fl k v ≤ 300000 := by
  have h1 := dS_in (s := s) hr hl (Nat.le_refl _) v
  have h2 := sumK_le (f := fT ps fl v) (B := 16000) (by omega) (k := k) (fun i hi => by
    have := allR_at hf (i := i) (by omega)
    unfold fT lA
    split <;> split <;> omega)
  have h3 : (k : Int) ≤ 10 := by omega
  have h4 : (16000 : Int) * k ≤ 16000 * 10 := Int.mul_le_mul_of_nonneg_left h3 (by omega)
  unfold iS
  omega

/-- Nine numbers lie in block g. -/
def AR (w : World) (g : Nat) (S : Nat → Int) : Prop := w.heap[g]? = some (.cells ((List.range 9).map fun i => iv (S i)).toArray 91 (0, 0))
theorem AR.lt {w : World} {g : Nat} {S : Nat → Int} (h : AR w g S) : g < w.heap.size := (Array.getElem?_eq_some_iff.1 h).1
theorem AR.cell {w : World} {g : Nat} {S : Nat → Int} (h : AR w g S) {v : Nat} (hv : v < 9) : w.cell? ⟨g, v, none⟩ = some (iv (S v)) := by
  rw [cell_of_row w g v _ 91 (0, 0) h]
  simp [hv]
theorem AR.frozen {w : World} {g : Nat} {S : Nat → Int} (h : AR w g S) (o : Nat) : w.frozen? ⟨g, o, none⟩ = false := by
  unfold AR at h
  simp [World.frozen?, h]
theorem AR.congr {w : World} {g : Nat} {S T : Nat → Int} (h : AR w g S) (e : ∀ v, S v = T v) : AR w g T := by rwa [show T = S from funext fun v => (e v).symm]
theorem AR.set {w : World} {g : Nat} {S : Nat → Int} (h : AR w g S) (v : Nat) (x : Int) : AR (w.setCell ⟨g, v, none⟩ (iv x)) g (upd S v x) := by
  unfold AR at h ⊢
  have e : ((List.range 9).map fun i => iv (upd S v x i)) = ((List.range 9).map fun i => iv (S i)).set v (iv x) := by
    refine List.ext_getElem (by simp) fun i h1 h2 => ?_
    rw [List.getElem_set]
    simp only [List.getElem_map, List.getElem_range, upd]
    by_cases hi : i = v
    · simp [hi]
    · rw [if_neg hi, if_neg (fun h => hi h.symm)]
  rw [e]
  simp [World.setCell, Array.getElem?_modify, h]
theorem AR.kept {w w' : World} {g : Nat} {S : Nat → Int} (h : AR w g S) (hb : w'.heap[g]? = w.heap[g]?) : AR w' g S := hb.trans h
theorem AR.below {w w' : World} {g : Nat} {S : Nat → Int} (h : AR w g S) (hb : Below w.heap.size w w') : AR w' g S := h.kept (hb.block g h.lt)
theorem AR.other {w : World} {g : Nat} {S : Nat → Int} (h : AR w g S) {p : Addr} (x : Value) (hp : g ≠ p.block) : AR (w.setCell p x) g S := h.kept (Below.heap_setCell _ _ _ _ (by intro e; exact hp (by rw [e])))
theorem AR.made (w : World) : AR (w.alloc (.cells #[.int .i64 0, .int .i64 0, .int .i64 0, .int .i64 0, .int .i64 0, .int .i64 0, .int .i64 0, .int .i64 0, .int .i64 0] 91)) w.heap.size (fun _ => 0) := by
  unfold AR
  rw [show (List.map (fun _ => iv 0) (List.range 9)).toArray = #[.int .i64 0, .int .i64 0, .int .i64 0, .int .i64 0, .int .i64 0, .int .i64 0, .int .i64 0, .int .i64 0, .int .i64 0] from rfl]
  simpa using (MapKept.heap_alloc w (.cells #[.int .i64 0, .int .i64 0, .int .i64 0, .int .i64 0, .int .i64 0, .int .i64 0, .int .i64 0, .int .i64 0, .int .i64 0] 91)).1
/-- As a value. -/
abbrev av (S : Nat → Int) : Value := .agg #[iv (S 0), iv (S 1), iv (S 2), iv (S 3), iv (S 4), iv (S 5), iv (S 6), iv (S 7), iv (S 8)]
theorem below_set9 {B : Nat} {w0 w1 : World} {g : Nat} (h : Below B w0 w1) (hg : B ≤ g) (x0 x1 x2 x3 x4 x5 x6 x7 x8 : Value) :
    Below B w0 (((((((((w1.setCell ⟨g, 0, none⟩ x0).setCell ⟨g, 1, none⟩ x1).setCell ⟨g, 2, none⟩ x2).setCell ⟨g, 3, none⟩ x3).setCell ⟨g, 4, none⟩ x4).setCell ⟨g, 5, none⟩ x5).setCell ⟨g, 6, none⟩ x6).setCell ⟨g, 7, none⟩ x7).setCell ⟨g, 8, none⟩ x8) :=
  ((((((((h.setCell (p := ⟨g, 0, none⟩) hg _).setCell (p := ⟨g, 1, none⟩) hg _).setCell (p := ⟨g, 2, none⟩) hg _).setCell (p := ⟨g, 3, none⟩) hg _).setCell (p := ⟨g, 4, none⟩) hg _).setCell (p := ⟨g, 5, none⟩) hg _).setCell (p := ⟨g, 6, none⟩) hg _).setCell (p := ⟨g, 7, none⟩) hg _).setCell (p := ⟨g, 8, none⟩) hg _
end Go.Proofs.Ytlkomipjamelkab.S2

namespace Go.Proofs.Ytlkomipjamelkab.S2
open Go.RowKit P2

/-- It is asked of a valid network, a node, its demands and its flows. -/
noncomputable def askB (n : Int) (ps : List Pp) (s : Int) (dm fl : List Int) : Bool := nodeB n ps s && demB n ps dm && floB n ps fl
abbrev b9 : Obj := .cells #[.int .i64 0, .int .i64 0, .int .i64 0, .int .i64 0, .int .i64 0, .int .i64 0, .int .i64 0, .int .i64 0, .int .i64 0] 91

set_option maxHeartbeats 2000000 in
theorem imb_no (n : Int) (A : Option Addr) (cap : Nat) (ps : List Pp) (s : Int) (AD : Option Addr) (dc : Nat) (dm : List Int) (AF : Option Addr) (fc : Nat) (fl : List Int) (w : World) (h : PAt w A ps) (hm : ps.length ≤ maxLen)
    (hd : IAt w AD dm) (hdl : dm.length ≤ 1048576) (hf : IAt w AF fl) (hfl : fl.length ≤ 1048576) (hv : askB n ps s dm fl = false) :
    Calls Try.prog 65 #[nv n A ps.length cap, .int .i64 s, .slice AD dm.length dc, .slice AF fl.length fc] w fun e w' => e = .returned (.tuple #[av (fun _ => 0), .bool false]) ∧ Below w.heap.size w w' := by
  obtain ⟨v1, hv1⟩ : ∃ v, nodeB n ps s = v := ⟨_, rfl⟩
  obtain ⟨v2, hv2⟩ : ∃ v, demB n ps dm = v := ⟨_, rfl⟩
  obtain ⟨v3, hv3⟩ : ∃ v, floB n ps fl = v := ⟨_, rfl⟩
  have H1 := Lib.hid (fun w' (hb : Below w.heap.size w w') => node_v hv1 A cap w' (h.kept hb (Nat.le_refl _)) hm)
  have H2 := Lib.hid (fun w' (hb : Below w.heap.size w w') => dem_v hv2 A cap AD dc w' (h.kept hb (Nat.le_refl _)) hm (hd.kept hb (Nat.le_refl _)) hdl)
  have H3 := Lib.hid (fun w' (hb : Below w.heap.size w w') => flo_v hv3 A cap AF fc w' (h.kept hb (Nat.le_refl _)) hm (hf.kept hb (Nat.le_refl _)) hfl)
  have HB3 := Lib.hid (fun w1 (hb : Below (((w.alloc (nb n A ps.length cap)).alloc b9).alloc b9).heap.size (((w.alloc (nb n A ps.length cap)).alloc b9).alloc b9) w1) => (show Below w.heap.size w w1 from ((((Below.refl _ _).alloc (Nat.le_refl _) _).alloc (by simp) _).alloc (by simp; omega) _).trans (hb.mono (by simp; omega))))
  have HW0 := Lib.hid (show Below w.heap.size w (((w.alloc (nb n A ps.length cap)).alloc b9).alloc b9) from ((((Below.refl _ _).alloc (Nat.le_refl _) _).alloc (by simp) _).alloc (by simp; omega) _))
  unfold askB at hv
  rw [hv1, hv2, hv3] at hv
  clear h hd hf hv1 hv2 hv3
  cases v1 with
  | false =>
    clear hv
    go_enter Try.func65, Try.ntmps65
    go_wp2_with (first | (go_at_call 73; refine (H1.out _ HW0.out).mono ?_; rintro e w1 ⟨rfl, hb1⟩; obtain ⟨hc1, hf1⟩ := bcell hb1; have hz1 := hb1.size; simp at hz1) | fail)
    exact bodyPost_ret (v := .tuple #[av (fun _ => 0), .bool false]) (by simp [results, Try.results65, go_sem, hc1]) rfl ⟨rfl, below_set9 (HB3.out _ hb1) (by omega) _ _ _ _ _ _ _ _ _⟩
  | true =>
    cases v2 with
    | false =>
      clear hv
      go_enter Try.func65, Try.ntmps65
      go_wp2_with (first
        | (go_at_call 73; refine (H1.out _ HW0.out).mono ?_; rintro e w1 ⟨rfl, hb1⟩; obtain ⟨hc1, hf1⟩ := bcell hb1; have hz1 := hb1.size; simp at hz1; have hq0 : w.heap.size < w1.heap.size := (by omega); have hq1 : w.heap.size + 1 < w1.heap.size := (by omega); have hq2 : w.heap.size + 1 + 1 < w1.heap.size := (by omega); have HB1 := Lib.hid (HB3.out _ hb1))
        | (go_at_call 58; refine (H2.out _ HB1.out).mono ?_; rintro e w2 ⟨rfl, hb2⟩; obtain ⟨hc2, hf2⟩ := bcell hb2; have hz2 := hb2.size; have hr0 : w.heap.size < w2.heap.size := (by omega); have hr1 : w.heap.size + 1 < w2.heap.size := (by omega); have hr2 : w.heap.size + 1 + 1 < w2.heap.size := (by omega); have HB2 := Lib.hid (HB1.out.trans (hb2.mono HB1.out.size)))
        | fail)
      exact bodyPost_ret (v := .tuple #[av (fun _ => 0), .bool false]) (by simp [results, Try.results65, go_sem, hc1, hc2, hq1]) rfl ⟨rfl, below_set9 HB2.out (by omega) _ _ _ _ _ _ _ _ _⟩
    | true =>
      cases v3 with
      | true => cases hv
      | false =>
        clear hv
        go_enter Try.func65, Try.ntmps65
        go_wp2_with (first
          | (go_at_call 73; refine (H1.out _ HW0.out).mono ?_; rintro e w1 ⟨rfl, hb1⟩; obtain ⟨hc1, hf1⟩ := bcell hb1; have hz1 := hb1.size; simp at hz1; have hq0 : w.heap.size < w1.heap.size := (by omega); have hq1 : w.heap.size + 1 < w1.heap.size := (by omega); have hq2 : w.heap.size + 1 + 1 < w1.heap.size := (by omega); have HB1 := Lib.hid (HB3.out _ hb1))
          | (go_at_call 58; refine (H2.out _ HB1.out).mono ?_; rintro e w2 ⟨rfl, hb2⟩; obtain ⟨hc2, hf2⟩ := bcell hb2; have hz2 := hb2.size; have hr0 : w.heap.size < w2.heap.size := (by omega); have hr1 : w.heap.size + 1 < w2.heap.size := (by omega); have hr2 : w.heap.size + 1 + 1 < w2.heap.size := (by omega); have HB2 := Lib.hid (HB1.out.trans (hb2.mono HB1.out.size)))
          | (go_at_call 78; refine (H3.out _ HB2.out).mono ?_; rintro e w3 ⟨rfl, hb3⟩; obtain ⟨hc3, hf3⟩ := bcell hb3; have hz3 := hb3.size; have hs0 : w.heap.size < w3.heap.size := (by omega); have hs1 : w.heap.size + 1 < w3.heap.size := (by omega); have hs2 : w.heap.size + 1 + 1 < w3.heap.size := (by omega); have HB4 := Lib.hid (HB2.out.trans (hb3.mono HB2.out.size)))
          | fail)
        exact bodyPost_ret (v := .tuple #[av (fun _ => 0), .bool false]) (by simp [results, Try.results65, go_sem, hc1, hc2, hc3, hq1, hr1]) rfl ⟨rfl, below_set9 HB4.out (by omega) _ _ _ _ _ _ _ _ _⟩

theorem askB_of {n : Int} {ps : List Pp} {s : Int} {dm fl : List Int} (h : askB n ps s dm fl = true) : nodeB n ps s = true ∧ demB n ps dm = true ∧ floB n ps fl = true := by
  unfold askB at h
  rw [Bool.and_eq_true, Bool.and_eq_true] at h
  exact ⟨h.1.1, h.1.2, h.2⟩

set_option maxHeartbeats 4000000 in
set_option maxRecDepth 100000 in
theorem imb_yes (N s : Nat) (A : Option Addr) (cap : Nat) (ps : List Pp) (AD : Option Addr) (dc : Nat) (dm : List Int) (AF : Option Addr) (fc : Nat) (fl : List Int) (w : World) (h : PAt w A ps) (hm : ps.length ≤ maxLen)
    (hd : IAt w AD dm) (hdl : dm.length ≤ 1048576) (hf : IAt w AF fl) (hfl : fl.length ≤ 1048576) (hv : askB N ps s dm fl = true) :
    Calls Try.prog 65 #[nv N A ps.length cap, .int .i64 (s : Int), .slice AD dm.length dc, .slice AF fl.length fc] w fun e w' => e = .returned (.tuple #[av (imbA s dm ps fl), .bool true]) ∧ Below w.heap.size w w' := by
  obtain ⟨hv1, hv2, hv3⟩ := askB_of hv
  obtain ⟨hg, hs1, hs2⟩ := nodeB_of hv1
  obtain ⟨_, hdn, hdr⟩ := demB_of hv2
  obtain ⟨_, hfn, hfr⟩ := floB_of hv3
  have hN8 : N ≤ 8 := by have := hg.2.1; omega
  have hl10 := hg.2.2.1
  have hdN : dm.length = N := by omega
  have hs9 : s < 9 := by omega
  have HG := Lib.hid hg
  have H1 := Lib.hid (fun w' (hb : Below w.heap.size w w') => node_v hv1 A cap w' (h.kept hb (Nat.le_refl _)) hm)
  have H2 := Lib.hid (fun w' (hb : Below w.heap.size w w') => dem_v hv2 A cap AD dc w' (h.kept hb (Nat.le_refl _)) hm (hd.kept hb (Nat.le_refl _)) hdl)
  have H3 := Lib.hid (fun w' (hb : Below w.heap.size w w') => flo_v hv3 A cap AF fc w' (h.kept hb (Nat.le_refl _)) hm (hf.kept hb (Nat.le_refl _)) hfl)
  have HA := Lib.hid (fun w' (hb : Below w.heap.size w w') => h.kept hb (Nat.le_refl _))
  have HD := Lib.hid (fun w' (hb : Below w.heap.size w w') => hd.kept hb (Nat.le_refl _))
  have HF := Lib.hid hf
  have HE := Lib.hid (fun k (hk : k < dm.length) => allR_at hdr hk)
  have HFE := Lib.hid (fun k (hk : k < fl.length) => allR_at hfr hk)
  have HI1 := Lib.hid (fun k (hk : k ≤ dm.length) v => dS_in (s := s) hdr (by omega) hk v)
  have HI2 := Lib.hid (fun k (hk : k ≤ fl.length) v => iS_in (s := s) (ps := ps) hdr (by omega) hfr (by omega) hk v)
  have HFN := Lib.hid hfn
  have HDN := Lib.hid hdN
  have HB3 := Lib.hid (fun w1 (hb : Below (((w.alloc (nb N A ps.length cap)).alloc b9).alloc b9).heap.size (((w.alloc (nb N A ps.length cap)).alloc b9).alloc b9) w1) => (show Below (w.heap.size + 1) (w.alloc (nb N A ps.length cap)) w1 from (((Below.refl _ _).alloc (by simp) _).alloc (by simp) _).trans (hb.mono (by simp))))
  have HW0 := Lib.hid (show Below w.heap.size w (((w.alloc (nb N A ps.length cap)).alloc b9).alloc b9) from ((((Below.refl _ _).alloc (Nat.le_refl _) _).alloc (by simp) _).alloc (by simp; omega) _))
  have HR0 := Lib.hid (show AR (((w.alloc (nb N A ps.length cap)).alloc b9).alloc b9) (w.heap.size + 1) (fun _ => 0) from by
    have := (AR.made (w.alloc (nb N A ps.length cap))).below ((Below.refl _ _).alloc (Nat.le_refl _) b9)
    simpa using this)
  have HR1 := Lib.hid (show AR (((w.alloc (nb N A ps.length cap)).alloc b9).alloc b9) (w.heap.size + 1 + 1) (fun _ => 0) from by
    have := AR.made ((w.alloc (nb N A ps.length cap)).alloc b9)
    simpa using this)
  clear h hd hf hv hv1 hv2 hv3 hg hdr hfr hfn hdN hdn hm hdl hfl
  go_enter Try.func65, Try.ntmps65
  go_wp2_with (first
    | (go_at_call 73; refine (H1.out _ HW0.out).mono ?_; rintro e w1 ⟨rfl, hb1⟩; have HB1 := Lib.hid (HB3.out _ hb1); have hR0 := Lib.hid (HR0.out.below hb1); have hR1 := Lib.hid (HR1.out.below hb1); clear HR0 HR1 hb1; obtain ⟨b0, b1⟩ := box2 HB1.out; have hz1 := box_lt HB1.out)
    | (go_at_call 58; refine (H2.out _ (below_box HB1.out)).mono ?_; rintro e w2 ⟨rfl, hb2⟩; have HB2 := Lib.hid (on_call HB1.out hb2); have hR2 := Lib.hid (hR0.out.below hb2); have hR3 := Lib.hid (hR1.out.below hb2); clear hR0 hR1 b0 b1 hb2 HB1; obtain ⟨b0, b1⟩ := box2 HB2.out; have hz2 := box_lt HB2.out)
    | (go_at_call 78; refine (H3.out _ (below_box HB2.out)).mono ?_; rintro e w3 ⟨rfl, hb3⟩; have HB4 := Lib.hid (on_call HB2.out hb3); have hR4 := Lib.hid (hR2.out.below hb3); have hR5 := Lib.hid (hR3.out.below hb3); clear hR2 hR3 b0 b1 hb3 HB2; obtain ⟨b0, b1⟩ := box2 HB4.out; have hz3 := box_lt HB4.out)
    | fail)
  clear H1 H2 H3 HW0 HB3 hz1 hz2
  have HR5 := Lib.hid (hR5.out.congr (fun v => (dS_zero s dm v).symm))
  clear hR5
  go_loopw [34] (fun i wr => ∃ k : Nat, k ≤ dm.length ∧ i = .int .i64 (k : Int) ∧ Hid (AR wr (w.heap.size + 1) (fun _ => 0)) ∧ Hid (AR wr (w.heap.size + 1 + 1) (dS s dm k)) ∧ Hid (Below (w.heap.size + 1) (w.alloc (nb N A ps.length cap)) wr)) (fun i _ => dm.length - (intOf i).toNat)
  case atStart => exact ⟨0, Nat.zero_le _, rfl, hR4, HR5, HB4⟩
  case round =>
    clear hR4 HR5 HB4 b0 b1 hz3
    obtain ⟨k, hk, rfl, hR4, hR5, HB4⟩ := hrel
    obtain ⟨b0, b1⟩ := box2 HB4.out
    have hz3 := box_lt HB4.out
    by_cases hlt : k < dm.length
    · obtain ⟨b, off, hA, hbl, q0⟩ := (HD.out _ (below_box HB4.out)).at_ hlt
      subst hA
      have hk0 : (0 : Int) ≤ (k : Int) := by omega
      have hkn : (k : Int) < (dm.length : Int) := by omega
      have hk9 : k + 1 < 9 := by have := HDN.out; omega
      have hk1 : (0 : Int) ≤ (k : Int) + 1 := by omega
      have hk19 : (k : Int) + 1 < 9 := by omega
      have hs0i : (0 : Int) ≤ (s : Int) := by omega
      have hs9i : (s : Int) < 9 := by omega
      have hy0 : 0 ≤ dm.getD k 0 := (HE.out k hlt).1
      have hy1 : dm.getD k 0 ≤ 1000 := (HE.out k hlt).2
      have hin1 := HI1.out k hk s
      have hin2 := HI1.out k hk (k + 1)
      have cs := hR5.out.cell hs9
      have ck := hR5.out.cell hk9
      have fs := hR5.out.frozen
      have fs1 := fs s
      have fk1 := fs (k + 1)
      have HST := Lib.hid (dS_step s dm k)
      have hlA : lA dm k = dm.getD k 0 := rfl
      rw [hlA] at HST
      clear hlA fs
      obtain ⟨y, hy⟩ : ∃ y, dm.getD k 0 = y := ⟨_, rfl⟩
      rw [hy] at q0 hy0 hy1 HST
      clear hy
      have hBn := Lib.hid (fun (x1 x2 : Value) => (HB4.out.setCell (p := ⟨w.heap.size + 1 + 1, s, none⟩) (by show w.heap.size + 1 ≤ w.heap.size + 1 + 1; omega) x1).setCell (p := ⟨w.heap.size + 1 + 1, k + 1, none⟩) (by show w.heap.size + 1 ≤ w.heap.size + 1 + 1; omega) x2)
      have hR4n := Lib.hid (fun (x1 x2 : Value) => (hR4.out.other (p := ⟨w.heap.size + 1 + 1, s, none⟩) x1 (by show w.heap.size + 1 ≠ w.heap.size + 1 + 1; omega)).other (p := ⟨w.heap.size + 1 + 1, k + 1, none⟩) x2 (by show w.heap.size + 1 ≠ w.heap.size + 1 + 1; omega))
      have hR5n := Lib.hid (fun (x1 x2 : Int) => (hR5.out.set s x1).set (k + 1) x2)
      by_cases hsk : s = k + 1
      · have HE1 : upd (dS s dm k) s (dS s dm k s + y) (k + 1) = dS s dm k s + y := by unfold upd; rw [if_pos hsk.symm]
        rw [HE1] at HST
        clear HE1 ck fk1 hin2
        rw [Int.add_sub_cancel] at HST
        subst hsk
        go_wp2
        go_roundw
        case rel => exact ⟨k + 1, by omega, by go_num, Lib.hid (hR4n.out _ _), Lib.hid ((hR5n.out _ _).congr HST.out), Lib.hid (hBn.out _ _)⟩
        case measure => simp [intOf]; omega
      · have HE1 : upd (dS s dm k) s (dS s dm k s + y) (k + 1) = dS s dm k (k + 1) := by unfold upd; rw [if_neg (fun h => hsk h.symm)]
        rw [HE1] at HST
        have hks : k + 1 ≠ s := fun h => hsk h.symm
        clear HE1
        go_wp2
        go_roundw
        case rel => exact ⟨k + 1, by omega, by go_num, Lib.hid (hR4n.out _ _), Lib.hid ((hR5n.out _ _).congr HST.out), Lib.hid (hBn.out _ _)⟩
        case measure => simp [intOf]; omega
    · have hkk : k = dm.length := by omega
      have HR6 := Lib.hid (show AR wr (w.heap.size + 1 + 1) (iS s dm ps fl 0) from hR5.out.congr (fun v => by unfold iS; rw [hkk, sumK]; omega))
      clear hR5 hkk HI1 HE HD
      go_wp2
      go_loopw [56] (fun i wr => ∃ k : Nat, k ≤ ps.length ∧ i = .int .i64 (k : Int) ∧ Hid (AR wr (w.heap.size + 1) (fun _ => 0)) ∧ Hid (AR wr (w.heap.size + 1 + 1) (iS s dm ps fl k)) ∧ Hid (Below (w.heap.size + 1) (w.alloc (nb N A ps.length cap)) wr)) (fun i _ => ps.length - (intOf i).toNat)
      case atStart => exact ⟨0, Nat.zero_le _, rfl, hR4, HR6, HB4⟩
      case round =>
        clear hR4 HR6 HB4 b0 b1 hz3 hlt hk
        obtain ⟨j, hj, rfl, hR4, hR5, HB4⟩ := hrel
        obtain ⟨b0, b1⟩ := box2 HB4.out
        have hz3 := box_lt HB4.out
        by_cases hlt : j < ps.length
        · obtain ⟨b, off, hA, hbl, p0, p1, p2, p3⟩ := (HA.out _ (below_box HB4.out)).at_ hlt
          subst hA
          have hjf : j < fl.length := by have := HFN.out; omega
          obtain ⟨bb, of2, hA2, hbl2, q00⟩ := HF.out.at_ hjf
          subst hA2
          have q0 := ((below_box HB4.out).cell (p := ⟨bb, of2 + j, none⟩) hbl2).trans q00
          clear q00
          have hmem : pAt ps j ∈ ps := by
            have e : pAt ps j = ps[j] := by simp [pAt, List.getD, hlt]
            rw [e]; exact List.getElem_mem hlt
          have hok := good_pp HG.out hmem
          have hk0 : (0 : Int) ≤ (j : Int) := by omega
          have hkn : (j : Int) < (ps.length : Int) := by omega
          have hknf : (j : Int) < (fl.length : Int) := by omega
          have hy0 : -8000 ≤ fl.getD j 0 := (HFE.out j hjf).1
          have hy1 : fl.getD j 0 ≤ 8000 := (HFE.out j hjf).2
          have HST := Lib.hid (fun a c h1 h2 h3 => iS_step (s := s) (dm := dm) (ps := ps) (fl := fl) (k := j) (a := a) (c := c) h1 h2 h3)
          have hlA : lA fl j = fl.getD j 0 := rfl
          rw [hlA] at HST
          clear hlA hmem
          obtain ⟨y, hy⟩ : ∃ y, fl.getD j 0 = y := ⟨_, rfl⟩
          rw [hy] at q0 hy0 hy1 HST
          clear hy
          unfold PpOk at hok
          generalize pAt ps j = p at *
          obtain ⟨id, fr, tt, sz⟩ := p
          simp only at hok p0 p1 p2 p3
          obtain ⟨a, rfl⟩ : ∃ a : Nat, fr = a := ⟨fr.toNat, by omega⟩
          obtain ⟨c, rfl⟩ : ∃ c : Nat, tt = c := ⟨tt.toNat, by omega⟩
          have hac : a ≠ c := by omega
          have hca : c ≠ a := by omega
          have ha9 : a < 9 := by omega
          have hc9 : c < 9 := by omega
          have ha0 : (0 : Int) ≤ (a : Int) := by omega
          have hc0 : (0 : Int) ≤ (c : Int) := by omega
          have ha9i : (a : Int) < 9 := by omega
          have hc9i : (c : Int) < 9 := by omega
          have HST2 := Lib.hid (HST.out a c rfl rfl hac)
          have hin1 := HI2.out j (by omega) a
          have hin2 := HI2.out j (by omega) c
          have hqa := (Below.refl wr.heap.size wr).alloc (Nat.le_refl _) (.cells #[.int .i64 id, .int .i64 (a : Int), .int .i64 (c : Int), .int .i64 sz] 40)
          have hR4q := Lib.hid (hR4.out.below hqa)
          have hR5q := Lib.hid (hR5.out.below hqa)
          have HBq := Lib.hid (on_call HB4.out hqa)
          have ca := hR5q.out.cell ha9
          have cc := hR5q.out.cell hc9
          have fa := hR5q.out.frozen a
          have fc' := hR5q.out.frozen c
          have r1 : (wr.alloc (.cells #[.int .i64 id, .int .i64 (a : Int), .int .i64 (c : Int), .int .i64 sz] 40)).cell? ⟨wr.heap.size, 1, none⟩ = some (.int .i64 (a : Int)) := by rw [World.cell?_alloc_at _ _ _ _ rfl]; rfl
          have r2 : (wr.alloc (.cells #[.int .i64 id, .int .i64 (a : Int), .int .i64 (c : Int), .int .i64 sz] 40)).cell? ⟨wr.heap.size, 2, none⟩ = some (.int .i64 (c : Int)) := by rw [World.cell?_alloc_at _ _ _ _ rfl]; rfl
          have q1 := (hqa.cell (p := ⟨bb, of2 + j, none⟩) (by show bb < wr.heap.size; have := (below_box HB4.out).size; omega)).trans q0
          have hzq : wr.heap.size < (wr.alloc (.cells #[.int .i64 id, .int .i64 (a : Int), .int .i64 (c : Int), .int .i64 sz] 40)).heap.size := by simp
          have hlt2 := hR5.out.lt
          clear hqa q0
          have hw1 : IntKind.i64.wrap (iS s dm ps fl j a - y) = iS s dm ps fl j a - y := IntWalk.i64_in _ (by omega)
          have hw2 : IntKind.i64.wrap (iS s dm ps fl j c + y) = iS s dm ps fl j c + y := IntWalk.i64_in _ (by omega)
          clear HST hok
          generalize iS s dm ps fl j a = ia at *
          generalize iS s dm ps fl j c = ic at *
          have hbb3 := (below_box HB4.out).size
          go_wp2
          generalize wr.alloc (.cells #[.int .i64 id, .int .i64 (a : Int), .int .i64 (c : Int), .int .i64 sz] 40) = wq at *
          have hbw : wr.heap.size ≠ w.heap.size + 1 + 1 := by omega
          have hwb : w.heap.size + 1 + 1 ≠ wr.heap.size := by omega
          have hbb : bb ≠ w.heap.size + 1 + 1 := by omega
          have hbb9 : w.heap.size + 1 + 1 ≠ bb := by omega
          have hbq : bb < wq.heap.size := by omega
          have hwq : w.heap.size + 1 + 1 < wq.heap.size := by omega
          clear hz3 b0 b1 p0 p1 p2 p3 hbl hbl2 HB4 hR4 hR5 hbb3 hlt2
          refine wp_region_held_drew (S := fun w' => w'.cell? ⟨wr.heap.size, 1, none⟩ = some (.int .i64 (a : Int)) ∧ w'.cell? ⟨bb, of2 + j, none⟩ = some (.int .i64 y)) (by kernel_rfl) (by go_keep) (fun hHeld => ?_)
          refine wpAnyH_take (i := 0) (v := .pointer (some ⟨wr.heap.size, 1, none⟩)) rfl (by kernel_rfl) (by kernel_rfl) (by kernel_rfl) (fun _ _ _ h => h) (Or.inl ⟨by rfl, ?_⟩) (by assumption) ?_
          · (intro w hSw; (try dsimp only at hSw); go_simp)
          simp only [Act.put, List.setIfInBounds_toArray]
          refine wpAnyH_take (i := 1) (v := .int .i64 (a : Int)) rfl (by kernel_rfl) (by kernel_rfl) (by kernel_rfl) (fun _ _ _ h => h) (Or.inl ⟨by rfl, ?_⟩) (by assumption) ?_
          · (intro w hSw; (try dsimp only at hSw); go_simp)
          simp only [Act.put]
          refine wpAnyH_take (i := 2) (v := .pointer (some ⟨w.heap.size + 1 + 1, a, none⟩)) rfl (by kernel_rfl) (by kernel_rfl) (by kernel_rfl) (fun _ _ _ h => h) (Or.inl ⟨by rfl, ?_⟩) (by assumption) ?_
          · (intro w hSw; (try dsimp only at hSw); go_simp)
          simp only [Act.put]
          refine wpAnyH_take (i := 4) (v := .slice (some ⟨bb, of2, none⟩) fl.length fc) rfl (by kernel_rfl) (by kernel_rfl) (by kernel_rfl) (fun _ _ _ h => h) (Or.inl ⟨by rfl, ?_⟩) (by assumption) ?_
          · (intro w hSw; (try dsimp only at hSw); go_simp)
          simp only [Act.put]
          refine wpAnyH_take (i := 5) (v := .int .i64 (j : Int)) rfl (by kernel_rfl) (by kernel_rfl) (by kernel_rfl) (fun _ _ _ h => h) (Or.inl ⟨by rfl, ?_⟩) (by assumption) ?_
          · (intro w hSw; (try dsimp only at hSw); go_simp)
          simp only [Act.put]
          refine wpAnyH_take (i := 6) (v := .pointer (some ⟨bb, of2 + j, none⟩)) rfl (by kernel_rfl) (by kernel_rfl) (by kernel_rfl) (fun _ _ _ h => h) (Or.inl ⟨by rfl, ?_⟩) (by assumption) ?_
          · (intro w hSw; (try dsimp only at hSw); go_simp)
          simp only [Act.put]
          refine wpAnyH_take (i := 7) (v := .int .i64 y) rfl (by kernel_rfl) (by kernel_rfl) (by kernel_rfl) (fun _ _ _ h => h) (Or.inl ⟨by rfl, ?_⟩) (by assumption) ?_
          · (intro w hSw; (try dsimp only at hSw); go_simp)
          simp only [Act.put]
          refine wpAnyH_ready (rs := [3]) (by kernel_rfl) (by simp) ?_
          refine AllReadyH.cons rfl (fun K hK => ?_) AllReadyH.nil
          go_simp
          refine hK.out _ _ (by first | assumption | go_keep) (fun hHeld => ?_)
          clear hK K
          refine wpAnyH_ready (rs := [8]) (by kernel_rfl) (by simp) ?_
          refine AllReadyH.cons rfl (fun K hK => ?_) AllReadyH.nil
          go_simp
          refine hK.out _ _ (by first | assumption | go_keep) (fun hHeld => ?_)
          clear hK K
          refine wpAnyH_ready (rs := [9]) (by kernel_rfl) (by simp) ?_
          refine AllReadyH.cons rfl (fun K hK => ?_) AllReadyH.nil
          go_simp
          refine hK.out _ _ (by first | assumption | go_keep) (fun hHeld => ?_)
          clear hK K
          refine wpAnyH_ready (rs := [10]) (by kernel_rfl) (by simp) ?_
          refine AllReadyH.cons rfl (fun K hK => ?_) AllReadyH.nil
          go_simp
          refine hK.out _ _ (by first | assumption | go_keep) (fun hHeld => ?_)
          clear hK K
          refine wpAnyH_done (by kernel_rfl) ?_ _
          go_wp2
          refine wp_region_held_drew (S := fun w' => w'.cell? ⟨wr.heap.size, 2, none⟩ = some (.int .i64 (c : Int)) ∧ w'.cell? ⟨bb, of2 + j, none⟩ = some (.int .i64 y)) (by kernel_rfl) (by go_keep) (fun hHeld => ?_)
          refine wpAnyH_take (i := 0) (v := .pointer (some ⟨wr.heap.size, 2, none⟩)) rfl (by kernel_rfl) (by kernel_rfl) (by kernel_rfl) (fun _ _ _ h => h) (Or.inl ⟨by rfl, ?_⟩) (by assumption) ?_
          · (intro w hSw; (try dsimp only at hSw); go_simp)
          simp only [Act.put, List.setIfInBounds_toArray]
          refine wpAnyH_take (i := 1) (v := .int .i64 (c : Int)) rfl (by kernel_rfl) (by kernel_rfl) (by kernel_rfl) (fun _ _ _ h => h) (Or.inl ⟨by rfl, ?_⟩) (by assumption) ?_
          · (intro w hSw; (try dsimp only at hSw); go_simp)
          simp only [Act.put]
          refine wpAnyH_take (i := 2) (v := .pointer (some ⟨w.heap.size + 1 + 1, c, none⟩)) rfl (by kernel_rfl) (by kernel_rfl) (by kernel_rfl) (fun _ _ _ h => h) (Or.inl ⟨by rfl, ?_⟩) (by assumption) ?_
          · (intro w hSw; (try dsimp only at hSw); go_simp)
          simp only [Act.put]
          refine wpAnyH_take (i := 4) (v := .slice (some ⟨bb, of2, none⟩) fl.length fc) rfl (by kernel_rfl) (by kernel_rfl) (by kernel_rfl) (fun _ _ _ h => h) (Or.inl ⟨by rfl, ?_⟩) (by assumption) ?_
          · (intro w hSw; (try dsimp only at hSw); go_simp)
          simp only [Act.put]
          refine wpAnyH_take (i := 5) (v := .int .i64 (j : Int)) rfl (by kernel_rfl) (by kernel_rfl) (by kernel_rfl) (fun _ _ _ h => h) (Or.inl ⟨by rfl, ?_⟩) (by assumption) ?_
          · (intro w hSw; (try dsimp only at hSw); go_simp)
          simp only [Act.put]
          refine wpAnyH_take (i := 6) (v := .pointer (some ⟨bb, of2 + j, none⟩)) rfl (by kernel_rfl) (by kernel_rfl) (by kernel_rfl) (fun _ _ _ h => h) (Or.inl ⟨by rfl, ?_⟩) (by assumption) ?_
          · (intro w hSw; (try dsimp only at hSw); go_simp)
          simp only [Act.put]
          refine wpAnyH_take (i := 7) (v := .int .i64 y) rfl (by kernel_rfl) (by kernel_rfl) (by kernel_rfl) (fun _ _ _ h => h) (Or.inl ⟨by rfl, ?_⟩) (by assumption) ?_
          · (intro w hSw; (try dsimp only at hSw); go_simp)
          simp only [Act.put]
          refine wpAnyH_ready (rs := [3]) (by kernel_rfl) (by simp) ?_
          refine AllReadyH.cons rfl (fun K hK => ?_) AllReadyH.nil
          go_simp
          refine hK.out _ _ (by first | assumption | go_keep) (fun hHeld => ?_)
          clear hK K
          refine wpAnyH_ready (rs := [8]) (by kernel_rfl) (by simp) ?_
          refine AllReadyH.cons rfl (fun K hK => ?_) AllReadyH.nil
          go_simp
          refine hK.out _ _ (by first | assumption | go_keep) (fun hHeld => ?_)
          clear hK K
          refine wpAnyH_ready (rs := [9]) (by kernel_rfl) (by simp) ?_
          refine AllReadyH.cons rfl (fun K hK => ?_) AllReadyH.nil
          go_simp
          refine hK.out _ _ (by first | assumption | go_keep) (fun hHeld => ?_)
          clear hK K
          refine wpAnyH_ready (rs := [10]) (by kernel_rfl) (by simp) ?_
          refine AllReadyH.cons rfl (fun K hK => ?_) AllReadyH.nil
          go_simp
          refine hK.out _ _ (by first | assumption | go_keep) (fun hHeld => ?_)
          clear hK K
          refine wpAnyH_done (by kernel_rfl) ?_ _
          go_wp2
          go_roundw
          case rel => exact ⟨j + 1, by omega, by go_num, Lib.hid (((hR4q.out.other (p := ⟨w.heap.size + 1 + 1, a, none⟩) (iv (ia - y)) (by show w.heap.size + 1 ≠ w.heap.size + 1 + 1; omega)).other (p := ⟨w.heap.size + 1 + 1, c, none⟩) (iv (ic + y)) (by show w.heap.size + 1 ≠ w.heap.size + 1 + 1; omega))), Lib.hid (((hR5q.out.set a (ia - y)).set c (ic + y)).congr HST2.out), Lib.hid ((HBq.out.setCell (p := ⟨w.heap.size + 1 + 1, a, none⟩) (by show w.heap.size + 1 ≤ w.heap.size + 1 + 1; omega) (iv (ia - y))).setCell (p := ⟨w.heap.size + 1 + 1, c, none⟩) (by show w.heap.size + 1 ≤ w.heap.size + 1 + 1; omega) (iv (ic + y))).drew.drew⟩
          case measure => simp [intOf]; omega
        · have hjj : j = ps.length := by omega
          have hR6 := hR5.out
          rw [hjj] at hR6
          have HR6 := Lib.hid (show AR wr (w.heap.size + 1 + 1) (imbA s dm ps fl) from hR6)
          clear hR6 hR5 hjj
          have c0 := HR6.out.cell (v := 0) (by omega)
          have d0 := hR4.out.cell (v := 0) (by omega)
          have f0 := hR4.out.frozen 0
          have c1 := HR6.out.cell (v := 1) (by omega)
          have d1 := hR4.out.cell (v := 1) (by omega)
          have f1 := hR4.out.frozen 1
          have c2 := HR6.out.cell (v := 2) (by omega)
          have d2 := hR4.out.cell (v := 2) (by omega)
          have f2 := hR4.out.frozen 2
          have c3 := HR6.out.cell (v := 3) (by omega)
          have d3 := hR4.out.cell (v := 3) (by omega)
          have f3 := hR4.out.frozen 3
          have c4 := HR6.out.cell (v := 4) (by omega)
          have d4 := hR4.out.cell (v := 4) (by omega)
          have f4 := hR4.out.frozen 4
          have c5 := HR6.out.cell (v := 5) (by omega)
          have d5 := hR4.out.cell (v := 5) (by omega)
          have f5 := hR4.out.frozen 5
          have c6 := HR6.out.cell (v := 6) (by omega)
          have d6 := hR4.out.cell (v := 6) (by omega)
          have f6 := hR4.out.frozen 6
          have c7 := HR6.out.cell (v := 7) (by omega)
          have d7 := hR4.out.cell (v := 7) (by omega)
          have f7 := hR4.out.frozen 7
          have c8 := HR6.out.cell (v := 8) (by omega)
          have d8 := hR4.out.cell (v := 8) (by omega)
          have f8 := hR4.out.frozen 8
          have hlt9 := HR6.out.lt
          go_wp2
          exact bodyPost_ret (v := .tuple #[av (imbA s dm ps fl), .bool true]) (by simp [results, Try.results65, go_sem, d0, d1, d2, d3, d4, d5, d6, d7, d8]) rfl ⟨rfl, below_set9 (below_box HB4.out) (by omega) _ _ _ _ _ _ _ _ _⟩
end Go.Proofs.Ytlkomipjamelkab.S2

namespace Go.Proofs.Ytlkomipjamelkab.S2
open Go.RowKit P2

theorem imbA_out {s N : Nat} {dm : List Int} {ps : List Pp} {fl : List Int} (hg : P2.Good N ps) (hd : dm.length = N) (hs1 : 1 ≤ s) (hs2 : s ≤ N) {v : Nat} (hv : v = 0 ∨ N < v) : imbA s dm ps fl v = 0 := by
  have hz : ∀ k, k ≤ ps.length → sumK (fT ps fl v) k = 0 := by
    intro k
    induction k with
    | zero => intro _; rfl
    | succ k ih =>
      intro hk
      have hmem : pAt ps k ∈ ps := by
        have e : pAt ps k = ps[k] := by simp [pAt, List.getD, show k < ps.length by omega]
        rw [e]; exact List.getElem_mem _
      have hok := good_pp hg hmem
      unfold PpOk at hok
      rw [sumK, ih (by omega)]
      unfold fT
      rw [if_neg (by omega), if_neg (by omega)]
      rfl
  unfold imbA iS dS
  rw [hz _ (Nat.le_refl _), if_neg (by omega), if_neg (by omega)]
  rfl

set_option maxHeartbeats 1000000 in
set_option maxRecDepth 100000 in
theorem simb_any (N s v : Nat) (A : Option Addr) (cap : Nat) (ps : List Pp) (AD : Option Addr) (dc : Nat) (dm : List Int) (AF : Option Addr) (fc : Nat) (fl : List Int) (w : World) (h : PAt w A ps)
    (hd : IAt w AD dm) (hf : IAt w AF fl) (hg : P2.Good N ps) (hdN : dm.length = N) (hdr : allR 0 1000 dm = true) (hfn : fl.length = ps.length) (hfr : allR (-8000) 8000 fl = true) (hv1 : 1 ≤ v) (hv2 : v ≤ N) :
    Calls Try.prog 137 #[nv N A ps.length cap, .int .i64 (s : Int), .slice AD dm.length dc, .slice AF fl.length fc, .int .i64 (v : Int)] w fun e w' => e = .returned (.int .i64 (imbA s dm ps fl v)) ∧ Below w.heap.size w w' := by
  have hN8 : N ≤ 8 := by have := hg.2.1; omega
  have hl10 := hg.2.2.1
  have HW0 := Lib.hid (show Below w.heap.size w (w.alloc (nb N A ps.length cap)) from (Below.refl _ _).alloc (Nat.le_refl _) _)
  have HA := Lib.hid (fun w' (hb : Below w.heap.size w w') => h.kept hb (Nat.le_refl _))
  have HF := Lib.hid (fun w' (hb : Below w.heap.size w w') => hf.kept hb (Nat.le_refl _))
  have HSUM := Lib.hid (fun w' (hb : Below w.heap.size w w') => ssum_any AD dc dm 0 1000 w' (hd.kept hb (Nat.le_refl _)) (by omega) hdr (by omega) (by omega))
  have HFE := Lib.hid (fun k (hk : k < fl.length) => allR_at hfr hk)
  have HI2 := Lib.hid (fun k (hk : k ≤ fl.length) v => iS_in (s := s) (ps := ps) hdr (by omega) hfr (by omega) hk v)
  have hsum : -80000 ≤ sumL dm ∧ sumL dm ≤ 80000 := sum_in hdr (by omega) (by omega) (Nat.le_refl _) (by omega)
  have HFN := Lib.hid hfn
  obtain ⟨bd, ofd, hAD, hbd, z0⟩ := (hd.kept HW0.out (Nat.le_refl _)).at_ (i := v - 1) (by omega)
  subst hAD
  have hz0 : 0 ≤ dm.getD (v - 1) 0 := (allR_at hdr (by omega)).1
  have hz1 : dm.getD (v - 1) 0 ≤ 1000 := (allR_at hdr (by omega)).2
  have hvi0 : (0 : Int) ≤ (v : Int) - 1 := by omega
  have hvi1 : (v : Int) - 1 < (dm.length : Int) := by omega
  have hvi2 : ((v : Int) - 1).toNat = v - 1 := by omega
  have hvi3 : 1 ≤ (v : Int) := by omega
  have HST1 := Lib.hid (show v = s → iS s dm ps fl 0 v = -(dm.getD (v - 1) 0) + sumL dm from fun hvs => by unfold iS dS sumL; rw [sumK, if_pos hvs, if_pos ⟨hv1, by omega⟩]; unfold lA; omega)
  have HST2 := Lib.hid (show v ≠ s → iS s dm ps fl 0 v = -(dm.getD (v - 1) 0) from fun hvs => by unfold iS dS; rw [sumK, if_neg hvs, if_pos ⟨hv1, by omega⟩]; unfold lA; omega)
  obtain ⟨y0, hy0e⟩ : ∃ y, dm.getD (v - 1) 0 = y := ⟨_, rfl⟩
  obtain ⟨S0, hS0e⟩ : ∃ y, sumL dm = y := ⟨_, rfl⟩
  rw [hy0e] at HST1 HST2 z0 hz0 hz1
  rw [hS0e] at HST1 hsum HSUM
  clear h hd hf hg hdr hfr hfn hy0e hS0e hdN
  by_cases hvs : v = s
  · have gs : ((v : Int) == (s : Int)) = true := beq_iff_eq.2 (by omega)
    have HST0 := Lib.hid (HST1.out hvs)
    clear HST1 HST2
    have hsm0 := hsum.1
    have hsm1 := hsum.2
    clear hvs hsum
    go_enter Try.func137, Try.ntmps137
    go_wp2_with (first | (go_at_call 97; refine (HSUM.out _ HW0.out).mono ?_; rintro e w1 ⟨rfl, hw⟩; replace hw := hw.symm; subst hw) | fail)
    go_loop [11, 12] (fun a i => ∃ k : Nat, k ≤ ps.length ∧ i = .int .i64 (k : Int) ∧ a = .int .i64 (iS s dm ps fl k v)) (fun _ i => ps.length - (intOf i).toNat)
    case atStart => exact ⟨0, Nat.zero_le _, rfl, by rw [HST0.out]⟩
    case round =>
      clear HST0 HSUM
      obtain ⟨k, hk, rfl, rfl⟩ := hrel
      have hin := HI2.out k (by have := HFN.out; omega) v
      have hin1 := HI2.out (k + 1)
      by_cases hlt : k < ps.length
      · obtain ⟨b, off, hA, hbl, p0, p1, p2, p3⟩ := (HA.out _ HW0.out).at_ hlt
        subst hA
        have hkf : k < fl.length := by have := HFN.out; omega
        obtain ⟨bb, of2, hA2, hbl2, q0⟩ := (HF.out _ HW0.out).at_ hkf
        subst hA2
        have hk0 : (0 : Int) ≤ (k : Int) := by omega
        have hkn : (k : Int) < (ps.length : Int) := by omega
        have hknf : (k : Int) < (fl.length : Int) := by omega
        have hy0 : -8000 ≤ fl.getD k 0 := (HFE.out k hkf).1
        have hy1 : fl.getD k 0 ≤ 8000 := (HFE.out k hkf).2
        have HST := Lib.hid (show iS s dm ps fl (k + 1) v = iS s dm ps fl k v + ((if (pAt ps k).to = (v : Int) then fl.getD k 0 else 0) - (if (pAt ps k).fr = (v : Int) then fl.getD k 0 else 0)) from by unfold iS; rw [sumK]; unfold fT lA; omega)
        clear hin1
        generalize fl.getD k 0 = y at *
        generalize pAt ps k = p at *
        generalize iS s dm ps fl k v = x at *
        obtain ⟨hx0, hx1⟩ := hin
        by_cases ht : p.to = (v : Int)
        · have gt : (p.to == (v : Int)) = true := by simpa using ht
          by_cases hf : p.fr = (v : Int)
          · have gf : (p.fr == (v : Int)) = true := by simpa using hf
            have hs := Lib.hid (show iS s dm ps fl (k + 1) v = x + y - y from by rw [HST.out, if_pos ht, if_pos hf]; omega)
            clear HST ht hf
            go_wp2
            go_round
            case rel => exact ⟨k + 1, by omega, by go_num, by rw [hs.out]; first | rfl | (congr 1; omega)⟩
            case measure => simp [intOf]; omega
          · have gf : (p.fr == (v : Int)) = false := by simpa using hf
            have hs := Lib.hid (show iS s dm ps fl (k + 1) v = x + y from by rw [HST.out, if_pos ht, if_neg hf]; omega)
            clear HST ht hf
            go_wp2
            go_round
            case rel => exact ⟨k + 1, by omega, by go_num, by rw [hs.out]⟩
            case measure => simp [intOf]; omega
        · have gt : (p.to == (v : Int)) = false := by simpa using ht
          by_cases hf : p.fr = (v : Int)
          · have gf : (p.fr == (v : Int)) = true := by simpa using hf
            have hs := Lib.hid (show iS s dm ps fl (k + 1) v = x - y from by rw [HST.out, if_neg ht, if_pos hf]; omega)
            clear HST ht hf
            go_wp2
            go_round
            case rel => exact ⟨k + 1, by omega, by go_num, by rw [hs.out]⟩
            case measure => simp [intOf]; omega
          · have gf : (p.fr == (v : Int)) = false := by simpa using hf
            have hs := Lib.hid (show iS s dm ps fl (k + 1) v = x from by rw [HST.out, if_neg ht, if_neg hf]; omega)
            clear HST ht hf
            go_wp2
            go_round
            case rel => exact ⟨k + 1, by omega, by go_num, by rw [hs.out]⟩
            case measure => simp [intOf]; omega
      · have hkk : k = ps.length := by omega
        have HK := Lib.hid (show iS s dm ps fl k v = imbA s dm ps fl v by rw [hkk]; rfl)
        clear hkk hin hin1
        go_wp2
        go_ret
        exact ⟨by rw [HK.out]; rfl, (Below.refl _ _).alloc (Nat.le_refl _) _⟩
  · have gs : ((v : Int) == (s : Int)) = false := beq_eq_false_iff_ne.2 (by omega)
    have HST0 := Lib.hid (HST2.out hvs)
    clear HST1 HST2
    clear hvs hsum
    go_enter Try.func137, Try.ntmps137
    go_wp2_with (first | (go_at_call 97; refine (HSUM.out _ HW0.out).mono ?_; rintro e w1 ⟨rfl, hw⟩; replace hw := hw.symm; subst hw) | fail)
    go_loop [11, 12] (fun a i => ∃ k : Nat, k ≤ ps.length ∧ i = .int .i64 (k : Int) ∧ a = .int .i64 (iS s dm ps fl k v)) (fun _ i => ps.length - (intOf i).toNat)
    case atStart => exact ⟨0, Nat.zero_le _, rfl, by rw [HST0.out]⟩
    case round =>
      clear HST0 HSUM
      obtain ⟨k, hk, rfl, rfl⟩ := hrel
      have hin := HI2.out k (by have := HFN.out; omega) v
      have hin1 := HI2.out (k + 1)
      by_cases hlt : k < ps.length
      · obtain ⟨b, off, hA, hbl, p0, p1, p2, p3⟩ := (HA.out _ HW0.out).at_ hlt
        subst hA
        have hkf : k < fl.length := by have := HFN.out; omega
        obtain ⟨bb, of2, hA2, hbl2, q0⟩ := (HF.out _ HW0.out).at_ hkf
        subst hA2
        have hk0 : (0 : Int) ≤ (k : Int) := by omega
        have hkn : (k : Int) < (ps.length : Int) := by omega
        have hknf : (k : Int) < (fl.length : Int) := by omega
        have hy0 : -8000 ≤ fl.getD k 0 := (HFE.out k hkf).1
        have hy1 : fl.getD k 0 ≤ 8000 := (HFE.out k hkf).2
        have HST := Lib.hid (show iS s dm ps fl (k + 1) v = iS s dm ps fl k v + ((if (pAt ps k).to = (v : Int) then fl.getD k 0 else 0) - (if (pAt ps k).fr = (v : Int) then fl.getD k 0 else 0)) from by unfold iS; rw [sumK]; unfold fT lA; omega)
        clear hin1
        generalize fl.getD k 0 = y at *
        generalize pAt ps k = p at *
        generalize iS s dm ps fl k v = x at *
        obtain ⟨hx0, hx1⟩ := hin
        by_cases ht : p.to = (v : Int)
        · have gt : (p.to == (v : Int)) = true := by simpa using ht
          by_cases hf : p.fr = (v : Int)
          · have gf : (p.fr == (v : Int)) = true := by simpa using hf
            have hs := Lib.hid (show iS s dm ps fl (k + 1) v = x + y - y from by rw [HST.out, if_pos ht, if_pos hf]; omega)
            clear HST ht hf
            go_wp2
            go_round
            case rel => exact ⟨k + 1, by omega, by go_num, by rw [hs.out]; first | rfl | (congr 1; omega)⟩
            case measure => simp [intOf]; omega
          · have gf : (p.fr == (v : Int)) = false := by simpa using hf
            have hs := Lib.hid (show iS s dm ps fl (k + 1) v = x + y from by rw [HST.out, if_pos ht, if_neg hf]; omega)
            clear HST ht hf
            go_wp2
            go_round
            case rel => exact ⟨k + 1, by omega, by go_num, by rw [hs.out]⟩
            case measure => simp [intOf]; omega
        · have gt : (p.to == (v : Int)) = false := by simpa using ht
          by_cases hf : p.fr = (v : Int)
          · have gf : (p.fr == (v : Int)) = true := by simpa using hf
            have hs := Lib.hid (show iS s dm ps fl (k + 1) v = x - y from by rw [HST.out, if_neg ht, if_pos hf]; omega)
            clear HST ht hf
            go_wp2
            go_round
            case rel => exact ⟨k + 1, by omega, by go_num, by rw [hs.out]⟩
            case measure => simp [intOf]; omega
          · have gf : (p.fr == (v : Int)) = false := by simpa using hf
            have hs := Lib.hid (show iS s dm ps fl (k + 1) v = x from by rw [HST.out, if_neg ht, if_neg hf]; omega)
            clear HST ht hf
            go_wp2
            go_round
            case rel => exact ⟨k + 1, by omega, by go_num, by rw [hs.out]⟩
            case measure => simp [intOf]; omega
      · have hkk : k = ps.length := by omega
        have HK := Lib.hid (show iS s dm ps fl k v = imbA s dm ps fl v by rw [hkk]; rfl)
        clear hkk hin hin1
        go_wp2
        go_ret
        exact ⟨by rw [HK.out]; rfl, (Below.refl _ _).alloc (Nat.le_refl _) _⟩
end Go.Proofs.Ytlkomipjamelkab.S2

namespace Go.Proofs.Ytlkomipjamelkab.S2
open Go.RowKit P2

theorem w64 (x : Int) (h : -9000000000000000000 ≤ x ∧ x ≤ 9000000000000000000) : IntKind.i64.wrap x = x := IntWalk.i64_in _ (by omega)
set_option maxHeartbeats 1000000 in
theorem loss_any {n : Int} {p : Pp} (hp : PpOk n p) {f : Int} (h0 : -8000 ≤ f) (h1 : f ≤ 8000) (w : World) :
    Calls Try.prog 79 #[pv p, .int .i64 f] w fun e w' => e = .returned (.int .i64 (lossI p f)) ∧ Below w.heap.size w w' := by
  obtain ⟨⟨a1, a2⟩, a3, a4⟩ := loss_in hp h0 h1
  have HL := Lib.hid (show lossI p f = p.sz * f * max f (-f) from rfl)
  rw [HL.out] at a3 a4
  have wP : IntKind.i64.wrap (p.sz * f) = p.sz * f := w64 _ (by omega)
  have wQ : IntKind.i64.wrap (p.sz * f * max f (-f)) = p.sz * f * max f (-f) := w64 _ (by omega)
  clear hp
  go_enter Try.func79, Try.ntmps79
  go_wp2
  go_ret
  exact ⟨by rw [HL.out]; rfl, (Below.refl _ _).alloc (Nat.le_refl _) _⟩
theorem smost_any (x y : Int) (w : World) : Calls Try.prog 88 #[.int .i64 x, .int .i64 y] w fun e w' => e = .returned (.int .i64 (max x y)) ∧ w' = w := by
  by_cases hgt : y < x
  · have e : max x y = x := by omega
    rw [e]
    clear e
    go_enter Try.func88, Try.ntmps88
    go_wp2
    go_ret
    exact ⟨rfl, rfl⟩
  · have e : max x y = y := by omega
    rw [e]
    clear e
    go_enter Try.func88, Try.ntmps88
    go_wp2
    go_ret
    exact ⟨rfl, rfl⟩
theorem sabs_any (x : Int) (w : World) (h0 : -1000000000000 ≤ x) (h1 : x ≤ 1000000000000) : Calls Try.prog 148 #[.int .i64 x] w fun e w' => e = .returned (.int .i64 (absI x)) ∧ w' = w := by
  have HM := Lib.hid (fun w => smost_any x (-x) w)
  have HA := Lib.hid (show absI x = max x (-x) from rfl)
  rw [HA.out]
  generalize max x (-x) = a at *
  go_enter Try.func148, Try.ntmps148
  go_wp2_with (go_at_call 88; refine (HM.out _).mono ?_; rintro e w' ⟨rfl, hw⟩; replace hw := hw.symm; subst hw)
  go_ret
  exact ⟨rfl, rfl⟩
set_option maxHeartbeats 1000000 in
theorem sloss_any {n : Int} {p : Pp} (hp : PpOk n p) {f : Int} (h0 : -8000 ≤ f) (h1 : f ≤ 8000) (w : World) :
    Calls Try.prog 121 #[pv p, .int .i64 f] w fun e w' => e = .returned (.int .i64 (lossI p f)) ∧ Below w.heap.size w w' := by
  obtain ⟨⟨a1, a2⟩, a3, a4⟩ := loss_in hp h0 h1
  have HL := Lib.hid (show lossI p f = p.sz * f * absI f from rfl)
  rw [HL.out] at a3 a4
  have wP : IntKind.i64.wrap (p.sz * f) = p.sz * f := w64 _ (by omega)
  have wQ : IntKind.i64.wrap (p.sz * f * absI f) = p.sz * f * absI f := w64 _ (by omega)
  have HC := Lib.hid (fun w' => sabs_any f w' (by omega) (by omega))
  clear hp
  generalize absI f = g at *
  go_enter Try.func121, Try.ntmps121
  go_wp2
  go_quiet ((go_at_call 148; exact Calls.quiet_of_same (HC.out _)))
  go_wp2
  go_ret
  exact ⟨by rw [HL.out]; rfl, below_drewN ((Below.refl _ _).alloc (Nat.le_refl _) _) _⟩

/-! ### LossOf -/
set_option maxHeartbeats 1000000 in
theorem los_bad (n : Int) (A : Option Addr) (cap : Nat) (ps : List Pp) (AD : Option Addr) (dc : Nat) (fl : List Int) (x : Int) (w : World) (h : PAt w A ps) (hm : ps.length ≤ maxLen) (hd : IAt w AD fl) (hdl : fl.length ≤ 1048576) (hv : floB n ps fl = false) :
    Calls Try.prog 23 #[nv n A ps.length cap, .slice AD fl.length dc, .int .i64 x] w fun e w' => e = .returned (.tuple #[.int .i64 0, .bool false]) ∧ Below w.heap.size w w' := by
  have H := Lib.hid (fun w' (hb : Below w.heap.size w w') => flo_v hv A cap AD dc w' (h.kept hb (Nat.le_refl _)) hm (hd.kept hb (Nat.le_refl _)) hdl)
  clear h hd hv
  go_enter Try.func23, Try.ntmps23
  go_wp2_with (go_at_call 78; refine (H.out _ ((Below.refl _ _).alloc (Nat.le_refl _) _)).mono ?_; rintro e w1 ⟨rfl, hb1⟩)
  go_ret2
  exact ⟨rfl, below_alloc_call hb1⟩
set_option maxHeartbeats 1000000 in
theorem los_none (N : Nat) (A : Option Addr) (cap : Nat) (ps : List Pp) (AD : Option Addr) (dc : Nat) (fl : List Int) (x : Int) (w : World) (h : PAt w A ps) (hm : ps.length ≤ maxLen) (hd : IAt w AD fl) (hdl : fl.length ≤ 1048576) (hv : floB N ps fl = true) (hf : FindIs ps x (-1)) :
    Calls Try.prog 23 #[nv N A ps.length cap, .slice AD fl.length dc, .int .i64 x] w fun e w' => e = .returned (.tuple #[.int .i64 0, .bool false]) ∧ Below w.heap.size w w' := by
  have hg := (floB_of hv).1
  have H := Lib.hid (fun w' (hb : Below w.heap.size w w') => flo_v hv A cap AD dc w' (h.kept hb (Nat.le_refl _)) hm (hd.kept hb (Nat.le_refl _)) hdl)
  have H2 := Lib.hid (fun w' (hb : Below w.heap.size w w') => place_any N A cap ps x w' (h.kept hb (Nat.le_refl _)) hg)
  have HP := Lib.hid (fun (i : Nat) (f : Bool) (hp : Place ps x i f) => (show f = false from by
    cases f with
    | false => rfl
    | true => have := ((place_find (good_ids hg) hp hf).1 rfl).1; omega))
  clear h hd hv hf hg
  go_enter Try.func23, Try.ntmps23
  go_wp2_with (first
    | (go_at_call 78; refine (H.out _ ((Below.refl _ _).alloc (Nat.le_refl _) _)).mono ?_; rintro e w1 ⟨rfl, hb1⟩; obtain ⟨hc1, hf1⟩ := bcell hb1; have hz1 := hb1.size; simp at hz1; have hB1 := Lib.hid (below_alloc_call hb1))
    | (go_at_call 68; refine (H2.out _ hB1.out).mono ?_; rintro e w2 ⟨⟨i, f, rfl, hp⟩, hb2⟩; obtain rfl := HP.out i f hp))
  go_ret2
  exact ⟨rfl, hB1.out.trans (hb2.mono hB1.out.size)⟩
set_option maxHeartbeats 2000000 in
set_option maxRecDepth 100000 in
theorem los_yes (N i : Nat) (A : Option Addr) (cap : Nat) (ps : List Pp) (AD : Option Addr) (dc : Nat) (fl : List Int) (x : Int) (w : World) (h : PAt w A ps) (hm : ps.length ≤ maxLen) (hd : IAt w AD fl) (hdl : fl.length ≤ 1048576) (hv : floB N ps fl = true) (hi : i < ps.length) (hf : FindIs ps x i) :
    Calls Try.prog 23 #[nv N A ps.length cap, .slice AD fl.length dc, .int .i64 x] w fun e w' => e = .returned (.tuple #[.int .i64 (lossI (pAt ps i) (lA fl i)), .bool true]) ∧ Below w.heap.size w w' := by
  obtain ⟨hg, hfn, hfr⟩ := floB_of hv
  have H := Lib.hid (fun w' (hb : Below w.heap.size w w') => flo_v hv A cap AD dc w' (h.kept hb (Nat.le_refl _)) hm (hd.kept hb (Nat.le_refl _)) hdl)
  have H2 := Lib.hid (fun w' (hb : Below w.heap.size w w') => place_any N A cap ps x w' (h.kept hb (Nat.le_refl _)) hg)
  have HP := Lib.hid (fun (j : Nat) (f : Bool) (hp : Place ps x j f) => (show f = true ∧ j = i from by
    cases f with
    | false => have := (place_find (good_ids hg) hp hf).2 rfl; omega
    | true => have := ((place_find (good_ids hg) hp hf).1 rfl).1; exact ⟨rfl, by omega⟩))
  have hif : i < fl.length := by omega
  have hfi := allR_at hfr hif
  have HLO := Lib.hid (fun w' => loss_any (good_pp hg (pAt_mem hi)) hfi.1 hfi.2 w')
  obtain ⟨b, off, hA, hbl, p0, p1, p2, p3⟩ := h.at_ hi
  subst hA
  obtain ⟨bb, of2, hA2, hbl2, q0⟩ := hd.at_ hif
  subst hA2
  have hi0 : (0 : Int) ≤ (i : Int) := by omega
  have hin : (i : Int) < (ps.length : Int) := by omega
  have hinf : (i : Int) < (fl.length : Int) := by omega
  have hlA : lA fl i = fl.getD i 0 := rfl
  rw [hlA]
  clear h hd hv hf hg hfr hfn hfi hlA
  generalize lossI (pAt ps i) (fl.getD i 0) = L at *
  generalize pAt ps i = p at *
  generalize fl.getD i 0 = f at *
  go_enter Try.func23, Try.ntmps23
  go_wp2_with (first
    | (go_at_call 78; refine (H.out _ ((Below.refl _ _).alloc (Nat.le_refl _) _)).mono ?_; rintro e w1 ⟨rfl, hb1⟩; obtain ⟨hc1, hf1⟩ := bcell hb1; have hz1 := hb1.size; simp at hz1; have hB1 := Lib.hid (below_alloc_call hb1))
    | (go_at_call 68; refine (H2.out _ hB1.out).mono ?_; rintro e w2 ⟨⟨j, fb, rfl, hp⟩, hb2⟩; obtain ⟨rfl, rfl⟩ := HP.out j fb hp))
  have hBX : Below (w.heap.size + 1) (w.alloc (.cells #[.int .i64 (N : Int), .slice (some ⟨b, off, none⟩) ps.length cap] 26)) w2 := by
    have hx : Below (w.heap.size + 1) (w.alloc (.cells #[.int .i64 (N : Int), .slice (some ⟨b, off, none⟩) ps.length cap] 26)) w1 := by simpa using hb1
    exact on_call hx hb2
  have HB2 := Lib.hid (below_box hBX)
  obtain ⟨z0, z1⟩ := box2 hBX
  have hzz := box_lt hBX
  have hbl' : b < w2.heap.size := by omega
  have hbl2' : bb < w2.heap.size := by omega
  have r0 := (HB2.out.cell (p := ⟨b, off + j * 4, none⟩) hbl).trans p0
  have r1 := (HB2.out.cell (p := ⟨b, off + j * 4 + 1, none⟩) hbl).trans p1
  have r2 := (HB2.out.cell (p := ⟨b, off + j * 4 + 2, none⟩) hbl).trans p2
  have r3 := (HB2.out.cell (p := ⟨b, off + j * 4 + 3, none⟩) hbl).trans p3
  have r4 := (HB2.out.cell (p := ⟨bb, of2 + j, none⟩) hbl2).trans q0
  clear hb1 hc1 hf1 hz1 hB1 H H2 HP hBX hp hb2 p0 p1 p2 p3 q0
  have hG := @cell_g
  refine region_below (by kernel_rfl) (by kernel_rfl) ?_
  repeat (first | go_big_quiet_step ((go_at_call 79; exact met HLO.out)))
  refine wpQuiet_nil ?_
  intro w3 hb3
  go_wp2
  go_ret2
  exact ⟨rfl, HB2.out.trans (hb3.mono HB2.out.size)⟩

/-! ### LossOf of the model -/
end Go.Proofs.Ytlkomipjamelkab.S2

namespace Go.Proofs.Ytlkomipjamelkab.S2
open Go.RowKit P2

/-- The first of the first k that is greatest. -/
def fstG (f : Nat → Int) : Nat → Nat
  | 0 => 0
  | k + 1 => if f (fstG f k) < f k then k else fstG f k
theorem fstG_lt (f : Nat → Int) : ∀ k, 0 < k → fstG f k < k
  | 0, h => absurd h (by omega)
  | 1, _ => by unfold fstG; split <;> simp [fstG]
  | k + 2, _ => by
    have := fstG_lt f (k + 1) (by omega)
    rw [fstG]
    split <;> omega
theorem fstG_one (f : Nat → Int) : fstG f 1 = 0 := by have := fstG_lt f 1 (by omega); omega
theorem fstG_val (f : Nat → Int) (k : Nat) : f (fstG f (k + 1)) = max (f (fstG f k)) (f k) := by
  rw [fstG]
  split <;> omega
theorem fstG_top (f : Nat → Int) : ∀ k j, j < k → f j ≤ f (fstG f k)
  | 0, j, h => absurd h (by omega)
  | k + 1, j, h => by
    rw [fstG_val f k]
    by_cases e : j = k
    · subst e; omega
    · have := fstG_top f k j (by omega); omega
theorem fstG_first (f : Nat → Int) : ∀ k j, j < fstG f k → f j < f (fstG f k)
  | 0, j, h => absurd h (by simp [fstG])
  | k + 1, j, h => by
    by_cases e : f (fstG f k) < f k
    · rw [fstG, if_pos e] at h ⊢
      have := fstG_top f k j h
      omega
    · rw [fstG, if_neg e] at h ⊢
      exact fstG_first f k j h
/-- The smallest of the first k. -/
def loK (l : List Int) : Nat → Int
  | 0 => lA l 0
  | k + 1 => min (loK l k) (lA l k)
theorem loK_le (l : List Int) : ∀ k j, j < k → loK l k ≤ lA l j
  | 0, j, h => absurd h (by omega)
  | k + 1, j, h => by
    rw [loK]
    by_cases e : j = k
    · subst e; omega
    · have := loK_le l k j (by omega); omega
theorem loK_one (l : List Int) : loK l 1 = lA l 0 := by simp [loK]

set_option maxHeartbeats 1000000 in
theorem min_any (A : Option Addr) (cap : Nat) (l : List Int) (w : World) (h : IAt w A l) (hl : 0 < l.length) (hl2 : l.length ≤ 1048576) :
    Calls Try.prog 84 #[.slice A l.length cap] w fun e w' => e = .returned (.int .i64 (loK l l.length)) ∧ w' = w := by
  have HA := Lib.hid h
  obtain ⟨b, off, hA, hbl, h0⟩ := h.at_ (i := 0) hl
  subst hA
  rw [Nat.add_zero] at h0
  have hat : l.getD 0 0 = lA l 0 := rfl
  rw [hat] at h0
  have HX := Lib.hid (loK_one l)
  have g0 : decide ((l.length : Int) < 1) = false := decide_eq_false (by omega)
  generalize lA l 0 = x0 at *
  clear h hat
  go_enter Try.func84, Try.ntmps84
  go_wp2
  go_loopw [3, 4] (fun m i wr => ∃ k : Nat, 1 ≤ k ∧ k ≤ l.length ∧ m = .int .i64 (loK l k) ∧ i = .int .i64 k ∧ wr = w) (fun _ i _ => l.length - (intOf i).toNat)
  case atStart => exact ⟨1, Nat.le_refl _, by omega, by rw [HX.out], rfl, rfl⟩
  case round =>
    obtain ⟨k, hk1, hk, rfl, rfl, hw⟩ := hrel
    replace hw := hw.symm
    subst hw
    by_cases hlt : k < l.length
    · obtain ⟨b', off', hA', hbl', h1⟩ := HA.out.at_ (i := k) hlt
      simp only [Option.some.injEq, Addr.mk.injEq, and_true] at hA'
      obtain ⟨rfl, rfl⟩ := hA'
      have hk0 : (0 : Int) ≤ (k : Int) := by omega
      have hkn : (k : Int) < (l.length : Int) := by omega
      have hat : l.getD k 0 = lA l k := rfl
      rw [hat] at h1
      have HN := Lib.hid (show loK l (k + 1) = min (loK l k) (lA l k) from rfl)
      generalize lA l k = x at *
      generalize hM : loK l k = M at *
      clear hM h0 hat
      go_wp2
      go_roundw
      case rel => exact ⟨k + 1, by omega, by omega, by rw [HN.out], by go_num, trivial⟩
      case measure => simp [intOf]; omega
    · have HF := Lib.hid (show loK l k = loK l l.length by rw [show k = l.length by omega])
      clear h0
      go_wp2
      go_ret
      exact ⟨by rw [← HF.out]; rfl, rfl⟩
set_option maxHeartbeats 1000000 in
theorem index_any (A : Option Addr) (cap : Nat) (l : List Int) (v : Int) (i0 : Nat) (w : World) (h : IAt w A l) (hl : l.length ≤ 1048576) (hi : i0 < l.length) (hv : lA l i0 = v) (hn : ∀ j, j < i0 → lA l j ≠ v) :
    Calls Try.prog 92 #[.slice A l.length cap, .int .i64 v] w fun e w' => e = .returned (.int .i64 (i0 : Int)) ∧ w' = w := by
  have HA := Lib.hid h
  have HN := Lib.hid hn
  have HV := Lib.hid hv
  clear h hn hv
  go_enter Try.func92, Try.ntmps92
  go_wp2
  go_loopw [8] (fun i wr => ∃ k : Nat, k ≤ i0 ∧ i = .int .i64 k ∧ wr = w) (fun i _ => l.length - (intOf i).toNat)
  case atStart => exact ⟨0, by omega, rfl, rfl⟩
  case round =>
    obtain ⟨k, hk, rfl, hw⟩ := hrel
    replace hw := hw.symm
    subst hw
    have hlt : k < l.length := by omega
    obtain ⟨b, off, hA, hbl, h1⟩ := HA.out.at_ (i := k) hlt
    subst hA
    have hk0 : (0 : Int) ≤ (k : Int) := by omega
    have hkn : (k : Int) < (l.length : Int) := by omega
    have hat : l.getD k 0 = lA l k := rfl
    rw [hat] at h1
    by_cases he : k = i0
    · subst he
      rw [HV.out] at h1
      clear hat
      go_wp2
      go_ret
      exact ⟨rfl, rfl⟩
    · have hne : ¬ v = lA l k := fun e => HN.out k (by omega) e.symm
      generalize lA l k = x at *
      clear hat
      go_wp2
      go_roundw
      case rel => exact ⟨k + 1, by omega, by go_num, trivial⟩
      case measure => simp [intOf]; omega
end Go.Proofs.Ytlkomipjamelkab.S2

namespace Go.Proofs.Ytlkomipjamelkab.S2
open Go.RowKit P2

theorem cells_new4 (w : World) (a b c d : Value) : ∀ j u, [a, b, c, d][j]? = some u → (w.alloc (.cells #[a, b, c, d] 40)).cell? ((⟨w.heap.size, 0, none⟩ : Addr).add j) = some u := by
  intro j u hu
  match j, hu with
  | 0, hu => rw [add_plus, World.cell?_alloc_at _ _ _ _ rfl]; simpa using hu
  | 1, hu => rw [add_plus, World.cell?_alloc_at _ _ _ _ rfl]; simpa using hu
  | 2, hu => rw [add_plus, World.cell?_alloc_at _ _ _ _ rfl]; simpa using hu
  | 3, hu => rw [add_plus, World.cell?_alloc_at _ _ _ _ rfl]; simpa using hu
  | j + 4, hu => simp at hu
/-- A network in a box of its own. -/
def TB (w : World) (T : Nat) (x v : Value) : Prop := w.heap[T]? = some (.cells #[x, v] 26 (0, 0))
theorem TB.lt {w : World} {T : Nat} {x v : Value} (h : TB w T x v) : T < w.heap.size := (Array.getElem?_eq_some_iff.1 h).1
theorem TB.cell {w : World} {T : Nat} {x v : Value} (h : TB w T x v) : w.cell? ⟨T, 0, none⟩ = some x ∧ w.cell? ⟨T, 1, none⟩ = some v := by
  rw [cell_of_row w T 0 _ 26 (0, 0) h, cell_of_row w T 1 _ 26 (0, 0) h]
  exact ⟨rfl, rfl⟩
theorem TB.frozen {w : World} {T : Nat} {x v : Value} (h : TB w T x v) (o : Nat) : w.frozen? ⟨T, o, none⟩ = false := by
  unfold TB at h
  simp [World.frozen?, h]
theorem TB.set1 {w : World} {T : Nat} {x v : Value} (h : TB w T x v) (u : Value) : TB (w.setCell ⟨T, 1, none⟩ u) T x u := by
  unfold TB at h ⊢
  simp [World.setCell, Array.getElem?_modify, h]
theorem TB.kept {w w' : World} {T : Nat} {x v : Value} (h : TB w T x v) (hb : w'.heap[T]? = w.heap[T]?) : TB w' T x v := hb.trans h
theorem TB.below {w w' : World} {T : Nat} {x v : Value} (h : TB w T x v) (hb : Below w.heap.size w w') : TB w' T x v := h.kept (hb.block T h.lt)
theorem TB.other {w : World} {T : Nat} {x v : Value} (h : TB w T x v) {p : Addr} (u : Value) (hp : T ≠ p.block) : TB (w.setCell p u) T x v := h.kept (Below.heap_setCell _ _ _ _ (by intro e; exact hp (by rw [e])))
theorem TB.grown {w w' : World} {T g : Nat} {x v : Value} (h : TB w T x v) (hg : w.grownBy w' (some g)) (hne : T ≠ g) : TB w' T x v := h.kept (hg.block T h.lt (by simp; exact hne))
theorem TB.made (w : World) (x v : Value) : TB (w.alloc (.cells #[x, v] 26)) w.heap.size x v := by
  unfold TB
  simpa using (MapKept.heap_alloc w (.cells #[x, v] 26)).1


/-- What the loop keeps behind k pipes. -/
def SpR (ps : List Pp) (w wr : World) (N T k : Nat) (A2 : Option Addr) (c : Nat) : Prop :=
  TB wr (w.heap.size + 1) (.int .i64 0) (.slice none 0 0) ∧ TB wr T (.int .i64 N) (.slice A2 (spT ps k).length c) ∧ wr.ownsRow (T + 1) 40 4 (.slice A2 (spT ps k).length c) (spT ps k).length (pcs (spT ps k)) ∧ (spT ps k = [] → A2 = none ∧ c = 0)

end Go.Proofs.Ytlkomipjamelkab.S2

namespace Go.Proofs.Ytlkomipjamelkab.S2
open Go.RowKit P2
theorem hasb_v {l : List Int} {x : Int} {v : Bool} (hv : hasB l x = v) (A : Option Addr) (cap : Nat) (w : World) (h : IAt w A l) (hn : l.length ≤ 1048576) :
    Calls Try.prog 128 #[.slice A l.length cap, .int .i64 x] w fun e w' => e = .returned (.bool v) ∧ w' = w := by rw [← hv]; exact has_any A cap l x w h hn
/-- What the loop keeps behind k pipes. -/
def SsR (ps : List Pp) (w wr : World) (N k g c : Nat) : Prop :=
  TB wr (w.heap.size + 1) (.int .i64 0) (.slice none 0 0) ∧ TB wr (w.heap.size + 1 + 1 + 1) (.int .i64 N) (.slice (some ⟨g, 0, none⟩) (spT ps k).length c) ∧ wr.ownsRow (w.heap.size + 1 + 1) 40 4 (.slice (some ⟨g, 0, none⟩) (spT ps k).length c) (spT ps k).length (pcs (spT ps k)) ∧ g ≠ w.heap.size + 1 + 1 + 1

set_option maxHeartbeats 4000000 in
set_option maxRecDepth 100000 in
theorem ssp_any (N : Nat) (A : Option Addr) (cap : Nat) (ps : List Pp) (w : World) (h : PAt w A ps) (hg : P2.Good N ps) :
    Calls Try.prog 124 #[nv N A ps.length cap] w fun e w' => ∃ g c, e = .returned (nv N (some ⟨g, 0, none⟩) (spL ps).length c) ∧ (spL ps).length ≤ c ∧ w.heap.size ≤ g ∧ PAt w' (some ⟨g, 0, none⟩) (spL ps) ∧ Below w.heap.size w w' := by
  have hN : N ≤ 8 := by have := hg.2.1; omega
  have hl10 := hg.2.2.1
  have HA := Lib.hid h
  have HG := Lib.hid hg
  have HDI := Lib.hid (fun (k t : Nat) (hk : k ≤ ps.length) A2 c2 w' (h2 : PAt w' A2 (spT ps k)) h3 h4 => sreach_any N t A2 c2 (spT ps k) w' h2 (spT_good hg k hk) h3 h4)
  obtain ⟨i0, hi0, hz0, hz1, hz2⟩ := info_parts infoP
  have HB4 := Lib.hid (show Below (w.heap.size + 1) (w.alloc (nb N A ps.length cap)) ((((w.alloc (nb N A ps.length cap)).alloc (nb 0 none 0 0)).alloc (.cells #[] 40)).alloc (nb N (some ⟨w.heap.size + 1 + 1, 0, none⟩) 0 0)) from (((Below.refl _ _).alloc (by simp) _).alloc (by simp) _).alloc (by simp) _)
  have HS0 := Lib.hid (show SsR ps w ((((w.alloc (nb N A ps.length cap)).alloc (nb 0 none 0 0)).alloc (.cells #[] 40)).alloc (nb N (some ⟨w.heap.size + 1 + 1, 0, none⟩) 0 0)) N 0 (w.heap.size + 1 + 1) 0 from by
    have x1 := ((TB.made (w.alloc (nb N A ps.length cap)) (.int .i64 0) (.slice none 0 0)).below ((Below.refl _ _).alloc (Nat.le_refl _) (.cells #[] 40))).below ((Below.refl _ _).alloc (Nat.le_refl _) (nb N (some ⟨w.heap.size + 1 + 1, 0, none⟩) 0 0))
    have x2 := TB.made (((w.alloc (nb N A ps.length cap)).alloc (nb 0 none 0 0)).alloc (.cells #[] 40)) (.int .i64 N) (.slice (some ⟨w.heap.size + 1 + 1, 0, none⟩) 0 0)
    have x3 := own_onP (own_emptyP ((w.alloc (nb N A ps.length cap)).alloc (nb 0 none 0 0)) (w.heap.size + 1 + 1) (by simp)) ((Below.refl _ _).alloc (Nat.le_refl _) (nb N (some ⟨w.heap.size + 1 + 1, 0, none⟩) 0 0))
    refine ⟨by simpa using x1, by simpa [spT] using x2, by simpa [spT, pcs] using x3, by omega⟩)
  clear h hg
  go_enter Try.func124, Try.ntmps124
  go_wp2
  go_loopw [4] (fun i wr => ∃ (k g c : Nat), k ≤ ps.length ∧ i = .int .i64 (k : Int) ∧ Hid (SsR ps w wr N k g c) ∧ Hid (Below (w.heap.size + 1) (w.alloc (nb N A ps.length cap)) wr)) (fun i _ => ps.length - (intOf i).toNat)
  case atStart => exact ⟨0, w.heap.size + 1 + 1, 0, Nat.zero_le _, rfl, HS0, HB4⟩
  case round =>
    clear HS0 HB4
    obtain ⟨k, g, c, hk, rfl, HS, HB⟩ := hrel
    obtain ⟨b0, b1⟩ := box2 HB.out
    have hz := box_lt HB.out
    obtain ⟨t0, t1⟩ := HS.out.2.1.cell
    have htl := HS.out.2.1.lt
    have hsl := spT_len ps k hk
    have hgw : w.heap.size + 1 + 1 ≤ g := (HS.out.2.2.1.lt g rfl).1
    have hgw2 : g < wr.heap.size := (HS.out.2.2.1.lt g rfl).2
    have hgT := HS.out.2.2.2
    by_cases hlt : k < ps.length
    · obtain ⟨b, off, hA, hbl, h0, h1, h2, h3⟩ := HA.out.at_ hlt
      subst hA
      have hbc : ∀ o, wr.cell? ⟨b, o, none⟩ = w.cell? ⟨b, o, none⟩ := fun o => (below_box HB.out).cell (p := ⟨b, o, none⟩) hbl
      have p0 := (hbc _).trans h0
      have p1 := (hbc _).trans h1
      have p2 := (hbc _).trans h2
      have p3 := (hbc _).trans h3
      have hmem : pAt ps k ∈ ps := by
        have e : pAt ps k = ps[k] := by simp [pAt, List.getD, hlt]
        rw [e]; exact List.getElem_mem hlt
      have hok := good_pp HG.out hmem
      have HY := Lib.hid (spT_same (ps := ps) (k := k))
      have HNo := Lib.hid (spT_more (ps := ps) (k := k))
      have hk0i : (0 : Int) ≤ (k : Int) := by omega
      have hk1i : (k : Int) < (ps.length : Int) := by omega
      unfold PpOk at hok
      clear hbc h0 h1 h2 h3 hmem
      generalize pAt ps k = p at *
      obtain ⟨pid, pfr, pto, psz⟩ := p
      simp only at hok p0 p1 p2 p3
      obtain ⟨fr, rfl⟩ : ∃ f : Nat, pfr = f := ⟨pfr.toNat, by omega⟩
      obtain ⟨tt, rfl⟩ : ∃ f : Nat, pto = f := ⟨pto.toNat, by omega⟩
      have hf1 : 1 ≤ fr := by omega
      have hf2 : fr ≤ N := by omega
      have ht1 : 1 ≤ tt := by omega
      have ht2 : tt ≤ N := by omega
      have hcl := conL_len N (spT ps k) fr
      obtain ⟨vb, hvb⟩ : ∃ vb, hasB (conL N (spT ps k) fr) tt = vb := ⟨_, rfl⟩
      have HH := Lib.hid hvb
      have HXC := Lib.hid (show vb = true ↔ Conn (spT ps k) (fr : Int) (tt : Int) from by rw [← hvb, has_con ht1 ht2, decide_eq_true_iff, dist_conn])
      clear hok hvb
      have hbw : b < wr.heap.size := by omega
      have hHQ := Lib.hid (own_patP (own_onP HS.out.2.2.1 (Below.refl _ _).drew))
      go_wp2
      refine wp_region_held_drew (S := fun w' => w'.cell? ⟨w.heap.size, 1, none⟩ = some (.slice (some ⟨b, off, none⟩) ps.length cap) ∧ w'.cell? ⟨w.heap.size + 1 + 1 + 1, 0, none⟩ = some (.int .i64 N) ∧ w'.cell? ⟨w.heap.size + 1 + 1 + 1, 1, none⟩ = some (.slice (some ⟨g, 0, none⟩) (spT ps k).length c) ∧ w'.cell? ⟨b, off + k * 4 + 1, none⟩ = some (.int .i64 (fr : Int)) ∧ w'.cell? ⟨b, off + k * 4 + 2, none⟩ = some (.int .i64 (tt : Int))) (by kernel_rfl) (by go_keep) (fun hHeld => ?_)
      refine wpAnyH_take (i := 0) (v := .agg #[.int .i64 N, .slice (some ⟨g, 0, none⟩) (spT ps k).length c]) rfl (by kernel_rfl) (by kernel_rfl) (by kernel_rfl) (fun _ _ _ h => h) (Or.inl ⟨by rfl, ?_⟩) (by assumption) ?_
      · (intro w hSw; (try dsimp only at hSw); go_simp)
      simp only [Act.put, List.setIfInBounds_toArray]
      refine wpAnyH_take (i := 1) (v := .pointer (some ⟨w.heap.size, 1, none⟩)) rfl (by kernel_rfl) (by kernel_rfl) (by kernel_rfl) (fun _ _ _ h => h) (Or.inl ⟨by rfl, ?_⟩) (by assumption) ?_
      · (intro w hSw; (try dsimp only at hSw); go_simp)
      simp only [Act.put]
      refine wpAnyH_take (i := 2) (v := .slice (some ⟨b, off, none⟩) ps.length cap) rfl (by kernel_rfl) (by kernel_rfl) (by kernel_rfl) (fun _ _ _ h => h) (Or.inl ⟨by rfl, ?_⟩) (by assumption) ?_
      · (intro w hSw; (try dsimp only at hSw); go_simp)
      simp only [Act.put]
      refine wpAnyH_take (i := 3) (v := .int .i64 (k : Int)) rfl (by kernel_rfl) (by kernel_rfl) (by kernel_rfl) (fun _ _ _ h => h) (Or.inl ⟨by rfl, ?_⟩) (by assumption) ?_
      · (intro w hSw; (try dsimp only at hSw); go_simp)
      simp only [Act.put]
      refine wpAnyH_take (i := 4) (v := .pointer (some ⟨b, off + k * 4, none⟩)) rfl (by kernel_rfl) (by kernel_rfl) (by kernel_rfl) (fun _ _ _ h => h) (Or.inl ⟨by rfl, ?_⟩) (by assumption) ?_
      · (intro w hSw; (try dsimp only at hSw); go_simp)
      simp only [Act.put]
      refine wpAnyH_take (i := 5) (v := .pointer (some ⟨b, off + k * 4 + 1, none⟩)) rfl (by kernel_rfl) (by kernel_rfl) (by kernel_rfl) (fun _ _ _ h => h) (Or.inl ⟨by rfl, ?_⟩) (by assumption) ?_
      · (intro w hSw; (try dsimp only at hSw); go_simp)
      simp only [Act.put]
      refine wpAnyH_take (i := 6) (v := .int .i64 (fr : Int)) rfl (by kernel_rfl) (by kernel_rfl) (by kernel_rfl) (fun _ _ _ h => h) (Or.inl ⟨by rfl, ?_⟩) (by assumption) ?_
      · (intro w hSw; (try dsimp only at hSw); go_simp)
      simp only [Act.put]
      refine wpAnyH_take (i := 8) (v := .pointer (some ⟨w.heap.size, 1, none⟩)) rfl (by kernel_rfl) (by kernel_rfl) (by kernel_rfl) (fun _ _ _ h => h) (Or.inl ⟨by rfl, ?_⟩) (by assumption) ?_
      · (intro w hSw; (try dsimp only at hSw); go_simp)
      simp only [Act.put]
      refine wpAnyH_take (i := 9) (v := .slice (some ⟨b, off, none⟩) ps.length cap) rfl (by kernel_rfl) (by kernel_rfl) (by kernel_rfl) (fun _ _ _ h => h) (Or.inl ⟨by rfl, ?_⟩) (by assumption) ?_
      · (intro w hSw; (try dsimp only at hSw); go_simp)
      simp only [Act.put]
      refine wpAnyH_take (i := 10) (v := .int .i64 (k : Int)) rfl (by kernel_rfl) (by kernel_rfl) (by kernel_rfl) (fun _ _ _ h => h) (Or.inl ⟨by rfl, ?_⟩) (by assumption) ?_
      · (intro w hSw; (try dsimp only at hSw); go_simp)
      simp only [Act.put]
      refine wpAnyH_take (i := 11) (v := .pointer (some ⟨b, off + k * 4, none⟩)) rfl (by kernel_rfl) (by kernel_rfl) (by kernel_rfl) (fun _ _ _ h => h) (Or.inl ⟨by rfl, ?_⟩) (by assumption) ?_
      · (intro w hSw; (try dsimp only at hSw); go_simp)
      simp only [Act.put]
      refine wpAnyH_take (i := 12) (v := .pointer (some ⟨b, off + k * 4 + 2, none⟩)) rfl (by kernel_rfl) (by kernel_rfl) (by kernel_rfl) (fun _ _ _ h => h) (Or.inl ⟨by rfl, ?_⟩) (by assumption) ?_
      · (intro w hSw; (try dsimp only at hSw); go_simp)
      simp only [Act.put]
      refine wpAnyH_take (i := 13) (v := .int .i64 (tt : Int)) rfl (by kernel_rfl) (by kernel_rfl) (by kernel_rfl) (fun _ _ _ h => h) (Or.inl ⟨by rfl, ?_⟩) (by assumption) ?_
      · (intro w hSw; (try dsimp only at hSw); go_simp)
      simp only [Act.put]
      refine wpAnyH_ready (rs := [7]) (by kernel_rfl) (by simp) ?_
      refine AllReadyH.cons rfl (fun K hK => ?_) AllReadyH.nil
      go_simp
      go_at_call 123
      refine (HDI.out k fr hk _ _ _ hHQ.out hf1 hf2).mono ?_
      rintro e w5 ⟨gR, oR, cR, rfl, hgR, hla, hbx⟩
      refine hK.out _ _ (by (rcases hHeld with ⟨q0, q1, q2, q3, q4⟩; exact ⟨(hbx.cell (p := ⟨w.heap.size, 1, none⟩) (by show w.heap.size < wr.heap.size; omega)).trans q0, (hbx.cell (p := ⟨w.heap.size + 1 + 1 + 1, 0, none⟩) htl).trans q1, (hbx.cell (p := ⟨w.heap.size + 1 + 1 + 1, 1, none⟩) htl).trans q2, (hbx.cell (p := ⟨b, off + k * 4 + 1, none⟩) hbw).trans q3, (hbx.cell (p := ⟨b, off + k * 4 + 2, none⟩) hbw).trans q4⟩)) (fun hHeld => ?_)
      clear hK K
      refine wpAnyH_ready (rs := [14]) (by kernel_rfl) (by simp) ?_
      refine AllReadyH.cons rfl (fun K hK => ?_) AllReadyH.nil
      go_simp
      go_at_call 128
      refine (hasb_v HH.out _ _ _ hla.iat (by omega)).mono ?_
      rintro e w7 ⟨rfl, hw7⟩
      replace hw7 := hw7.symm
      subst hw7
      refine hK.out _ _ (by first | assumption | exact hHeld) (fun hHeld => ?_)
      clear hK K
      refine wpAnyH_ready (rs := [15]) (by kernel_rfl) (by simp) ?_
      refine AllReadyH.cons rfl (fun K hK => ?_) AllReadyH.nil
      go_simp
      refine hK.out _ _ (by first | assumption | go_keep) (fun hHeld => ?_)
      clear hK K
      refine wpAnyH_done (by kernel_rfl) ?_ _
      obtain ⟨q0, q1, q2, q3, q4⟩ := hHeld
      have hby : Below wr.heap.size wr w5 := ((Below.refl wr.heap.size wr).drew).trans (show Below wr.heap.size wr.drew w5 from hbx)
      have HB5 := Lib.hid (on_call HB.out hby)
      have HS5 := Lib.hid (show SsR ps w w5 N k g c from ⟨HS.out.1.below hby, HS.out.2.1.below hby, own_onP HS.out.2.2.1 hby, HS.out.2.2.2⟩)
      have hs5 : wr.heap.size ≤ w5.heap.size := hby.size
      have bc : ∀ o, w5.cell? ⟨b, o, none⟩ = wr.cell? ⟨b, o, none⟩ := fun o => hby.cell (p := ⟨b, o, none⟩) hbw
      have r0 := (bc _).trans p0
      have r1 := (bc _).trans p1
      have r2 := (bc _).trans p2
      have r3 := (bc _).trans p3
      have x1 := (hby.cell (p := ⟨w.heap.size, 1, none⟩) hz).trans b1
      have hbw5 : b < w5.heap.size := by omega
      have hz5 : w.heap.size < w5.heap.size := by omega
      have htl5 : w.heap.size + 1 + 1 + 1 < w5.heap.size := by omega
      have f5 := HS5.out.2.1.frozen 1
      clear HB HS hbx hby hla hgR t0 t1 b0 b1 p0 p1 p2 p3 bc q1 q3 q4 hz htl hbw hHQ
      cases vb with
      | true =>
        have hs := Lib.hid (HY.out (HXC.out.1 rfl))
        have HS6 := Lib.hid (show SsR ps w w5 N (k + 1) g c from by unfold SsR; rw [hs.out]; exact HS5.out)
        obtain ⟨b0, b1⟩ := box2 HB5.out
        go_wp2
        go_roundw
        case rel => exact ⟨k + 1, g, c, by omega, by go_num, HS6, HB5⟩
        case measure => simp [intOf]; omega
      | false =>
        have hs := Lib.hid (HNo.out (fun hc => by have := HXC.out.2 hc; cases this))
        have ho := HS5.out.2.2.1
        have hobw : (Value.slice (some ⟨g, 0, none⟩) (spT ps k).length c).ownBlock = some g := rfl
        have hgb : b ≠ g := by omega
        have hgw0 : w.heap.size ≠ g := by omega
        have hl9 : (spT ps k).length ≤ 10 := by omega
        go_wp2
        refine wp_region_held_drew (S := fun w' => w'.cell? ⟨w.heap.size, 1, none⟩ = some (.slice (some ⟨b, off, none⟩) ps.length cap) ∧ w'.cell? ⟨b, off + k * 4, none⟩ = some (.int .i64 pid) ∧ w'.cell? ⟨b, off + k * 4 + 1, none⟩ = some (.int .i64 (fr : Int)) ∧ w'.cell? ⟨b, off + k * 4 + 2, none⟩ = some (.int .i64 (tt : Int)) ∧ w'.cell? ⟨b, off + k * 4 + 3, none⟩ = some (.int .i64 psz)) (by kernel_rfl) (by go_keep) (fun hHeld => ?_)
        refine wpAnyH_take (i := 0) (v := .pointer (some ⟨w.heap.size + 1 + 1 + 1, 1, none⟩)) rfl (by kernel_rfl) (by kernel_rfl) (by kernel_rfl) (fun _ _ _ h => h) (Or.inl ⟨by rfl, ?_⟩) (by assumption) ?_
        · (intro w hSw; (try dsimp only at hSw); go_simp)
        simp only [Act.put, List.setIfInBounds_toArray]
        refine wpAnyH_take (i := 2) (v := .pointer (some ⟨w.heap.size, 1, none⟩)) rfl (by kernel_rfl) (by kernel_rfl) (by kernel_rfl) (fun _ _ _ h => h) (Or.inl ⟨by rfl, ?_⟩) (by assumption) ?_
        · (intro w hSw; (try dsimp only at hSw); go_simp)
        simp only [Act.put]
        refine wpAnyH_take (i := 3) (v := .slice (some ⟨b, off, none⟩) ps.length cap) rfl (by kernel_rfl) (by kernel_rfl) (by kernel_rfl) (fun _ _ _ h => h) (Or.inl ⟨by rfl, ?_⟩) (by assumption) ?_
        · (intro w hSw; (try dsimp only at hSw); go_simp)
        simp only [Act.put]
        refine wpAnyH_take (i := 4) (v := .int .i64 (k : Int)) rfl (by kernel_rfl) (by kernel_rfl) (by kernel_rfl) (fun _ _ _ h => h) (Or.inl ⟨by rfl, ?_⟩) (by assumption) ?_
        · (intro w hSw; (try dsimp only at hSw); go_simp)
        simp only [Act.put]
        refine wpAnyH_take (i := 5) (v := .pointer (some ⟨b, off + k * 4, none⟩)) rfl (by kernel_rfl) (by kernel_rfl) (by kernel_rfl) (fun _ _ _ h => h) (Or.inl ⟨by rfl, ?_⟩) (by assumption) ?_
        · (intro w hSw; (try dsimp only at hSw); go_simp)
        simp only [Act.put]
        refine wpAnyH_take (i := 6) (v := .agg #[.int .i64 pid, .int .i64 (fr : Int), .int .i64 (tt : Int), .int .i64 psz]) rfl (by kernel_rfl) (by kernel_rfl) (by kernel_rfl) (fun _ _ _ h => h) (Or.inl ⟨by rfl, ?_⟩) (by assumption) ?_
        · (intro w hSw; (try dsimp only at hSw); go_simp)
        simp only [Act.put]
        refine wpAnyH_ready (rs := [1, 7]) (by kernel_rfl) (by simp) ?_
        refine AllReadyH.cons rfl (fun K hK => ?_) (AllReadyH.cons rfl (fun K hK => ?_) AllReadyH.nil)
        · go_simp
          refine hK.out _ _ (by first | assumption | go_keep) (fun hHeld => ?_)
          clear hK K
          refine wpAnyH_ready (rs := [7]) (by kernel_rfl) (by simp) ?_
          refine AllReadyH.cons rfl (fun K hK => ?_) AllReadyH.nil
          go_simp
          refine hK.out _ _ (by first | assumption | go_keep) (fun hHeld => ?_)
          clear hK K
          have hown5 := (ho.alloc (.cells #[.int .i64 pid, .int .i64 (fr : Int), .int .i64 (tt : Int), .int .i64 psz] 40)).drew
          refine wpAnyH_ready (rs := [8]) (by kernel_rfl) (by simp) ?_
          refine AllReadyH.cons rfl (fun K hK => ?_) AllReadyH.nil
          refine step_append_lies _ (by rfl) _ _ _ (by rfl) (w.heap.size + 1 + 1) 40 i0 _ 4 32 Try.underlying24 hi0 hz0 hz1 hz2 rfl (by omega) (.slice (some ⟨g, 0, none⟩) (spT ps k).length c) (spT ps k).length (pcs (spT ps k)) (by rfl) (hown5)
            ⟨w5.heap.size, 0, none⟩ 1 1 (pcs4 ⟨pid, fr, tt, psz⟩) (by rfl) (by rfl) (cells_new4 w5 _ _ _ _) (by intro u hu; simp [pcs4] at hu; rcases hu with rfl | rfl | rfl | rfl <;> rfl)
            (by omega) (by simp only [maxLen]; omega) (by omega) (by simp; omega) (w5.heap.size + 1) (by simp) ?_
          intro g3 c3 w7 hown' hgrow hat hlt7
          have hHeld2 := hHeld
          refine hK.out _ _ (by rcases hHeld2 with ⟨q0, q1, q2, q3, q4⟩; exact ⟨(hgrow.cell_far _ (by simp; omega) (by simp [Value.ownBlock]; omega)).trans q0, (hgrow.cell_far _ (by simp; omega) (by simp [Value.ownBlock]; omega)).trans q1, (hgrow.cell_far _ (by simp; omega) (by simp [Value.ownBlock]; omega)).trans q2, (hgrow.cell_far _ (by simp; omega) (by simp [Value.ownBlock]; omega)).trans q3, (hgrow.cell_far _ (by simp; omega) (by simp [Value.ownBlock]; omega)).trans q4⟩) (fun hHeld => ?_)
          clear hK K hHeld2
          have hbl5 : Below w5.heap.size w5 (w5.alloc (.cells #[.int .i64 pid, .int .i64 (fr : Int), .int .i64 (tt : Int), .int .i64 psz] 40)).drew := ((Below.refl w5.heap.size w5).alloc (Nat.le_refl _) (.cells #[.int .i64 pid, .int .i64 (fr : Int), .int .i64 (tt : Int), .int .i64 psz] 40)).drew
          have HT1 := Lib.hid ((HS5.out.1.below hbl5).grown (g := g) hgrow (by omega))
          have HT2 := Lib.hid ((HS5.out.2.1.below hbl5).grown (g := g) hgrow (by omega))
          have HB7 := Lib.hid ((HB5.out.alloc (by omega) (.cells #[.int .i64 pid, .int .i64 (fr : Int), .int .i64 (tt : Int), .int .i64 psz] 40)).drew.grown hgrow (by show w.heap.size + 1 ≤ (w5.alloc (.cells #[.int .i64 pid, .int .i64 (fr : Int), .int .i64 (tt : Int), .int .i64 psz] 40)).heap.size; simp; omega) (fun x hx => by have hx2 : g = x := (by simpa [Value.ownBlock] using hx); omega))
          have hg3 : g3 ≠ w.heap.size + 1 + 1 + 1 := by
            rcases hat with h | h
            · have hx2 : g = g3 := (by simpa [Value.ownBlock] using h)
              omega
            · omega
          have hown2 : w7.ownsRow (w.heap.size + 1 + 1) 40 4 (.slice (some ⟨g3, 0, none⟩) (spT ps (k + 1)).length c3) (spT ps (k + 1)).length (pcs (spT ps (k + 1))) := by
            rw [hs.out, pcs_snoc, List.length_append]
            exact hown'
          have hlen1 := Lib.hid (show (spT ps (k + 1)).length = (spT ps k).length + 1 from by rw [hs.out, List.length_append]; rfl)
          have f7 := HT2.out.frozen 1
          have c7 := HT2.out.cell.2
          have hT7 := HT2.out.lt
          have hne7 : w.heap.size + 1 + 1 + 1 ≠ b := by omega
          have hne8 : w.heap.size + 1 + 1 + 1 ≠ w.heap.size := by omega
          refine wpAnyH_ready (rs := [9]) (by kernel_rfl) (by simp) ?_
          refine AllReadyH.cons rfl (fun K hK => ?_) AllReadyH.nil
          go_simp
          refine hK.out _ _ (by first | assumption | go_keep) (fun hHeld => ?_)
          clear hK K
          refine wpAnyH_ready (rs := [10]) (by kernel_rfl) (by simp) ?_
          refine AllReadyH.cons rfl (fun K hK => ?_) AllReadyH.nil
          go_simp
          refine hK.out _ _ (by first | assumption | go_keep) (fun hHeld => ?_)
          clear hK K
          refine wpAnyH_done (by kernel_rfl) ?_ _
          have HS7 := Lib.hid (show SsR ps w (w7.setCell ⟨w.heap.size + 1 + 1 + 1, 1, none⟩ (.slice (some ⟨g3, 0, none⟩) (spT ps (k + 1)).length c3)) N (k + 1) g3 c3 from
            ⟨HT1.out.other _ (by show w.heap.size + 1 ≠ w.heap.size + 1 + 1 + 1; omega), HT2.out.set1 _, hown2.kept ⟨rfl, rfl, rfl, by simp, fun x hx hne => Below.heap_setCell _ _ _ _ (by intro e; exact hne (by rw [e]))⟩ (.inr (by simp [Value.ownBlock]; omega)), hg3⟩)
          have HB8 := Lib.hid (HB7.out.setCell (p := ⟨w.heap.size + 1 + 1 + 1, 1, none⟩) (by show w.heap.size + 1 ≤ w.heap.size + 1 + 1 + 1; omega) (.slice (some ⟨g3, 0, none⟩) (spT ps (k + 1)).length c3))
          rw [hlen1.out] at HS7 HB8
          clear hown' hgrow hat HT1 HT2 HB7 hown2 hown5 HS5 HB5 ho
          go_wp2
          go_roundw
          case rel => exact ⟨k + 1, g3, c3, by omega, by go_num, HS7, HB8⟩
          case measure => simp [intOf]; omega
        · go_simp
          refine hK.out _ _ (by first | assumption | go_keep) (fun hHeld => ?_)
          clear hK K
          refine wpAnyH_ready (rs := [1]) (by kernel_rfl) (by simp) ?_
          refine AllReadyH.cons rfl (fun K hK => ?_) AllReadyH.nil
          go_simp
          refine hK.out _ _ (by first | assumption | go_keep) (fun hHeld => ?_)
          clear hK K
          have hown5 := (ho.alloc (.cells #[.int .i64 pid, .int .i64 (fr : Int), .int .i64 (tt : Int), .int .i64 psz] 40)).drew
          refine wpAnyH_ready (rs := [8]) (by kernel_rfl) (by simp) ?_
          refine AllReadyH.cons rfl (fun K hK => ?_) AllReadyH.nil
          refine step_append_lies _ (by rfl) _ _ _ (by rfl) (w.heap.size + 1 + 1) 40 i0 _ 4 32 Try.underlying24 hi0 hz0 hz1 hz2 rfl (by omega) (.slice (some ⟨g, 0, none⟩) (spT ps k).length c) (spT ps k).length (pcs (spT ps k)) (by rfl) (hown5)
            ⟨w5.heap.size, 0, none⟩ 1 1 (pcs4 ⟨pid, fr, tt, psz⟩) (by rfl) (by rfl) (cells_new4 w5 _ _ _ _) (by intro u hu; simp [pcs4] at hu; rcases hu with rfl | rfl | rfl | rfl <;> rfl)
            (by omega) (by simp only [maxLen]; omega) (by omega) (by simp; omega) (w5.heap.size + 1) (by simp) ?_
          intro g3 c3 w7 hown' hgrow hat hlt7
          have hHeld2 := hHeld
          refine hK.out _ _ (by rcases hHeld2 with ⟨q0, q1, q2, q3, q4⟩; exact ⟨(hgrow.cell_far _ (by simp; omega) (by simp [Value.ownBlock]; omega)).trans q0, (hgrow.cell_far _ (by simp; omega) (by simp [Value.ownBlock]; omega)).trans q1, (hgrow.cell_far _ (by simp; omega) (by simp [Value.ownBlock]; omega)).trans q2, (hgrow.cell_far _ (by simp; omega) (by simp [Value.ownBlock]; omega)).trans q3, (hgrow.cell_far _ (by simp; omega) (by simp [Value.ownBlock]; omega)).trans q4⟩) (fun hHeld => ?_)
          clear hK K hHeld2
          have hbl5 : Below w5.heap.size w5 (w5.alloc (.cells #[.int .i64 pid, .int .i64 (fr : Int), .int .i64 (tt : Int), .int .i64 psz] 40)).drew := ((Below.refl w5.heap.size w5).alloc (Nat.le_refl _) (.cells #[.int .i64 pid, .int .i64 (fr : Int), .int .i64 (tt : Int), .int .i64 psz] 40)).drew
          have HT1 := Lib.hid ((HS5.out.1.below hbl5).grown (g := g) hgrow (by omega))
          have HT2 := Lib.hid ((HS5.out.2.1.below hbl5).grown (g := g) hgrow (by omega))
          have HB7 := Lib.hid ((HB5.out.alloc (by omega) (.cells #[.int .i64 pid, .int .i64 (fr : Int), .int .i64 (tt : Int), .int .i64 psz] 40)).drew.grown hgrow (by show w.heap.size + 1 ≤ (w5.alloc (.cells #[.int .i64 pid, .int .i64 (fr : Int), .int .i64 (tt : Int), .int .i64 psz] 40)).heap.size; simp; omega) (fun x hx => by have hx2 : g = x := (by simpa [Value.ownBlock] using hx); omega))
          have hg3 : g3 ≠ w.heap.size + 1 + 1 + 1 := by
            rcases hat with h | h
            · have hx2 : g = g3 := (by simpa [Value.ownBlock] using h)
              omega
            · omega
          have hown2 : w7.ownsRow (w.heap.size + 1 + 1) 40 4 (.slice (some ⟨g3, 0, none⟩) (spT ps (k + 1)).length c3) (spT ps (k + 1)).length (pcs (spT ps (k + 1))) := by
            rw [hs.out, pcs_snoc, List.length_append]
            exact hown'
          have hlen1 := Lib.hid (show (spT ps (k + 1)).length = (spT ps k).length + 1 from by rw [hs.out, List.length_append]; rfl)
          have f7 := HT2.out.frozen 1
          have c7 := HT2.out.cell.2
          have hT7 := HT2.out.lt
          have hne7 : w.heap.size + 1 + 1 + 1 ≠ b := by omega
          have hne8 : w.heap.size + 1 + 1 + 1 ≠ w.heap.size := by omega
          refine wpAnyH_ready (rs := [9]) (by kernel_rfl) (by simp) ?_
          refine AllReadyH.cons rfl (fun K hK => ?_) AllReadyH.nil
          go_simp
          refine hK.out _ _ (by first | assumption | go_keep) (fun hHeld => ?_)
          clear hK K
          refine wpAnyH_ready (rs := [10]) (by kernel_rfl) (by simp) ?_
          refine AllReadyH.cons rfl (fun K hK => ?_) AllReadyH.nil
          go_simp
          refine hK.out _ _ (by first | assumption | go_keep) (fun hHeld => ?_)
          clear hK K
          refine wpAnyH_done (by kernel_rfl) ?_ _
          have HS7 := Lib.hid (show SsR ps w (w7.setCell ⟨w.heap.size + 1 + 1 + 1, 1, none⟩ (.slice (some ⟨g3, 0, none⟩) (spT ps (k + 1)).length c3)) N (k + 1) g3 c3 from
            ⟨HT1.out.other _ (by show w.heap.size + 1 ≠ w.heap.size + 1 + 1 + 1; omega), HT2.out.set1 _, hown2.kept ⟨rfl, rfl, rfl, by simp, fun x hx hne => Below.heap_setCell _ _ _ _ (by intro e; exact hne (by rw [e]))⟩ (.inr (by simp [Value.ownBlock]; omega)), hg3⟩)
          have HB8 := Lib.hid (HB7.out.setCell (p := ⟨w.heap.size + 1 + 1 + 1, 1, none⟩) (by show w.heap.size + 1 ≤ w.heap.size + 1 + 1 + 1; omega) (.slice (some ⟨g3, 0, none⟩) (spT ps (k + 1)).length c3))
          rw [hlen1.out] at HS7 HB8
          clear hown' hgrow hat HT1 HT2 HB7 hown2 hown5 HS5 HB5 ho
          go_wp2
          go_roundw
          case rel => exact ⟨k + 1, g3, c3, by omega, by go_num, HS7, HB8⟩
          case measure => simp [intOf]; omega
    · have hkk : k = ps.length := by omega
      subst hkk
      have HP := Lib.hid (own_patP HS.out.2.2.1)
      obtain ⟨s0, s1⟩ := HS.out.1.cell
      have hsl1 := HS.out.1.lt
      have g0 := HS.out.1.frozen 0
      have g1 := HS.out.1.frozen 1
      have hcc : (spT ps ps.length).length ≤ c := by
        rcases HS.out.2.2.1.2 with ⟨hv, _⟩ | ⟨g', cap', cur, hv, _, _, hcap, _⟩
        · cases hv
        · injection hv with h1 h2 h3
          omega
      go_wp2
      refine bodyPost_ret (v := nv N (some ⟨g, 0, none⟩) (spL ps).length c) (by simp [results, Try.results124, go_sem, s0, s1]; rfl) rfl ⟨g, c, rfl, hcc, by omega, ?_, ?_⟩
      · exact pat_set1 (pat_set1 HP.out (by show w.heap.size + 1 ≠ g; omega)) (by show w.heap.size + 1 ≠ g; omega)
      · exact ((below_box HB.out).setCell (p := ⟨w.heap.size + 1, 0, none⟩) (by show w.heap.size ≤ w.heap.size + 1; omega) _).setCell (p := ⟨w.heap.size + 1, 1, none⟩) (by show w.heap.size ≤ w.heap.size + 1; omega) _
end Go.Proofs.Ytlkomipjamelkab.S2
