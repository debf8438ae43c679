/- TreeFlows of the model, DownstreamNodes of the model: answers. Conditions: each theorem's own premises. -/
import Derived.Test.YtpldbakllegheaaTrOne
import Derived.Test.YtpldbakllegheaaWoPl
import Derived.Test.YtpldbakllegheaaTrI
import Derived.Test.YtpldbakllegheaaAm
import Derived.Test.YtpldbakllegheaaAmN
import Derived.Test.YtpldbakllegheaaWayOne
import Derived.Test.YtpldbakllegheaaFindOne
import Derived.Test.YtpldbakllegheaaAmB
import Derived.Deep.DeepCutAuto
import Derived.Test.YtpldbakllegheaaTf
import Derived.Test.YtpldbakllegheaaNetKit
import Derived.Maps.AppendAt
import Derived.Test.YtpldbakllegheaaWoA
import Derived.Test.YtpldbakllegheaaReachThree
namespace Go.Proofs.Ytpldbakllegheaa.S2
open Go.RowKit P2

open Classical in
/-- The pipes among the first k that join what those before them do not connect. -/
noncomputable def spT (ps : List Pp) : Nat → List Pp
  | 0 => []
  | k + 1 => if Conn (spT ps k) (pAt ps k).fr (pAt ps k).to then spT ps k else spT ps k ++ [pAt ps k]
theorem spT_same {ps : List Pp} {k : Nat} (h : Conn (spT ps k) (pAt ps k).fr (pAt ps k).to) : spT ps (k + 1) = spT ps k := by rw [spT, if_pos h]
theorem spT_more {ps : List Pp} {k : Nat} (h : ¬ Conn (spT ps k) (pAt ps k).fr (pAt ps k).to) : spT ps (k + 1) = spT ps k ++ [pAt ps k] := by rw [spT, if_neg h]
theorem take_snoc' {ps : List Pp} {k : Nat} (hk : k < ps.length) : ps.take (k + 1) = ps.take k ++ [pAt ps k] := by
  rw [List.take_succ_eq_append_getElem hk]
  simp [pAt, List.getD, hk]
theorem spT_sub (ps : List Pp) : ∀ k, k ≤ ps.length → (spT ps k).Sublist (ps.take k)
  | 0, _ => by simp [spT]
  | k + 1, h => by
    have ih := spT_sub ps k (by omega)
    rw [take_snoc' (show k < ps.length by omega)]
    by_cases hc : Conn (spT ps k) (pAt ps k).fr (pAt ps k).to
    · rw [spT_same hc]
      exact ih.trans (List.sublist_append_left _ _)
    · rw [spT_more hc]
      exact ih.append (List.Sublist.refl _)
theorem spT_len (ps : List Pp) (k : Nat) (h : k ≤ ps.length) : (spT ps k).length ≤ k := by
  have := (spT_sub ps k h).length_le
  simp at this; omega
theorem spT_good {N : Int} {ps : List Pp} (hg : P2.Good N ps) (k : Nat) (h : k ≤ ps.length) : P2.Good N (spT ps k) := good_sub hg ((spT_sub ps k h).trans (List.take_sublist _ _))
theorem conn_sub {ps qs : List Pp} (h : ps.Sublist qs) {a b : Int} (hc : Conn ps a b) : Conn qs a b := conn_mono (fun _ he => h.subset he) hc
theorem spT_conn {ps : List Pp} : ∀ k, k ≤ ps.length → ∀ a b, Conn (spT ps k) a b ↔ Conn (ps.take k) a b
  | 0, _, a, b => by simp [spT]
  | k + 1, h, a, b => by
    have ih := spT_conn (ps := ps) k (by omega)
    refine ⟨conn_sub (spT_sub ps (k + 1) h), fun hc => ?_⟩
    have hmono : ∀ x y, Conn (spT ps k) x y → Conn (spT ps (k + 1)) x y := fun x y hxy => by
      by_cases hj : Conn (spT ps k) (pAt ps k).fr (pAt ps k).to
      · rw [spT_same hj]; exact hxy
      · rw [spT_more hj]; exact conn_mono (fun e he => List.mem_append.2 (.inl he)) hxy
    have hnew : Conn (spT ps (k + 1)) (pAt ps k).fr (pAt ps k).to := by
      by_cases hj : Conn (spT ps k) (pAt ps k).fr (pAt ps k).to
      · exact hmono _ _ hj
      · rw [spT_more hj]; exact Conn.adj ⟨pAt ps k, by simp, .inl ⟨rfl, rfl⟩⟩
    refine conn_ind (ps := ps.take (k + 1)) (P := fun v => Conn (spT ps (k + 1)) a v) (Conn.rf _ _) ?_ b hc
    rintro u v _ hu ⟨e, he, hj⟩
    rw [take_snoc' (show k < ps.length by omega)] at he
    rcases List.mem_append.1 he with he | he
    · exact hu.tr (hmono _ _ ((ih u v).2 (Conn.adj ⟨e, he, hj⟩)))
    · have e1 : e = pAt ps k := by simpa using he
      subst e1
      rcases hj with ⟨h1, h2⟩ | ⟨h1, h2⟩
      · rw [← h2]; rw [← h1] at hu; exact hu.tr hnew
      · rw [← h2]; rw [← h1] at hu; exact hu.tr hnew.sy
noncomputable def spL (ps : List Pp) : List Pp := spT ps ps.length
theorem spL_conn {ps : List Pp} (a b : Int) : Conn (spL ps) a b ↔ Conn ps a b := by
  have := spT_conn (ps := ps) ps.length (Nat.le_refl _) a b
  rwa [List.take_length] at this

/-- What is connected decides what is gathered. -/
theorem conL_of {N : Nat} {ps qs : List Pp} {t : Int} (h : ∀ a b, Conn ps a b ↔ Conn qs a b) : conL N ps t = conL N qs t := by
  unfold conL conTo
  congr 1
  refine List.filter_congr fun v hv => ?_
  have hv2 := List.mem_range.1 hv
  by_cases h0 : v = 0
  · subst h0; rw [distL_zero, distL_zero]
  · rw [distL_at N ps t v (by omega) h0, distL_at N qs t v (by omega) h0, Bool.eq_iff_iff, bne_iff_ne, bne_iff_ne, dist_conn, dist_conn, h]

/-- Labels that tell the parts of a forest apart. -/
theorem labels_up {N : Nat} {ps : List Pp} (hg : P2.Good N ps) : ∀ k, k ≤ ps.length → ∃ (f : Int → Int) (L : List Int), (∀ a b, f a = f b → Conn (spT ps k) a b) ∧ (∀ v : Nat, 1 ≤ v → v ≤ N → f v ∈ L) ∧ L.length + (spT ps k).length ≤ N := by
  intro k
  induction k with
  | zero =>
    intro _
    refine ⟨id, (List.range N).map (fun v => ((v + 1 : Nat) : Int)), fun a b h => ?_, fun v h1 h2 => ?_, by simp [spT]⟩
    · have e : a = b := h
      rw [e]; exact Conn.rf _ _
    · exact List.mem_map.2 ⟨v - 1, List.mem_range.2 (by omega), by simp; omega⟩
  | succ k ih =>
    intro hk
    obtain ⟨f, L, h1, h2, h3⟩ := ih (by omega)
    by_cases hj : Conn (spT ps k) (pAt ps k).fr (pAt ps k).to
    · rw [spT_same hj]; exact ⟨f, L, h1, h2, h3⟩
    · rw [spT_more hj]
      have hmem : pAt ps k ∈ ps := by
        have e : pAt ps k = ps[k] := by simp [pAt, List.getD, show k < ps.length by omega]
        rw [e]; exact List.getElem_mem _
      have hok := good_pp hg hmem
      generalize pAt ps k = p at *
      have hne : f p.fr ≠ f p.to := fun e => hj (h1 _ _ e)
      unfold PpOk at hok
      have hin : ∀ x : Int, 1 ≤ x → x ≤ N → f x ∈ L := fun x h1 h4 => by
        have := h2 x.toNat (by omega) (by omega)
        rwa [Int.toNat_of_nonneg (by omega)] at this
      have hto := hin p.to (by omega) (by omega)
      have hfr := hin p.fr (by omega) (by omega)
      have hold : ∀ x y, Conn (spT ps k) x y → Conn (spT ps k ++ [p]) x y := fun x y h => conn_mono (fun e he => List.mem_append.2 (.inl he)) h
      have hnew : Conn (spT ps k ++ [p]) p.fr p.to := Conn.adj ⟨p, by simp, .inl ⟨rfl, rfl⟩⟩
      refine ⟨fun v => if f v = f p.to then f p.fr else f v, L.erase (f p.to), fun a b hab => ?_, fun v hv1 hv2 => ?_, ?_⟩
      · simp only at hab
        by_cases ha : f a = f p.to
        · rw [if_pos ha] at hab
          by_cases hb : f b = f p.to
          · exact hold _ _ (h1 _ _ (ha.trans hb.symm))
          · rw [if_neg hb] at hab
            exact ((hold _ _ (h1 _ _ ha)).tr hnew.sy).tr (hold _ _ (h1 _ _ hab))
        · rw [if_neg ha] at hab
          by_cases hb : f b = f p.to
          · rw [if_pos hb] at hab
            exact ((hold _ _ (h1 _ _ hab)).tr hnew).tr (hold _ _ (h1 _ _ hb).sy)
          · rw [if_neg hb] at hab
            exact hold _ _ (h1 _ _ hab)
      · show (if f v = f p.to then f p.fr else f v) ∈ _
        by_cases hv : f v = f p.to
        · rw [if_pos hv]; exact (List.mem_erase_of_ne hne).2 hfr
        · rw [if_neg hv]; exact (List.mem_erase_of_ne hv).2 (h2 v hv1 hv2)
      · have hp := List.length_pos_of_mem hto
        rw [List.length_erase, if_pos hto, List.length_append]
        simp; omega
theorem con_full {N : Nat} {ps : List Pp} (_hN : 1 ≤ N) (h : (conL N ps 1).length = N) : ∀ v : Nat, 1 ≤ v → v ≤ N → Conn ps 1 v := by
  intro v h1 h2
  refine Classical.byContradiction fun hn => ?_
  have hd0 : dA (distL N ps 1) 0 = -1 := distL_zero N ps 1
  have hdv : dA (distL N ps 1) v = -1 := by
    rw [distL_at N ps 1 v h2 (by omega)]
    exact Classical.byContradiction fun hd => hn (dist_conn.1 hd).sy
  have hl : (conL N ps 1).length < ((List.range (N + 1)).filter fun u => decide (u ≠ 0)).length := by
    unfold conL conTo
    rw [List.length_map]
    refine filter_less _ _ _ (fun u hu => ?_) v (List.mem_range.2 (by omega)) (by simp; omega) (by simp [hdv])
    simp only [decide_eq_true_eq]
    rintro rfl
    simp [hd0] at hu
  have h3 : ((List.range (N + 1)).filter fun u => decide (u ≠ 0)).length ≤ N := by
    rw [List.range_succ_eq_map, List.filter_cons]
    simp
    exact Nat.le_trans (List.length_filter_le _ _) (by simp)
  omega
theorem tree_sp {N : Nat} {ps : List Pp} (hg : P2.Good N ps) : treeB N (spL ps) = decide ((conL N ps 1).length = N) := by
  have hN : 1 ≤ N := by have := hg.1; omega
  have e := conL_of (N := N) (t := 1) (spL_conn (ps := ps))
  unfold treeB
  rw [e]
  by_cases hc : (conL N ps 1).length = N
  · have hl : (spL ps).length + 1 = N := by
      have h1 := con_full hN (by rw [e]; exact hc : (conL N (spL ps) 1).length = N)
      have h2 := conn_need hN h1
      obtain ⟨f, L, _, h4, h5⟩ := labels_up hg ps.length (Nat.le_refl _)
      have h6 := List.length_pos_of_mem (h4 1 (Nat.le_refl _) hN)
      unfold spL at h2 ⊢
      omega
    simp [hl, hc]
  · simp [hc]
end Go.Proofs.Ytpldbakllegheaa.S2

namespace Go.Proofs.Ytpldbakllegheaa.S2
open Go.RowKit P2

def absI (x : Int) : Int := max x (-x)
theorem absI_nn (x : Int) : 0 ≤ absI x := by unfold absI; omega
theorem absI_le {x b : Int} (h0 : -b ≤ x) (h1 : x ≤ b) : absI x ≤ b := by unfold absI; omega
theorem mul_bd {x y : Int} {a b : Nat} (hx : -(a : Int) ≤ x) (hx2 : x ≤ a) (hy : -(b : Int) ≤ y) (hy2 : y ≤ b) : -((a * b : Nat) : Int) ≤ x * y ∧ x * y ≤ ((a * b : Nat) : Int) := by
  have h := Nat.mul_le_mul (show x.natAbs ≤ a by omega) (show y.natAbs ≤ b by omega)
  rw [← Int.natAbs_mul] at h
  omega
def lossI (p : Pp) (f : Int) : Int := p.sz * f * absI f
theorem loss_in {n : Int} {p : Pp} (hp : PpOk n p) {f : Int} (h0 : -8000 ≤ f) (h1 : f ≤ 8000) : (-72000 ≤ p.sz * f ∧ p.sz * f ≤ 72000) ∧ -576000000 ≤ lossI p f ∧ lossI p f ≤ 576000000 := by
  obtain ⟨_, _, _, _, _, _, _, hs1, hs2⟩ := hp
  have a := mul_bd (x := p.sz) (y := f) (a := 9) (b := 8000) (by omega) (by omega) (by omega) (by omega)
  have hn := absI_nn f
  have hl := absI_le h0 h1
  have b := mul_bd (x := p.sz * f) (y := absI f) (a := 72000) (b := 8000) (by omega) (by omega) (by omega) (by omega)
  unfold lossI
  omega

/-! ### Where a pipe stands -/
theorem find_one {ps : List Pp} {x r s : Int} (h : FindIs ps x r) (g : FindIs ps x s) : r = s := by
  rcases h with ⟨rfl, h⟩ | ⟨i, hi, rfl, hix, hif⟩
  · rcases g with ⟨rfl, _⟩ | ⟨j, hj, rfl, hjx, _⟩
    · rfl
    · exact absurd hjx (h j hj)
  · rcases g with ⟨rfl, g⟩ | ⟨j, hj, rfl, hjx, hjf⟩
    · exact absurd hix (g i hi)
    · have h1 : ¬ i < j := fun h => hjf i h hix
      have h2 : ¬ j < i := fun h => hif j h hjx
      have : i = j := by omega
      rw [this]
theorem find_ex (ps : List Pp) (x : Int) : ∃ r, FindIs ps x r := by
  by_cases h : ∃ i, i < ps.length ∧ (pAt ps i).id = x
  · obtain ⟨i, hi, hx, hn⟩ : ∃ i, i < ps.length ∧ (pAt ps i).id = x ∧ ∀ j, j < i → (pAt ps j).id ≠ x := by
      obtain ⟨i, hi, hx⟩ := h
      induction i using Nat.strongRecOn with
      | ind i ih =>
        by_cases hc : ∃ j, j < i ∧ (pAt ps j).id = x
        · obtain ⟨j, hj, hxj⟩ := hc
          exact ih j hj (by omega) hxj
        · exact ⟨i, hi, hx, fun j hj he => hc ⟨j, hj, he⟩⟩
    exact ⟨(i : Int), .inr ⟨i, hi, rfl, hx, hn⟩⟩
  · exact ⟨-1, .inl ⟨rfl, fun i hi he => h ⟨i, hi, he⟩⟩⟩
noncomputable def plc (ps : List Pp) (x : Int) : Nat := (Classical.choose (find_ex ps x)).toNat
theorem plc_find {ps : List Pp} {x : Int} {i : Nat} (h : FindIs ps x (i : Int)) : plc ps x = i := by
  unfold plc
  rw [find_one (Classical.choose_spec (find_ex ps x)) h]
  exact Int.toNat_natCast i
theorem pp_at {ps : List Pp} {p : Pp} (h : p ∈ ps) : ∃ i, i < ps.length ∧ pAt ps i = p := by
  obtain ⟨i, hi, rfl⟩ := List.getElem_of_mem h
  exact ⟨i, hi, by simp [pAt, List.getD, hi]⟩
theorem pAt_mem {ps : List Pp} {i : Nat} (h : i < ps.length) : pAt ps i ∈ ps := List.mem_of_getElem? (pAt_get ps i h)
/-- A pipe of a valid network is found at its place. -/
theorem plc_at {n : Int} {ps : List Pp} (hg : P2.Good n ps) {i : Nat} (hi : i < ps.length) : plc ps (pAt ps i).id = i ∧ FindIs ps (pAt ps i).id (i : Int) := by
  have h : FindIs ps (pAt ps i).id (i : Int) := .inr ⟨i, hi, rfl, rfl, fun j hj he => by have := good_ids hg j i hj hi; omega⟩
  exact ⟨plc_find h, h⟩

/-! ### Along a way -/
noncomputable def hereA (ps : List Pp) (W : List Int) (s : Int) : Nat → Int
  | 0 => s
  | k + 1 => oth (pAt ps (plc ps (lA W k))) (hereA ps W s k)
noncomputable def turnA (ps : List Pp) (fl W : List Int) (s : Int) (k : Nat) : Int :=
  if (pAt ps (plc ps (lA W k))).fr = hereA ps W s k then lossI (pAt ps (plc ps (lA W k))) (lA fl (plc ps (lA W k))) else -lossI (pAt ps (plc ps (lA W k))) (lA fl (plc ps (lA W k)))
noncomputable def alongA (ps : List Pp) (fl W : List Int) (s : Int) : Int := sumK (turnA ps fl W s) W.length
/-- Each pipe of the way leads on from where one stands. -/
def WayOk (ps : List Pp) (W : List Int) (s : Int) : Prop := W.length ≤ 8 ∧ ∀ k, k < W.length → plc ps (lA W k) < ps.length ∧ FindIs ps (lA W k) (plc ps (lA W k)) ∧ ((pAt ps (plc ps (lA W k))).fr = hereA ps W s k ∨ (pAt ps (plc ps (lA W k))).to = hereA ps W s k)
theorem here_cons (ps : List Pp) (x : Int) (W : List Int) (s : Int) : ∀ k, hereA ps (x :: W) s (k + 1) = hereA ps W (oth (pAt ps (plc ps x)) s) k
  | 0 => rfl
  | k + 1 => by
    show oth (pAt ps (plc ps (lA (x :: W) (k + 1)))) (hereA ps (x :: W) s (k + 1)) = oth (pAt ps (plc ps (lA W k))) (hereA ps W (oth (pAt ps (plc ps x)) s) k)
    rw [here_cons ps x W s k]
    rfl
theorem way_steps {n : Nat} {ps : List Pp} (hg : P2.Good n ps) {t : Int} : ∀ (k h : Nat), dist ps t h = (k : Int) → ∀ i, i < (wayL ps t k h).length → plc ps (lA (wayL ps t k h) i) < ps.length ∧ FindIs ps (lA (wayL ps t k h) i) (plc ps (lA (wayL ps t k h) i)) ∧ ((pAt ps (plc ps (lA (wayL ps t k h) i))).fr = hereA ps (wayL ps t k h) h i ∨ (pAt ps (plc ps (lA (wayL ps t k h) i))).to = hereA ps (wayL ps t k h) h i)
  | 0, _, _, i, hi => by simp [wayL] at hi
  | k + 1, h, hd, i, hi => by
    obtain ⟨j, hj, hjn⟩ : ∃ j, (j < (rowOf ps h).length ∧ nearB ps t h (pAt (rowOf ps h) j) = true) ∧ ∀ m, (m < (rowOf ps h).length ∧ nearB ps t h (pAt (rowOf ps h) m) = true) → j ≤ m := by
      have hx : ∃ j, j < (rowOf ps h).length ∧ nearB ps t h (pAt (rowOf ps h) j) = true := Classical.byContradiction fun hc => near_row hg hd fun i hi => by
        cases he : nearB ps t h (pAt (rowOf ps h) i) with
        | false => rfl
        | true => exact absurd ⟨i, hi, he⟩ hc
      obtain ⟨j, hj⟩ := hx
      exact least_nat _ j hj
    obtain ⟨hm, ht⟩ := row_mem hj.1
    have hp := good_pp hg hm
    have ho := oth_in (x := (h : Int)) hp
    obtain ⟨u, hu⟩ : ∃ u : Nat, oth (pAt (rowOf ps h) j) h = (u : Int) := ⟨(oth (pAt (rowOf ps h) j) h).toNat, by omega⟩
    have hw := way_row (k := k) hj.1 (fun i hi => by
      cases he : nearB ps t h (pAt (rowOf ps h) i) with
      | false => rfl
      | true => have := hjn i ⟨by omega, he⟩; omega) hj.2 hu
    have hdu : dist ps t (u : Int) = (k : Int) := by rw [← hu]; exact (near_iff hd hm ht).1 hj.2
    rw [hw] at hi ⊢
    obtain ⟨q, hq, hqe⟩ := pp_at hm
    rw [← hqe] at hu ht ⊢
    obtain ⟨hpl, hfi⟩ := plc_at hg hq
    match i with
    | 0 =>
      show plc ps (pAt ps q).id < ps.length ∧ FindIs ps (pAt ps q).id (plc ps (pAt ps q).id) ∧ ((pAt ps (plc ps (pAt ps q).id)).fr = (h : Int) ∨ (pAt ps (plc ps (pAt ps q).id)).to = (h : Int))
      rw [hpl]
      exact ⟨hq, hfi, ht⟩
    | i + 1 =>
      rw [here_cons, hpl, hu]
      exact way_steps hg k u hdu i (by simpa using hi)
theorem way_ok {n : Nat} {ps : List Pp} (hg : P2.Good n ps) {t : Int} {k h : Nat} (hh : h ≤ n) (hd : dist ps t h = (k : Int)) : WayOk ps (wayL ps t k h) h := by
  have h1 := wayL_len ps t k h
  have h2 := dist_le (t := t) hg h hh
  have h3 := hg.2.1
  exact ⟨by omega, way_steps hg k h hd⟩
theorem turn_in {n : Int} {ps : List Pp} (hg : P2.Good n ps) {fl W : List Int} {s : Int} (hf : allR (-8000) 8000 fl = true) (hl : fl.length = ps.length) (hw : WayOk ps W s) {k : Nat} (hk : k < W.length) : -576000000 ≤ turnA ps fl W s k ∧ turnA ps fl W s k ≤ 576000000 := by
  have h1 := (hw.2 k hk).1
  have h2 := allR_at hf (i := plc ps (lA W k)) (by omega)
  have h3 := (loss_in (good_pp hg (pAt_mem h1)) h2.1 h2.2).2
  unfold turnA
  split
  · exact h3
  · have e : lA fl (plc ps (lA W k)) = fl.getD (plc ps (lA W k)) 0 := rfl
    rw [e]; omega
theorem along_in {n : Int} {ps : List Pp} (hg : P2.Good n ps) {fl W : List Int} {s : Int} (hf : allR (-8000) 8000 fl = true) (hl : fl.length = ps.length) (hw : WayOk ps W s) {k : Nat} (hk : k ≤ W.length) : -4608000000 ≤ sumK (turnA ps fl W s) k ∧ sumK (turnA ps fl W s) k ≤ 4608000000 := by
  have h1 := sumK_le (f := turnA ps fl W s) (B := 576000000) (by omega) (k := k) (fun i hi => turn_in hg hf hl hw (by omega))
  have h2 : (k : Int) ≤ 8 := by have := hw.1; omega
  have h3 : (576000000 : Int) * k ≤ 576000000 * 8 := Int.mul_le_mul_of_nonneg_left h2 (by omega)
  omega
end Go.Proofs.Ytpldbakllegheaa.S2

namespace Go.Proofs.Ytpldbakllegheaa.S2
open Go.RowKit P2

theorem w64 (x : Int) (h : -9000000000000000000 ≤ x ∧ x ≤ 9000000000000000000) : IntKind.i64.wrap x = x := IntWalk.i64_in _ (by omega)
set_option maxHeartbeats 1000000 in
theorem loss_any {n : Int} {p : Pp} (hp : PpOk n p) {f : Int} (h0 : -8000 ≤ f) (h1 : f ≤ 8000) (w : World) :
    Calls Try.prog 59 #[pv p, .int .i64 f] w fun e w' => e = .returned (.int .i64 (lossI p f)) ∧ Below w.heap.size w w' := by
  obtain ⟨⟨a1, a2⟩, a3, a4⟩ := loss_in hp h0 h1
  have HL := Lib.hid (show lossI p f = p.sz * f * max f (-f) from rfl)
  rw [HL.out] at a3 a4
  have wP : IntKind.i64.wrap (p.sz * f) = p.sz * f := w64 _ (by omega)
  have wQ : IntKind.i64.wrap (p.sz * f * max f (-f)) = p.sz * f * max f (-f) := w64 _ (by omega)
  clear hp
  go_enter Try.func59, Try.ntmps59
  go_wp2
  go_ret
  exact ⟨by rw [HL.out]; rfl, (Below.refl _ _).alloc (Nat.le_refl _) _⟩
theorem smost_any (x y : Int) (w : World) : Calls Try.prog 70 #[.int .i64 x, .int .i64 y] w fun e w' => e = .returned (.int .i64 (max x y)) ∧ w' = w := by
  by_cases hgt : y < x
  · have e : max x y = x := by omega
    rw [e]
    clear e
    go_enter Try.func70, Try.ntmps70
    go_wp2
    go_ret
    exact ⟨rfl, rfl⟩
  · have e : max x y = y := by omega
    rw [e]
    clear e
    go_enter Try.func70, Try.ntmps70
    go_wp2
    go_ret
    exact ⟨rfl, rfl⟩
theorem sabs_any (x : Int) (w : World) (h0 : -1000000000000 ≤ x) (h1 : x ≤ 1000000000000) : Calls Try.prog 81 #[.int .i64 x] w fun e w' => e = .returned (.int .i64 (absI x)) ∧ w' = w := by
  have HM := Lib.hid (fun w => smost_any x (-x) w)
  have HA := Lib.hid (show absI x = max x (-x) from rfl)
  rw [HA.out]
  generalize max x (-x) = a at *
  go_enter Try.func81, Try.ntmps81
  go_wp2_with (go_at_call 70; refine (HM.out _).mono ?_; rintro e w' ⟨rfl, hw⟩; replace hw := hw.symm; subst hw)
  go_ret
  exact ⟨rfl, rfl⟩
set_option maxHeartbeats 1000000 in
theorem sloss_any {n : Int} {p : Pp} (hp : PpOk n p) {f : Int} (h0 : -8000 ≤ f) (h1 : f ≤ 8000) (w : World) :
    Calls Try.prog 55 #[pv p, .int .i64 f] w fun e w' => e = .returned (.int .i64 (lossI p f)) ∧ Below w.heap.size w w' := by
  obtain ⟨⟨a1, a2⟩, a3, a4⟩ := loss_in hp h0 h1
  have HL := Lib.hid (show lossI p f = p.sz * f * absI f from rfl)
  rw [HL.out] at a3 a4
  have wP : IntKind.i64.wrap (p.sz * f) = p.sz * f := w64 _ (by omega)
  have wQ : IntKind.i64.wrap (p.sz * f * absI f) = p.sz * f * absI f := w64 _ (by omega)
  have HC := Lib.hid (fun w' => sabs_any f w' (by omega) (by omega))
  clear hp
  generalize absI f = g at *
  go_enter Try.func55, Try.ntmps55
  go_wp2
  go_quiet ((go_at_call 81; exact Calls.quiet_of_same (HC.out _)))
  go_wp2
  go_ret
  exact ⟨by rw [HL.out]; rfl, below_drewN ((Below.refl _ _).alloc (Nat.le_refl _) _) _⟩

/-! ### LossOf -/
set_option maxHeartbeats 1000000 in
theorem los_bad (n : Int) (A : Option Addr) (cap : Nat) (ps : List Pp) (AD : Option Addr) (dc : Nat) (fl : List Int) (x : Int) (w : World) (h : PAt w A ps) (hm : ps.length ≤ maxLen) (hd : IAt w AD fl) (hdl : fl.length ≤ 1048576) (hv : floB n ps fl = false) :
    Calls Try.prog 19 #[nv n A ps.length cap, .slice AD fl.length dc, .int .i64 x] w fun e w' => e = .returned (.tuple #[.int .i64 0, .bool false]) ∧ Below w.heap.size w w' := by
  have H := Lib.hid (fun w' (hb : Below w.heap.size w w') => flo_v hv A cap AD dc w' (h.kept hb (Nat.le_refl _)) hm (hd.kept hb (Nat.le_refl _)) hdl)
  clear h hd hv
  go_enter Try.func19, Try.ntmps19
  go_wp2_with (go_at_call 57; refine (H.out _ ((Below.refl _ _).alloc (Nat.le_refl _) _)).mono ?_; rintro e w1 ⟨rfl, hb1⟩)
  go_ret2
  exact ⟨rfl, below_alloc_call hb1⟩
set_option maxHeartbeats 1000000 in
theorem los_none (N : Nat) (A : Option Addr) (cap : Nat) (ps : List Pp) (AD : Option Addr) (dc : Nat) (fl : List Int) (x : Int) (w : World) (h : PAt w A ps) (hm : ps.length ≤ maxLen) (hd : IAt w AD fl) (hdl : fl.length ≤ 1048576) (hv : floB N ps fl = true) (hf : FindIs ps x (-1)) :
    Calls Try.prog 19 #[nv N A ps.length cap, .slice AD fl.length dc, .int .i64 x] w fun e w' => e = .returned (.tuple #[.int .i64 0, .bool false]) ∧ Below w.heap.size w w' := by
  have hg := (floB_of hv).1
  have H := Lib.hid (fun w' (hb : Below w.heap.size w w') => flo_v hv A cap AD dc w' (h.kept hb (Nat.le_refl _)) hm (hd.kept hb (Nat.le_refl _)) hdl)
  have H2 := Lib.hid (fun w' (hb : Below w.heap.size w w') => place_any N A cap ps x w' (h.kept hb (Nat.le_refl _)) hg)
  have HP := Lib.hid (fun (i : Nat) (f : Bool) (hp : Place ps x i f) => (show f = false from by
    cases f with
    | false => rfl
    | true => have := ((place_find (good_ids hg) hp hf).1 rfl).1; omega))
  clear h hd hv hf hg
  go_enter Try.func19, Try.ntmps19
  go_wp2_with (first
    | (go_at_call 57; refine (H.out _ ((Below.refl _ _).alloc (Nat.le_refl _) _)).mono ?_; rintro e w1 ⟨rfl, hb1⟩; obtain ⟨hc1, hf1⟩ := bcell hb1; have hz1 := hb1.size; simp at hz1; have hB1 := Lib.hid (below_alloc_call hb1))
    | (go_at_call 58; refine (H2.out _ hB1.out).mono ?_; rintro e w2 ⟨⟨i, f, rfl, hp⟩, hb2⟩; obtain rfl := HP.out i f hp))
  go_ret2
  exact ⟨rfl, hB1.out.trans (hb2.mono hB1.out.size)⟩
set_option maxHeartbeats 2000000 in
set_option maxRecDepth 100000 in
theorem los_yes (N i : Nat) (A : Option Addr) (cap : Nat) (ps : List Pp) (AD : Option Addr) (dc : Nat) (fl : List Int) (x : Int) (w : World) (h : PAt w A ps) (hm : ps.length ≤ maxLen) (hd : IAt w AD fl) (hdl : fl.length ≤ 1048576) (hv : floB N ps fl = true) (hi : i < ps.length) (hf : FindIs ps x i) :
    Calls Try.prog 19 #[nv N A ps.length cap, .slice AD fl.length dc, .int .i64 x] w fun e w' => e = .returned (.tuple #[.int .i64 (lossI (pAt ps i) (lA fl i)), .bool true]) ∧ Below w.heap.size w w' := by
  obtain ⟨hg, hfn, hfr⟩ := floB_of hv
  have H := Lib.hid (fun w' (hb : Below w.heap.size w w') => flo_v hv A cap AD dc w' (h.kept hb (Nat.le_refl _)) hm (hd.kept hb (Nat.le_refl _)) hdl)
  have H2 := Lib.hid (fun w' (hb : Below w.heap.size w w') => place_any N A cap ps x w' (h.kept hb (Nat.le_refl _)) hg)
  have HP := Lib.hid (fun (j : Nat) (f : Bool) (hp : Place ps x j f) => (show f = true ∧ j = i from by
    cases f with
    | false => have := (place_find (good_ids hg) hp hf).2 rfl; omega
    | true => have := ((place_find (good_ids hg) hp hf).1 rfl).1; exact ⟨rfl, by omega⟩))
  have hif : i < fl.length := by omega
  have hfi := allR_at hfr hif
  have HLO := Lib.hid (fun w' => loss_any (good_pp hg (pAt_mem hi)) hfi.1 hfi.2 w')
  obtain ⟨b, off, hA, hbl, p0, p1, p2, p3⟩ := h.at_ hi
  subst hA
  obtain ⟨bb, of2, hA2, hbl2, q0⟩ := hd.at_ hif
  subst hA2
  have hi0 : (0 : Int) ≤ (i : Int) := by omega
  have hin : (i : Int) < (ps.length : Int) := by omega
  have hinf : (i : Int) < (fl.length : Int) := by omega
  have hlA : lA fl i = fl.getD i 0 := rfl
  rw [hlA]
  clear h hd hv hf hg hfr hfn hfi hlA
  generalize lossI (pAt ps i) (fl.getD i 0) = L at *
  generalize pAt ps i = p at *
  generalize fl.getD i 0 = f at *
  go_enter Try.func19, Try.ntmps19
  go_wp2_with (first
    | (go_at_call 57; refine (H.out _ ((Below.refl _ _).alloc (Nat.le_refl _) _)).mono ?_; rintro e w1 ⟨rfl, hb1⟩; obtain ⟨hc1, hf1⟩ := bcell hb1; have hz1 := hb1.size; simp at hz1; have hB1 := Lib.hid (below_alloc_call hb1))
    | (go_at_call 58; refine (H2.out _ hB1.out).mono ?_; rintro e w2 ⟨⟨j, fb, rfl, hp⟩, hb2⟩; obtain ⟨rfl, rfl⟩ := HP.out j fb hp))
  have hBX : Below (w.heap.size + 1) (w.alloc (.cells #[.int .i64 (N : Int), .slice (some ⟨b, off, none⟩) ps.length cap] 31)) w2 := by
    have hx : Below (w.heap.size + 1) (w.alloc (.cells #[.int .i64 (N : Int), .slice (some ⟨b, off, none⟩) ps.length cap] 31)) w1 := by simpa using hb1
    exact on_call hx hb2
  have HB2 := Lib.hid (below_box hBX)
  obtain ⟨z0, z1⟩ := box2 hBX
  have hzz := box_lt hBX
  have hbl' : b < w2.heap.size := by omega
  have hbl2' : bb < w2.heap.size := by omega
  have r0 := (HB2.out.cell (p := ⟨b, off + j * 4, none⟩) hbl).trans p0
  have r1 := (HB2.out.cell (p := ⟨b, off + j * 4 + 1, none⟩) hbl).trans p1
  have r2 := (HB2.out.cell (p := ⟨b, off + j * 4 + 2, none⟩) hbl).trans p2
  have r3 := (HB2.out.cell (p := ⟨b, off + j * 4 + 3, none⟩) hbl).trans p3
  have r4 := (HB2.out.cell (p := ⟨bb, of2 + j, none⟩) hbl2).trans q0
  clear hb1 hc1 hf1 hz1 hB1 H H2 HP hBX hp hb2 p0 p1 p2 p3 q0
  have hG := @cell_g
  refine region_below (by kernel_rfl) (by kernel_rfl) ?_
  repeat (first | go_big_quiet_step ((go_at_call 59; exact met HLO.out)))
  refine wpQuiet_nil ?_
  intro w3 hb3
  go_wp2
  go_ret2
  exact ⟨rfl, HB2.out.trans (hb3.mono HB2.out.size)⟩

/-! ### LossOf of the model -/
set_option maxHeartbeats 2000000 in
theorem slos_bad (n : Int) (A : Option Addr) (cap : Nat) (ps : List Pp) (AD : Option Addr) (dc : Nat) (fl : List Int) (x : Int) (w : World) (h : PAt w A ps) (hm : ps.length ≤ 1048576) (hd : IAt w AD fl) (hdl : fl.length ≤ 1048576) (hv : floB n ps fl = false ∨ FindIs ps x (-1)) :
    Calls Try.prog 16 #[nv n A ps.length cap, .slice AD fl.length dc, .int .i64 x] w fun e w' => e = .returned (.tuple #[.int .i64 0, .bool false]) ∧ Below w.heap.size w w' := by
  have HF := Lib.hid (fun w' (hb : Below w.heap.size w w') => find_any n A cap ps x w' (h.kept hb (Nat.le_refl _)) hm)
  obtain ⟨v1, hv1⟩ : ∃ v, goodB n ps = v := ⟨_, rfl⟩
  obtain ⟨v2, hv2⟩ : ∃ v, amtB fl ps.length (-8000) 8000 = v := ⟨_, rfl⟩
  have H1 := Lib.hid (fun w' (hb : Below w.heap.size w w') => sgood_v hv1 A cap w' (h.kept hb (Nat.le_refl _)) (by unfold maxLen; omega))
  have H2 := Lib.hid (fun w' (hb : Below w.heap.size w w') => sflo_v hv2 (n := n) A cap AD dc w' (hd.kept hb (Nat.le_refl _)) hdl)
  have HV := Lib.hid (show v1 = true → v2 = true → ∀ r, FindIs ps x r → r = -1 from fun h1 h2 r hr => by
    rcases hv with h | h
    · unfold floB at h
      rw [hv1, hv2, h1, h2] at h
      cases h
    · exact find_one hr h)
  clear h hd hv hv1 hv2
  cases v1 with
  | false =>
    go_enter Try.func16, Try.ntmps16
    go_wp2_with (first
      | (go_at_call 52; refine (HF.out _ ((Below.refl _ _).alloc (Nat.le_refl _) _)).mono ?_; rintro e w1 ⟨⟨r, rfl, hr⟩, hb1⟩; obtain ⟨hc1, hf1⟩ := bcell hb1; have hz1 := hb1.size; simp at hz1; have hB1 := Lib.hid (below_alloc_call hb1))
      | (go_at_call 53; refine (H1.out _ hB1.out).mono ?_; rintro e w2 ⟨rfl, hb2⟩))
    go_ret2
    exact ⟨rfl, hB1.out.trans (hb2.mono hB1.out.size)⟩
  | true =>
    cases v2 with
    | false =>
      go_enter Try.func16, Try.ntmps16
      go_wp2_with (first
        | (go_at_call 52; refine (HF.out _ ((Below.refl _ _).alloc (Nat.le_refl _) _)).mono ?_; rintro e w1 ⟨⟨r, rfl, hr⟩, hb1⟩; have HX1 := Lib.hid (show Below (w.heap.size + 1) (w.alloc (nb n A ps.length cap)) w1 by simpa using hb1); obtain ⟨b0, b1⟩ := box2 HX1.out; have hy1 := box_lt HX1.out; clear hb1)
        | (go_at_call 53; refine (H1.out _ (below_box HX1.out)).mono ?_; rintro e w2 ⟨rfl, hb2⟩; have HX2 := Lib.hid (on_call HX1.out hb2); clear b0 b1; obtain ⟨b0, b1⟩ := box2 HX2.out; have hy2 := box_lt HX2.out; clear hb2)
        | (go_at_call 54; refine (H2.out _ (below_box HX2.out)).mono ?_; rintro e w3 ⟨rfl, hb3⟩))
      go_ret2
      exact ⟨rfl, (below_box HX2.out).trans (hb3.mono (below_box HX2.out).size)⟩
    | true =>
      have HV2 := Lib.hid (HV.out rfl rfl)
      clear HV
      go_enter Try.func16, Try.ntmps16
      go_wp2_with (first
        | (go_at_call 52; refine (HF.out _ ((Below.refl _ _).alloc (Nat.le_refl _) _)).mono ?_; rintro e w1 ⟨⟨r, rfl, hr⟩, hb1⟩; obtain rfl := HV2.out r hr; have HX1 := Lib.hid (show Below (w.heap.size + 1) (w.alloc (nb n A ps.length cap)) w1 by simpa using hb1); obtain ⟨b0, b1⟩ := box2 HX1.out; have hy1 := box_lt HX1.out; clear hb1)
        | (go_at_call 53; refine (H1.out _ (below_box HX1.out)).mono ?_; rintro e w2 ⟨rfl, hb2⟩; have HX2 := Lib.hid (on_call HX1.out hb2); clear b0 b1; obtain ⟨b0, b1⟩ := box2 HX2.out; have hy2 := box_lt HX2.out; clear hb2)
        | (go_at_call 54; refine (H2.out _ (below_box HX2.out)).mono ?_; rintro e w3 ⟨rfl, hb3⟩))
      go_ret2
      exact ⟨rfl, (below_box HX2.out).trans (hb3.mono (below_box HX2.out).size)⟩
set_option maxHeartbeats 2000000 in
set_option maxRecDepth 100000 in
theorem slos_yes (N i : Nat) (A : Option Addr) (cap : Nat) (ps : List Pp) (AD : Option Addr) (dc : Nat) (fl : List Int) (x : Int) (w : World) (h : PAt w A ps) (hm : ps.length ≤ 1048576) (hd : IAt w AD fl) (hdl : fl.length ≤ 1048576) (hv : floB N ps fl = true) (hi : i < ps.length) (hf : FindIs ps x i) :
    Calls Try.prog 16 #[nv N A ps.length cap, .slice AD fl.length dc, .int .i64 x] w fun e w' => e = .returned (.tuple #[.int .i64 (lossI (pAt ps i) (lA fl i)), .bool true]) ∧ Below w.heap.size w w' := by
  obtain ⟨hg, hfn, hfr⟩ := floB_of hv
  unfold floB at hv
  rw [Bool.and_eq_true] at hv
  have HF := Lib.hid (fun w' (hb : Below w.heap.size w w') => find_any N A cap ps x w' (h.kept hb (Nat.le_refl _)) hm)
  have H1 := Lib.hid (fun w' (hb : Below w.heap.size w w') => sgood_v hv.1 A cap w' (h.kept hb (Nat.le_refl _)) (by unfold maxLen; omega))
  have H2 := Lib.hid (fun w' (hb : Below w.heap.size w w') => sflo_v hv.2 (n := N) A cap AD dc w' (hd.kept hb (Nat.le_refl _)) hdl)
  have HV2 := Lib.hid (show ∀ r, FindIs ps x r → r = (i : Int) from fun r hr => find_one hr hf)
  have hif : i < fl.length := by omega
  have hfi := allR_at hfr hif
  have HLO := Lib.hid (fun w' => sloss_any (good_pp hg (pAt_mem hi)) hfi.1 hfi.2 w')
  obtain ⟨b, off, hA, hbl, p0, p1, p2, p3⟩ := h.at_ hi
  subst hA
  obtain ⟨bb, of2, hA2, hbl2, q0⟩ := hd.at_ hif
  subst hA2
  have hi0 : (0 : Int) ≤ (i : Int) := by omega
  have hin : (i : Int) < (ps.length : Int) := by omega
  have hinf : (i : Int) < (fl.length : Int) := by omega
  have hng : decide ((i : Int) < 0) = false := decide_eq_false (by omega)
  have hlA : lA fl i = fl.getD i 0 := rfl
  rw [hlA]
  clear h hd hv hf hg hfr hfn hfi hlA
  generalize lossI (pAt ps i) (fl.getD i 0) = L at *
  generalize pAt ps i = p at *
  generalize fl.getD i 0 = f at *
  go_enter Try.func16, Try.ntmps16
  go_wp2_with (first
    | (go_at_call 52; refine (HF.out _ ((Below.refl _ _).alloc (Nat.le_refl _) _)).mono ?_; rintro e w1 ⟨⟨r, rfl, hr⟩, hb1⟩; obtain rfl := HV2.out r hr; have HX1 := Lib.hid (show Below (w.heap.size + 1) (w.alloc (nb N (some ⟨b, off, none⟩) ps.length cap)) w1 by simpa using hb1); obtain ⟨b0, b1⟩ := box2 HX1.out; have hy1 := box_lt HX1.out; clear hb1)
    | (go_at_call 53; refine (H1.out _ (below_box HX1.out)).mono ?_; rintro e w2 ⟨rfl, hb2⟩; have HX2 := Lib.hid (on_call HX1.out hb2); clear b0 b1; obtain ⟨b0, b1⟩ := box2 HX2.out; have hy2 := box_lt HX2.out; clear hb2)
    | (go_at_call 54; refine (H2.out _ (below_box HX2.out)).mono ?_; rintro e w3 ⟨rfl, hb3⟩; have HX3 := Lib.hid (on_call HX2.out hb3); clear b0 b1; obtain ⟨b0, b1⟩ := box2 HX3.out; have hy3 := box_lt HX3.out; clear hb3))
  have HB2 := Lib.hid (below_box HX3.out)
  have hbl' : b < w3.heap.size := by omega
  have hbl2' : bb < w3.heap.size := by omega
  have r0 := (HB2.out.cell (p := ⟨b, off + i * 4, none⟩) hbl).trans p0
  have r1 := (HB2.out.cell (p := ⟨b, off + i * 4 + 1, none⟩) hbl).trans p1
  have r2 := (HB2.out.cell (p := ⟨b, off + i * 4 + 2, none⟩) hbl).trans p2
  have r3 := (HB2.out.cell (p := ⟨b, off + i * 4 + 3, none⟩) hbl).trans p3
  have r4 := (HB2.out.cell (p := ⟨bb, of2 + i, none⟩) hbl2).trans q0
  clear H1 H2 HF HV2 HX1 HX2 HX3 p0 p1 p2 p3 q0
  have hG := @cell_g
  refine region_below (by kernel_rfl) (by kernel_rfl) ?_
  repeat (first | go_big_quiet_step ((go_at_call 55; exact met HLO.out)))
  refine wpQuiet_nil ?_
  intro w4 hb4
  go_wp2
  go_ret2
  exact ⟨rfl, HB2.out.trans (hb4.mono HB2.out.size)⟩
end Go.Proofs.Ytpldbakllegheaa.S2

namespace Go.Proofs.Ytpldbakllegheaa.S2
open Go.RowKit P2

theorem cells4 (w : World) (a b c d : Value) (t : TypeId) (k : Nat) (u : Value) (h : [a, b, c, d][k]? = some u) : (w.alloc (.cells #[a, b, c, d] t)).cell? ⟨w.heap.size, k, none⟩ = some u := by
  rw [World.cell?_alloc_at _ _ _ _ rfl]
  simpa using h
theorem alloc_belowE (w : World) (o : Obj) : Below w.heap.size w (w.alloc o) := (Below.refl _ _).alloc (Nat.le_refl _) o
def enT (ps : List Pp) (fl : List Int) (k : Nat) : Int := lossI (pAt ps k) (lA fl k) * lA fl k
def enA (ps : List Pp) (fl : List Int) : Int := sumK (enT ps fl) fl.length
theorem enT_in {n : Int} {ps : List Pp} (hg : P2.Good n ps) {fl : List Int} (hr : allR (-8000) 8000 fl = true) (hl : fl.length = ps.length) {k : Nat} (hk : k < fl.length) : -4608000000000 ≤ enT ps fl k ∧ enT ps fl k ≤ 4608000000000 := by
  have h2 := allR_at hr hk
  have h3 := (loss_in (good_pp hg (pAt_mem (show k < ps.length by omega))) h2.1 h2.2).2
  have h4 := mul_bd (x := lossI (pAt ps k) (lA fl k)) (y := lA fl k) (a := 576000000) (b := 8000) (by unfold lA; omega) (by unfold lA; omega) (by unfold lA; omega) (by unfold lA; omega)
  unfold enT
  omega
theorem enS_in {n : Int} {ps : List Pp} (hg : P2.Good n ps) {fl : List Int} (hr : allR (-8000) 8000 fl = true) (hl : fl.length = ps.length) {k : Nat} (hk : k ≤ fl.length) : -46080000000000 ≤ sumK (enT ps fl) k ∧ sumK (enT ps fl) k ≤ 46080000000000 := by
  have h1 := sumK_le (f := enT ps fl) (B := 4608000000000) (by omega) (k := k) (fun i hi => enT_in hg hr hl (by omega))
  have h2 : (k : Int) ≤ 10 := by have := hg.2.2.1; omega
  have h3 : (4608000000000 : Int) * k ≤ 4608000000000 * 10 := Int.mul_le_mul_of_nonneg_left h2 (by omega)
  omega
theorem amt_self {l : List Int} {a b : Int} : amtB l l.length a b = allR a b l := by simp [amtB]

set_option maxHeartbeats 1000000 in
theorem en_no (n : Int) (A : Option Addr) (cap : Nat) (ps : List Pp) (AD : Option Addr) (dc : Nat) (fl : List Int) (w : World) (h : PAt w A ps) (hm : ps.length ≤ maxLen) (hd : IAt w AD fl) (hdl : fl.length ≤ 1048576) (hv : floB n ps fl = false ∨ allR (-2000) 2000 fl = false) :
    Calls Try.prog 36 #[nv n A ps.length cap, .slice AD fl.length dc] w fun e w' => e = .returned (.tuple #[.int .i64 0, .bool false]) ∧ Below w.heap.size w w' := by
  obtain ⟨v1, hv1⟩ : ∃ v, floB n ps fl = v := ⟨_, rfl⟩
  have H := Lib.hid (fun w' (hb : Below w.heap.size w w') => flo_v hv1 A cap AD dc w' (h.kept hb (Nat.le_refl _)) hm (hd.kept hb (Nat.le_refl _)) hdl)
  cases v1 with
  | false =>
    clear h hd hv hv1
    go_enter Try.func36, Try.ntmps36
    go_wp2_with (go_at_call 57; refine (H.out _ ((Below.refl _ _).alloc (Nat.le_refl _) _)).mono ?_; rintro e w1 ⟨rfl, hb1⟩; have hB1 := Lib.hid (below_alloc_call hb1))
    go_ret2
    exact ⟨rfl, hB1.out⟩
  | true =>
    have hv2 : amtB fl fl.length (-2000) 2000 = false := by
      rw [amt_self]
      rcases hv with h | h
      · exact absurd (h.symm.trans hv1) (by simp)
      · exact h
    have H2 := Lib.hid (fun w' (hb : Below w.heap.size w w') => am_v hv2 AD dc w' (hd.kept hb (Nat.le_refl _)) hdl)
    clear h hd hv hv1 hv2
    go_enter Try.func36, Try.ntmps36
    go_wp2_with (first
      | (go_at_call 57; refine (H.out _ ((Below.refl _ _).alloc (Nat.le_refl _) _)).mono ?_; rintro e w1 ⟨rfl, hb1⟩; obtain ⟨hc1, hf1⟩ := bcell hb1; have hz1 := hb1.size; simp at hz1; have hB1 := Lib.hid (below_alloc_call hb1))
      | (go_at_call 80; refine (H2.out _ hB1.out).mono ?_; rintro e w2 ⟨rfl, hb2⟩; have hB2 := Lib.hid (hB1.out.trans (hb2.mono hB1.out.size))))
    go_ret2
    exact ⟨rfl, hB2.out⟩

set_option maxHeartbeats 2000000 in
set_option maxRecDepth 100000 in
theorem en_yes (n : Int) (A : Option Addr) (cap : Nat) (ps : List Pp) (AD : Option Addr) (dc : Nat) (fl : List Int) (w : World) (h : PAt w A ps) (hm : ps.length ≤ maxLen) (hd : IAt w AD fl) (hdl : fl.length ≤ 1048576) (hv : floB n ps fl = true) (hv2 : allR (-2000) 2000 fl = true) :
    Calls Try.prog 36 #[nv n A ps.length cap, .slice AD fl.length dc] w fun e w' => e = .returned (.tuple #[.int .i64 (enA ps fl), .bool true]) ∧ Below w.heap.size w w' := by
  obtain ⟨hg, hfl, hr⟩ := floB_of hv
  have hl10 := hg.2.2.1
  have H := Lib.hid (fun w' (hb : Below w.heap.size w w') => flo_v hv A cap AD dc w' (h.kept hb (Nat.le_refl _)) hm (hd.kept hb (Nat.le_refl _)) hdl)
  have hv3 : amtB fl fl.length (-2000) 2000 = true := by rw [amt_self]; exact hv2
  have H2 := Lib.hid (fun w' (hb : Below w.heap.size w w') => am_v hv3 AD dc w' (hd.kept hb (Nat.le_refl _)) hdl)
  have HA := Lib.hid (fun w' (hb : Below w.heap.size w w') => h.kept hb (Nat.le_refl _))
  have HI := Lib.hid (fun w' (hb : Below w.heap.size w w') => hd.kept hb (Nat.le_refl _))
  have HE := Lib.hid (fun k (hk : k < fl.length) => allR_at hr hk)
  have HT := Lib.hid (fun k (hk : k < fl.length) => enT_in hg hr hfl hk)
  have HS := Lib.hid (fun k (hk : k ≤ fl.length) => enS_in hg hr hfl hk)
  have HG := Lib.hid (fun k (hk : k < ps.length) => good_pp hg (pAt_mem hk))
  have HL := Lib.hid hfl
  clear h hd hv hr hg hfl hm hdl hv2 hv3
  go_enter Try.func36, Try.ntmps36
  go_wp2_with (first
    | (go_at_call 57; refine (H.out _ ((Below.refl _ _).alloc (Nat.le_refl _) _)).mono ?_; rintro e w1 ⟨rfl, hb1⟩; have HX1 := Lib.hid (show Below (w.heap.size + 1) (w.alloc (nb n A ps.length cap)) w1 by simpa using hb1); obtain ⟨b0, b1⟩ := box2 HX1.out; have hy1 := box_lt HX1.out; clear hb1)
    | (go_at_call 80; refine (H2.out _ (below_box HX1.out)).mono ?_; rintro e w2 ⟨rfl, hb2⟩; have HX2 := Lib.hid (on_call HX1.out hb2); clear b0 b1; obtain ⟨b0, b1⟩ := box2 HX2.out; have hy2 := box_lt HX2.out; clear hb2))
  have hB := Lib.hid (below_box HX2.out)
  clear H H2 HX1 HX2 b0 b1
  go_loopw [6, 23] (fun a i wr => ∃ (k : Nat), k ≤ ps.length ∧ i = .int .i64 (k : Int) ∧ a = .int .i64 (sumK (enT ps fl) k) ∧ Hid (Below w.heap.size w wr)) (fun _ i _ => ps.length - (intOf i).toNat)
  case atStart => exact ⟨0, Nat.zero_le _, rfl, rfl, hB⟩
  case round =>
    clear hB hy1 hy2
    obtain ⟨k, hk, rfl, rfl, hB⟩ := hrel
    have hs := HS.out k (by rw [HL.out]; exact hk)
    by_cases hlt : k < ps.length
    · obtain ⟨b, off, hA, hbl, p0, p1, p2, p3⟩ := (HA.out _ hB.out).at_ hlt
      subst hA
      have hkf : k < fl.length := by rw [HL.out]; exact hlt
      obtain ⟨bb, of2, hA2, hbl2, q0⟩ := (HI.out _ hB.out).at_ hkf
      subst hA2
      have hk0 : (0 : Int) ≤ (k : Int) := by omega
      have hkn : (k : Int) < (ps.length : Int) := by omega
      have hknf : (k : Int) < (fl.length : Int) := by omega
      have hy := HE.out k hkf
      have ht := HT.out k hkf
      have HLO := Lib.hid (fun w' => loss_any (HG.out k hlt) hy.1 hy.2 w')
      have hsn : sumK (enT ps fl) (k + 1) = sumK (enT ps fl) k + lossI (pAt ps k) (fl.getD k 0) * fl.getD k 0 := rfl
      have ht2 : -4608000000000 ≤ lossI (pAt ps k) (fl.getD k 0) * fl.getD k 0 ∧ lossI (pAt ps k) (fl.getD k 0) * fl.getD k 0 ≤ 4608000000000 := ht
      have HSN := Lib.hid hsn
      clear ht hsn hy
      generalize lossI (pAt ps k) (fl.getD k 0) = L at *
      generalize fl.getD k 0 = f at *
      generalize pAt ps k = p at *
      generalize sumK (enT ps fl) k = s at *
      have wP : IntKind.i64.wrap (L * f) = L * f := w64 _ (by omega)
      have wS : IntKind.i64.wrap (s + L * f) = s + L * f := w64 _ (by omega)
      have hBn := Lib.hid (hB.out.alloc hB.out.size (.cells #[.int .i64 p.id, .int .i64 p.fr, .int .i64 p.to, .int .i64 p.sz] 63))
      have q1 := ((alloc_belowE wr (.cells #[.int .i64 p.id, .int .i64 p.fr, .int .i64 p.to, .int .i64 p.sz] 63)).cell (p := ⟨bb, of2 + k, none⟩) hbl2).trans q0
      have d0 := cells4 wr (.int .i64 p.id) (.int .i64 p.fr) (.int .i64 p.to) (.int .i64 p.sz) 63 0 _ rfl
      have d1 := cells4 wr (.int .i64 p.id) (.int .i64 p.fr) (.int .i64 p.to) (.int .i64 p.sz) 63 1 _ rfl
      have d2 := cells4 wr (.int .i64 p.id) (.int .i64 p.fr) (.int .i64 p.to) (.int .i64 p.sz) 63 2 _ rfl
      have d3 := cells4 wr (.int .i64 p.id) (.int .i64 p.fr) (.int .i64 p.to) (.int .i64 p.sz) 63 3 _ rfl
      have hzz : wr.heap.size < (wr.alloc (.cells #[.int .i64 p.id, .int .i64 p.fr, .int .i64 p.to, .int .i64 p.sz] 63)).heap.size := by simp
      have hbl2' : bb < (wr.alloc (.cells #[.int .i64 p.id, .int .i64 p.fr, .int .i64 p.to, .int .i64 p.sz] 63)).heap.size := by omega
      go_wp2
      generalize wr.alloc (.cells #[.int .i64 p.id, .int .i64 p.fr, .int .i64 p.to, .int .i64 p.sz] 63) = wa at *
      clear p0 p1 p2 p3 q0
      have hG := @cell_g
      refine region_below (by kernel_rfl) (by kernel_rfl) ?_
      repeat (first | go_big_quiet_step ((go_at_call 59; exact met HLO.out)))
      refine wpQuiet_nil ?_
      intro w3 hb3
      go_wp2
      go_roundw
      case rel => exact ⟨k + 1, by omega, by go_num, by rw [HSN.out], Lib.hid (hBn.out.trans (hb3.mono hBn.out.size))⟩
      case measure => simp [intOf]; omega
    · have hkk : k = fl.length := by rw [HL.out]; omega
      have HF := Lib.hid (show sumK (enT ps fl) k = enA ps fl by rw [hkk]; rfl)
      clear hkk
      go_wp2
      go_ret2
      exact ⟨by rw [← HF.out]; rfl, hB.out⟩

/-! ### The model -/
set_option maxHeartbeats 2000000 in
set_option maxRecDepth 100000 in
theorem sen_sum (n : Int) (A : Option Addr) (cap : Nat) (ps : List Pp) (AD : Option Addr) (dc : Nat) (fl : List Int) (w : World) (h : PAt w A ps) (hd : IAt w AD fl) (hv : floB n ps fl = true) :
    Calls Try.prog 79 #[nv n A ps.length cap, .slice AD fl.length dc] w fun e w' => e = .returned (.int .i64 (enA ps fl)) ∧ Below w.heap.size w w' := by
  obtain ⟨hg, hfl, hr⟩ := floB_of hv
  have hl10 := hg.2.2.1
  have HA := Lib.hid (fun w' (hb : Below w.heap.size w w') => h.kept hb (Nat.le_refl _))
  have HI := Lib.hid (fun w' (hb : Below w.heap.size w w') => hd.kept hb (Nat.le_refl _))
  have HE := Lib.hid (fun k (hk : k < fl.length) => allR_at hr hk)
  have HT := Lib.hid (fun k (hk : k < fl.length) => enT_in hg hr hfl hk)
  have HS := Lib.hid (fun k (hk : k ≤ fl.length) => enS_in hg hr hfl hk)
  have HG := Lib.hid (fun k (hk : k < ps.length) => good_pp hg (pAt_mem hk))
  have HL := Lib.hid hfl
  have hps0 : fl.length ≤ 10 := by omega
  have hBX := (Below.refl (w.heap.size + 1) (w.alloc (nb n A ps.length cap)))
  clear h hd hv hr hg hfl
  go_enter Try.func79, Try.ntmps79
  go_wp2
  go_loopw [5, 6] (fun a i wr => ∃ (k : Nat), k ≤ fl.length ∧ i = .int .i64 (k : Int) ∧ a = .int .i64 (sumK (enT ps fl) k) ∧ Below (w.heap.size + 1) (w.alloc (nb n A ps.length cap)) wr) (fun _ i _ => fl.length - (intOf i).toNat)
  case atStart => exact ⟨0, Nat.zero_le _, rfl, rfl, hBX⟩
  case round =>
    clear hBX
    obtain ⟨k, hk, rfl, rfl, hb⟩ := hrel
    obtain ⟨c0, c1⟩ := box2 hb
    have hz2 := box_lt hb
    have hB := Lib.hid (below_box hb)
    have hs := HS.out k hk
    by_cases hlt : k < fl.length
    · have hkp : k < ps.length := by rw [← HL.out]; exact hlt
      obtain ⟨b, off, hA, hbl, p0, p1, p2, p3⟩ := (HA.out _ hB.out).at_ hkp
      subst hA
      obtain ⟨bb, of2, hA2, hbl2, q0⟩ := (HI.out _ hB.out).at_ hlt
      subst hA2
      have hk0 : (0 : Int) ≤ (k : Int) := by omega
      have hkn : (k : Int) < (fl.length : Int) := by omega
      have hknp : (k : Int) < (ps.length : Int) := by omega
      have hy := HE.out k hlt
      have hp := HG.out k hkp
      have hli := loss_in hp hy.1 hy.2
      have ht := HT.out k hlt
      have HC := Lib.hid (fun w' => sabs_any (fl.getD k 0) w' (by omega) (by omega))
      have ha0 := absI_nn (fl.getD k 0)
      have ha1 := absI_le hy.1 hy.2
      have e1 : (pAt ps k).sz * absI (fl.getD k 0) * fl.getD k 0 = lossI (pAt ps k) (fl.getD k 0) := by unfold lossI; rw [Int.mul_right_comm]
      have hm1 := mul_bd (x := (pAt ps k).sz) (y := absI (fl.getD k 0)) (a := 9) (b := 8000) (by have := hp.2.2.2.2.2.2.2; omega) (by have := hp.2.2.2.2.2.2.2; omega) (by omega) (by omega)
      have hsn : sumK (enT ps fl) (k + 1) = sumK (enT ps fl) k + lossI (pAt ps k) (fl.getD k 0) * fl.getD k 0 := rfl
      have ht2 : -4608000000000 ≤ lossI (pAt ps k) (fl.getD k 0) * fl.getD k 0 ∧ lossI (pAt ps k) (fl.getD k 0) * fl.getD k 0 ≤ 4608000000000 := ht
      have hli2 := hli.2
      rw [← e1] at hsn ht2 hli2
      have HSN := Lib.hid hsn
      clear ht hsn hli hp e1
      generalize absI (fl.getD k 0) = g at *
      generalize fl.getD k 0 = f at *
      generalize pAt ps k = p at *
      generalize sumK (enT ps fl) k = s at *
      have wP : IntKind.i64.wrap (p.sz * g) = p.sz * g := w64 _ (by omega)
      have wQ : IntKind.i64.wrap (p.sz * g * f) = p.sz * g * f := w64 _ (by omega)
      have wR : IntKind.i64.wrap (p.sz * g * f * f) = p.sz * g * f * f := w64 _ (by omega)
      have wS : IntKind.i64.wrap (s + p.sz * g * f * f) = s + p.sz * g * f * f := w64 _ (by omega)
      clear hm1 ht2 hli2 hy hs
      go_wp2
      go_quiet ((go_at_call 81; exact Calls.quiet_of_same (HC.out _)))
      go_wp2
      go_roundw
      case rel => exact ⟨k + 1, by omega, by go_num, by rw [HSN.out], below_drewN hb _⟩
      case measure => simp [intOf]; omega
    · have hkk : k = fl.length := by omega
      have HF := Lib.hid (show sumK (enT ps fl) k = enA ps fl by rw [hkk]; rfl)
      clear hkk
      go_wp2
      go_ret
      exact ⟨by rw [← HF.out]; rfl, hB.out⟩

set_option maxHeartbeats 2000000 in
theorem sen_bad (n : Int) (A : Option Addr) (cap : Nat) (ps : List Pp) (AD : Option Addr) (dc : Nat) (fl : List Int) (w : World) (h : PAt w A ps) (hm : ps.length ≤ maxLen) (hd : IAt w AD fl) (hdl : fl.length ≤ 1048576) (hv : floB n ps fl = false) :
    Calls Try.prog 35 #[nv n A ps.length cap, .slice AD fl.length dc] w fun e w' => e = .returned (.tuple #[.int .i64 0, .bool false]) ∧ Below w.heap.size w w' := by
  obtain ⟨v1, hv1⟩ : ∃ v, goodB n ps = v := ⟨_, rfl⟩
  have H1 := Lib.hid (fun w' (hb : Below w.heap.size w w') => sgood_v hv1 A cap w' (h.kept hb (Nat.le_refl _)) hm)
  cases v1 with
  | false =>
    clear h hd hv hv1
    go_enter Try.func35, Try.ntmps35
    go_wp2_with (go_at_call 53; refine (H1.out _ ((Below.refl _ _).alloc (Nat.le_refl _) _)).mono ?_; rintro e w1 ⟨rfl, hb1⟩; have hB1 := Lib.hid (below_alloc_call hb1))
    go_ret2
    exact ⟨rfl, hB1.out⟩
  | true =>
    have hv2 : amtB fl ps.length (-8000) 8000 = false := by unfold floB at hv; rw [hv1] at hv; simpa using hv
    have H2 := Lib.hid (fun w' (hb : Below w.heap.size w w') => sflo_v hv2 (n := n) A cap AD dc w' (hd.kept hb (Nat.le_refl _)) hdl)
    clear h hd hv hv1 hv2
    go_enter Try.func35, Try.ntmps35
    go_wp2_with (first
      | (go_at_call 53; refine (H1.out _ ((Below.refl _ _).alloc (Nat.le_refl _) _)).mono ?_; rintro e w1 ⟨rfl, hb1⟩; obtain ⟨hc1, hf1⟩ := bcell hb1; have hz1 := hb1.size; simp at hz1; have hB1 := Lib.hid (below_alloc_call hb1))
      | (go_at_call 54; refine (H2.out _ hB1.out).mono ?_; rintro e w2 ⟨rfl, hb2⟩; have hB2 := Lib.hid (hB1.out.trans (hb2.mono hB1.out.size))))
    go_ret2
    exact ⟨rfl, hB2.out⟩

set_option maxHeartbeats 2000000 in
set_option maxRecDepth 100000 in
theorem sen_ok (n : Int) (A : Option Addr) (cap : Nat) (ps : List Pp) (AD : Option Addr) (dc : Nat) (fl : List Int) (u : Int × Bool) (w : World) (h : PAt w A ps) (hm : ps.length ≤ maxLen) (hd : IAt w AD fl) (hdl : fl.length ≤ 1048576) (hv : floB n ps fl = true) (hu : u = if allR (-2000) 2000 fl = true then (enA ps fl, true) else (0, false)) :
    Calls Try.prog 35 #[nv n A ps.length cap, .slice AD fl.length dc] w fun e w' => e = .returned (.tuple #[.int .i64 u.1, .bool u.2]) ∧ Below w.heap.size w w' := by
  have HSUM := Lib.hid (fun w' (hb : Below w.heap.size w w') => sen_sum n A cap ps AD dc fl w' (h.kept hb (Nat.le_refl _)) (hd.kept hb (Nat.le_refl _)) hv)
  unfold floB at hv
  rw [Bool.and_eq_true] at hv
  have H1 := Lib.hid (fun w' (hb : Below w.heap.size w w') => sgood_v hv.1 A cap w' (h.kept hb (Nat.le_refl _)) hm)
  have H2 := Lib.hid (fun w' (hb : Below w.heap.size w w') => sflo_v hv.2 (n := n) A cap AD dc w' (hd.kept hb (Nat.le_refl _)) hdl)
  have HI := Lib.hid (fun w' (hb : Below w.heap.size w w') => hd.kept hb (Nat.le_refl _))
  have HNO := Lib.hid (fun (h : allR (-2000) 2000 fl = false) => show u = (0, false) by rw [hu, h]; rfl)
  have HYES := Lib.hid (fun (h : allR (-2000) 2000 fl = true) => show u = (enA ps fl, true) by rw [hu, h]; rfl)
  clear h hd hv hu
  go_enter Try.func35, Try.ntmps35
  go_wp2_with (first
    | (go_at_call 53; refine (H1.out _ ((Below.refl _ _).alloc (Nat.le_refl _) _)).mono ?_; rintro e w1 ⟨rfl, hb1⟩; have HX1 := Lib.hid (show Below (w.heap.size + 1) (w.alloc (nb n A ps.length cap)) w1 by simpa using hb1); obtain ⟨b0, b1⟩ := box2 HX1.out; have hy1 := box_lt HX1.out; clear hb1)
    | (go_at_call 54; refine (H2.out _ (below_box HX1.out)).mono ?_; rintro e w2 ⟨rfl, hb2⟩; have HX2 := Lib.hid (on_call HX1.out hb2); clear b0 b1; obtain ⟨b0, b1⟩ := box2 HX2.out; have hy2 := box_lt HX2.out; clear hb2))
  have hB := Lib.hid (below_box HX2.out)
  clear H1 H2 HX1
  go_loop [6] (fun i => ∃ k : Nat, k ≤ fl.length ∧ i = .int .i64 (k : Int) ∧ Hid (∀ j, j < k → inR (-2000) 2000 (fl.getD j 0) = true)) (fun i => fl.length - (intOf i).toNat)
  case atStart => exact ⟨0, Nat.zero_le _, rfl, Lib.hid (fun j hj => absurd hj (by omega))⟩
  case round =>
    obtain ⟨k, hk, rfl, hno⟩ := hrel
    by_cases hlt : k < fl.length
    · obtain ⟨b, off, hA, hbl, h0⟩ := (HI.out _ hB.out).at_ hlt
      subst hA
      have hk0 : (0 : Int) ≤ (k : Int) := by omega
      have hkn : (k : Int) < (fl.length : Int) := by omega
      obtain ⟨v, hv⟩ : ∃ v, inR (-2000) 2000 (fl.getD k 0) = v := ⟨_, rfl⟩
      have HC := Lib.hid (fun w' => in_eq (fl.getD k 0) (-2000) 2000 v hv w')
      cases v with
      | false =>
        have HU := Lib.hid (HNO.out (allR_no hlt hv))
        clear hv hno
        generalize fl.getD k 0 = y at *
        go_wp2_with (go_at_call 78; refine (HC.out _).mono ?_; rintro e w3 ⟨rfl, hw⟩; replace hw := hw.symm; subst hw)
        go_ret2
        exact ⟨by rw [HU.out]; rfl, hB.out⟩
      | true =>
        have hno2 := Lib.hid (inR_snoc hno.out hv)
        clear hv hno
        generalize fl.getD k 0 = y at *
        go_wp2_with (go_at_call 78; refine (HC.out _).mono ?_; rintro e w3 ⟨rfl, hw⟩; replace hw := hw.symm; subst hw)
        go_round
        case rel => exact ⟨k + 1, by omega, by go_num, hno2⟩
        case measure => simp [intOf]; omega
    · have HU := Lib.hid (HYES.out (allR_mk (fun i hi => hno.out i (by omega))))
      go_wp2_with (go_at_call 79; refine (HSUM.out _ hB.out).mono ?_; rintro e w3 ⟨rfl, hb3⟩)
      go_ret2
      exact ⟨by rw [HU.out]; rfl, hB.out.trans (hb3.mono hB.out.size)⟩
end Go.Proofs.Ytpldbakllegheaa.S2

namespace Go.Proofs.Ytpldbakllegheaa.S2
open Go.RowKit P2

/-- 1 to N. -/
def upL (N : Nat) : List Int := (List.range N).map fun v : Nat => (v : Int) + 1
theorem upL_mem {N : Nat} {v : Int} : v ∈ upL N ↔ 1 ≤ v ∧ v ≤ N := by
  unfold upL
  rw [List.mem_map]
  constructor
  · rintro ⟨k, hk, rfl⟩
    have := List.mem_range.1 hk
    omega
  · rintro ⟨h1, h2⟩
    exact ⟨(v - 1).toNat, List.mem_range.2 (by omega), by omega⟩
theorem upL_sorted (N : Nat) : (upL N).Pairwise (· < ·) := by
  unfold upL
  rw [List.pairwise_map]
  exact List.pairwise_lt_range.imp (fun h => by omega)
open Classical in
/-- The nodes that are not connected with the source without a pipe. -/
noncomputable def dnB (ps : List Pp) (p : Pp) (s v : Int) : Bool := decide (¬ Conn (Wo ps p) v s)
open Classical in
theorem dnB_true {ps : List Pp} {p : Pp} {s v : Int} : dnB ps p s v = true ↔ ¬ Conn (Wo ps p) v s := by unfold dnB; exact decide_eq_true_iff
theorem dnB_false {ps : List Pp} {p : Pp} {s v : Int} (h : Conn (Wo ps p) v s) : dnB ps p s v = false := by
  cases e : dnB ps p s v with
  | false => rfl
  | true => exact absurd h (dnB_true.1 e)
noncomputable def dnTo (ps : List Pp) (p : Pp) (s : Int) (k : Nat) : List Int := (upL k).filter (dnB ps p s)
noncomputable def dnL (N : Nat) (ps : List Pp) (p : Pp) (s : Int) : List Int := dnTo ps p s N
theorem upL_snoc (k : Nat) : upL (k + 1) = upL k ++ [(k : Int) + 1] := by unfold upL; rw [List.range_succ, List.map_append]; rfl
theorem dnTo_yes {ps : List Pp} {p : Pp} {s : Int} {k : Nat} (h : dnB ps p s ((k : Int) + 1) = true) : dnTo ps p s (k + 1) = dnTo ps p s k ++ [(k : Int) + 1] := by
  unfold dnTo; rw [upL_snoc, List.filter_append]; simp [h]
theorem dnTo_no {ps : List Pp} {p : Pp} {s : Int} {k : Nat} (h : dnB ps p s ((k : Int) + 1) = false) : dnTo ps p s (k + 1) = dnTo ps p s k := by
  unfold dnTo; rw [upL_snoc, List.filter_append]; simp [h]
theorem dn_mem {N : Nat} {ps : List Pp} {p : Pp} {s v : Int} : v ∈ dnL N ps p s ↔ (1 ≤ v ∧ v ≤ N) ∧ ¬ Conn (Wo ps p) v s := by
  unfold dnL dnTo
  rw [List.mem_filter, upL_mem, dnB_true]
theorem dn_sorted (N : Nat) (ps : List Pp) (p : Pp) (s : Int) : (dnL N ps p s).Pairwise (· < ·) := (upL_sorted N).sublist List.filter_sublist
theorem dnTo_len (ps : List Pp) (p : Pp) (s : Int) (k : Nat) : (dnTo ps p s k).length ≤ k := Nat.le_trans (List.length_filter_le _ _) (by simp [upL])
theorem dn_len (N : Nat) (ps : List Pp) (p : Pp) (s : Int) : (dnL N ps p s).length ≤ N := dnTo_len ps p s N

/-! ### Sums over nodes -/
def sumG (g : Int → Int) : List Int → Int
  | [] => 0
  | x :: l => g x + sumG g l
theorem sumG_app (g : Int → Int) : ∀ (l m : List Int), sumG g (l ++ m) = sumG g l + sumG g m
  | [], m => by simp [sumG]
  | x :: l, m => by simp only [List.cons_append, sumG, sumG_app g l m]; omega
theorem sumG_perm {g : Int → Int} {l m : List Int} (h : l.Perm m) : sumG g l = sumG g m := by
  induction h with
  | nil => rfl
  | cons x _ ih => simp only [sumG, ih]
  | swap x y l => simp only [sumG]; omega
  | trans _ _ h1 h2 => rw [h1, h2]
theorem sumG_take (g : Int → Int) (l : List Int) : ∀ k, k ≤ l.length → sumK (fun i => g (lA l i)) k = sumG g (l.take k)
  | 0, _ => by simp [sumK, sumG]
  | k + 1, h => by
    have hk : k < l.length := by omega
    rw [sumK, sumG_take g l k (by omega), List.take_add_one, sumG_app]
    have e : lA l k = l[k] := by simp [lA, List.getD, hk]
    rw [e]
    simp [hk, sumG]
theorem sumG_all (g : Int → Int) (l : List Int) : sumK (fun i => g (lA l i)) l.length = sumG g l := by
  rw [sumG_take g l l.length (Nat.le_refl _), List.take_length]
/-- What a node takes. -/
def tk (dm : List Int) (v : Int) : Int := dm.getD (v - 1).toNat 0
theorem tk_in {dm : List Int} {N : Nat} (hr : allR 0 1000 dm = true) (hl : dm.length = N) {v : Int} (h1 : 1 ≤ v) (h2 : v ≤ N) : 0 ≤ tk dm v ∧ tk dm v ≤ 1000 := allR_at hr (i := (v - 1).toNat) (by omega)
theorem sumT_in {dm l : List Int} {N : Nat} (hr : allR 0 1000 dm = true) (hl : dm.length = N) (hm : ∀ v, v ∈ l → 1 ≤ v ∧ v ≤ N) (hn : l.length ≤ 8) {k : Nat} (hk : k ≤ l.length) : 0 ≤ sumK (fun i => tk dm (lA l i)) k ∧ sumK (fun i => tk dm (lA l i)) k ≤ 8000 := by
  have h1 : ∀ k, k ≤ l.length → 0 ≤ sumK (fun i => tk dm (lA l i)) k ∧ sumK (fun i => tk dm (lA l i)) k ≤ 1000 * (k : Int) := by
    intro k
    induction k with
    | zero => intro _; simp [sumK]
    | succ k ih =>
      intro hk
      have h2 := ih (by omega)
      have hm2 := hm (lA l k) (by
        have hk2 : k < l.length := by omega
        have e : lA l k = l[k] := by simp [lA, List.getD, hk2]
        rw [e]; exact List.getElem_mem hk2)
      have h3 := tk_in hr hl hm2.1 hm2.2
      have e : sumK (fun i => tk dm (lA l i)) (k + 1) = sumK (fun i => tk dm (lA l i)) k + tk dm (lA l k) := rfl
      rw [e]
      omega
  have := h1 k hk
  omega

/-! ### Flows of a tree -/
noncomputable def flowA (N : Nat) (ps : List Pp) (s : Int) (dm : List Int) (i : Nat) : Int :=
  if dnB ps (pAt ps i) s (pAt ps i).fr = true then -(sumG (tk dm) (dnL N ps (pAt ps i) s)) else sumG (tk dm) (dnL N ps (pAt ps i) s)
noncomputable def tfTo (N : Nat) (ps : List Pp) (s : Int) (dm : List Int) (k : Nat) : List Int := (List.range k).map (flowA N ps s dm)
noncomputable def tfL (N : Nat) (ps : List Pp) (s : Int) (dm : List Int) : List Int := tfTo N ps s dm ps.length
theorem tfTo_snoc (N : Nat) (ps : List Pp) (s : Int) (dm : List Int) (k : Nat) : tfTo N ps s dm (k + 1) = tfTo N ps s dm k ++ [flowA N ps s dm k] := by unfold tfTo; rw [List.range_succ, List.map_append]; rfl
theorem tfTo_len (N : Nat) (ps : List Pp) (s : Int) (dm : List Int) (k : Nat) : (tfTo N ps s dm k).length = k := by simp [tfTo]
theorem tfL_len (N : Nat) (ps : List Pp) (s : Int) (dm : List Int) : (tfL N ps s dm).length = ps.length := tfTo_len N ps s dm _
theorem tfL_at {N : Nat} {ps : List Pp} {s : Int} {dm : List Int} {i : Nat} (h : i < ps.length) : (tfL N ps s dm).getD i 0 = flowA N ps s dm i := by
  simp [tfL, tfTo, List.getD, h]
theorem sumD_in {N : Nat} {ps : List Pp} {p : Pp} {s : Int} {dm : List Int} (hN : N ≤ 8) (hr : allR 0 1000 dm = true) (hl : dm.length = N) : 0 ≤ sumG (tk dm) (dnL N ps p s) ∧ sumG (tk dm) (dnL N ps p s) ≤ 8000 := by
  have hn := dn_len N ps p s
  rw [← sumG_all]
  exact sumT_in hr hl (fun v hv => (dn_mem.1 hv).1) (by omega) (Nat.le_refl _)
theorem flow_in {N : Nat} {ps : List Pp} {s : Int} {dm : List Int} (hN : N ≤ 8) (hr : allR 0 1000 dm = true) (hl : dm.length = N) (i : Nat) : -8000 ≤ flowA N ps s dm i ∧ flowA N ps s dm i ≤ 8000 := by
  have := sumD_in (ps := ps) (p := pAt ps i) (s := s) hN hr hl
  unfold flowA
  split <;> omega
theorem tfL_in {N : Nat} {ps : List Pp} {s : Int} {dm : List Int} (hN : N ≤ 8) (hr : allR 0 1000 dm = true) (hl : dm.length = N) : allR (-8000) 8000 (tfL N ps s dm) = true :=
  allR_mk fun j hj => by
    rw [tfL_len] at hj
    rw [tfL_at hj]
    simpa [inR] using flow_in hN hr hl j

/-! ### What a search behind a pipe finds -/
theorem wo_none {ps : List Pp} {q : Pp} (h : q ∉ ps) : Wo ps q = ps := by
  unfold Wo
  exact List.filter_eq_self.2 fun e he => decide_eq_true fun hq => h (hq ▸ he)
theorem tree_full {N : Nat} {ps : List Pp} (hg : P2.Good N ps) (ht : treeB N ps = true) : Acy ps ∧ (∀ v : Nat, 1 ≤ v → v ≤ N → Conn ps 1 v) ∧ ps.length + 1 = N := by
  unfold treeB at ht
  rw [Bool.and_eq_true, decide_eq_true_iff, decide_eq_true_iff] at ht
  have hN := hg.1
  have hc := con_full (N := N) (ps := ps) (by omega) ht.2
  exact ⟨tree_acy hg ht.1 hc, hc, ht.1⟩
theorem tree_conn {N : Nat} {ps : List Pp} (h : ∀ v : Nat, 1 ≤ v → v ≤ N → Conn ps 1 v) {a b : Int} (a1 : 1 ≤ a) (a2 : a ≤ N) (b1 : 1 ≤ b) (b2 : b ≤ N) : Conn ps a b := by
  have ha := h a.toNat (by omega) (by omega)
  have hb := h b.toNat (by omega) (by omega)
  rw [Int.toNat_of_nonneg (by omega)] at ha hb
  exact ha.sy.tr hb
theorem root_not {N : Nat} {ps : List Pp} (hg : P2.Good N ps) : (⟨0, 0, 0, 0⟩ : Pp) ∉ ps := fun h => by have := (good_pp hg h).1; simp at this
/-- The far end of a pipe of a tree. -/
theorem far_end {N t : Nat} {ps : List Pp} (hg : P2.Good N ps) (ht : treeB N ps = true) (h1 : 1 ≤ t) (h2 : t ≤ N) {p : Pp} (hp : p ∈ ps) :
    ∃ y, fnd ps p (N + 1) t ⟨0, 0, 0, 0⟩ = some y ∧ (1 ≤ y ∧ y ≤ N) ∧ (∀ v, 1 ≤ v → v ≤ (N : Int) → (¬ Conn (Wo ps p) v t ↔ Conn (Wo ps p) y v)) ∧ (dnB ps p t p.fr = true ↔ p.fr = y) ∧ (∀ d, BrOk N ps y p → cntB N ps y p ≤ d → (nodesL ps d y p).Perm (dnL N ps p t)) := by
  obtain ⟨ha, hc, hlen⟩ := tree_full hg ht
  have hr := root_not hg
  have hbr : BrOk N ps t ⟨0, 0, 0, 0⟩ := ⟨by omega, by omega, .inr hr⟩
  have hpp := good_pp hg hp
  obtain ⟨_, _, f1, f2, t1, t2, hne, _, _⟩ := hpp
  have hy := fnd_yes hg ha hp (N + 1) t ⟨0, 0, 0, 0⟩ hbr (cnt_le N ps t _) (.inr (by rw [wo_none hr]; exact tree_conn hc (by omega) (by omega) f1 f2))
  obtain ⟨y, hfy⟩ := Option.ne_none_iff_exists'.1 hy
  rcases fnd_is hg ha (N + 1) t ⟨0, 0, 0, 0⟩ hbr (cnt_le N ps t _) hfy with ⟨h, _⟩ | ⟨_, hty, _, hns⟩
  · exact absurd (h ▸ hp) hr
  · have hy12 : 1 ≤ y ∧ y ≤ (N : Int) := by
      rcases hty with h | h
      · omega
      · omega
    have hb : ∀ v, 1 ≤ v → v ≤ (N : Int) → (¬ Conn (Wo ps p) v t ↔ Conn (Wo ps p) y v) := fun v v1 v2 => behind hp hty hns (tree_conn hc hy12.1 hy12.2 (by omega) (by omega)) (tree_conn hc hy12.1 hy12.2 v1 v2)
    refine ⟨y, hfy, hy12, hb, ?_, fun d hbo hcd => ?_⟩
    · rw [dnB_true, hb _ f1 f2]
      constructor
      · intro hcn
        rcases hty with h | h
        · exact h
        · exact absurd hcn.sy (by rw [← h]; exact ha p hp)
      · intro e
        rw [e]
        exact Conn.rf _ _
    · rw [List.perm_ext_iff_of_nodup (nodes_nodup hg ha d y p hbo hcd) ((dn_sorted N ps p t).imp (fun h => by omega))]
      intro v
      rw [nodes_mem hg ha d y p hbo hcd v, dn_mem]
      constructor
      · intro hv
        have hin : 1 ≤ v ∧ v ≤ (N : Int) := conn_ind (P := fun v => 1 ≤ v ∧ v ≤ (N : Int)) hy12 (fun u v _ _ hadj => by
          obtain ⟨e, he, hj⟩ := hadj
          have h3 := good_pp hg (mem_Wo.1 he).1
          rcases hj with ⟨_, rfl⟩ | ⟨_, rfl⟩
          · exact ⟨h3.2.2.2.2.1, h3.2.2.2.2.2.1⟩
          · exact ⟨h3.2.2.1, h3.2.2.2.1⟩) v hv
        exact ⟨hin, (hb v hin.1 hin.2).2 hv⟩
      · rintro ⟨hin, hv⟩
        exact (hb v hin.1 hin.2).1 hv
end Go.Proofs.Ytpldbakllegheaa.S2

namespace Go.Proofs.Ytpldbakllegheaa.S2
open Go.RowKit P2

theorem fiI_at0 (l : List Int) (k : Nat) (h : k < l.length) : (fiI l k)[k]? = some (iv 0) := by
  unfold fiI
  have e : ((l.take k).map iv).length = k := by simp; omega
  rw [List.getElem?_append_right (by omega), e, Nat.sub_self, List.getElem?_replicate, if_pos (by omega)]
theorem fiI_set0 (l : List Int) (k : Nat) (h : k < l.length) : (fiI l k).set k (iv 0) = fiI l k := by
  apply List.ext_getElem?
  intro i
  rw [List.getElem?_set]
  by_cases e : k = i
  · subst e
    rw [if_pos rfl, fiI_at0 l k h, if_pos (by rw [fiI_len l k (by omega)]; exact h)]
  · rw [if_neg e]
theorem grown_drewF (w : World) (row : Option Nat) : w.grownBy w.drew row := ⟨rfl, rfl, rfl, Nat.le_refl _, fun _ _ _ => rfl⟩
abbrev q00 : Pp := ⟨0, 0, 0, 0⟩

set_option maxHeartbeats 1000000 in
theorem tfl_no1 (n : Int) (A : Option Addr) (cap : Nat) (ps : List Pp) (x : Int) (AD : Option Addr) (dc : Nat) (dm : List Int) (w : World) (hT : ∀ w', Below w.heap.size w w' → Calls Try.prog 89 #[nv n A ps.length cap, .int .i64 x] w' fun e w'' => e = .returned (.tuple #[bv 0 ⟨0, 0, 0, 0⟩ none 0 0, .bool false]) ∧ Below w'.heap.size w' w'') :
    Calls Try.prog 40 #[nv n A ps.length cap, .int .i64 x, .slice AD dm.length dc] w (GivesI w [] false) := by
  have H := Lib.hid hT
  clear hT
  go_enter Try.func40, Try.ntmps40
  go_wp2_with (go_at_call 89; refine (H.out _ ((Below.refl _ _).alloc (Nat.le_refl _) _)).mono ?_; rintro e w1 ⟨rfl, hb1⟩; have hB1 := Lib.hid (((Below.refl w.heap.size w).alloc (Nat.le_refl _) (nb n A ps.length cap)).trans (hb1.mono (by simp))); clear hb1)
  go_ret2
  have h9 := gives_none (hB1.out.alloc hB1.out.size (.cells #[.int .i64 0, .int .i64 0, .int .i64 0, .int .i64 0, .int .i64 0, .slice none 0 0] 102))
  rw [show (w1.alloc (.cells #[.int .i64 0, .int .i64 0, .int .i64 0, .int .i64 0, .int .i64 0, .slice none 0 0] 102)).heap.size = w1.heap.size + 1 from by simp] at h9
  exact h9
set_option maxHeartbeats 2000000 in
set_option maxRecDepth 100000 in
theorem tfl_no2 (N t : Nat) (A : Option Addr) (cap : Nat) (ps : List Pp) (AD : Option Addr) (dc : Nat) (dm : List Int) (w : World) (h : PAt w A ps) (hm : ps.length ≤ maxLen) (hd : IAt w AD dm) (hdl : dm.length ≤ 1048576) (hv : demB N ps dm = false) (hT : ∀ w', Below w.heap.size w w' → Calls Try.prog 89 #[nv N A ps.length cap, .int .i64 (t : Int)] w' (TfIs N ps t w')) :
    Calls Try.prog 40 #[nv N A ps.length cap, .int .i64 (t : Int), .slice AD dm.length dc] w (GivesI w [] false) := by
  have H := Lib.hid hT
  have H2 := Lib.hid (fun w' (hb : Below w.heap.size w w') => dem_v hv A cap AD dc w' (h.kept hb (Nat.le_refl _)) hm (hd.kept hb (Nat.le_refl _)) hdl)
  clear hT h hd hv
  go_enter Try.func40, Try.ntmps40
  go_wp2_with (first
    | (go_at_call 89; refine (H.out _ ((Below.refl _ _).alloc (Nat.le_refl _) _)).mono ?_; rintro e w1 ⟨A4, c4, rfl, hrep, hb1⟩; have HB1 := Lib.hid (show Below (w.heap.size + 1) (w.alloc (nb N A ps.length cap)) w1 from by simpa using hb1); clear hb1 hrep; obtain ⟨b0, b1⟩ := box2 HB1.out; have hy1 : w.heap.size < w1.heap.size := box_lt HB1.out; generalize (kidsL ps (t : Int) ⟨0, 0, 0, 0⟩).length = m4)
    | (go_at_call 90; refine (H2.out _ ((below_box HB1.out).alloc (below_box HB1.out).size _)).mono ?_; rintro e w2 ⟨rfl, hb2⟩; have HB2 := Lib.hid (((below_box HB1.out).alloc (below_box HB1.out).size (.cells #[.int .i64 (t : Int), .int .i64 0, .int .i64 0, .int .i64 0, .int .i64 0, .slice A4 m4 c4] 102)).trans (hb2.mono (by have := (below_box HB1.out).size; simp; omega)))))
  go_ret2
  exact gives_none HB2.out

set_option maxHeartbeats 4000000 in
set_option maxRecDepth 100000 in
theorem tfl_yes (N t : Nat) (A : Option Addr) (cap : Nat) (ps : List Pp) (AD : Option Addr) (dc : Nat) (dm : List Int) (w : World) (h : PAt w A ps) (hm : ps.length ≤ maxLen) (hd : IAt w AD dm) (hdl : dm.length ≤ 1048576) (hn : nodeB N ps t = true) (ht : treeB N ps = true) (hv : demB N ps dm = true) :
    Calls Try.prog 40 #[nv N A ps.length cap, .int .i64 (t : Int), .slice AD dm.length dc] w (GivesI w (tfL N ps t dm) true) := by
  obtain ⟨hg, hdn, hr⟩ := demB_of hv
  obtain ⟨_, ht1, ht2⟩ := nodeB_of hn
  have hl10 := hg.2.2.1
  have hN8 := hg.2.1
  have ha := (tree_full hg ht).1
  have H := Lib.hid (fun w' (hb : Below w.heap.size w w') => tf_ok hn ht ha A cap w' (h.kept hb (Nat.le_refl _)) hm)
  have H2 := Lib.hid (fun w' (hb : Below w.heap.size w w') => dem_v hv A cap AD dc w' (h.kept hb (Nat.le_refl _)) hm (hd.kept hb (Nat.le_refl _)) hdl)
  have HA := Lib.hid (fun w' (hb : Below w.heap.size w w') => h.kept hb (Nat.le_refl _))
  have HI := Lib.hid (fun w' (hb : Below w.heap.size w w') => hd.kept hb (Nat.le_refl _))
  have HFE := Lib.hid (fun k (hk : k < ps.length) => far_end (t := t) hg ht (by omega) (by omega) (pAt_mem hk))
  have HBB := Lib.hid (fun (B : Nat) (p0 : Pp) (A : Option Addr) (cap : Nat) (w : World) (hB : B ≤ w.heap.size) (hr : RepIn ps (fun b => b < B) (N + 1) w A t ⟨0, 0, 0, 0⟩) => bbeh_any (fun b => b < B) B (fun _ h => h) hg ha p0 (N + 1) t ⟨0, 0, 0, 0⟩ A cap w hB (br_root hg (by omega) (by omega)) (cnt_le _ _ _ _) hr)
  have HBN := Lib.hid (fun (B d : Nat) (x : Int) (q : Pp) (A : Option Addr) (cap : Nat) (w : World) => bnodes_any ps (fun b => b < B) hl10 d x q A cap w)
  have HTK := Lib.hid (fun (l : List Int) (hmm : ∀ v, v ∈ l → 1 ≤ v ∧ v ≤ (N : Int)) (hl : l.length ≤ 8) k (hk : k ≤ l.length) => sumT_in hr (by omega) hmm hl hk)
  have HTI := Lib.hid (fun v (h1 : 1 ≤ v) (h2 : v ≤ (N : Int)) => tk_in hr (by omega) h1 h2)
  have HLL := Lib.hid (tfL_len N ps t dm)
  have HLA := Lib.hid (fun k (hk : k < ps.length) => tfL_at (N := N) (s := t) (dm := dm) hk)
  have HDL := Lib.hid hdn
  have hmk := run_make_row' (P := Try.prog) 25 3 (.int .i64 0) 8 Try.underlying25 infoI rfl .i64 .i64 ps.length (by omega) (by omega)
  have HO := Lib.hid (fun w => made_own (tfL N ps t dm) w (by rw [tfL_len]; omega))
  have HF := Lib.hid (fiI_full (tfL N ps t dm))
  have HFS := Lib.hid (fun k (hk : k < ps.length) => fiI_set (tfL N ps t dm) k (by rw [tfL_len]; exact hk))
  have HF0 := Lib.hid (fun k (hk : k < ps.length) => fiI_set0 (tfL N ps t dm) k (by rw [tfL_len]; exact hk))
  have HFL := Lib.hid (fun k (hk : k ≤ ps.length) => fiI_len (tfL N ps t dm) k (by rw [tfL_len]; exact hk))
  rw [HLL.out] at HO HF HFL
  clear h hm hd hdl hn ht hv hr ha hg hdn
  go_enter Try.func40, Try.ntmps40
  go_wp2_with (first
    | (go_at_call 89; refine (H.out _ ((Below.refl _ _).alloc (Nat.le_refl _) _)).mono ?_; rintro e w1 ⟨A4, c4, rfl, hrep, hb1⟩; have HB1 := Lib.hid (show Below (w.heap.size + 1) (w.alloc (nb N A ps.length cap)) w1 from by simpa using hb1); have HREP1 := Lib.hid hrep; clear hb1 hrep; obtain ⟨b0, b1⟩ := box2 HB1.out; have hy1 : w.heap.size < w1.heap.size := box_lt HB1.out; obtain ⟨m4, hm4⟩ : ∃ m4, (kidsL ps (t : Int) ⟨0, 0, 0, 0⟩).length = m4 := ⟨_, rfl⟩; rw [hm4] at HBB; have HM4 := Lib.hid hm4; rw [hm4]; clear hm4)
    | (go_at_call 90; refine (H2.out _ ((below_box HB1.out).alloc (below_box HB1.out).size _)).mono ?_; rintro e w2 ⟨rfl, hb2⟩; refine Hid.out ?_))
  have hab1 := alloc_belowE w1 (.cells #[.int .i64 (t : Int), .int .i64 0, .int .i64 0, .int .i64 0, .int .i64 0, .slice A4 m4 c4] 102)
  have hb12 : Below w1.heap.size w1 w2 := hab1.trans (hb2.mono (by simp))
  have HX2 := Lib.hid (on_call HB1.out hb12)
  have HB2 := Lib.hid (below_box HX2.out)
  have hz12 : w1.heap.size < w2.heap.size := by have := hb2.size; simp at this; omega
  have HT2 : Hid (BC w2 w1.heap.size 0 t ⟨0, 0, 0, 0⟩ (.slice A4 m4 c4)) := Lib.hid (by
    have hz : w1.heap.size < (w1.alloc (.cells #[.int .i64 (t : Int), .int .i64 0, .int .i64 0, .int .i64 0, .int .i64 0, .slice A4 m4 c4] 102)).heap.size := by simp
    exact ⟨(hb2.cell (p := ⟨w1.heap.size, 0, none⟩) hz).trans (cells_new6 w1 _ _ _ _ _ _ _ 0 _ rfl), (hb2.cell (p := ⟨w1.heap.size, 1, none⟩) hz).trans (cells_new6 w1 _ _ _ _ _ _ _ 1 _ rfl), (hb2.cell (p := ⟨w1.heap.size, 2, none⟩) hz).trans (cells_new6 w1 _ _ _ _ _ _ _ 2 _ rfl), (hb2.cell (p := ⟨w1.heap.size, 3, none⟩) hz).trans (cells_new6 w1 _ _ _ _ _ _ _ 3 _ rfl), (hb2.cell (p := ⟨w1.heap.size, 4, none⟩) hz).trans (cells_new6 w1 _ _ _ _ _ _ _ 4 _ rfl), (hb2.cell (p := ⟨w1.heap.size, 5, none⟩) hz).trans (cells_new6 w1 _ _ _ _ _ _ _ 5 _ rfl)⟩)
  have HREP2 := Lib.hid (RepIn.kept (Q := fun b => b < w2.heap.size) (fun b _ hlt => (show b < w2.heap.size by omega)) (fun b _ hlt => hb12.block b hlt) hb12.size _ _ _ _ HREP1.out)
  have HO2 := Lib.hid (HO.out w2)
  clear b0 b1
  obtain ⟨b0, b1⟩ := box2 HX2.out
  have hy2 := box_lt HX2.out
  clear hab1 hb12 hb2 HB1 HREP1 H H2 HO
  refine Lib.hid ?_
  go_wp2
  clear hmk
  have HB0 := Lib.hid (show Below w2.heap.size w2 (w2.alloc (.cells (madeCells #[.int .i64 0] ps.length) 3)) from (Below.refl _ _).alloc (Nat.le_refl _) _)
  go_loopw [39] (fun i wr => ∃ k : Nat, k ≤ ps.length ∧ i = .int .i64 k ∧ Hid (wr.ownsRow w2.heap.size 3 1 (.slice (some ⟨w2.heap.size, 0, none⟩) ps.length ps.length) ps.length (fiI (tfL N ps t dm) k)) ∧ Hid (Below w2.heap.size w2 wr)) (fun i _ => ps.length - (intOf i).toNat)
  case atStart => exact ⟨0, Nat.zero_le _, rfl, HO2, HB0⟩
  case round =>
    clear HB0 HO2
    obtain ⟨k, hk, rfl, hown, hB⟩ := hrel
    by_cases hlt : k < ps.length
    · obtain ⟨b, off, hA, hbl, p0, p1, p2, p3⟩ := (HA.out _ (HB2.out.trans (hB.out.mono HB2.out.size))).at_ hlt
      subst hA
      have hk0 : (0 : Int) ≤ (k : Int) := by omega
      have hkn : (k : Int) < (ps.length : Int) := by omega
      obtain ⟨y, hfy, hy12, hyb, hys, hyp⟩ := HFE.out k hlt
      have HFA := Lib.hid (HLA.out k hlt)
      have HS0 := Lib.hid (HFS.out k hlt)
      have HZ0 := Lib.hid (HF0.out k hlt)
      rw [HFA.out] at HS0
      have HFLO := Lib.hid (show ((pAt ps k).fr = y → flowA N ps t dm k = -(sumG (tk dm) (dnL N ps (pAt ps k) t))) ∧ (¬ (pAt ps k).fr = y → flowA N ps t dm k = sumG (tk dm) (dnL N ps (pAt ps k) t)) from ⟨fun e => by unfold flowA; rw [if_pos (hys.2 e)], fun e => by unfold flowA; rw [if_neg (fun h => e (hys.1 h))]⟩)
      have HYP := Lib.hid hyp
      have HFY := Lib.hid hfy
      have HDM := Lib.hid (fun v (h : v ∈ dnL N ps (pAt ps k) t) => (dn_mem.1 h).1)
      have HDN := Lib.hid (dn_len N ps (pAt ps k) t)
      have hrow := (hown.out.lt w2.heap.size rfl).2
      clear hfy hyb hys hyp hy12 HFA HFE HLA HFS HF0
      generalize flowA N ps t dm k = F at *
      generalize pAt ps k = p at *
      have hab := alloc_belowE wr (.cells #[.int .i64 p.id, .int .i64 p.fr, .int .i64 p.to, .int .i64 p.sz] 63)
      have hO2 := Lib.hid (own_on hown.out hab)
      have hBa := Lib.hid (hB.out.trans (hab.mono hB.out.size))
      have d0 := cells4 wr (.int .i64 p.id) (.int .i64 p.fr) (.int .i64 p.to) (.int .i64 p.sz) 63 0 _ rfl
      have d1 := cells4 wr (.int .i64 p.id) (.int .i64 p.fr) (.int .i64 p.to) (.int .i64 p.sz) 63 1 _ rfl
      have d2 := cells4 wr (.int .i64 p.id) (.int .i64 p.fr) (.int .i64 p.to) (.int .i64 p.sz) 63 2 _ rfl
      have d3 := cells4 wr (.int .i64 p.id) (.int .i64 p.fr) (.int .i64 p.to) (.int .i64 p.sz) 63 3 _ rfl
      have hzz : wr.heap.size < (wr.alloc (.cells #[.int .i64 p.id, .int .i64 p.fr, .int .i64 p.to, .int .i64 p.sz] 63)).heap.size := by simp
      have hz2r := hB.out.size
      obtain ⟨t0, t1, t2, t3, t4, t5⟩ := HT2.out.kept (hBa.out.block w1.heap.size hz12)
      have htz : w1.heap.size < (wr.alloc (.cells #[.int .i64 p.id, .int .i64 p.fr, .int .i64 p.to, .int .i64 p.sz] 63)).heap.size := by omega
      have HRP := Lib.hid (HREP2.out.below hBa.out)
      go_wp2_with (first
        | (go_at_call 91; refine (HBB.out w2.heap.size p A4 c4 _ (by simp; omega) HRP.out).mono ?_; rintro e w5 ⟨hbe, hb5⟩; rw [HFY.out] at hbe; obtain ⟨A5, c5, d5, rfl, hbo, hcd, hrep5⟩ := beh_some hbe; obtain ⟨m5, hm5⟩ : ∃ m5, (kidsL ps y p).length = m5 := ⟨_, rfl⟩; have HBN5 := Lib.hid (HBN.out w2.heap.size d5 y p A5 c5); rw [hm5] at HBN5; rw [hm5]; clear hm5; refine Hid.out ?_))
      have hperm := HYP.out d5 hbo hcd
      obtain ⟨l, hl⟩ : ∃ l, nodesL ps d5 y p = l := ⟨_, rfl⟩
      rw [hl] at hperm HBN5
      have hl8 : l.length ≤ 8 := by rw [hperm.length_eq]; have := HDN.out; omega
      have hlm : ∀ v, v ∈ l → 1 ≤ v ∧ v ≤ (N : Int) := fun v hv => HDM.out v (hperm.mem_iff.1 hv)
      have HLM := Lib.hid (fun j (hj : j < l.length) => (show 1 ≤ lA l j ∧ lA l j ≤ (N : Int) from hlm _ (by
        have e : lA l j = l[j] := by simp [lA, List.getD, hj]
        rw [e]; exact List.getElem_mem hj)))
      have HSK := Lib.hid (fun j (hj : j ≤ l.length) => HTK.out l hlm hl8 j hj)
      have hsum : sumK (fun i => tk dm (lA l i)) l.length = sumG (tk dm) (dnL N ps p t) := by rw [sumG_all, sumG_perm hperm]
      rw [← hsum] at HFLO
      have hb5a := hBa.out.trans (hb5.mono hBa.out.size)
      have hbr5 := hab.trans (hb5.mono hab.size)
      clear hperm hl hlm hsum hbo hcd hbe HYP HFY HDN HDM HBN HRP t0 t1 t2 t3 t4 t5 htz p0 p1 p2 p3 hbl
      have HR5 := Lib.hid hrep5
      have hO5 := own_on hO2.out hb5
      have e1 := (hb5.cell (p := ⟨wr.heap.size, 1, none⟩) hzz).trans d1
      have hz5 : wr.heap.size < w5.heap.size := by have := hb5.size; omega
      have hab5 := alloc_belowE w5 (.cells #[.int .i64 y, .int .i64 p.id, .int .i64 p.fr, .int .i64 p.to, .int .i64 p.sz, .slice A5 m5 c5] 102)
      have e2 := (hab5.cell (p := ⟨wr.heap.size, 1, none⟩) hz5).trans e1
      have hO5a := Lib.hid (own_on hO5 hab5)
      have hbase5 := Lib.hid (hb5a.trans (hab5.mono hb5a.size))
      have f0 := cells_new6 w5 (.int .i64 y) (.int .i64 p.id) (.int .i64 p.fr) (.int .i64 p.to) (.int .i64 p.sz) (.slice A5 m5 c5) 102 0 _ rfl
      have hz55 : w5.heap.size < (w5.alloc (.cells #[.int .i64 y, .int .i64 p.id, .int .i64 p.fr, .int .i64 p.to, .int .i64 p.sz, .slice A5 m5 c5] 102)).heap.size := by simp
      have HRP5 := Lib.hid (hrep5.below hab5)
      have hzg5 : w2.heap.size < w5.heap.size := by omega
      clear d0 d1 d2 d3 hzz hab hO2 hBa hO5 e1 hb5 hrep5 hb5a hbr5 HR5 hab5
      refine Lib.hid ?_
      go_wp2_with (first
        | (go_at_call 92; refine (HBN5.out _ HRP5.out (by omega)).mono ?_; rintro e w6 ⟨gN, cN, rfl, hgN, hON, hb6⟩; refine Hid.out ?_))
      have g1 := (hb6.cell (p := ⟨wr.heap.size, 1, none⟩) (by simp; omega)).trans e2
      have g2 := (hb6.cell (p := ⟨w5.heap.size, 0, none⟩) hz55).trans f0
      have HO6 := Lib.hid (own_on hO5a.out hb6)
      have HB6 := Lib.hid (hbase5.out.trans (hb6.mono hbase5.out.size))
      have HN6 := Lib.hid hON.iat
      have hz6 : w5.heap.size < w6.heap.size := by have := hb6.size; omega
      have hgN2 : w5.heap.size < gN := by simp at hgN; omega
      have hgNl := iown_lt' hON
      clear e2 f0 hO5a hbase5 hb6 hON HRP5 hz55 HBN5 hgN
      refine Lib.hid ?_
      go_wp2
      have hkx := HFL.out k hk
      have HX0 := Lib.hid (show w6.ownsRow w2.heap.size 3 1 (.slice (some ⟨w2.heap.size, 0, none⟩) ps.length ps.length) ps.length ((fiI (tfL N ps t dm) k).set k (iv (sumK (fun i => tk dm (lA l i)) 0))) from by
        have := HO6.out
        rw [← HZ0.out] at this
        exact this)
      have HG0 := Lib.hid (show w6.grownBy w6 (some w2.heap.size) from grown_refl w6 _)
      have hgw6 : w2.heap.size < w6.heap.size := by omega
      generalize fiI (tfL N ps t dm) k = XS at *
      obtain ⟨XS1, hXS1⟩ : ∃ z, fiI (tfL N ps t dm) (k + 1) = z := ⟨_, rfl⟩
      rw [hXS1] at HS0
      have HXS1 := Lib.hid hXS1
      clear hXS1
      obtain ⟨SM, hSM⟩ : ∃ SM, SM = (fun j => sumK (fun i => tk dm (lA l i)) j) := ⟨_, rfl⟩
      have HSM0 := Lib.hid (fun j => (congrFun hSM j).symm)
      have HSM1 := Lib.hid (fun j => show SM (j + 1) = SM j + tk dm (lA l j) by rw [hSM]; rfl)
      clear hSM
      rw [HSM0.out 0] at HX0
      rw [HSM0.out l.length] at HFLO
      have HSK2 := Lib.hid (fun j (hj : j ≤ l.length) => (show 0 ≤ SM j ∧ SM j ≤ 8000 by have := HSK.out j hj; rw [HSM0.out j] at this; exact this))
      have HSZ := Lib.hid (show SM 0 = 0 by rw [← HSM0.out 0]; rfl)
      clear HSM0 HSK HO6 HZ0 hown hB
      obtain ⟨wo, hwo⟩ : ∃ wo, wo = wr := ⟨_, rfl⟩
      subst hwo
      go_loopw [53] (fun i wi => ∃ j : Nat, j ≤ l.length ∧ i = .int .i64 (j : Int) ∧ Hid (wi.ownsRow w2.heap.size 3 1 (.slice (some ⟨w2.heap.size, 0, none⟩) ps.length ps.length) ps.length (XS.set k (iv (SM j)))) ∧ Hid (w6.grownBy wi (some w2.heap.size)) ∧ Hid (Below w2.heap.size w2 wi)) (fun i _ => l.length - (intOf i).toNat)
      case atStart => exact ⟨0, Nat.zero_le _, rfl, HX0, HG0, HB6⟩
      case round =>
        obtain ⟨j, hj, rfl, hrw, hgr, hBi⟩ := hrel
        clear HX0 HG0
        by_cases hjl : j < l.length
        · obtain ⟨v1, v2⟩ := HLM.out j hjl
          obtain ⟨u, hu⟩ : ∃ u : Nat, lA l j = (u : Int) + 1 := ⟨(lA l j - 1).toNat, by omega⟩
          have hud : u < dm.length := by have := HDL.out; omega
          obtain ⟨bb, of2, hA2, hbl2, x0⟩ := (HI.out _ (HB2.out.trans (hBi.out.mono HB2.out.size))).at_ hud
          subst hA2
          obtain ⟨bN, oN, hAN, hblN, x1⟩ := (HN6.out.far hgr.out (by omega)).at_ hjl
          simp only [Option.some.injEq, Addr.mk.injEq, and_true] at hAN
          obtain ⟨rfl, rfl⟩ := hAN
          rw [Nat.zero_add] at x1
          have hla : l.getD j 0 = lA l j := rfl
          rw [hla, hu] at x1
          have hs0 := HSK2.out j (by omega)
          have hs1 := HSK2.out (j + 1) hjl
          have hsn := HSM1.out j
          have htk : tk dm (lA l j) = dm.getD u 0 := by unfold tk; rw [hu, Int.add_sub_cancel, Int.toNat_natCast]
          rw [htk] at hsn
          have HSN := Lib.hid hsn
          rw [hsn] at hs1
          have hgrow := (hrw.out.lt w2.heap.size rfl).2
          have hj0 : (0 : Int) ≤ (j : Int) := by omega
          have hjn : (j : Int) < (l.length : Int) := by omega
          have hu0 : (0 : Int) ≤ (u : Int) := by omega
          have hun : (u : Int) < (dm.length : Int) := by omega
          have hcell := (hrw.out.cellAt k (by omega)).trans (show (XS.set k (iv (SM j)))[k]? = some (iv (SM j)) by rw [List.getElem?_set, if_pos rfl, if_pos (by rw [hkx]; exact hlt)])
          have hfz := hrw.out.frozenAt k
          have hst0 := hrw.out.stored k (iv (SM j + dm.getD u 0))
          rw [List.set_set] at hst0
          have HST := Lib.hid hst0
          clear hst0 hsn htk hla hu v1 v2
          generalize dm.getD u 0 = x at *
          generalize SM j = s at *
          have wS : IntKind.i64.wrap (s + x) = s + x := w64 _ (by omega)
          have hu9 : (u : Int) < 9 := by have := HDL.out; omega
          have wU : IntKind.i64.wrap ((u : Int) + 1 - 1) = (u : Int) := by rw [w64 _ (by omega)]; omega
          have wU2 : IntKind.i64.wrap (u : Int) = (u : Int) := w64 _ (by omega)
          go_wp2
          go_region_with (fail)
          all_goals
            go_wp2
            go_roundw
            · exact ⟨j + 1, by omega, by go_num, by rw [HSN.out]; exact Lib.hid HST.out.1, Lib.hid ((hgr.out.trans HST.out.2).trans (grown_drewF _ _)), Lib.hid (hBi.out.setCell (p := ⟨w2.heap.size, k, none⟩) (Nat.le_refl _) _).drew⟩
            · simp [intOf]; omega
        · have ej : j = l.length := by omega
          subst ej
          have y1 := (hgr.out.cell_far ⟨wo.heap.size, 1, none⟩ (by dsimp only; omega) (by simp; omega)).trans g1
          have y2 := (hgr.out.cell_far ⟨w5.heap.size, 0, none⟩ (by dsimp only; omega) (by simp; omega)).trans g2
          have hszi := hgr.out.size
          have hyz1 : wo.heap.size < wr.heap.size := by omega
          have hyz2 : w5.heap.size < wr.heap.size := by omega
          have hs0 := HSK2.out l.length (Nat.le_refl _)
          have hgrow := (hrw.out.lt w2.heap.size rfl).2
          by_cases hpy : p.fr = y
          · have hF := HFLO.out.1 hpy
            have g0 : (p.fr == y) = true := beq_iff_eq.2 hpy
            have hcell := (hrw.out.cellAt k (by omega)).trans (show (XS.set k (iv (SM l.length)))[k]? = some (iv (SM l.length)) by rw [List.getElem?_set, if_pos rfl, if_pos (by rw [hkx]; exact hlt)])
            have hfz := hrw.out.frozenAt k
            have hst0 := hrw.out.stored k (iv (-(SM l.length)))
            rw [List.set_set, ← hF, HS0.out] at hst0
            have HST := Lib.hid hst0
            have HFF := Lib.hid hF
            clear hst0 hF hpy
            generalize SM l.length = s at *
            go_wp2
            go_roundw
            case rel => exact ⟨k + 1, by omega, by go_num, by rw [HXS1.out]; have := HST.out.1; rw [HFF.out] at this; exact Lib.hid this, Lib.hid (hBi.out.setCell (p := ⟨w2.heap.size, k, none⟩) (Nat.le_refl _) _)⟩
            case measure => simp [intOf]; omega
          · have hF := HFLO.out.2 hpy
            have g0 : (p.fr == y) = false := beq_eq_false_iff_ne.2 hpy
            have hrow2 := hrw.out
            rw [← hF, HS0.out] at hrow2
            have HRW := Lib.hid hrow2
            clear hrow2 hF hpy
            go_wp2
            go_roundw
            case rel => exact ⟨k + 1, by omega, by go_num, by rw [HXS1.out]; exact HRW, hBi⟩
            case measure => simp [intOf]; omega
    · have e : k = ps.length := by omega
      subst e
      have hown2 := hown.out
      rw [HF.out] at hown2
      have H2 := Lib.hid hown2
      clear hown hown2
      go_wp2
      go_ret2
      exact ⟨_, _, by rw [HLL.out]; rfl, by omega, own_lower (by unfold IOwn; rw [HLL.out]; exact H2.out), HB2.out.trans (hB.out.mono HB2.out.size)⟩
end Go.Proofs.Ytpldbakllegheaa.S2

namespace Go.Proofs.Ytpldbakllegheaa.S2
open Go.RowKit P2

theorem wo_mem {n : Int} {ps : List Pp} (hg : P2.Good n ps) {i : Nat} (hi : i < ps.length) {e : Pp} : e ∈ wo ps i ↔ e ∈ Wo ps (pAt ps i) := by
  rw [mem_Wo]
  have hid := good_ids hg
  constructor
  · intro h
    refine ⟨(wo_sub ps i).subset h, fun he => ?_⟩
    unfold wo at h
    rcases List.mem_append.1 h with h | h
    · obtain ⟨j, hj, hje⟩ := List.getElem_of_mem h
      rw [List.length_take] at hj
      have h2 : pAt ps j = e := by rw [List.getElem_take] at hje; simp [pAt, List.getD, show j < ps.length by omega, hje]
      have := hid j i (by omega) hi
      rw [h2, he] at this
      omega
    · obtain ⟨j, hj, hje⟩ := List.getElem_of_mem h
      rw [List.length_drop] at hj
      have h2 : pAt ps (i + 1 + j) = e := by rw [List.getElem_drop] at hje; simp [pAt, List.getD, show i + 1 + j < ps.length by omega, hje]
      have := hid i (i + 1 + j) (by omega) (by omega)
      rw [h2, he] at this
      omega
  · rintro ⟨h, hne⟩
    obtain ⟨j, hj, rfl⟩ := pp_at h
    unfold wo
    rw [List.mem_append]
    by_cases h1 : j < i
    · left
      have e1 : pAt ps j = (ps.take i)[j]'(by rw [List.length_take]; omega) := by rw [List.getElem_take]; simp [pAt, List.getD, hj]
      rw [e1]; exact List.getElem_mem _
    · have h2 : j ≠ i := fun e => hne (by rw [e])
      right
      have e1 : pAt ps j = (ps.drop (i + 1))[j - (i + 1)]'(by rw [List.length_drop]; omega) := by
        rw [List.getElem_drop]
        have : i + 1 + (j - (i + 1)) = j := by omega
        simp [pAt, List.getD, hj, this]
      rw [e1]; exact List.getElem_mem _
theorem wo_conn {n : Int} {ps : List Pp} (hg : P2.Good n ps) {i : Nat} (hi : i < ps.length) {a b : Int} : Conn (wo ps i) a b ↔ Conn (Wo ps (pAt ps i)) a b :=
  ⟨conn_mono fun _ h => (wo_mem hg hi).1 h, conn_mono fun _ h => (wo_mem hg hi).2 h⟩
theorem wet_has {N t : Nat} {ps : List Pp} (hg : P2.Good N ps) {i : Nat} (hi : i < ps.length) {v : Int} (h1 : 1 ≤ v) (h2 : v ≤ N) : hasB (conL N (wo ps i) t) v = !(dnB ps (pAt ps i) t v) := by
  unfold hasB
  cases e : dnB ps (pAt ps i) t v with
  | true =>
    rw [Bool.not_true]
    exact decide_eq_false fun h => dnB_true.1 e ((wo_conn hg hi).1 ((con_mem _ _ _ _).1 h).2.2)
  | false =>
    rw [Bool.not_false]
    refine decide_eq_true ((con_mem _ _ _ _).2 ⟨h1, h2, (wo_conn hg hi).2 (Classical.byContradiction fun h => ?_)⟩)
    rw [dnB_true.2 h] at e
    cases e
theorem dn_has {N : Nat} {ps : List Pp} {p : Pp} {s v : Int} (h1 : 1 ≤ v) (h2 : v ≤ N) : hasB (dnL N ps p s) v = dnB ps p s v := by
  unfold hasB
  cases e : dnB ps p s v with
  | true => exact decide_eq_true (dn_mem.2 ⟨⟨h1, h2⟩, dnB_true.1 e⟩)
  | false => exact decide_eq_false fun h => by rw [dnB_true.2 (dn_mem.1 h).2] at e; cases e
theorem dhas_v {l : List Int} {x : Int} {v : Bool} (hv : hasB l x = v) (A : Option Addr) (cap : Nat) (w : World) (h : IAt w A l) (hn : l.length ≤ 1048576) :
    Calls Try.prog 73 #[.slice A l.length cap, .int .i64 x] w fun e w' => e = .returned (.bool v) ∧ w' = w := by rw [← hv]; exact has_any A cap l x w h hn

set_option maxHeartbeats 4000000 in
set_option maxRecDepth 100000 in
theorem sdn_any (N t i : Nat) (A : Option Addr) (cap : Nat) (ps : List Pp) (w : World) (h : PAt w A ps) (hc : ps.length = cap) (hg : P2.Good N ps) (ht1 : 1 ≤ t) (ht2 : t ≤ N) (hil : i < ps.length) :
    Calls Try.prog 93 #[nv N A ps.length cap, .int .i64 (t : Int), .int .i64 (i : Int)] w (GivesL w (dnL N ps (pAt ps i) t)) := by
  have hl10 := hg.2.2.1
  have hN : N ≤ 8 := by have := hg.2.1; omega
  have H1 := Lib.hid (fun w' (hb : Below w.heap.size w w') => sw_all N i cap A ps w' (h.kept hb (Nat.le_refl _)) hil hc hl10)
  have H2 := Lib.hid (fun A2 c w' (hp : PAt w' A2 (wo ps i)) => sreach_any N t A2 c (wo ps i) w' hp (good_sub hg (wo_sub ps i)) ht1 ht2)
  have HH := Lib.hid (fun (k : Nat) (hk : k < N) => wet_has (t := t) hg hil (v := (k : Int) + 1) (by omega) (by omega))
  have hcl := conL_len N (wo ps i) t
  have HL := Lib.hid (show dnL N ps (pAt ps i) t = dnTo ps (pAt ps i) t N from rfl)
  obtain ⟨i0, hi, hz0, hz1, hz2⟩ := info_parts infoI
  clear h hg hc
  generalize pAt ps i = p at *
  go_enter Try.func93, Try.ntmps93
  go_wp2_with (first
    | (go_at_call 117; refine (H1.out _ ((Below.refl _ _).alloc (Nat.le_refl _) _)).mono ?_; rintro e w1 ⟨A2, c2, rfl, hp2, hb1⟩; have HX1 := Lib.hid (show Below (w.heap.size + 1) (w.alloc (nb N A ps.length cap)) w1 by simpa using hb1); have HP2 := Lib.hid hp2; clear hb1 hp2)
    | (go_at_call 74; refine (H2.out _ _ _ HP2.out).mono ?_; rintro e w2 ⟨g, o, c, rfl, hg2, hla, hb2⟩; have HX2 := Lib.hid (on_call HX1.out hb2); have HLA := Lib.hid hla.iat; clear hb2 hla; refine Hid.out ?_))
  have hBX := HX2.out
  have hz2w := box_lt hBX
  have HB2 := Lib.hid (below_box hBX)
  obtain ⟨b0, b1⟩ := box2 hBX
  have HO0 := Lib.hid (own_empty w2 w2.heap.size (Nat.le_refl _))
  have HB0 := Lib.hid (show Below w2.heap.size w2 (w2.alloc (.cells #[] 3)) from (Below.refl _ _).alloc (Nat.le_refl _) _)
  clear H1 H2 HX1 HP2 hBX
  refine Lib.hid ?_
  go_wp2
  go_loopw [8, 9] (fun v i wr => ∃ k : Nat, k ≤ N ∧ i = .int .i64 ((k : Int) + 1) ∧ Hid (IOwn wr w2.heap.size v (dnTo ps p t k)) ∧ Hid (v ≠ .slice none 0 0) ∧ Hid (Below w2.heap.size w2 wr)) (fun _ i _ => N + 1 - (intOf i).toNat)
  case atStart => exact ⟨0, Nat.zero_le _, rfl, HO0, Lib.hid (by simp), HB0⟩
  case round =>
    clear HO0 HB0
    obtain ⟨k, hk, rfl, hown, hvn, hB⟩ := hrel
    have c0 := (hB.out.cell (p := ⟨w.heap.size, 0, none⟩) hz2w).trans b0
    have hzr : w.heap.size < wr.heap.size := by have := hB.out.size; omega
    by_cases hlt : k < N
    · have HW := Lib.hid (HLA.out.kept hB.out (Nat.le_refl _))
      have hhas := HH.out k hlt
      have hdl := dnTo_len ps p t k
      have hk0 : (k : Int) + 1 ≤ (N : Int) := by omega
      cases hd : dnB ps p t ((k : Int) + 1) with
      | false =>
        rw [hd, Bool.not_false] at hhas
        have HC := Lib.hid (fun w' h => dhas_v hhas (some ⟨g, o, none⟩) c w' h (by omega))
        have hs := Lib.hid (dnTo_no hd)
        rw [← hs.out] at hown
        clear hhas hd
        go_wp2_with (go_at_call 73; refine (HC.out _ HW.out).mono ?_; rintro e w4 ⟨rfl, hw⟩; replace hw := hw.symm; subst hw)
        go_roundw
        case rel => exact ⟨k + 1, by omega, by go_num, hown, hvn, hB⟩
        case measure => simp [intOf]; omega
      | true =>
        rw [hd, Bool.not_true] at hhas
        have HC := Lib.hid (fun w' h => dhas_v hhas (some ⟨g, o, none⟩) c w' h (by omega))
        have hs := Lib.hid (dnTo_yes hd)
        have ho := hown.out
        unfold IOwn at ho
        clear hhas hd
        go_wp2_with (first
          | (go_at_call 73; refine (HC.out _ HW.out).mono ?_; rintro e w4 ⟨rfl, hw⟩; replace hw := hw.symm; subst hw)
          | (at_builtin; go_must (refine wpList_append_own _ rfl _ _ 25 rfl w2.heap.size 3 i0 (.int .i64 0) 1 8 Try.underlying25 hi hz0 hz1 hz2 rfl (by decide) _ _ _ rfl (ho.alloc _) ⟨wr.heap.size, 0, none⟩ 1 1 [iv ((k : Int) + 1)] rfl rfl (cell_one_new _ _ _) (by intro u hu; simp at hu; subst hu; rfl) (by unfold maxLen; omega) (by omega) (by have := hB.out.size; simp; omega) ?_); intro v' w7 hown' hgrow hnil))
        have hown3 := Lib.hid (IOwn.push hown')
        rw [← hs.out] at hown3
        have hB7 := Lib.hid ((hB.out.alloc hB.out.size (.cells #[iv ((k : Int) + 1)] 3)).grown hgrow (by have := hB.out.size; simp; omega) (fun g hg => (ho.lt g hg).1))
        have hnil3 := Lib.hid (show v' ≠ .slice none 0 0 from fun e => by simp [e] at hnil)
        clear hown' hgrow hnil ho
        go_wp2
        go_roundw
        case rel => exact ⟨k + 1, by omega, by go_num, hown3, hnil3, hB7⟩
        case measure => simp [intOf]; omega
    · have hkN : k = N := by omega
      have hown2 := hown.out
      rw [hkN, ← HL.out] at hown2
      obtain ⟨g', capg, rfl, hg'⟩ := own_slice hown2 hvn.out
      have HO := Lib.hid hown2
      have hkn : ¬ (k : Int) + 1 ≤ (N : Int) := by omega
      clear hkN hown2
      go_wp2
      go_ret
      exact ⟨g', capg, rfl, by omega, own_lower HO.out, HB2.out.trans (hB.out.mono HB2.out.size)⟩

set_option maxHeartbeats 4000000 in
set_option maxRecDepth 100000 in
theorem stf_any (N t : Nat) (A : Option Addr) (cap : Nat) (ps : List Pp) (AD : Option Addr) (dc : Nat) (dm : List Int) (w : World) (h : PAt w A ps) (hc : ps.length = cap) (hd : IAt w AD dm) (hg : P2.Good N ps) (ht1 : 1 ≤ t) (ht2 : t ≤ N) (hr : allR 0 1000 dm = true) (hdn : (dm.length : Int) = N) :
    Calls Try.prog 88 #[nv N A ps.length cap, .int .i64 (t : Int), .slice AD dm.length dc] w (GivesL w (tfL N ps t dm)) := by
  have hl10 := hg.2.2.1
  have hN : N ≤ 8 := by have := hg.2.1; omega
  have H := Lib.hid (fun (i : Nat) (hi : i < ps.length) w' (hb : Below w.heap.size w w') => sdn_any N t i A cap ps w' (h.kept hb (Nat.le_refl _)) hc hg ht1 ht2 hi)
  have HA := Lib.hid (fun w' (hb : Below w.heap.size w w') => h.kept hb (Nat.le_refl _))
  have HI := Lib.hid (fun w' (hb : Below w.heap.size w w') => hd.kept hb (Nat.le_refl _))
  have HTK := Lib.hid (fun (l : List Int) (hmm : ∀ v, v ∈ l → 1 ≤ v ∧ v ≤ (N : Int)) (hl : l.length ≤ 8) k (hk : k ≤ l.length) => sumT_in hr (by omega) hmm hl hk)
  have HG := Lib.hid (fun k (hk : k < ps.length) => good_pp hg (pAt_mem hk))
  have HL := Lib.hid (show tfL N ps t dm = tfTo N ps t dm ps.length from rfl)
  have HDL := Lib.hid hdn
  have HTL := Lib.hid (tfTo_len N ps t dm)
  have HTS := Lib.hid (tfTo_snoc N ps t dm)
  obtain ⟨i0, hi, hz0, hz1, hz2⟩ := info_parts infoI
  have HO0 := Lib.hid (show IOwn ((w.alloc (nb N A ps.length cap)).alloc (.cells #[] 3)) (w.heap.size + 1) (.slice (some ⟨w.heap.size + 1, 0, none⟩) 0 0) [] from by
    have := own_empty (w.alloc (nb N A ps.length cap)) (w.heap.size + 1) (by simp)
    simpa using this)
  have HB0 := Lib.hid (show Below (w.heap.size + 1) (w.alloc (nb N A ps.length cap)) ((w.alloc (nb N A ps.length cap)).alloc (.cells #[] 3)) from (Below.refl _ _).alloc (by simp) _)
  clear h hd hr hg hdn hc
  go_enter Try.func88, Try.ntmps88
  go_wp2
  go_loopw [7, 8] (fun v i wr => ∃ k : Nat, k ≤ ps.length ∧ i = .int .i64 (k : Int) ∧ Hid (IOwn wr (w.heap.size + 1) v (tfTo N ps t dm k)) ∧ Hid (v ≠ .slice none 0 0) ∧ Hid (Below (w.heap.size + 1) (w.alloc (nb N A ps.length cap)) wr)) (fun _ i _ => ps.length - (intOf i).toNat)
  case atStart => exact ⟨0, Nat.zero_le _, rfl, HO0, Lib.hid (by simp), HB0⟩
  case round =>
    clear HO0 HB0
    obtain ⟨k, hk, rfl, hown, hvn, hX⟩ := hrel
    obtain ⟨c0, c1⟩ := box2 hX.out
    have hzr := box_lt hX.out
    have hB := Lib.hid (below_box hX.out)
    by_cases hlt : k < ps.length
    · have hk0 : (0 : Int) ≤ (k : Int) := by omega
      have hkn : (k : Int) < (ps.length : Int) := by omega
      have hgp := HG.out k hlt
      have hdl := dn_len N ps (pAt ps k) t
      have HDM := Lib.hid (fun v (h : v ∈ dnL N ps (pAt ps k) t) => (dn_mem.1 h).1)
      have hhas := dn_has (N := N) (ps := ps) (p := pAt ps k) (s := t) (v := (pAt ps k).fr) hgp.2.2.1 hgp.2.2.2.1
      have HFA := Lib.hid (show flowA N ps t dm k = if dnB ps (pAt ps k) t (pAt ps k).fr = true then -(sumG (tk dm) (dnL N ps (pAt ps k) t)) else sumG (tk dm) (dnL N ps (pAt ps k) t) from rfl)
      have HLM := Lib.hid (fun j (hj : j < (dnL N ps (pAt ps k) t).length) => (show 1 ≤ lA (dnL N ps (pAt ps k) t) j ∧ lA (dnL N ps (pAt ps k) t) j ≤ (N : Int) from HDM.out _ (by
        have e : lA (dnL N ps (pAt ps k) t) j = (dnL N ps (pAt ps k) t)[j] := by simp [lA, List.getD, hj]
        rw [e]; exact List.getElem_mem hj)))
      have HSK := Lib.hid (fun j (hj : j ≤ (dnL N ps (pAt ps k) t).length) => HTK.out _ HDM.out (by omega) j hj)
      have hsum := sumG_all (tk dm) (dnL N ps (pAt ps k) t)
      rw [← hsum] at HFA
      obtain ⟨b, off, hA, hbl, p0, p1, p2, p3⟩ := (HA.out _ hB.out).at_ hlt
      subst hA
      have HK := Lib.hid (H.out k hlt _ hB.out)
      obtain ⟨F, hF⟩ : ∃ F, flowA N ps t dm k = F := ⟨_, rfl⟩
      rw [hF] at HFA
      have hsn := HTS.out k
      rw [hF] at hsn
      have HSN := Lib.hid hsn
      have hdlen := HTL.out k
      clear hsn hF hsum HDM hgp
      generalize dnB ps (pAt ps k) t (pAt ps k).fr = db at *
      generalize dnL N ps (pAt ps k) t = l at *
      generalize pAt ps k = p at *
      obtain ⟨SM, hSM⟩ : ∃ SM, SM = (fun j => sumK (fun i => tk dm (lA l i)) j) := ⟨_, rfl⟩
      have HSM0 := Lib.hid (fun j => (congrFun hSM j).symm)
      have HSM1 := Lib.hid (fun j => show SM (j + 1) = SM j + tk dm (lA l j) by rw [hSM]; rfl)
      clear hSM
      rw [HSM0.out l.length] at HFA
      have HSK2 := Lib.hid (fun j (hj : j ≤ l.length) => (show 0 ≤ SM j ∧ SM j ≤ 8000 by have := HSK.out j hj; rw [HSM0.out j] at this; exact this))
      have HSZ := Lib.hid (show SM 0 = 0 by rw [← HSM0.out 0]; rfl)
      clear HSM0 HSK
      go_wp2_with (go_at_call 93; refine HK.out.mono ?_; rintro e w3 ⟨gD, cD, rfl, hgD, hOD, hb3⟩; refine Hid.out ?_)
      have hX3 := Lib.hid (on_call hX.out hb3)
      have hB3 := Lib.hid (below_box hX3.out)
      have HD3 := Lib.hid hOD.iat
      have hO3 := Lib.hid (hown.out.on hb3)
      have r1 := (hb3.cell (p := ⟨b, off + k * 4 + 1, none⟩) hbl).trans p1
      have hbl3 : b < w3.heap.size := by have := hb3.size; omega
      clear c0 c1 hzr p0 p1 p2 p3 hbl hb3 hOD
      obtain ⟨c0, c1⟩ := box2 hX3.out
      have hzr := box_lt hX3.out
      refine Lib.hid ?_
      go_wp2
      go_loop [10, 11] (fun s i => ∃ j : Nat, j ≤ l.length ∧ i = .int .i64 (j : Int) ∧ s = .int .i64 (SM j)) (fun _ i => l.length - (intOf i).toNat)
      case atStart => exact ⟨0, Nat.zero_le _, rfl, by rw [HSZ.out]⟩
      case round =>
        obtain ⟨j, hj, rfl, rfl⟩ := hrel
        by_cases hjl : j < l.length
        · obtain ⟨v1, v2⟩ := HLM.out j hjl
          obtain ⟨u, hu⟩ : ∃ u : Nat, lA l j = (u : Int) + 1 := ⟨(lA l j - 1).toNat, by omega⟩
          have hud : u < dm.length := by have := HDL.out; omega
          obtain ⟨bb, of2, hA2, hbl2, x0⟩ := (HI.out _ hB3.out).at_ hud
          subst hA2
          obtain ⟨bN, oN, hAN, hblN, x1⟩ := HD3.out.at_ hjl
          simp only [Option.some.injEq, Addr.mk.injEq, and_true] at hAN
          obtain ⟨rfl, rfl⟩ := hAN
          rw [Nat.zero_add] at x1
          have hla : l.getD j 0 = lA l j := rfl
          rw [hla, hu] at x1
          have hs0 := HSK2.out j (by omega)
          have hs1 := HSK2.out (j + 1) hjl
          have hsn := HSM1.out j
          have htk : tk dm (lA l j) = dm.getD u 0 := by unfold tk; rw [hu, Int.add_sub_cancel, Int.toNat_natCast]
          rw [htk] at hsn
          have HSN2 := Lib.hid hsn
          rw [hsn] at hs1
          have hj0 : (0 : Int) ≤ (j : Int) := by omega
          have hjn : (j : Int) < (l.length : Int) := by omega
          have hu0 : (0 : Int) ≤ (u : Int) := by omega
          have hun : (u : Int) < (dm.length : Int) := by omega
          clear hsn htk hla hu v1 v2
          generalize dm.getD u 0 = x at *
          generalize SM j = s at *
          have wS : IntKind.i64.wrap (s + x) = s + x := w64 _ (by omega)
          have hu9 : (u : Int) < 9 := by have := HDL.out; omega
          have wU : IntKind.i64.wrap ((u : Int) + 1 - 1) = (u : Int) := by rw [w64 _ (by omega)]; omega
          have wU2 : IntKind.i64.wrap (u : Int) = (u : Int) := w64 _ (by omega)
          go_wp2
          go_round
          case rel => exact ⟨j + 1, by omega, by go_num, by rw [HSN2.out]⟩
          case measure => simp [intOf]; omega
        · have ej : j = l.length := by omega
          subst ej
          have HC := Lib.hid (fun w' h => dhas_v hhas (some ⟨gD, 0, none⟩) cD w' h (by omega))
          have hs0 := HSK2.out l.length (Nat.le_refl _)
          have ho := hO3.out
          unfold IOwn at ho
          have hz3 := hX3.out.size
          simp at hz3
          cases db with
          | true =>
            have hF : F = -(SM l.length) := by rw [HFA.out, if_pos rfl]
            have HFF := Lib.hid hF
            clear hF hhas
            generalize SM l.length = s at *
            go_wp2_with (first
              | (go_at_call 73; refine (HC.out _ HD3.out).mono ?_; rintro e w4 ⟨rfl, hw⟩; replace hw := hw.symm; subst hw)
              | (at_builtin; go_must (refine wpList_append_own _ rfl _ _ 25 rfl (w.heap.size + 1) 3 i0 (.int .i64 0) 1 8 Try.underlying25 hi hz0 hz1 hz2 rfl (by decide) _ _ _ rfl (ho.alloc _) ⟨w3.heap.size, 0, none⟩ 1 1 [iv (-s)] rfl rfl (cell_one_new _ _ _) (by intro u hu; simp at hu; subst hu; rfl) (by unfold maxLen; omega) (by omega) (by simp; omega) ?_); intro v' w7 hown' hgrow hnil))
            have hown3 := Lib.hid (IOwn.push hown')
            rw [← HFF.out, ← HSN.out] at hown3
            have hX7 := Lib.hid ((hX3.out.alloc (by omega) (.cells #[iv (-s)] 3)).grown hgrow (by simp; omega) (fun g hg => (ho.lt g hg).1))
            have hnil3 := Lib.hid (show v' ≠ .slice none 0 0 from fun e => by simp [e] at hnil)
            clear hown' hgrow hnil ho
            go_wp2
            go_roundw
            case rel => exact ⟨k + 1, by omega, by go_num, hown3, hnil3, hX7⟩
            case measure => simp [intOf]; omega
          | false =>
            have hF : F = SM l.length := by rw [HFA.out, if_neg (by simp)]
            have HFF := Lib.hid hF
            clear hF hhas
            generalize SM l.length = s at *
            go_wp2_with (first
              | (go_at_call 73; refine (HC.out _ HD3.out).mono ?_; rintro e w4 ⟨rfl, hw⟩; replace hw := hw.symm; subst hw)
              | (at_builtin; go_must (refine wpList_append_own _ rfl _ _ 25 rfl (w.heap.size + 1) 3 i0 (.int .i64 0) 1 8 Try.underlying25 hi hz0 hz1 hz2 rfl (by decide) _ _ _ rfl (ho.alloc _) ⟨w3.heap.size, 0, none⟩ 1 1 [iv s] rfl rfl (cell_one_new _ _ _) (by intro u hu; simp at hu; subst hu; rfl) (by unfold maxLen; omega) (by omega) (by simp; omega) ?_); intro v' w7 hown' hgrow hnil))
            have hown3 := Lib.hid (IOwn.push hown')
            rw [← HFF.out, ← HSN.out] at hown3
            have hX7 := Lib.hid ((hX3.out.alloc (by omega) (.cells #[iv s] 3)).grown hgrow (by simp; omega) (fun g hg => (ho.lt g hg).1))
            have hnil3 := Lib.hid (show v' ≠ .slice none 0 0 from fun e => by simp [e] at hnil)
            clear hown' hgrow hnil ho
            go_wp2
            go_roundw
            case rel => exact ⟨k + 1, by omega, by go_num, hown3, hnil3, hX7⟩
            case measure => simp [intOf]; omega
    · have hkN : k = ps.length := by omega
      have hown2 := hown.out
      rw [hkN, ← HL.out] at hown2
      obtain ⟨g', capg, rfl, hg'⟩ := own_slice hown2 hvn.out
      have HO := Lib.hid hown2
      clear hkN hown2
      go_wp2
      go_ret
      exact ⟨g', capg, rfl, by omega, own_lower HO.out, hB.out⟩
end Go.Proofs.Ytpldbakllegheaa.S2

namespace Go.Proofs.Ytpldbakllegheaa.S2
open Go.RowKit P2

theorem gives_noneA {w w0 : World} (h : Below w0.heap.size w0 w) : GivesA w0 [] false (.returned (.tuple #[.slice (some ⟨w.heap.size, 0, none⟩) 0 0, .bool false])) (w.alloc (.cells #[] 3)) :=
  ⟨_, 0, 0, rfl, h.size, .inl rfl, h.alloc h.size _, by simp⟩

set_option maxHeartbeats 2000000 in
theorem stfl_no (n : Int) (A : Option Addr) (cap : Nat) (ps : List Pp) (x : Int) (AD : Option Addr) (dc : Nat) (dm : List Int) (w : World) (h : PAt w A ps) (hm : ps.length ≤ maxLen) (hd : IAt w AD dm) (hdl : dm.length ≤ 1048576)
    (hv : nodeB n ps x = false ∨ demB n ps dm = false ∨ ∃ N : Nat, n = N ∧ treeB N ps = false) :
    Calls Try.prog 39 #[nv n A ps.length cap, .int .i64 x, .slice AD dm.length dc] w (GivesA w [] false) := by
  obtain ⟨v1, hv1⟩ : ∃ v, nodeB n ps x = v := ⟨_, rfl⟩
  obtain ⟨v3, hv3⟩ : ∃ v, amtB dm n 0 1000 = v := ⟨_, rfl⟩
  have H1 := Lib.hid (fun w' (hb : Below w.heap.size w w') => snode_v hv1 A cap w' (h.kept hb (Nat.le_refl _)) hm)
  have H3 := Lib.hid (fun w' (hb : Below w.heap.size w w') => sdem_v hv3 A ps.length cap AD dc w' (hd.kept hb (Nat.le_refl _)) hdl)
  cases v1 with
  | false =>
    clear h hd hv hv1 hv3
    go_enter Try.func39, Try.ntmps39
    go_wp2_with (go_at_call 72; refine (H1.out _ ((Below.refl _ _).alloc (Nat.le_refl _) _)).mono ?_; rintro e w1 ⟨rfl, hb1⟩)
    go_ret2
    exact gives_noneA (below_alloc_call hb1)
  | true =>
    obtain ⟨hg, hx1, hx2⟩ := nodeB_of hv1
    obtain ⟨N, rfl⟩ := good_nat hg
    cases v3 with
    | false =>
      clear h hd hv hv1 hv3
      go_enter Try.func39, Try.ntmps39
      go_wp2_with (first
        | (go_at_call 72; refine (H1.out _ ((Below.refl _ _).alloc (Nat.le_refl _) _)).mono ?_; rintro e w1 ⟨rfl, hb1⟩; have HX1 := Lib.hid (show Below (w.heap.size + 1) (w.alloc (nb N A ps.length cap)) w1 by simpa using hb1); obtain ⟨b0, b1⟩ := box2 HX1.out; have hy1 := box_lt HX1.out; clear hb1)
        | (go_at_call 86; refine (H3.out _ (below_box HX1.out)).mono ?_; rintro e w3 ⟨rfl, hb3⟩; have HX3 := Lib.hid (on_call HX1.out hb3); clear b0 b1; obtain ⟨b0, b1⟩ := box2 HX3.out; have hy3 := box_lt HX3.out; clear hb3))
      go_ret2
      exact gives_noneA (below_box HX3.out)
    | true =>
      have ht : treeB N ps = false := by
        rcases hv with h | h | ⟨M, e, h⟩
        · exact absurd (h.symm.trans hv1) (by simp)
        · unfold demB at h; rw [good_mk hg, hv3] at h; cases h
        · have : M = N := by omega
          subst this
          exact h
      have H4 := Lib.hid (fun w' (hb : Below w.heap.size w w') => stree_v ht A cap w' (h.kept hb (Nat.le_refl _)) hg)
      clear h hd hv hv1 hv3 hg ht
      go_enter Try.func39, Try.ntmps39
      go_wp2_with (first
        | (go_at_call 72; refine (H1.out _ ((Below.refl _ _).alloc (Nat.le_refl _) _)).mono ?_; rintro e w1 ⟨rfl, hb1⟩; have HX1 := Lib.hid (show Below (w.heap.size + 1) (w.alloc (nb N A ps.length cap)) w1 by simpa using hb1); obtain ⟨b0, b1⟩ := box2 HX1.out; have hy1 := box_lt HX1.out; clear hb1)
        | (go_at_call 86; refine (H3.out _ (below_box HX1.out)).mono ?_; rintro e w3 ⟨rfl, hb3⟩; have HX3 := Lib.hid (on_call HX1.out hb3); clear b0 b1; obtain ⟨b0, b1⟩ := box2 HX3.out; have hy3 := box_lt HX3.out; clear hb3)
        | (go_at_call 87; refine (H4.out _ (below_box HX3.out)).mono ?_; rintro e w4 ⟨rfl, hb4⟩; have HX4 := Lib.hid (on_call HX3.out hb4); clear b0 b1; obtain ⟨b0, b1⟩ := box2 HX4.out; have hy4 := box_lt HX4.out; clear hb4))
      go_ret2
      exact gives_noneA (below_box HX4.out)

set_option maxHeartbeats 2000000 in
theorem stfl_yes (N t : Nat) (A : Option Addr) (cap : Nat) (ps : List Pp) (AD : Option Addr) (dc : Nat) (dm : List Int) (w : World) (h : PAt w A ps) (hm : ps.length ≤ maxLen) (hc : ps.length = cap) (hd : IAt w AD dm) (hdl : dm.length ≤ 1048576) (hn : nodeB N ps t = true) (ht : treeB N ps = true) (hv : demB N ps dm = true) :
    Calls Try.prog 39 #[nv N A ps.length cap, .int .i64 (t : Int), .slice AD dm.length dc] w (GivesA w (tfL N ps t dm) true) := by
  obtain ⟨hg, hdn, hr⟩ := demB_of hv
  obtain ⟨_, hx1, hx2⟩ := nodeB_of hn
  unfold demB at hv
  rw [Bool.and_eq_true] at hv
  have H1 := Lib.hid (fun w' (hb : Below w.heap.size w w') => snode_v hn A cap w' (h.kept hb (Nat.le_refl _)) hm)
  have H3 := Lib.hid (fun w' (hb : Below w.heap.size w w') => sdem_v hv.2 A ps.length cap AD dc w' (hd.kept hb (Nat.le_refl _)) hdl)
  have H4 := Lib.hid (fun w' (hb : Below w.heap.size w w') => stree_v ht A cap w' (h.kept hb (Nat.le_refl _)) hg)
  have H5 := Lib.hid (fun w' (hb : Below w.heap.size w w') => stf_any N t A cap ps AD dc dm w' (h.kept hb (Nat.le_refl _)) hc (hd.kept hb (Nat.le_refl _)) hg (by omega) (by omega) hr hdn)
  clear h hd hv hn ht hg hdn hr hc
  go_enter Try.func39, Try.ntmps39
  go_wp2_with (first
    | (go_at_call 72; refine (H1.out _ ((Below.refl _ _).alloc (Nat.le_refl _) _)).mono ?_; rintro e w1 ⟨rfl, hb1⟩; have HX1 := Lib.hid (show Below (w.heap.size + 1) (w.alloc (nb N A ps.length cap)) w1 by simpa using hb1); obtain ⟨b0, b1⟩ := box2 HX1.out; have hy1 := box_lt HX1.out; clear hb1)
    | (go_at_call 86; refine (H3.out _ (below_box HX1.out)).mono ?_; rintro e w3 ⟨rfl, hb3⟩; have HX3 := Lib.hid (on_call HX1.out hb3); clear b0 b1; obtain ⟨b0, b1⟩ := box2 HX3.out; have hy3 := box_lt HX3.out; clear hb3)
    | (go_at_call 87; refine (H4.out _ (below_box HX3.out)).mono ?_; rintro e w4 ⟨rfl, hb4⟩; have HX4 := Lib.hid (on_call HX3.out hb4); clear b0 b1; obtain ⟨b0, b1⟩ := box2 HX4.out; have hy4 := box_lt HX4.out; clear hb4)
    | (go_at_call 88; refine (H5.out _ (below_box HX4.out)).mono ?_; rintro e w5 ⟨g, c, rfl, hg5, hO, hb5⟩))
  go_ret2
  have hz := (below_box HX4.out).size
  exact ⟨g, 0, c, rfl, by omega, hO.iat, (below_box HX4.out).trans (hb5.mono hz), iown_lt' hO⟩

/-! ### DownstreamNodes -/
set_option maxHeartbeats 2000000 in
theorem sdw_no (n : Int) (A : Option Addr) (cap : Nat) (ps : List Pp) (x y : Int) (w : World) (h : PAt w A ps) (hm : ps.length ≤ 1048576)
    (hv : nodeB n ps x = false ∨ FindIs ps y (-1) ∨ ∃ N : Nat, n = N ∧ treeB N ps = false) :
    Calls Try.prog 41 #[nv n A ps.length cap, .int .i64 x, .int .i64 y] w (GivesA w [] false) := by
  obtain ⟨v1, hv1⟩ : ∃ v, nodeB n ps x = v := ⟨_, rfl⟩
  have HF := Lib.hid (fun w' (hb : Below w.heap.size w w') => find_any n A cap ps y w' (h.kept hb (Nat.le_refl _)) hm)
  have H1 := Lib.hid (fun w' (hb : Below w.heap.size w w') => snode_v hv1 A cap w' (h.kept hb (Nat.le_refl _)) (by unfold maxLen; omega))
  cases v1 with
  | false =>
    clear h hv hv1
    go_enter Try.func41, Try.ntmps41
    go_wp2_with (first
      | (go_at_call 52; refine (HF.out _ ((Below.refl _ _).alloc (Nat.le_refl _) _)).mono ?_; rintro e w1 ⟨⟨r, rfl, hr⟩, hb1⟩; have HX1 := Lib.hid (show Below (w.heap.size + 1) (w.alloc (nb n A ps.length cap)) w1 by simpa using hb1); obtain ⟨b0, b1⟩ := box2 HX1.out; have hy1 := box_lt HX1.out; clear hb1)
      | (go_at_call 72; refine (H1.out _ (below_box HX1.out)).mono ?_; rintro e w2 ⟨rfl, hb2⟩; have HX2 := Lib.hid (on_call HX1.out hb2)))
    go_ret2
    exact gives_noneA (below_box HX2.out)
  | true =>
    obtain ⟨hg, hx1, hx2⟩ := nodeB_of hv1
    obtain ⟨N, rfl⟩ := good_nat hg
    by_cases hfi : FindIs ps y (-1)
    · have HV := Lib.hid (fun r (hr : FindIs ps y r) => find_one hr hfi)
      clear h hv hv1 hfi hg
      go_enter Try.func41, Try.ntmps41
      go_wp2_with (first
        | (go_at_call 52; refine (HF.out _ ((Below.refl _ _).alloc (Nat.le_refl _) _)).mono ?_; rintro e w1 ⟨⟨r, rfl, hr⟩, hb1⟩; obtain rfl := HV.out r hr; have HX1 := Lib.hid (show Below (w.heap.size + 1) (w.alloc (nb N A ps.length cap)) w1 by simpa using hb1); obtain ⟨b0, b1⟩ := box2 HX1.out; have hy1 := box_lt HX1.out; clear hb1)
        | (go_at_call 72; refine (H1.out _ (below_box HX1.out)).mono ?_; rintro e w2 ⟨rfl, hb2⟩; have HX2 := Lib.hid (on_call HX1.out hb2)))
      go_ret2
      exact gives_noneA (below_box HX2.out)
    · have ht : treeB N ps = false := by
        rcases hv with h | h | ⟨M, e, h⟩
        · exact absurd (h.symm.trans hv1) (by simp)
        · exact absurd h hfi
        · have : M = N := by omega
          subst this
          exact h
      have HV := Lib.hid (fun r (hr : FindIs ps y r) => (show 0 ≤ r by
        rcases id hr with ⟨rfl, _⟩ | ⟨i, _, rfl, _⟩
        · exact absurd hr hfi
        · omega))
      have H4 := Lib.hid (fun w' (hb : Below w.heap.size w w') => stree_v ht A cap w' (h.kept hb (Nat.le_refl _)) hg)
      clear h hv hv1 hfi hg ht
      go_enter Try.func41, Try.ntmps41
      go_wp2_with (first
        | (go_at_call 52; refine (HF.out _ ((Below.refl _ _).alloc (Nat.le_refl _) _)).mono ?_; rintro e w1 ⟨⟨r, rfl, hr⟩, hb1⟩; have hr0 := HV.out r hr; have HX1 := Lib.hid (show Below (w.heap.size + 1) (w.alloc (nb N A ps.length cap)) w1 by simpa using hb1); obtain ⟨b0, b1⟩ := box2 HX1.out; have hy1 := box_lt HX1.out; clear hb1)
        | (go_at_call 72; refine (H1.out _ (below_box HX1.out)).mono ?_; rintro e w2 ⟨rfl, hb2⟩; have HX2 := Lib.hid (on_call HX1.out hb2); clear b0 b1; obtain ⟨b0, b1⟩ := box2 HX2.out; have hy2 := box_lt HX2.out)
        | (go_at_call 87; refine (H4.out _ (below_box HX2.out)).mono ?_; rintro e w4 ⟨rfl, hb4⟩; have HX4 := Lib.hid (on_call HX2.out hb4)))
      go_ret2
      exact gives_noneA (below_box HX4.out)
set_option maxHeartbeats 2000000 in
theorem sdw_yes (N t i : Nat) (A : Option Addr) (cap : Nat) (ps : List Pp) (y : Int) (w : World) (h : PAt w A ps) (hm : ps.length ≤ 1048576) (hc : ps.length = cap) (hn : nodeB N ps t = true) (ht : treeB N ps = true) (hi : i < ps.length) (hf : FindIs ps y i) :
    Calls Try.prog 41 #[nv N A ps.length cap, .int .i64 (t : Int), .int .i64 y] w (GivesA w (dnL N ps (pAt ps i) t) true) := by
  obtain ⟨hg, hx1, hx2⟩ := nodeB_of hn
  have HF := Lib.hid (fun w' (hb : Below w.heap.size w w') => find_any N A cap ps y w' (h.kept hb (Nat.le_refl _)) hm)
  have H1 := Lib.hid (fun w' (hb : Below w.heap.size w w') => snode_v hn A cap w' (h.kept hb (Nat.le_refl _)) (by unfold maxLen; omega))
  have H4 := Lib.hid (fun w' (hb : Below w.heap.size w w') => stree_v ht A cap w' (h.kept hb (Nat.le_refl _)) hg)
  have H5 := Lib.hid (fun w' (hb : Below w.heap.size w w') => sdn_any N t i A cap ps w' (h.kept hb (Nat.le_refl _)) hc hg (by omega) (by omega) hi)
  have HV := Lib.hid (fun r (hr : FindIs ps y r) => find_one hr hf)
  have hng : decide ((i : Int) < 0) = false := decide_eq_false (by omega)
  clear h hn ht hg hf hc
  generalize dnL N ps (pAt ps i) t = L at *
  go_enter Try.func41, Try.ntmps41
  go_wp2_with (first
    | (go_at_call 52; refine (HF.out _ ((Below.refl _ _).alloc (Nat.le_refl _) _)).mono ?_; rintro e w1 ⟨⟨r, rfl, hr⟩, hb1⟩; obtain rfl := HV.out r hr; have HX1 := Lib.hid (show Below (w.heap.size + 1) (w.alloc (nb N A ps.length cap)) w1 by simpa using hb1); obtain ⟨b0, b1⟩ := box2 HX1.out; have hy1 := box_lt HX1.out; clear hb1)
    | (go_at_call 72; refine (H1.out _ (below_box HX1.out)).mono ?_; rintro e w2 ⟨rfl, hb2⟩; have HX2 := Lib.hid (on_call HX1.out hb2); clear b0 b1; obtain ⟨b0, b1⟩ := box2 HX2.out; have hy2 := box_lt HX2.out)
    | (go_at_call 87; refine (H4.out _ (below_box HX2.out)).mono ?_; rintro e w4 ⟨rfl, hb4⟩; have HX4 := Lib.hid (on_call HX2.out hb4); clear b0 b1; obtain ⟨b0, b1⟩ := box2 HX4.out; have hy4 := box_lt HX4.out; clear hb4)
    | (go_at_call 93; refine (H5.out _ (below_box HX4.out)).mono ?_; rintro e w5 ⟨g, c, rfl, hg5, hO, hb5⟩))
  go_ret2
  have hz := (below_box HX4.out).size
  exact ⟨g, 0, c, rfl, by omega, hO.iat, (below_box HX4.out).trans (hb5.mono hz), iown_lt' hO⟩
end Go.Proofs.Ytpldbakllegheaa.S2
