/- Plain facts on spanning trees (chapter 8): no program in them. No conditions but each theorem's own premises. -/
import Derived.Test.YtjfpimldiokpbabTrOne
import Derived.Test.YtjfpimldiokpbabWoPl
import Derived.Test.YtjfpimldiokpbabTrI
namespace Go.Proofs.Ytjfpimldiokpbab.S2
open Go.RowKit P2

open Classical in
/-- The pipes among the first k that join what those before them do not connect. -/
noncomputable def spT (ps : List Pp) : Nat → List Pp
  | 0 => []
  | k + 1 => if Conn (spT ps k) (pAt ps k).fr (pAt ps k).to then spT ps k else spT ps k ++ [pAt ps k]
theorem spT_same {ps : List Pp} {k : Nat} (h : Conn (spT ps k) (pAt ps k).fr (pAt ps k).to) : spT ps (k + 1) = spT ps k := by rw [spT, if_pos h]
theorem spT_more {ps : List Pp} {k : Nat} (h : ¬ Conn (spT ps k) (pAt ps k).fr (pAt ps k).to) : spT ps (k + 1) = spT ps k ++ [pAt ps k] := by rw [spT, if_neg h]
theorem take_snoc' {ps : List Pp} {k : Nat} (hk : k < ps.length) : ps.take (k + 1) = ps.take k ++ [pAt ps k] := by
  rw [List.take_succ_eq_append_getElem hk]
  simp [pAt, List.getD, hk]
theorem spT_sub (ps : List Pp) : ∀ k, k ≤ ps.length → (spT ps k).Sublist (ps.take k)
  | 0, _ => by simp [spT]
  | k + 1, h => by
    have ih := spT_sub ps k (by omega)
    rw [take_snoc' (show k < ps.length by omega)]
    by_cases hc : Conn (spT ps k) (pAt ps k).fr (pAt ps k).to
    · rw [spT_same hc]
      exact ih.trans (List.sublist_append_left _ _)
    · rw [spT_more hc]
      exact ih.append (List.Sublist.refl _)
theorem spT_len (ps : List Pp) (k : Nat) (h : k ≤ ps.length) : (spT ps k).length ≤ k := by
  have := (spT_sub ps k h).length_le
  simp at this; omega
theorem spT_good {N : Int} {ps : List Pp} (hg : P2.Good N ps) (k : Nat) (h : k ≤ ps.length) : P2.Good N (spT ps k) := good_sub hg ((spT_sub ps k h).trans (List.take_sublist _ _))
theorem conn_sub {ps qs : List Pp} (h : ps.Sublist qs) {a b : Int} (hc : Conn ps a b) : Conn qs a b := conn_mono (fun _ he => h.subset he) hc
theorem spT_conn {ps : List Pp} : ∀ k, k ≤ ps.length → ∀ a b, Conn (spT ps k) a b ↔ Conn (ps.take k) a b
  | 0, _, a, b => by simp [spT]
  | k + 1, h, a, b => by
    have ih := spT_conn (ps := ps) k (by omega)
    refine ⟨conn_sub (spT_sub ps (k + 1) h), fun hc => ?_⟩
    have hmono : ∀ x y, Conn (spT ps k) x y → Conn (spT ps (k + 1)) x y := fun x y hxy => by
      by_cases hj : Conn (spT ps k) (pAt ps k).fr (pAt ps k).to
      · rw [spT_same hj]; exact hxy
      · rw [spT_more hj]; exact conn_mono (fun e he => List.mem_append.2 (.inl he)) hxy
    have hnew : Conn (spT ps (k + 1)) (pAt ps k).fr (pAt ps k).to := by
      by_cases hj : Conn (spT ps k) (pAt ps k).fr (pAt ps k).to
      · exact hmono _ _ hj
      · rw [spT_more hj]; exact Conn.adj ⟨pAt ps k, by simp, .inl ⟨rfl, rfl⟩⟩
    refine conn_ind (ps := ps.take (k + 1)) (P := fun v => Conn (spT ps (k + 1)) a v) (Conn.rf _ _) ?_ b hc
    rintro u v _ hu ⟨e, he, hj⟩
    rw [take_snoc' (show k < ps.length by omega)] at he
    rcases List.mem_append.1 he with he | he
    · exact hu.tr (hmono _ _ ((ih u v).2 (Conn.adj ⟨e, he, hj⟩)))
    · have e1 : e = pAt ps k := by simpa using he
      subst e1
      rcases hj with ⟨h1, h2⟩ | ⟨h1, h2⟩
      · rw [← h2]; rw [← h1] at hu; exact hu.tr hnew
      · rw [← h2]; rw [← h1] at hu; exact hu.tr hnew.sy
noncomputable def spL (ps : List Pp) : List Pp := spT ps ps.length
theorem spL_conn {ps : List Pp} (a b : Int) : Conn (spL ps) a b ↔ Conn ps a b := by
  have := spT_conn (ps := ps) ps.length (Nat.le_refl _) a b
  rwa [List.take_length] at this

/-- What is connected decides what is gathered. -/
theorem conL_of {N : Nat} {ps qs : List Pp} {t : Int} (h : ∀ a b, Conn ps a b ↔ Conn qs a b) : conL N ps t = conL N qs t := by
  unfold conL conTo
  congr 1
  refine List.filter_congr fun v hv => ?_
  have hv2 := List.mem_range.1 hv
  by_cases h0 : v = 0
  · subst h0; rw [distL_zero, distL_zero]
  · rw [distL_at N ps t v (by omega) h0, distL_at N qs t v (by omega) h0, Bool.eq_iff_iff, bne_iff_ne, bne_iff_ne, dist_conn, dist_conn, h]

/-- Labels that tell the parts of a forest apart. -/
theorem labels_up {N : Nat} {ps : List Pp} (hg : P2.Good N ps) : ∀ k, k ≤ ps.length → ∃ (f : Int → Int) (L : List Int), (∀ a b, f a = f b → Conn (spT ps k) a b) ∧ (∀ v : Nat, 1 ≤ v → v ≤ N → f v ∈ L) ∧ L.length + (spT ps k).length ≤ N := by
  intro k
  induction k with
  | zero =>
    intro _
    refine ⟨id, (List.range N).map (fun v => ((v + 1 : Nat) : Int)), fun a b h => ?_, fun v h1 h2 => ?_, by simp [spT]⟩
    · have e : a = b := h
      rw [e]; exact Conn.rf _ _
    · exact List.mem_map.2 ⟨v - 1, List.mem_range.2 (by omega), by simp; omega⟩
  | succ k ih =>
    intro hk
    obtain ⟨f, L, h1, h2, h3⟩ := ih (by omega)
    by_cases hj : Conn (spT ps k) (pAt ps k).fr (pAt ps k).to
    · rw [spT_same hj]; exact ⟨f, L, h1, h2, h3⟩
    · rw [spT_more hj]
      have hmem : pAt ps k ∈ ps := by
        have e : pAt ps k = ps[k] := by simp [pAt, List.getD, show k < ps.length by omega]
        rw [e]; exact List.getElem_mem _
      have hok := good_pp hg hmem
      generalize pAt ps k = p at *
      have hne : f p.fr ≠ f p.to := fun e => hj (h1 _ _ e)
      unfold PpOk at hok
      have hin : ∀ x : Int, 1 ≤ x → x ≤ N → f x ∈ L := fun x h1 h4 => by
        have := h2 x.toNat (by omega) (by omega)
        rwa [Int.toNat_of_nonneg (by omega)] at this
      have hto := hin p.to (by omega) (by omega)
      have hfr := hin p.fr (by omega) (by omega)
      have hold : ∀ x y, Conn (spT ps k) x y → Conn (spT ps k ++ [p]) x y := fun x y h => conn_mono (fun e he => List.mem_append.2 (.inl he)) h
      have hnew : Conn (spT ps k ++ [p]) p.fr p.to := Conn.adj ⟨p, by simp, .inl ⟨rfl, rfl⟩⟩
      refine ⟨fun v => if f v = f p.to then f p.fr else f v, L.erase (f p.to), fun a b hab => ?_, fun v hv1 hv2 => ?_, ?_⟩
      · simp only at hab
        by_cases ha : f a = f p.to
        · rw [if_pos ha] at hab
          by_cases hb : f b = f p.to
          · exact hold _ _ (h1 _ _ (ha.trans hb.symm))
          · rw [if_neg hb] at hab
            exact ((hold _ _ (h1 _ _ ha)).tr hnew.sy).tr (hold _ _ (h1 _ _ hab))
        · rw [if_neg ha] at hab
          by_cases hb : f b = f p.to
          · rw [if_pos hb] at hab
            exact ((hold _ _ (h1 _ _ hab)).tr hnew).tr (hold _ _ (h1 _ _ hb).sy)
          · rw [if_neg hb] at hab
            exact hold _ _ (h1 _ _ hab)
      · show (if f v = f p.to then f p.fr else f v) ∈ _
        by_cases hv : f v = f p.to
        · rw [if_pos hv]; exact (List.mem_erase_of_ne hne).2 hfr
        · rw [if_neg hv]; exact (List.mem_erase_of_ne hv).2 (h2 v hv1 hv2)
      · have hp := List.length_pos_of_mem hto
        rw [List.length_erase, if_pos hto, List.length_append]
        simp; omega
theorem con_full {N : Nat} {ps : List Pp} (_hN : 1 ≤ N) (h : (conL N ps 1).length = N) : ∀ v : Nat, 1 ≤ v → v ≤ N → Conn ps 1 v := by
  intro v h1 h2
  refine Classical.byContradiction fun hn => ?_
  have hd0 : dA (distL N ps 1) 0 = -1 := distL_zero N ps 1
  have hdv : dA (distL N ps 1) v = -1 := by
    rw [distL_at N ps 1 v h2 (by omega)]
    exact Classical.byContradiction fun hd => hn (dist_conn.1 hd).sy
  have hl : (conL N ps 1).length < ((List.range (N + 1)).filter fun u => decide (u ≠ 0)).length := by
    unfold conL conTo
    rw [List.length_map]
    refine filter_less _ _ _ (fun u hu => ?_) v (List.mem_range.2 (by omega)) (by simp; omega) (by simp [hdv])
    simp only [decide_eq_true_eq]
    rintro rfl
    simp [hd0] at hu
  have h3 : ((List.range (N + 1)).filter fun u => decide (u ≠ 0)).length ≤ N := by
    rw [List.range_succ_eq_map, List.filter_cons]
    simp
    exact Nat.le_trans (List.length_filter_le _ _) (by simp)
  omega
theorem tree_sp {N : Nat} {ps : List Pp} (hg : P2.Good N ps) : treeB N (spL ps) = decide ((conL N ps 1).length = N) := by
  have hN : 1 ≤ N := by have := hg.1; omega
  have e := conL_of (N := N) (t := 1) (spL_conn (ps := ps))
  unfold treeB
  rw [e]
  by_cases hc : (conL N ps 1).length = N
  · have hl : (spL ps).length + 1 = N := by
      have h1 := con_full hN (by rw [e]; exact hc : (conL N (spL ps) 1).length = N)
      have h2 := conn_need hN h1
      obtain ⟨f, L, _, h4, h5⟩ := labels_up hg ps.length (Nat.le_refl _)
      have h6 := List.length_pos_of_mem (h4 1 (Nat.le_refl _) hN)
      unfold spL at h2 ⊢
      omega
    simp [hl, hc]
  · simp [hc]
end Go.Proofs.Ytjfpimldiokpbab.S2
