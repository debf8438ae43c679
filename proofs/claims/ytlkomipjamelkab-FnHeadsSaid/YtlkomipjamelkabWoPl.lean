/- Plain facts on what is connected, and on a network without one pipe. No conditions but each theorem's own premises. -/
import Derived.Test.YtlkomipjamelkabReachTwo
namespace Go.Proofs.Ytlkomipjamelkab.S2
open Go.RowKit P2

theorem con_mem (n : Nat) (ps : List Pp) (t : Int) (y : Int) : y ∈ conL n ps t ↔ 1 ≤ y ∧ y ≤ n ∧ Conn ps y t := by
  unfold conL conTo
  rw [List.mem_map]
  constructor
  · rintro ⟨v, hv, rfl⟩
    obtain ⟨hv1, hv2⟩ := List.mem_filter.1 hv
    have hvn : v ≤ n := by have := List.mem_range.1 hv1; omega
    have hv0 : v ≠ 0 := by
      intro e
      rw [e, distL_zero] at hv2
      simp at hv2
    rw [distL_at n ps t v hvn hv0] at hv2
    exact ⟨by omega, by omega, dist_conn.1 (by simpa using hv2)⟩
  · rintro ⟨h1, h2, h3⟩
    refine ⟨y.toNat, List.mem_filter.2 ⟨List.mem_range.2 (by omega), ?_⟩, by omega⟩
    rw [distL_at n ps t _ (by omega) (by omega), Int.toNat_of_nonneg (by omega)]
    simpa using dist_conn.2 h3
theorem conn_symm {ps : List Pp} {a b : Int} (h : Conn ps a b) : Conn ps b a := by
  obtain ⟨k, hk⟩ := h
  exact ⟨k, hk.symm⟩
theorem has_con {N X T : Nat} {ps : List Pp} (h1 : 1 ≤ T) (h2 : T ≤ N) : hasB (conL N ps X) T = decide (dist ps T X ≠ -1) := by
  unfold hasB
  refine decide_eq_decide.2 ?_
  rw [con_mem, dist_conn]
  exact ⟨fun h => conn_symm h.2.2, fun h => ⟨by omega, by omega, conn_symm h⟩⟩
theorem good_pair {n : Int} {ps : List Pp} (h : P2.Good n ps) : ps.Pairwise (fun p q => p.id < q.id) := by
  rw [List.pairwise_iff_getElem]
  intro i j hi hj hij
  induction j with
  | zero => omega
  | succ j ih =>
    have h1 := (h.2.2.2 (j + 1) hj ps[j + 1] (List.getElem?_eq_getElem hj)).2 ps[j] (by omega) (by rw [Nat.add_sub_cancel]; exact List.getElem?_eq_getElem (by omega))
    by_cases e : i = j
    · subst e; exact h1
    · exact Int.lt_trans (ih (by omega) (by omega)) h1
theorem good_sub {n : Int} {ps qs : List Pp} (h : P2.Good n ps) (hs : qs.Sublist ps) : P2.Good n qs := by
  have hp := (good_pair h).sublist hs
  rw [List.pairwise_iff_getElem] at hp
  refine ⟨h.1, h.2.1, Nat.le_trans hs.length_le h.2.2.1, fun i hi p hip => ⟨good_pp h (hs.subset (List.mem_of_getElem? hip)), fun q h0 hq => ?_⟩⟩
  obtain ⟨h1, rfl⟩ := List.getElem?_eq_some_iff.1 hip
  obtain ⟨h2, rfl⟩ := List.getElem?_eq_some_iff.1 hq
  exact hp (i - 1) i h2 h1 (by omega)
def wo (ps : List Pp) (i : Nat) : List Pp := ps.take i ++ ps.drop (i + 1)
theorem wo_sub (ps : List Pp) (i : Nat) : (wo ps i).Sublist ps := by
  unfold wo
  rw [← List.eraseIdx_eq_take_drop_succ]
  exact List.eraseIdx_sublist ps i
theorem wo_len (ps : List Pp) (i : Nat) (h : i < ps.length) : (wo ps i).length = ps.length - 1 := by
  unfold wo; rw [List.length_append, List.length_take, List.length_drop]; omega
end Go.Proofs.Ytlkomipjamelkab.S2
