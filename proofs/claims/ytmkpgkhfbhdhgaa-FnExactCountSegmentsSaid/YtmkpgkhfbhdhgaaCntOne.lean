/- Plain facts on the number of segments (chapter 4); no program in them. No conditions. -/
import Derived.Test.YtmkpgkhfbhdhgaaValOne
namespace Go.Proofs.Ytmkpgkhfbhdhgaa.P4
open P2

/-- The nodes 1 to k. -/
def lo (k : Nat) : Nat → Bool := fun e => decide (1 ≤ e ∧ e ≤ k)
theorem lo_iff {k e : Nat} : lo k e = true ↔ 1 ≤ e ∧ e ≤ k := by simp [lo]
theorem co_lo_mono {ps : List Pp} {vs : List Vv} {k m : Nat} (h : k ≤ m) : ∀ e, Co ps vs (lo k) e → Co ps vs (lo m) e :=
  Co.mono (fun e he => .base (lo_iff.2 (by have := lo_iff.1 he; omega)))
theorem lo_step {ps : List Pp} {vs : List Vv} {m : Nat} (h1 : 1 ≤ m) : coB ps vs (upd (coB ps vs (lo (m - 1))) m true) = coB ps vs (lo m) := by
  funext e
  rw [Bool.eq_iff_iff, coB_iff, coB_iff]
  constructor
  · refine fun h => Co.mono (fun a ha => ?_) e h
    unfold upd at ha
    by_cases ham : a = m
    · subst ham; exact .base (lo_iff.2 ⟨h1, Nat.le_refl _⟩)
    · rw [if_neg ham] at ha; exact co_lo_mono (by omega) a (coB_iff.1 ha)
  · refine fun h => Co.mono (fun a ha => ?_) e h
    have h2 := lo_iff.1 ha
    refine .base ?_
    unfold upd
    by_cases ham : a = m
    · rw [if_pos ham]
    · rw [if_neg ham]; exact coB_iff.2 (.base (lo_iff.2 (by omega)))
theorem lo_same {ps : List Pp} {vs : List Vv} {m : Nat} (h : coB ps vs (lo (m - 1)) m = true) : coB ps vs (lo (m - 1)) = coB ps vs (lo m) := by
  funext e
  rw [Bool.eq_iff_iff, coB_iff, coB_iff]
  constructor
  · exact fun h => co_lo_mono (by omega) e h
  · refine fun h2 => Co.mono (fun a ha => ?_) e h2
    have h3 := lo_iff.1 ha
    by_cases ham : a = m
    · subst ham; exact coB_iff.1 h
    · exact .base (lo_iff.2 (by omega))
/-- So many of the nodes 1 to k are the first of their segment. -/
noncomputable def cntN (ps : List Pp) (vs : List Vv) (k : Nat) : Nat := ((List.range k).filter fun j => !coB ps vs (lo j) (j + 1)).length
theorem cntN_zero (ps : List Pp) (vs : List Vv) : cntN ps vs 0 = 0 := rfl
theorem cntN_step (ps : List Pp) (vs : List Vv) (m : Nat) (h : 1 ≤ m) : cntN ps vs m = if coB ps vs (lo (m - 1)) m = true then cntN ps vs (m - 1) else cntN ps vs (m - 1) + 1 := by
  obtain ⟨k, rfl⟩ : ∃ k, m = k + 1 := ⟨m - 1, by omega⟩
  unfold cntN
  rw [List.range_succ, List.filter_append, List.length_append]
  simp only [Nat.add_sub_cancel]
  cases h : coB ps vs (lo k) (k + 1) <;> simp [h]
theorem cntN_le (ps : List Pp) (vs : List Vv) (k : Nat) : cntN ps vs k ≤ k := by
  unfold cntN
  exact Nat.le_trans (List.length_filter_le _ _) (by simp)
theorem first_node {ps : List Pp} {vs : List Vv} {m : Nat} : (∃ j, 1 ≤ j ∧ j < m ∧ coB ps vs (one m) j = true) ↔ coB ps vs (lo (m - 1)) m = true := by
  constructor
  · rintro ⟨j, h1, h2, h3⟩
    exact coB_iff.2 (co_of (lo_iff.2 (by omega)) (co_symm (coB_iff.1 h3)))
  · intro h
    obtain ⟨a, ha, hc⟩ := co_one (coB_iff.1 h)
    have := lo_iff.1 ha
    exact ⟨a, by omega, by omega, coB_iff.2 (co_symm hc)⟩
theorem alone_pipe {ps : List Pp} {vs : List Vv} {N i : Nat} : (∃ j, 1 ≤ j ∧ j ≤ N ∧ coB ps vs (one (9 + i)) j = true) ↔ coB ps vs (lo N) (9 + i) = true := by
  constructor
  · rintro ⟨j, h1, h2, h3⟩
    exact coB_iff.2 (co_of (lo_iff.2 ⟨h1, h2⟩) (co_symm (coB_iff.1 h3)))
  · intro h
    obtain ⟨a, ha, hc⟩ := co_one (coB_iff.1 h)
    have := lo_iff.1 ha
    exact ⟨a, by omega, by omega, coB_iff.2 (co_symm hc)⟩
theorem sorted_head {l : List Int} (hs : l.Pairwise (· < ·)) {y : Int} (hy : y ∈ l) : l.getD 0 0 ≤ y := by
  match l, hs with
  | [], _ => simp at hy
  | x :: t, hs =>
    have h1 := (List.pairwise_cons.1 hs).1
    rcases List.mem_cons.1 hy with rfl | h
    · simp
    · have := h1 y h; simp; omega
theorem head_mem {l : List Int} (h : 0 < l.length) : l.getD 0 0 ∈ l := by
  match l, h with
  | x :: t, _ => simp
theorem one_self {ps : List Pp} {vs : List Vv} {m : Nat} : coB ps vs (one m) m = true := coB_iff.2 (.base (by simp [one]))
/-- The first node of a node's segment. -/
theorem head_is {ps : List Pp} {vs : List Vv} {N m : Nat} (h1 : 1 ≤ m) (hN : m ≤ N) : 0 < (nodesL N (coB ps vs (one m)) true).length ∧ ((nodesL N (coB ps vs (one m)) true).getD 0 0 = (m : Int) ↔ coB ps vs (lo (m - 1)) m = false) := by
  have hmem : (m : Int) ∈ nodesL N (coB ps vs (one m)) true := nodesL_mem.2 ⟨m, rfl, h1, hN, one_self⟩
  have hpos : 0 < (nodesL N (coB ps vs (one m)) true).length := List.length_pos_iff.2 (fun e => by rw [e] at hmem; simp at hmem)
  refine ⟨hpos, ?_⟩
  have hle := sorted_head (nodesL_sorted N _ true) hmem
  obtain ⟨v, hv, hv1, hvN, hvs⟩ := nodesL_mem.1 (head_mem hpos)
  constructor
  · intro he
    cases hc : coB ps vs (lo (m - 1)) m with
    | false => rfl
    | true =>
      obtain ⟨j, hj1, hjm, hj⟩ := first_node.2 hc
      have := sorted_head (nodesL_sorted N (coB ps vs (one m)) true) (nodesL_mem.2 ⟨j, rfl, hj1, by omega, hj⟩)
      omega
  · intro hc
    by_cases hvm : v < m
    · have := first_node.1 ⟨v, hv1, hvm, hvs⟩
      rw [hc] at this; cases this
    · omega
theorem len_zero {ps : List Pp} {vs : List Vv} {N i : Nat} : (nodesL N (coB ps vs (one (9 + i))) true).length = 0 ↔ coB ps vs (lo N) (9 + i) = false := by
  rw [List.length_eq_zero_iff]
  constructor
  · intro he
    cases hc : coB ps vs (lo N) (9 + i) with
    | false => rfl
    | true =>
      obtain ⟨j, hj1, hjN, hj⟩ := alone_pipe.2 hc
      have := nodesL_mem.2 ⟨j, rfl, hj1, hjN, hj⟩
      rw [he] at this; simp at this
  · intro hc
    refine List.eq_nil_iff_forall_not_mem.2 fun y hy => ?_
    obtain ⟨v, rfl, h1, h2, h3⟩ := nodesL_mem.1 hy
    have := alone_pipe.1 ⟨v, h1, h2, h3⟩
    rw [hc] at this; cases this
end Go.Proofs.Ytmkpgkhfbhdhgaa.P4
