/- Flows of trees and what lies behind a pipe: plain facts, no program in them. Conditions: each theorem's own premises. -/
import Derived.Test.YtgjogjmfpbinfaaSpPl
import Derived.Test.YtgjogjmfpbinfaaLosP
namespace Go.Proofs.Ytgjogjmfpbinfaa.S2
open Go.RowKit P2

/-- 1 to N. -/
def upL (N : Nat) : List Int := (List.range N).map fun v : Nat => (v : Int) + 1
theorem upL_mem {N : Nat} {v : Int} : v ∈ upL N ↔ 1 ≤ v ∧ v ≤ N := by
  unfold upL
  rw [List.mem_map]
  constructor
  · rintro ⟨k, hk, rfl⟩
    have := List.mem_range.1 hk
    omega
  · rintro ⟨h1, h2⟩
    exact ⟨(v - 1).toNat, List.mem_range.2 (by omega), by omega⟩
theorem upL_sorted (N : Nat) : (upL N).Pairwise (· < ·) := by
  unfold upL
  rw [List.pairwise_map]
  exact List.pairwise_lt_range.imp (fun h => by omega)
open Classical in
/-- The nodes that are not connected with the source without a pipe. -/
noncomputable def dnB (ps : List Pp) (p : Pp) (s v : Int) : Bool := decide (¬ Conn (Wo ps p) v s)
open Classical in
theorem dnB_true {ps : List Pp} {p : Pp} {s v : Int} : dnB ps p s v = true ↔ ¬ Conn (Wo ps p) v s := by unfold dnB; exact decide_eq_true_iff
theorem dnB_false {ps : List Pp} {p : Pp} {s v : Int} (h : Conn (Wo ps p) v s) : dnB ps p s v = false := by
  cases e : dnB ps p s v with
  | false => rfl
  | true => exact absurd h (dnB_true.1 e)
noncomputable def dnTo (ps : List Pp) (p : Pp) (s : Int) (k : Nat) : List Int := (upL k).filter (dnB ps p s)
noncomputable def dnL (N : Nat) (ps : List Pp) (p : Pp) (s : Int) : List Int := dnTo ps p s N
theorem upL_snoc (k : Nat) : upL (k + 1) = upL k ++ [(k : Int) + 1] := by unfold upL; rw [List.range_succ, List.map_append]; rfl
theorem dnTo_yes {ps : List Pp} {p : Pp} {s : Int} {k : Nat} (h : dnB ps p s ((k : Int) + 1) = true) : dnTo ps p s (k + 1) = dnTo ps p s k ++ [(k : Int) + 1] := by
  unfold dnTo; rw [upL_snoc, List.filter_append]; simp [h]
theorem dnTo_no {ps : List Pp} {p : Pp} {s : Int} {k : Nat} (h : dnB ps p s ((k : Int) + 1) = false) : dnTo ps p s (k + 1) = dnTo ps p s k := by
  unfold dnTo; rw [upL_snoc, List.filter_append]; simp [h]
theorem dn_mem {N : Nat} {ps : List Pp} {p : Pp} {s v : Int} : v ∈ dnL N ps p s ↔ (1 ≤ v ∧ v ≤ N) ∧ ¬ Conn (Wo ps p) v s := by
  unfold dnL dnTo
  rw [List.mem_filter, upL_mem, dnB_true]
theorem dn_sorted (N : Nat) (ps : List Pp) (p : Pp) (s : Int) : (dnL N ps p s).Pairwise (· < ·) := (upL_sorted N).sublist List.filter_sublist
theorem dnTo_len (ps : List Pp) (p : Pp) (s : Int) (k : Nat) : (dnTo ps p s k).length ≤ k := Nat.le_trans (List.length_filter_le _ _) (by simp [upL])
theorem dn_len (N : Nat) (ps : List Pp) (p : Pp) (s : Int) : (dnL N ps p s).length ≤ N := dnTo_len ps p s N

/-! ### Sums over nodes -/
def sumG (g : Int → Int) : List Int → Int
  | [] => 0
  | x :: l => g x + sumG g l
theorem sumG_app (g : Int → Int) : ∀ (l m : List Int), sumG g (l ++ m) = sumG g l + sumG g m
  | [], m => by simp [sumG]
  | x :: l, m => by simp only [List.cons_append, sumG, sumG_app g l m]; omega
theorem sumG_perm {g : Int → Int} {l m : List Int} (h : l.Perm m) : sumG g l = sumG g m := by
  induction h with
  | nil => rfl
  | cons x _ ih => simp only [sumG, ih]
  | swap x y l => simp only [sumG]; omega
  | trans _ _ h1 h2 => rw [h1, h2]
theorem sumG_take (g : Int → Int) (l : List Int) : ∀ k, k ≤ l.length → sumK (fun i => g (lA l i)) k = sumG g (l.take k)
  | 0, _ => by simp [sumK, sumG]
  | k + 1, h => by
    have hk : k < l.length := by omega
    rw [sumK, sumG_take g l k (by omega), List.take_add_one, sumG_app]
    have e : lA l k = l[k] := by simp [lA, List.getD, hk]
    rw [e]
    simp [hk, sumG]
theorem sumG_all (g : Int → Int) (l : List Int) : sumK (fun i => g (lA l i)) l.length = sumG g l := by
  rw [sumG_take g l l.length (Nat.le_refl _), List.take_length]
/-- What a node takes. -/
def tk (dm : List Int) (v : Int) : Int := dm.getD (v - 1).toNat 0
theorem tk_in {dm : List Int} {N : Nat} (hr : allR 0 1000 dm = true) (hl : dm.length = N) {v : Int} (h1 : 1 ≤ v) (h2 : v ≤ N) : 0 ≤ tk dm v ∧ tk dm v ≤ 1000 := allR_at hr (i := (v - 1).toNat) (by omega)
theorem sumT_in {dm l : List Int} {N : Nat} (hr : allR 0 1000 dm = true) (hl : dm.length = N) (hm : ∀ v, v ∈ l → 1 ≤ v ∧ v ≤ N) (hn : l.length ≤ 8) {k : Nat} (hk : k ≤ l.length) : 0 ≤ sumK (fun i => tk dm (lA l i)) k ∧ sumK (fun i => tk dm (lA l i)) k ≤ 8000 := by
  have h1 : ∀ k, k ≤ l.length → 0 ≤ sumK (fun i => tk dm (lA l i)) k ∧ sumK (fun i => tk dm (lA l i)) k ≤ 1000 * (k : Int) := by
    intro k
    induction k with
    | zero => intro _; simp [sumK]
    | succ k ih =>
      intro hk
      have h2 := ih (by omega)
      have hm2 := hm (lA l k) (by
        have hk2 : k < l.length := by omega
        have e : lA l k = l[k] := by simp [lA, List.getD, hk2]
        rw [e]; exact List.getElem_mem hk2)
      have h3 := tk_in hr hl hm2.1 hm2.2
      have e : sumK (fun i => tk dm (lA l i)) (k + 1) = sumK (fun i => tk dm (lA l i)) k + tk dm (lA l k) := rfl
      rw [e]
      omega
  have := h1 k hk
  omega

/-! ### Flows of a tree -/
noncomputable def flowA (N : Nat) (ps : List Pp) (s : Int) (dm : List Int) (i : Nat) : Int :=
  if dnB ps (pAt ps i) s (pAt ps i).fr = true then -(sumG (tk dm) (dnL N ps (pAt ps i) s)) else sumG (tk dm) (dnL N ps (pAt ps i) s)
noncomputable def tfTo (N : Nat) (ps : List Pp) (s : Int) (dm : List Int) (k : Nat) : List Int := (List.range k).map (flowA N ps s dm)
noncomputable def tfL (N : Nat) (ps : List Pp) (s : Int) (dm : List Int) : List Int := tfTo N ps s dm ps.length
theorem tfTo_snoc (N : Nat) (ps : List Pp) (s : Int) (dm : List Int) (k : Nat) : tfTo N ps s dm (k + 1) = tfTo N ps s dm k ++ [flowA N ps s dm k] := by unfold tfTo; rw [List.range_succ, List.map_append]; rfl
theorem tfTo_len (N : Nat) (ps : List Pp) (s : Int) (dm : List Int) (k : Nat) : (tfTo N ps s dm k).length = k := by simp [tfTo]
theorem tfL_len (N : Nat) (ps : List Pp) (s : Int) (dm : List Int) : (tfL N ps s dm).length = ps.length := tfTo_len N ps s dm _
theorem tfL_at {N : Nat} {ps : List Pp} {s : Int} {dm : List Int} {i : Nat} (h : i < ps.length) : (tfL N ps s dm).getD i 0 = flowA N ps s dm i := by
  simp [tfL, tfTo, List.getD, h]
theorem sumD_in {N : Nat} {ps : List Pp} {p : Pp} {s : Int} {dm : List Int} (hN : N ≤ 8) (hr : allR 0 1000 dm = true) (hl : dm.length = N) : 0 ≤ sumG (tk dm) (dnL N ps p s) ∧ sumG (tk dm) (dnL N ps p s) ≤ 8000 := by
  have hn := dn_len N ps p s
  rw [← sumG_all]
  exact sumT_in hr hl (fun v hv => (dn_mem.1 hv).1) (by omega) (Nat.le_refl _)
theorem flow_in {N : Nat} {ps : List Pp} {s : Int} {dm : List Int} (hN : N ≤ 8) (hr : allR 0 1000 dm = true) (hl : dm.length = N) (i : Nat) : -8000 ≤ flowA N ps s dm i ∧ flowA N ps s dm i ≤ 8000 := by
  have := sumD_in (ps := ps) (p := pAt ps i) (s := s) hN hr hl
  unfold flowA
  split <;> omega
theorem tfL_in {N : Nat} {ps : List Pp} {s : Int} {dm : List Int} (hN : N ≤ 8) (hr : allR 0 1000 dm = true) (hl : dm.length = N) : allR (-8000) 8000 (tfL N ps s dm) = true :=
  allR_mk fun j hj => by
    rw [tfL_len] at hj
    rw [tfL_at hj]
    simpa [inR] using flow_in hN hr hl j

/-! ### What a search behind a pipe finds -/
theorem wo_none {ps : List Pp} {q : Pp} (h : q ∉ ps) : Wo ps q = ps := by
  unfold Wo
  exact List.filter_eq_self.2 fun e he => decide_eq_true fun hq => h (hq ▸ he)
theorem tree_full {N : Nat} {ps : List Pp} (hg : P2.Good N ps) (ht : treeB N ps = true) : Acy ps ∧ (∀ v : Nat, 1 ≤ v → v ≤ N → Conn ps 1 v) ∧ ps.length + 1 = N := by
  unfold treeB at ht
  rw [Bool.and_eq_true, decide_eq_true_iff, decide_eq_true_iff] at ht
  have hN := hg.1
  have hc := con_full (N := N) (ps := ps) (by omega) ht.2
  exact ⟨tree_acy hg ht.1 hc, hc, ht.1⟩
theorem tree_conn {N : Nat} {ps : List Pp} (h : ∀ v : Nat, 1 ≤ v → v ≤ N → Conn ps 1 v) {a b : Int} (a1 : 1 ≤ a) (a2 : a ≤ N) (b1 : 1 ≤ b) (b2 : b ≤ N) : Conn ps a b := by
  have ha := h a.toNat (by omega) (by omega)
  have hb := h b.toNat (by omega) (by omega)
  rw [Int.toNat_of_nonneg (by omega)] at ha hb
  exact ha.sy.tr hb
theorem root_not {N : Nat} {ps : List Pp} (hg : P2.Good N ps) : (⟨0, 0, 0, 0⟩ : Pp) ∉ ps := fun h => by have := (good_pp hg h).1; simp at this
/-- The far end of a pipe of a tree. -/
theorem far_end {N t : Nat} {ps : List Pp} (hg : P2.Good N ps) (ht : treeB N ps = true) (h1 : 1 ≤ t) (h2 : t ≤ N) {p : Pp} (hp : p ∈ ps) :
    ∃ y, fnd ps p (N + 1) t ⟨0, 0, 0, 0⟩ = some y ∧ (1 ≤ y ∧ y ≤ N) ∧ (∀ v, 1 ≤ v → v ≤ (N : Int) → (¬ Conn (Wo ps p) v t ↔ Conn (Wo ps p) y v)) ∧ (dnB ps p t p.fr = true ↔ p.fr = y) ∧ (∀ d, BrOk N ps y p → cntB N ps y p ≤ d → (nodesL ps d y p).Perm (dnL N ps p t)) := by
  obtain ⟨ha, hc, hlen⟩ := tree_full hg ht
  have hr := root_not hg
  have hbr : BrOk N ps t ⟨0, 0, 0, 0⟩ := ⟨by omega, by omega, .inr hr⟩
  have hpp := good_pp hg hp
  obtain ⟨_, _, f1, f2, t1, t2, hne, _, _⟩ := hpp
  have hy := fnd_yes hg ha hp (N + 1) t ⟨0, 0, 0, 0⟩ hbr (cnt_le N ps t _) (.inr (by rw [wo_none hr]; exact tree_conn hc (by omega) (by omega) f1 f2))
  obtain ⟨y, hfy⟩ := Option.ne_none_iff_exists'.1 hy
  rcases fnd_is hg ha (N + 1) t ⟨0, 0, 0, 0⟩ hbr (cnt_le N ps t _) hfy with ⟨h, _⟩ | ⟨_, hty, _, hns⟩
  · exact absurd (h ▸ hp) hr
  · have hy12 : 1 ≤ y ∧ y ≤ (N : Int) := by
      rcases hty with h | h
      · omega
      · omega
    have hb : ∀ v, 1 ≤ v → v ≤ (N : Int) → (¬ Conn (Wo ps p) v t ↔ Conn (Wo ps p) y v) := fun v v1 v2 => behind hp hty hns (tree_conn hc hy12.1 hy12.2 (by omega) (by omega)) (tree_conn hc hy12.1 hy12.2 v1 v2)
    refine ⟨y, hfy, hy12, hb, ?_, fun d hbo hcd => ?_⟩
    · rw [dnB_true, hb _ f1 f2]
      constructor
      · intro hcn
        rcases hty with h | h
        · exact h
        · exact absurd hcn.sy (by rw [← h]; exact ha p hp)
      · intro e
        rw [e]
        exact Conn.rf _ _
    · rw [List.perm_ext_iff_of_nodup (nodes_nodup hg ha d y p hbo hcd) ((dn_sorted N ps p t).imp (fun h => by omega))]
      intro v
      rw [nodes_mem hg ha d y p hbo hcd v, dn_mem]
      constructor
      · intro hv
        have hin : 1 ≤ v ∧ v ≤ (N : Int) := conn_ind (P := fun v => 1 ≤ v ∧ v ≤ (N : Int)) hy12 (fun u v _ _ hadj => by
          obtain ⟨e, he, hj⟩ := hadj
          have h3 := good_pp hg (mem_Wo.1 he).1
          rcases hj with ⟨_, rfl⟩ | ⟨_, rfl⟩
          · exact ⟨h3.2.2.2.2.1, h3.2.2.2.2.2.1⟩
          · exact ⟨h3.2.2.1, h3.2.2.2.1⟩) v hv
        exact ⟨hin, (hb v hin.1 hin.2).2 hv⟩
      · rintro ⟨hin, hv⟩
        exact (hb v hin.1 hin.2).1 hv
end Go.Proofs.Ytgjogjmfpbinfaa.S2
