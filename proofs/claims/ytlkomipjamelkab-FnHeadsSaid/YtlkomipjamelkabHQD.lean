/- Two lists beside a bool. Conditions: each theorem's own premises. -/
import Derived.Test.YtlkomipjamelkabHQB
import Derived.Test.YtlkomipjamelkabHQA
import Derived.Test.YtlkomipjamelkabNodeOne
import Derived.Test.YtlkomipjamelkabNetKit
import Derived.Test.YtlkomipjamelkabHQC
import Derived.Maps.AppendAt
import Derived.Test.YtlkomipjamelkabTrS
import Derived.Test.YtlkomipjamelkabReachThree
import Derived.Test.YtlkomipjamelkabWoPl
namespace Go.Proofs.Ytlkomipjamelkab.S2
open Go.RowKit P2

theorem tb_nn {g : Int → Int} : ∀ {l : List Int}, (∀ v, v ∈ l → 0 ≤ g v) → 0 ≤ sumG g l
  | [], _ => Int.le_refl _
  | x :: l, h => by
    have h1 := h x (by simp)
    have h2 := tb_nn (l := l) fun v hv => h v (by simp [hv])
    show 0 ≤ g x + sumG g l
    omega
theorem tb_filter {g : Int → Int} {p : Int → Bool} : ∀ {l : List Int}, (∀ v, v ∈ l → 0 ≤ g v) → sumG g (l.filter p) ≤ sumG g l
  | [], _ => Int.le_refl _
  | x :: l, h => by
    have h1 := h x (by simp)
    have h2 := tb_filter (p := p) (l := l) fun v hv => h v (by simp [hv])
    have e : sumG g (x :: l) = g x + sumG g l := rfl
    cases hp : p x with
    | false => rw [List.filter_cons_of_neg (by simp [hp])]; omega
    | true =>
      rw [List.filter_cons_of_pos hp]
      show g x + sumG g (l.filter p) ≤ _
      omega
theorem tk_up (dm : List Int) (k : Nat) : tk dm ((k : Int) + 1) = lA dm k := by
  unfold tk lA
  rw [show ((k : Int) + 1 - 1).toNat = k by omega]
theorem tb_up (dm : List Int) : ∀ k, sumG (tk dm) (upL k) = sumK (lA dm) k
  | 0 => rfl
  | k + 1 => by
    rw [upL_snoc, sumG_app, tb_up dm k]
    have e := tk_up dm k
    show sumK (lA dm) k + (tk dm ((k : Int) + 1) + 0) = sumK (lA dm) k + lA dm k
    omega
/-- What flows behind a pipe of a tree. -/
noncomputable def behS (N : Nat) (ps : List Pp) (s : Int) (dm : List Int) (i : Nat) : Int := sumG (tk dm) (dnL N ps (pAt ps i) s)
theorem beh_le {N : Nat} {ps : List Pp} {s : Int} {dm : List Int} (hr : allR 0 1000 dm = true) (hl : dm.length = N) (i : Nat) : 0 ≤ behS N ps s dm i ∧ behS N ps s dm i ≤ sumL dm := by
  have hnn : ∀ v, v ∈ upL N → 0 ≤ tk dm v := fun v hv => (tk_in hr hl (upL_mem.1 hv).1 (upL_mem.1 hv).2).1
  have h1 : sumG (tk dm) (dnL N ps (pAt ps i) s) ≤ sumL dm := by
    have := tb_filter (p := dnB ps (pAt ps i) s) hnn
    rw [tb_up] at this
    unfold sumL
    rw [hl]
    exact this
  exact ⟨tb_nn fun v hv => hnn v (List.mem_filter.1 hv).1, h1⟩
theorem beh_flow (N : Nat) (ps : List Pp) (s : Int) (dm : List Int) (i : Nat) : flowA N ps s dm i = if dnB ps (pAt ps i) s (pAt ps i).fr = true then -(behS N ps s dm i) else behS N ps s dm i := rfl
theorem beh_has {N : Nat} {ps : List Pp} {s : Int} (hg : P2.Good N ps) {i : Nat} (hi : i < ps.length) : decide ((pAt ps i).fr ∈ dnL N ps (pAt ps i) s) = dnB ps (pAt ps i) s (pAt ps i).fr := by
  have hp := good_pp hg (pAt_mem hi)
  obtain ⟨_, _, f1, f2, _⟩ := hp
  rw [Bool.eq_iff_iff, decide_eq_true_iff, dn_mem, dnB_true]
  exact ⟨fun h => h.2, fun h => ⟨⟨f1, f2⟩, h⟩⟩

/-! ### Sums -/
theorem sk_same {f g : Nat → Int} : ∀ {k : Nat}, (∀ i, i < k → f i = g i) → sumK f k = sumK g k
  | 0, _ => rfl
  | k + 1, h => by
    have h1 := sk_same (f := f) (g := g) (k := k) (fun i hi => h i (by omega))
    have h2 := h k (by omega)
    simp only [sumK, h1, h2]
theorem sk_add (f g : Nat → Int) : ∀ k, sumK (fun i => f i + g i) k = sumK f k + sumK g k
  | 0 => rfl
  | k + 1 => by simp only [sumK]; rw [sk_add f g k]; omega
theorem sk_zero : ∀ k, sumK (fun _ => 0) k = 0
  | 0 => rfl
  | k + 1 => by simp only [sumK]; rw [sk_zero k]; rfl
theorem sk_mul (c : Int) (f : Nat → Int) : ∀ k, sumK (fun i => c * f i) k = c * sumK f k
  | 0 => by simp [sumK]
  | k + 1 => by simp only [sumK]; rw [sk_mul c f k, Int.mul_add]
theorem sk_swap (f : Nat → Nat → Int) (m : Nat) : ∀ k, sumK (fun i => sumK (fun j => f i j) m) k = sumK (fun j => sumK (fun i => f i j) k) m
  | 0 => (sk_zero m).symm
  | k + 1 => by
    have e : sumK (fun i => sumK (fun j => f i j) m) (k + 1) = sumK (fun i => sumK (fun j => f i j) m) k + sumK (fun j => f k j) m := rfl
    rw [e, sk_swap f m k, ← sk_add]
    rfl
/-- Two sums that differ at one place. -/
theorem sk_one {f g : Nat → Int} {j : Nat} : ∀ {k : Nat}, j < k → (∀ i, i < k → i ≠ j → f i = g i) → sumK f k = sumK g k + (f j - g j)
  | 0, hj, _ => absurd hj (by omega)
  | k + 1, hj, h => by
    simp only [sumK]
    by_cases e : j = k
    · subst e
      rw [sk_same (f := f) (g := g) (k := j) (fun i hi => h i (by omega) (by omega))]
      omega
    · rw [sk_one (k := k) (by omega) (fun i hi hn => h i (by omega) hn), h k (by omega) (fun e2 => e e2.symm)]
      omega
theorem sk_pick {f : Nat → Int} {j k : Nat} (hj : j < k) (h : ∀ i, i < k → i ≠ j → f i = 0) : sumK f k = f j := by
  rw [sk_one (g := fun _ => 0) hj h, sk_zero]
  omega
theorem sumG_dn (g : Int → Int) (ps : List Pp) (p : Pp) (s : Int) : ∀ k, sumG g (dnTo ps p s k) = sumK (fun j => if dnB ps p s ((j : Int) + 1) = true then g ((j : Int) + 1) else 0) k
  | 0 => rfl
  | k + 1 => by
    have ih := sumG_dn g ps p s k
    simp only [sumK]
    by_cases h : dnB ps p s ((k : Int) + 1) = true
    · rw [dnTo_yes h, sumG_app, ih, if_pos h]
      show _ + (g ((k : Int) + 1) + 0) = _
      omega
    · rw [dnTo_no (by simpa using h), ih, if_neg h]
      omega

/-! ### One node's share -/
/-- Which way a unit from s to u takes a pipe. -/
noncomputable def phi (ps : List Pp) (s u : Int) (i : Nat) : Int :=
  if dnB ps (pAt ps i) s u = true then (if dnB ps (pAt ps i) s (pAt ps i).fr = true then -1 else 1) else 0
def ev (ps : List Pp) (v : Int) (i : Nat) : Int := (if (pAt ps i).to = v then 1 else 0) - (if (pAt ps i).fr = v then 1 else 0)
theorem pAt_inj {n : Int} {ps : List Pp} (hg : P2.Good n ps) {i j : Nat} (hi : i < ps.length) (hj : j < ps.length) (h : pAt ps i = pAt ps j) : i = j := by
  have h1 := (plc_at hg hi).1
  have h2 := (plc_at hg hj).1
  rw [h] at h1
  omega
theorem unit_bal {N : Nat} {ps : List Pp} (hg : P2.Good N ps) (ha : Acy ps) (s v : Int) : ∀ u, Conn ps s u → sumK (fun i => ev ps v i * phi ps s u i) ps.length = (if u = v then 1 else 0) - (if s = v then 1 else 0) := by
  refine conn_ind _ ?_ ?_
  · rw [sk_same (g := fun _ => 0) (fun i hi => ?_), sk_zero]
    · omega
    · show ev ps v i * phi ps s s i = 0
      unfold phi
      rw [dnB_false (Conn.rf _ s), if_neg Bool.false_ne_true, Int.mul_zero]
  · rintro u u' hsu ih ⟨p, hp, hj⟩
    obtain ⟨j, hjl, rfl⟩ := pp_at hp
    have hfar : ∀ i, i < ps.length → i ≠ j → ev ps v i * phi ps s u' i = ev ps v i * phi ps s u i := by
      intro i hi hne
      have hadj : Adj (Wo ps (pAt ps i)) u u' := ⟨pAt ps j, mem_Wo.2 ⟨hp, fun e => hne (pAt_inj hg hi hjl e.symm)⟩, hj⟩
      have e : dnB ps (pAt ps i) s u' = dnB ps (pAt ps i) s u := by
        rw [Bool.eq_iff_iff, dnB_true, dnB_true]
        exact ⟨fun h hc => h ((Conn.adj hadj.symm).tr hc), fun h hc => h ((Conn.adj hadj).tr hc)⟩
      unfold phi
      rw [e]
    rw [sk_one hjl hfar, ih]
    have hpp := good_pp hg hp
    obtain ⟨_, _, _, _, _, _, hft, _⟩ := hpp
    have hnc : ¬ Conn (Wo ps (pAt ps j)) u u' := by
      rcases hj with ⟨h1, h2⟩ | ⟨h1, h2⟩
      · rw [← h1, ← h2]; exact ha _ hp
      · rw [← h1, ← h2]; exact fun hc => ha _ hp hc.sy
    have hadj : Adj ps u u' := ⟨_, hp, hj⟩
    have key : ev ps v j * phi ps s u' j - ev ps v j * phi ps s u j = (if u' = v then 1 else 0) - (if u = v then 1 else 0) := by
      have hev : ∀ x y : Int, (pAt ps j).fr = x → (pAt ps j).to = y → ev ps v j = (if y = v then 1 else 0) - (if x = v then 1 else 0) := by
        rintro x y rfl rfl; rfl
      by_cases hu : Conn (Wo ps (pAt ps j)) u s
      · have hu' : ¬ Conn (Wo ps (pAt ps j)) u' s := fun hc => hnc (hu.tr hc.sy)
        have d1 : dnB ps (pAt ps j) s u = false := dnB_false hu
        have d2 : dnB ps (pAt ps j) s u' = true := dnB_true.2 hu'
        have f1 : phi ps s u j = 0 := by unfold phi; rw [d1, if_neg Bool.false_ne_true]
        rcases hj with ⟨h1, h2⟩ | ⟨h1, h2⟩
        · have f2 : phi ps s u' j = 1 := by unfold phi; rw [d2, if_pos rfl, h1, d1, if_neg Bool.false_ne_true]
          rw [f1, f2, hev u u' h1 h2]
          generalize (if u' = v then (1 : Int) else 0) = X
          generalize (if u = v then (1 : Int) else 0) = Y
          omega
        · have f2 : phi ps s u' j = -1 := by unfold phi; rw [d2, if_pos rfl, h2, d2, if_pos rfl]
          rw [f1, f2, hev u' u h2 h1]
          generalize (if u' = v then (1 : Int) else 0) = X
          generalize (if u = v then (1 : Int) else 0) = Y
          omega
      · have hu' : Conn (Wo ps (pAt ps j)) u' s := Classical.byContradiction fun hc => hnc ((behind hp (jn_tch hj).1 hu hsu.sy (Conn.adj hadj)).1 hc)
        have d1 : dnB ps (pAt ps j) s u = true := dnB_true.2 hu
        have d2 : dnB ps (pAt ps j) s u' = false := dnB_false hu'
        have f2 : phi ps s u' j = 0 := by unfold phi; rw [d2, if_neg Bool.false_ne_true]
        rcases hj with ⟨h1, h2⟩ | ⟨h1, h2⟩
        · have f1 : phi ps s u j = -1 := by unfold phi; rw [d1, if_pos rfl, h1, d1, if_pos rfl]
          rw [f1, f2, hev u u' h1 h2]
          generalize (if u' = v then (1 : Int) else 0) = X
          generalize (if u = v then (1 : Int) else 0) = Y
          omega
        · have f1 : phi ps s u j = 1 := by unfold phi; rw [d1, if_pos rfl, h2, d2, if_neg Bool.false_ne_true]
          rw [f1, f2, hev u' u h2 h1]
          generalize (if u' = v then (1 : Int) else 0) = X
          generalize (if u = v then (1 : Int) else 0) = Y
          omega
    omega
theorem flow_phi (N : Nat) (ps : List Pp) (s : Int) (dm : List Int) (i : Nat) : flowA N ps s dm i = sumK (fun j => lA dm j * phi ps s ((j : Int) + 1) i) N := by
  have h : ∀ b : Bool, dnB ps (pAt ps i) s (pAt ps i).fr = b → sumK (fun j => lA dm j * phi ps s ((j : Int) + 1) i) N = (if b = true then -1 else 1) * sumK (fun j => if dnB ps (pAt ps i) s ((j : Int) + 1) = true then tk dm ((j : Int) + 1) else 0) N := by
    intro b hb
    rw [← sk_mul]
    refine sk_same fun j _ => ?_
    show lA dm j * phi ps s ((j : Int) + 1) i = _
    unfold phi
    rw [hb, tk_up]
    by_cases hd : dnB ps (pAt ps i) s ((j : Int) + 1) = true
    · rw [if_pos hd, if_pos hd]
      exact Int.mul_comm _ _
    · rw [if_neg hd, if_neg hd, Int.mul_zero, Int.mul_zero]
  unfold flowA dnL
  rw [sumG_dn]
  cases hb : dnB ps (pAt ps i) s (pAt ps i).fr with
  | false => rw [h false hb, if_neg (by simp), if_neg (by simp)]; omega
  | true => rw [h true hb, if_pos rfl, if_pos rfl]; omega
/-- Tree flows balance at every node. -/
theorem tree_bal {N s : Nat} {ps : List Pp} (hg : P2.Good N ps) (ht : treeB N ps = true) (h1 : 1 ≤ s) (h2 : s ≤ N) {dm : List Int} (hl : dm.length = N) (v : Nat) : imbA s dm ps (tfL N ps s dm) v = 0 := by
  by_cases hv : v = 0 ∨ N < v
  · exact imbA_out hg hl h1 h2 hv
  · have v1 : 1 ≤ v := by omega
    have v2 : v ≤ N := by omega
    obtain ⟨ha, hc, _⟩ := tree_full hg ht
    have e : sumK (fT ps (tfL N ps s dm) v) ps.length = lA dm (v - 1) - (if v = s then sumK (lA dm) N else 0) := by
      have e1 : sumK (fT ps (tfL N ps s dm) v) ps.length = sumK (fun i => sumK (fun j => lA dm j * (ev ps v i * phi ps s ((j : Int) + 1) i)) N) ps.length := by
        refine sk_same fun i hi => ?_
        have e2 : sumK (fun j => lA dm j * (ev ps v i * phi ps s ((j : Int) + 1) i)) N = ev ps v i * flowA N ps s dm i := by
          rw [flow_phi, ← sk_mul]
          refine sk_same fun j _ => ?_
          show lA dm j * (ev ps v i * phi ps s ((j : Int) + 1) i) = ev ps v i * (lA dm j * phi ps s ((j : Int) + 1) i)
          rw [← Int.mul_assoc, ← Int.mul_assoc, Int.mul_comm (lA dm j)]
        rw [e2]
        unfold fT ev lA
        rw [tfL_at hi]
        by_cases c1 : (pAt ps i).to = (v : Int) <;> by_cases c2 : (pAt ps i).fr = (v : Int) <;> simp only [c1, c2, if_true, if_false] <;> omega
      rw [e1, sk_swap]
      have e3 : sumK (fun j => sumK (fun i => lA dm j * (ev ps v i * phi ps s ((j : Int) + 1) i)) ps.length) N = sumK (fun j => (if j = v - 1 then lA dm j else 0) + (if v = s then -(lA dm j) else 0)) N := by
        refine sk_same fun j hj => ?_
        have hb := unit_bal hg ha s v ((j : Int) + 1) (tree_conn hc (by omega) (by omega) (by omega) (by omega))
        show sumK (fun i => lA dm j * (ev ps v i * phi ps s ((j : Int) + 1) i)) ps.length = _
        rw [sk_mul, hb]
        by_cases c1 : j = v - 1 <;> by_cases c2 : v = s
        · rw [if_pos (by omega), if_pos (by omega), if_pos c1, if_pos c2]; omega
        · rw [if_pos (by omega), if_neg (by omega), if_pos c1, if_neg c2]; omega
        · rw [if_neg (by omega), if_pos (by omega), if_neg c1, if_pos c2]; omega
        · rw [if_neg (by omega), if_neg (by omega), if_neg c1, if_neg c2]; omega
      rw [e3, sk_add, sk_pick (j := v - 1) (by omega) (fun i _ hn => if_neg hn)]
      rw [if_pos rfl]
      by_cases c2 : v = s
      · rw [sk_same (g := fun j => (-1) * lA dm j) (fun j _ => by show (if v = s then -(lA dm j) else 0) = _; rw [if_pos c2]; omega), sk_mul, if_pos c2]; omega
      · rw [sk_same (g := fun _ => 0) (fun j _ => by show (if v = s then -(lA dm j) else 0) = _; rw [if_neg c2]), sk_zero, if_neg c2]; omega
    unfold imbA iS dS
    rw [e, hl, if_pos (show 1 ≤ v ∧ v ≤ N from ⟨v1, v2⟩)]
    omega

/-! ### All imbalances add up to nothing -/
/-- The imbalances at 1 to k. -/
noncomputable def totI (s : Nat) (dm : List Int) (ps : List Pp) (fl : List Int) (k : Nat) : Int := sumK (fun j => imbA s dm ps fl (j + 1)) k
noncomputable def zerI (s : Nat) (dm : List Int) (ps : List Pp) (fl : List Int) (k : Nat) : Bool := (List.range k).all fun j => imbA s dm ps fl (j + 1) == 0
theorem zerI_succ (s : Nat) (dm : List Int) (ps : List Pp) (fl : List Int) (k : Nat) : zerI s dm ps fl (k + 1) = (zerI s dm ps fl k && (imbA s dm ps fl (k + 1) == 0)) := by
  unfold zerI; rw [List.range_succ, List.all_append]; simp
theorem imb_in {s N : Nat} {dm : List Int} {ps : List Pp} {fl : List Int} (hN : N ≤ 8) (hr : allR 0 1000 dm = true) (hl : dm.length = N) (hf : allR (-8000) 8000 fl = true) (hfl : fl.length = ps.length) (hp : ps.length ≤ 10) (v : Nat) : -300000 ≤ imbA s dm ps fl v ∧ imbA s dm ps fl v ≤ 300000 :=
  iS_in hr (by omega) hf (by omega) (by omega) v
theorem tot_in {s N : Nat} {dm : List Int} {ps : List Pp} {fl : List Int} (hN : N ≤ 8) (hr : allR 0 1000 dm = true) (hl : dm.length = N) (hf : allR (-8000) 8000 fl = true) (hfl : fl.length = ps.length) (hp : ps.length ≤ 10) : ∀ k : Nat, -(300000 * (k : Int)) ≤ totI s dm ps fl k ∧ totI s dm ps fl k ≤ 300000 * (k : Int)
  | 0 => ⟨by simp [totI, sumK], by simp [totI, sumK]⟩
  | k + 1 => by
    have h1 := tot_in (s := s) hN hr hl hf hfl hp k
    have h2 := imb_in (s := s) hN hr hl hf hfl hp (k + 1)
    have e : totI s dm ps fl (k + 1) = totI s dm ps fl k + imbA s dm ps fl (k + 1) := rfl
    rw [e]; omega
theorem tot_zero {s N : Nat} {dm : List Int} {ps : List Pp} {fl : List Int} (hg : P2.Good N ps) (h1 : 1 ≤ s) (h2 : s ≤ N) (hl : dm.length = N) : totI s dm ps fl N = 0 := by
  have e1 : totI s dm ps fl N = sumK (fun j => ((if j = s - 1 then sumK (lA dm) N else 0) + (-1) * lA dm j) + sumK (fT ps fl (j + 1)) ps.length) N := by
    refine sk_same fun j hj => ?_
    show imbA s dm ps fl (j + 1) = _
    unfold imbA iS dS
    rw [hl, if_pos (show 1 ≤ j + 1 ∧ j + 1 ≤ N by omega), Nat.add_sub_cancel]
    by_cases c : j = s - 1
    · rw [if_pos c, if_pos (by omega)]; omega
    · rw [if_neg c, if_neg (by omega)]; omega
  have e2 : sumK (fun j => sumK (fun i => fT ps fl (j + 1) i) ps.length) N = 0 := by
    rw [sk_swap, sk_same (g := fun _ => 0) (fun i hi => ?_), sk_zero]
    obtain ⟨_, _, f1, f2, t1, t2, _⟩ := good_pp hg (pAt_mem hi)
    show sumK (fun j => fT ps fl (j + 1) i) N = 0
    have e3 : sumK (fun j => fT ps fl (j + 1) i) N = sumK (fun j => (if j = ((pAt ps i).to - 1).toNat then lA fl i else 0) + (if j = ((pAt ps i).fr - 1).toNat then -(lA fl i) else 0)) N := by
      refine sk_same fun j hj => ?_
      show fT ps fl (j + 1) i = _
      unfold fT
      have c1 : ((pAt ps i).to = ((j + 1 : Nat) : Int)) ↔ j = ((pAt ps i).to - 1).toNat := by omega
      have c2 : ((pAt ps i).fr = ((j + 1 : Nat) : Int)) ↔ j = ((pAt ps i).fr - 1).toNat := by omega
      by_cases d1 : j = ((pAt ps i).to - 1).toNat <;> by_cases d2 : j = ((pAt ps i).fr - 1).toNat
      · rw [if_pos (c1.2 d1), if_pos (c2.2 d2), if_pos d1, if_pos d2]; omega
      · rw [if_pos (c1.2 d1), if_neg (fun h => d2 (c2.1 h)), if_pos d1, if_neg d2]; omega
      · rw [if_neg (fun h => d1 (c1.1 h)), if_pos (c2.2 d2), if_neg d1, if_pos d2]; omega
      · rw [if_neg (fun h => d1 (c1.1 h)), if_neg (fun h => d2 (c2.1 h)), if_neg d1, if_neg d2]; omega
    rw [e3, sk_add, sk_pick (j := ((pAt ps i).to - 1).toNat) (by omega) (fun i _ hn => if_neg hn), sk_pick (j := ((pAt ps i).fr - 1).toNat) (by omega) (fun i _ hn => if_neg hn), if_pos rfl, if_pos rfl]
    omega
  rw [e1, sk_add, e2, sk_add, sk_pick (j := s - 1) (by omega) (fun i _ hn => if_neg hn), if_pos rfl, sk_mul]
  omega
end Go.Proofs.Ytlkomipjamelkab.S2

namespace Go.Proofs.Ytlkomipjamelkab.S2
open Go.RowKit P2

theorem way_no1 (n : Int) (A : Option Addr) (cap : Nat) (ps : List Pp) (x y : Int) (w : World) (h : PAt w A ps) (hm : ps.length ≤ maxLen) (hv : nodeB n ps x = false) :
    Calls Try.prog 80 #[nv n A ps.length cap, .int .i64 x, .int .i64 y] w (GivesI w [] false) := by
  have H := Lib.hid (fun w' (hb : Below w.heap.size w w') => node_v hv A cap w' (h.kept hb (Nat.le_refl _)) hm)
  clear h hv
  go_enter Try.func80, Try.ntmps80
  go_wp2_with (go_at_call 73; refine (H.out _ ((Below.refl _ _).alloc (Nat.le_refl _) _)).mono ?_; rintro e w1 ⟨rfl, hb1⟩)
  go_ret2
  exact gives_none (below_alloc_call hb1)

theorem way_no2 (n : Int) (A : Option Addr) (cap : Nat) (ps : List Pp) (x y : Int) (w : World) (h : PAt w A ps) (hm : ps.length ≤ maxLen) (hv : nodeB n ps x = true) (hv2 : nodeB n ps y = false) :
    Calls Try.prog 80 #[nv n A ps.length cap, .int .i64 x, .int .i64 y] w (GivesI w [] false) := by
  have H := Lib.hid (fun w' (hb : Below w.heap.size w w') => node_v hv A cap w' (h.kept hb (Nat.le_refl _)) hm)
  have H2 := Lib.hid (fun w' (hb : Below w.heap.size w w') => node_v hv2 A cap w' (h.kept hb (Nat.le_refl _)) hm)
  clear h hv hv2
  go_enter Try.func80, Try.ntmps80
  go_wp2_with (first
    | (go_at_call_of 73 (Value.int IntKind.i64 x); refine (H.out _ ((Below.refl _ _).alloc (Nat.le_refl _) _)).mono ?_; rintro e w1 ⟨rfl, hb1⟩; obtain ⟨hc1, hf1⟩ := bcell hb1; have hB1 := Lib.hid (below_alloc_call hb1))
    | (go_at_call_of 73 (Value.int IntKind.i64 y); refine (H2.out _ hB1.out).mono ?_; rintro e w2 ⟨rfl, hb2⟩))
  go_ret2
  exact gives_none (hB1.out.trans (hb2.mono hB1.out.size))

set_option maxHeartbeats 2000000 in
theorem way_no3 (N X T : Nat) (A : Option Addr) (cap : Nat) (ps : List Pp) (w : World) (h : PAt w A ps) (hm : ps.length ≤ maxLen) (hv : nodeB N ps X = true) (hv2 : nodeB N ps T = true) (hd : dist ps T X = -1) :
    Calls Try.prog 80 #[nv N A ps.length cap, .int .i64 X, .int .i64 T] w (GivesI w [] false) := by
  obtain ⟨hg, hx1, hx2⟩ := nodeB_of hv
  obtain ⟨_, hy1, hy2⟩ := nodeB_of hv2
  have H := Lib.hid (fun w' (hb : Below w.heap.size w w') => node_v hv A cap w' (h.kept hb (Nat.le_refl _)) hm)
  have H2 := Lib.hid (fun w' (hb : Below w.heap.size w w') => node_v hv2 A cap w' (h.kept hb (Nat.le_refl _)) hm)
  have HD := Lib.hid (fun w' (hb : Below w.heap.size w w') => dist_any N T A cap ps w' (h.kept hb (Nat.le_refl _)) hg (by omega) (by omega))
  have hX0 : (0 : Int) ≤ (X : Int) := by omega
  have hXN : (X : Int) < (N : Int) + 1 := by omega
  have HL := Lib.hid (distL_len N ps T)
  have HX := Lib.hid (show dA (distL N ps T) X = -1 by rw [distL_at N ps T X (by omega) (by omega)]; exact hd)
  clear h hv hv2 hg hd
  go_enter Try.func80, Try.ntmps80
  go_wp2_with (first
    | (go_at_call_of 73 (Value.int IntKind.i64 (X : Int)); refine (H.out _ ((Below.refl _ _).alloc (Nat.le_refl _) _)).mono ?_; rintro e w1 ⟨rfl, hb1⟩; obtain ⟨hc1, hf1⟩ := bcell hb1; have hB1 := Lib.hid (below_alloc_call hb1))
    | (go_at_call_of 73 (Value.int IntKind.i64 (T : Int)); refine (H2.out _ hB1.out).mono ?_; rintro e w2 ⟨rfl, hb2⟩; have hb12 := Lib.hid (hb1.trans (hb2.mono hb1.size)); obtain ⟨hc2, hf2⟩ := bcell hb12.out; have hB2 := Lib.hid (below_alloc_call hb12.out))
    | (go_at_call 105; refine (HD.out _ hB2.out).mono ?_; rintro e w3 ⟨⟨gD, D, rfl, hgD, hdr, hDe⟩, hb3⟩; have cx := hdr.cell (v := X) (by rw [hDe, HL.out]; omega); rw [hDe, HX.out] at cx))
  go_ret2
  have hz := hB2.out.size
  exact gives_none (hB2.out.trans (hb3.mono hz))

set_option maxHeartbeats 8000000 in
set_option maxRecDepth 100000 in
theorem way_yes (N X T : Nat) (A : Option Addr) (cap : Nat) (ps : List Pp) (w : World) (h : PAt w A ps) (hm : ps.length ≤ maxLen) (hv : nodeB N ps X = true) (hv2 : nodeB N ps T = true) (K : Nat) (hd : dist ps T X = K) :
    Calls Try.prog 80 #[nv N A ps.length cap, .int .i64 X, .int .i64 T] w (GivesI w (wayL ps T K X) true) := by
  obtain ⟨hg, hx1, hx2⟩ := nodeB_of hv
  obtain ⟨_, hy1, hy2⟩ := nodeB_of hv2
  have H := Lib.hid (fun w' (hb : Below w.heap.size w w') => node_v hv A cap w' (h.kept hb (Nat.le_refl _)) hm)
  have H2 := Lib.hid (fun w' (hb : Below w.heap.size w w') => node_v hv2 A cap w' (h.kept hb (Nat.le_refl _)) hm)
  have HD := Lib.hid (fun w' (hb : Below w.heap.size w w') => dist_any N T A cap ps w' (h.kept hb (Nat.le_refl _)) hg (by omega) (by omega))
  have HB := Lib.hid (fun w' (hb : Below w.heap.size w w') => bynode_any N A cap ps w' (h.kept hb (Nat.le_refl _)) hg)
  have HG := Lib.hid hg
  have hX0 : (0 : Int) ≤ (X : Int) := by omega
  have hXN : (X : Int) < (N : Int) + 1 := by omega
  have hN : N ≤ 8 := by have := hg.2.1; omega
  have hKN := dist_le (t := T) hg X (by omega)
  have HL := Lib.hid (distL_len N ps T)
  have HX := Lib.hid (show dA (distL N ps T) X = (K : Int) by rw [distL_at N ps T X (by omega) (by omega)]; exact hd)
  have HAT := Lib.hid (fun (v : Nat) (h1 : 1 ≤ v) (h2 : v ≤ N) => distL_at N ps T v h2 (by omega))
  have hKn : ((K : Int) == -1) = false := beq_eq_false_iff_ne.2 (by omega)
  obtain ⟨i0, hi, hz0, hz1, hz2⟩ := info_parts infoI
  have HDX := Lib.hid hd
  have hK8 : K ≤ 8 := by omega
  clear h hv hv2 hg hd hKN
  go_enter Try.func80, Try.ntmps80
  go_wp2_with (first
    | (go_at_call_of 73 (Value.int IntKind.i64 (X : Int)); refine (H.out _ ((Below.refl _ _).alloc (Nat.le_refl _) _)).mono ?_; rintro e w1 ⟨rfl, hb1⟩; obtain ⟨hc1, hf1⟩ := bcell hb1; have hB1 := Lib.hid (below_alloc_call hb1))
    | (go_at_call_of 73 (Value.int IntKind.i64 (T : Int)); refine (H2.out _ hB1.out).mono ?_; rintro e w2 ⟨rfl, hb2⟩; have hb12 := Lib.hid (hb1.trans (hb2.mono hb1.size)); obtain ⟨hc2, hf2⟩ := bcell hb12.out; have hB2 := Lib.hid (below_alloc_call hb12.out))
    | (go_at_call 105; refine (HD.out _ hB2.out).mono ?_; rintro e w3 ⟨⟨gD, D, rfl, hgD, hdr, hDe⟩, hb3⟩; have cx := hdr.cell (v := X) (by rw [hDe, HL.out]; omega); rw [hDe, HX.out] at cx; have hb13 := Lib.hid (hb12.out.trans (hb3.mono hb12.out.size)); obtain ⟨hc3, hf3⟩ := bcell hb13.out; have hB3 := Lib.hid (below_alloc_call hb13.out))
    | (go_at_call 126; refine (HB.out _ hB3.out).mono ?_; rintro e w4 ⟨⟨G, rfl, hbn⟩, hb4⟩; refine Hid.out ?_)
    | fail)
  have hB4 := Lib.hid (hB3.out.trans (hb4.mono hB3.out.size))
  have hD4 := Lib.hid (hdr.kept (hb4.block gD hdr.lt))
  rw [hDe] at hD4
  have HBN := Lib.hid hbn
  have hgD4 := hD4.out.lt
  have hG4 := hbn.lt
  have hz4 := hB4.out.size
  clear cx hc1 hf1 hc2 hf2 hc3 hf3 hb1 hb2 hb3 hb4 hb12 hb13 hB1 hB2 hB3 hdr hbn hDe hgD H H2 HD HB
  refine Lib.hid ?_
  go_wp2
  have hO := own_empty w4 w4.heap.size (Nat.le_refl _)
  have hb0 : Below w4.heap.size w4 (w4.alloc (.cells #[] 3)) := (Below.refl _ _).alloc (Nat.le_refl _) _
  go_loopg [10, 11] K (fun k v i wr => ∃ (h : Nat) (pre : List Int), i = .int .i64 (h : Int) ∧ 1 ≤ h ∧ h ≤ N ∧ Hid (dist ps T h = (k : Int)) ∧ Hid (pre ++ wayL ps T k h = wayL ps T K X) ∧ pre.length + k = K ∧ Hid (IOwn wr w4.heap.size v pre) ∧ Hid (v ≠ .slice none 0 0) ∧ Below w4.heap.size w4 wr)
  case atStart => exact ⟨X, [], rfl, by omega, by omega, HDX, Lib.hid rfl, by simp, Lib.hid hO, Lib.hid (by simp), hb0⟩
  case round =>
    clear hO hb0
    obtain ⟨h, pre, rfl, hh1, hhN, hdh, hpre, hlen, hown, hvn, hb⟩ := hrel
    by_cases hT : h = T
    · subst hT
      have e0 : gk = 0 := by have := hdh.out; rw [dist_self] at this; omega
      have hfin : pre = wayL ps h K X := by have := hpre.out; rw [e0] at this; simpa [wayL] using this
      have HFIN := Lib.hid hfin
      obtain ⟨g, capg, rfl, hgB⟩ := own_slice hown.out hvn.out
      clear hfin e0
      go_wp2
      go_ret2
      have hlow : IOwn wr w.heap.size (.slice (some ⟨g, 0, none⟩) pre.length capg) pre := own_lower hown.out
      rw [← HFIN.out]
      exact ⟨g, capg, rfl, by omega, hlow, hB4.out.trans (hb.mono hz4)⟩
    · obtain ⟨k, hk⟩ : ∃ k, gk = k + 1 := by
        match gk, hdh with
        | 0, hdh => exact absurd (show h = T by have := dist_zero (show dist ps T h = 0 from hdh.out); omega) hT
        | k + 1, _ => exact ⟨k, rfl⟩
      have HMG := Lib.hid hk
      rw [hk] at hdh hpre hlen
      clear hk
      have hE : ((h : Int) != (T : Int)) = true := by simp; omega
      obtain ⟨AR, capR, hcR, hpR, _⟩ := (HBN.out).at_ (i := h) (by omega)
      have hcR' := (hb.cell (p := ⟨G, h, none⟩) hG4).trans hcR
      have HPR := Lib.hid hpR
      have HNR := Lib.hid (near_row HG.out hdh.out)
      have HRM := Lib.hid (fun (j : Nat) (hj : j < (rowOf ps h).length) => row_mem (ps := ps) (h := h) hj)
      have hRl := rowOf_len ps h
      have hh0 : (0 : Int) ≤ (h : Int) := by omega
      have hhN' : (h : Int) < (N : Int) + 1 := by omega
      have hl10 := HG.out.2.2.1
      have HDH := Lib.hid ((HAT.out h hh1 hhN).trans hdh.out)
      have HWR := Lib.hid (fun (j u : Nat) h1 h2 h3 h4 => way_row (ps := ps) (t := T) (h := h) (k := k) (j := j) (u := u) h1 h2 h3 h4)
      have HNI := Lib.hid (fun (j : Nat) (hj : j < (rowOf ps h).length) => near_iff (t := T) hdh.out (HRM.out j hj).1 (HRM.out j hj).2)
      have HNB := Lib.hid (fun (p : Pp) => show nearB ps T h p = decide (dist ps T (oth p h) < dist ps T h) from rfl)
      clear hcR hpR
      go_wp2
      generalize rowOf ps h = R at *
      obtain ⟨V, hV⟩ : ∃ V, V = u10 := ⟨_, rfl⟩
      subst hV
      have HVN := hvn
      go_loopw [10, 11, 47] (fun v2 i2 j2 wr => ∃ (j : Nat), j ≤ R.length ∧ j2 = .int .i64 (j : Int) ∧ v2 = V ∧ i2 = .int .i64 (h : Int) ∧ Hid (∀ i, i < j → nearB ps T h (pAt R i) = false) ∧ Hid (IOwn wr w4.heap.size V pre) ∧ Below w4.heap.size w4 wr) (fun _ _ j _ => R.length - (intOf j).toNat)
      case atStart => exact ⟨0, Nat.zero_le _, rfl, rfl, rfl, Lib.hid (fun i hi => absurd hi (by omega)), hown, hb⟩
      case round =>
        clear hown hb hcR'
        obtain ⟨j, hj, rfl, rfl, rfl, hnn, hown, hb⟩ := hrel
        by_cases hlt : j < R.length
        · obtain ⟨b, o, hA, hbl, h0, h1, h2, h3⟩ := (HPR.out.kept hb (Nat.le_refl _)).at_ hlt
          subst hA
          obtain ⟨hpm, hpt⟩ := HRM.out j hlt
          have hok := good_pp HG.out hpm
          have hoi := oth_in (x := (h : Int)) hok
          have hnear := HNI.out j hlt
          obtain ⟨u, hu⟩ : ∃ u : Nat, oth (pAt R j) h = (u : Int) := ⟨(oth (pAt R j) h).toNat, by omega⟩
          rw [hu] at hoi
          have HU := Lib.hid hu
          have HO := Lib.hid (fun w => other_v hu w)
          have hnb := HNB.out (pAt R j)
          rw [hu] at hnb hnear
          have HNEAR := Lib.hid hnear
          have HW := Lib.hid (fun h1 h2 => HWR.out j u hlt h1 h2 hu)
          have hu1 : 1 ≤ u := by omega
          have huN : u ≤ N := by omega
          have hu0 : (0 : Int) ≤ (u : Int) := by omega
          have huN' : (u : Int) < (N : Int) + 1 := by omega
          have hzw := hb.size
          have hdu := HAT.out u hu1 huN
          have hDL := HL.out
          clear hpm hpt hok hnear hu hoi
          have HNN := Lib.hid (fun (h1 : nearB ps T h (pAt R j) = false) (i : Nat) (hi : i < j + 1) => show nearB ps T h (pAt R i) = false by
            by_cases e : i = j
            · rw [e]; exact h1
            · exact hnn.out i (by omega))
          generalize pAt R j = p at *
          obtain ⟨x, hx⟩ : ∃ x, dist ps T (u : Int) = x := ⟨_, rfl⟩
          rw [hx] at hnb hdu HNEAR
          rw [hdh.out] at hnb
          have hdW := Lib.hid (hD4.out.kept (hb.block gD hgD4))
          have hgDw : gD < wr.heap.size := by omega
          have hkc : ((k + 1 : Nat) : Int) = (k : Int) + 1 := by omega
          have ho := hown.out
          unfold IOwn at ho
          go_wp2_with (first
            | (go_at_call 81; refine (HO.out _).mono ?_; rintro e w5 ⟨rfl, hb5⟩; refine Hid.out ?_))
          have hz5 := hb5.size
          simp at hz5
          have hd5 := Lib.hid ((hdW.out.kept (Below.heap_alloc wr (.cells #[.int .i64 p.id, .int .i64 p.fr, .int .i64 p.to, .int .i64 p.sz] 40) gD hgDw)).kept (hb5.block gD (by simp; omega)))
          have cu := hd5.out.cell (v := u) (by omega)
          have ch := hd5.out.cell (v := h) (by omega)
          rw [hdu] at cu
          rw [HDH.out] at ch
          have cp : w5.cell? ⟨wr.heap.size, 0, none⟩ = some (iv p.id) := (hb5.cell (p := ⟨wr.heap.size, 0, none⟩) (by simp)).trans (World.cell?_alloc_at _ _ _ _ (by simp))
          have ho5 := own_on (ho.alloc (.cells #[.int .i64 p.id, .int .i64 p.fr, .int .i64 p.to, .int .i64 p.sz] 40)) hb5
          have hB5 := Lib.hid ((hb.alloc hzw (.cells #[.int .i64 p.id, .int .i64 p.fr, .int .i64 p.to, .int .i64 p.sz] 40)).trans (hb5.mono (by simp; omega)))
          have hO5 := Lib.hid ho5
          clear hb5 ho
          refine Lib.hid ?_
          go_wp2
          go_quiet (fail)
          by_cases hxk : x < (k : Int) + 1
          · have hnt := Lib.hid (show nearB ps T h p = true by rw [hnb]; exact decide_eq_true (by omega))
            have hxe := Lib.hid (HNEAR.out.1 hnt.out)
            have hw := HW.out hnn.out hnt.out
            have hpre2 := Lib.hid (show (pre ++ [p.id]) ++ wayL ps T k u = wayL ps T K X by
              have e := hpre.out
              rw [hw] at e
              rw [← e]
              simp)
            have ho6 : (w5.drewN nq).ownsRow w4.heap.size 3 1 _ pre.length (pre.map iv) := hO5.out
            have hb6 := below_drewN hB5.out nq
            have hz6 : w4.heap.size ≤ (w5.drewN nq).heap.size := hb6.size
            clear hw
            go_wp2_with (at_builtin; go_must (refine wpList_append_own _ rfl _ _ 27 rfl w4.heap.size 3 i0 (.int .i64 0) 1 8 Try.underlying27 hi hz0 hz1 hz2 rfl (by decide) _ _ _ rfl (ho6.alloc _) ⟨(w5.drewN nq).heap.size, 0, none⟩ 1 1 [iv p.id] rfl rfl (cell_one_new _ _ _) (by intro u hu; simp at hu; subst hu; rfl) (by unfold maxLen; omega) (by omega) (by simp at hz6 ⊢; omega) ?_))
            intro v' w7 hown' hgrow hnil
            have hown3 := Lib.hid (IOwn.push hown')
            have hB7 := Lib.hid ((hb6.alloc hz6 (.cells #[iv p.id] 3)).grown hgrow (by simp at hz6 ⊢; omega) (fun g hg => (ho6.lt g hg).1))
            have hnil3 := Lib.hid (show v' ≠ .slice none 0 0 from fun e => by simp [e] at hnil)
            clear hown' hgrow hnil ho6
            go_wp2
            go_roundg k
            case measure => have := HMG.out; omega
            case rel => exact ⟨u, pre ++ [p.id], rfl, hu1, huN, Lib.hid (by rw [hx]; exact hxe.out), hpre2, by simp; omega, hown3, hnil3, hB7.out⟩
          · have hnf := Lib.hid (HNN.out (by rw [hnb]; exact decide_eq_false (by omega)))
            go_wp2
            go_roundw
            case rel => exact ⟨j + 1, by omega, by go_num, rfl, rfl, hnf, Lib.hid (show IOwn (w5.drewN nq) _ _ _ from hO5.out), below_drewN hB5.out nq⟩
            case measure => simp [intOf]; omega
        · exact absurd (fun i hi => hnn.out i (by omega)) HNR.out
end Go.Proofs.Ytlkomipjamelkab.S2

namespace Go.Proofs.Ytlkomipjamelkab.S2
open Go.RowKit P2

open Go.Sort in
theorem met_at {P : Program} {f : FuncId} {args : Array Value} {w : World} {d : Nat} {os : Array Obj} {v : Value}
    (h : ∀ w', Below w.heap.size w w' → Calls P f args w' fun e w'' => e = .returned v ∧ Below w'.heap.size w' w'') : Calls P f args (grow (redrawn w d) os) fun e w'' => e = .returned v ∧ ∃ p : Regrown, w'' = grow (redrawn w p.d) p.os :=
  Calls.regrown_of (h _ (below_regrown w d os))
set_option maxHeartbeats 1000000 in
theorem al_no1 (n : Int) (A : Option Addr) (cap : Nat) (ps : List Pp) (AD : Option Addr) (dc : Nat) (fl : List Int) (x y : Int) (w : World) (hW : ∀ w', Below w.heap.size w w' → Calls Try.prog 80 #[nv n A ps.length cap, .int .i64 x, .int .i64 y] w' (GivesI w' [] false)) :
    Calls Try.prog 24 #[nv n A ps.length cap, .slice AD fl.length dc, .int .i64 x, .int .i64 y] w fun e w' => e = .returned (.tuple #[.int .i64 0, .bool false]) ∧ Below w.heap.size w w' := by
  have H := Lib.hid hW
  clear hW
  go_enter Try.func24, Try.ntmps24
  go_wp2_with (go_at_call 80; refine (H.out _ ((Below.refl _ _).alloc (Nat.le_refl _) _)).mono ?_; rintro e w1 ⟨g, c, rfl, hg, hO, hb1⟩)
  go_ret2
  exact ⟨rfl, below_alloc_call hb1⟩
set_option maxHeartbeats 1000000 in
theorem al_no2 (n : Int) (A : Option Addr) (cap : Nat) (ps : List Pp) (AD : Option Addr) (dc : Nat) (fl : List Int) (x y : Int) (W : List Int) (w : World) (h : PAt w A ps) (hm : ps.length ≤ maxLen) (hd : IAt w AD fl) (hdl : fl.length ≤ 1048576) (hv : floB n ps fl = false) (hW : ∀ w', Below w.heap.size w w' → Calls Try.prog 80 #[nv n A ps.length cap, .int .i64 x, .int .i64 y] w' (GivesI w' W true)) :
    Calls Try.prog 24 #[nv n A ps.length cap, .slice AD fl.length dc, .int .i64 x, .int .i64 y] w fun e w' => e = .returned (.tuple #[.int .i64 0, .bool false]) ∧ Below w.heap.size w w' := by
  have H := Lib.hid hW
  have H2 := Lib.hid (fun w' (hb : Below w.heap.size w w') => flo_v hv A cap AD dc w' (h.kept hb (Nat.le_refl _)) hm (hd.kept hb (Nat.le_refl _)) hdl)
  clear hW h hd hv
  go_enter Try.func24, Try.ntmps24
  go_wp2_with (first
    | (go_at_call 80; refine (H.out _ ((Below.refl _ _).alloc (Nat.le_refl _) _)).mono ?_; rintro e w1 ⟨g, c, rfl, hg, hO, hb1⟩; obtain ⟨hc1, hf1⟩ := bcell hb1; have hz1 := hb1.size; simp at hz1; have hB1 := Lib.hid (below_alloc_call hb1))
    | (go_at_call 78; refine (H2.out _ hB1.out).mono ?_; rintro e w2 ⟨rfl, hb2⟩; have hB2 := Lib.hid (hB1.out.trans (hb2.mono hB1.out.size))))
  go_ret2
  exact ⟨rfl, hB2.out⟩

set_option maxHeartbeats 4000000 in
set_option maxRecDepth 100000 in
theorem al_yes (N : Nat) (A : Option Addr) (cap : Nat) (ps : List Pp) (AD : Option Addr) (dc : Nat) (fl : List Int) (x y : Int) (W : List Int) (w : World) (h : PAt w A ps) (hm : ps.length ≤ maxLen) (hd : IAt w AD fl) (hdl : fl.length ≤ 1048576) (hv : floB N ps fl = true) (hwo : WayOk ps W x) (hW : ∀ w', Below w.heap.size w w' → Calls Try.prog 80 #[nv N A ps.length cap, .int .i64 x, .int .i64 y] w' (GivesI w' W true)) :
    Calls Try.prog 24 #[nv N A ps.length cap, .slice AD fl.length dc, .int .i64 x, .int .i64 y] w fun e w' => e = .returned (.tuple #[.int .i64 (alongA ps fl W x), .bool true]) ∧ Below w.heap.size w w' := by
  obtain ⟨hg, hfl, hr⟩ := floB_of hv
  have hl10 := hg.2.2.1
  have hW8 := hwo.1
  have H := Lib.hid hW
  have H2 := Lib.hid (fun w' (hb : Below w.heap.size w w') => flo_v hv A cap AD dc w' (h.kept hb (Nat.le_refl _)) hm (hd.kept hb (Nat.le_refl _)) hdl)
  have HPL := Lib.hid (fun v w' (hb : Below w.heap.size w w') => place_any N A cap ps v w' (h.kept hb (Nat.le_refl _)) hg)
  have HA := Lib.hid (fun w' (hb : Below w.heap.size w w') => h.kept hb (Nat.le_refl _))
  have HI := Lib.hid (fun w' (hb : Below w.heap.size w w') => hd.kept hb (Nat.le_refl _))
  have HE := Lib.hid (fun k (hk : k < fl.length) => allR_at hr hk)
  have HS := Lib.hid (fun k (hk : k ≤ W.length) => along_in hg hr hfl hwo hk)
  have HG := Lib.hid (fun k (hk : k < ps.length) => good_pp hg (pAt_mem hk))
  have HWO := Lib.hid (fun k (hk : k < W.length) => hwo.2 k hk)
  have HPP := Lib.hid (fun (v : Int) (i j : Nat) (f : Bool) (hf : FindIs ps v (i : Int)) (hp : Place ps v j f) => (show f = true ∧ j = i from by
    cases f with
    | false => have := (place_find (good_ids hg) hp hf).2 rfl; omega
    | true => have := ((place_find (good_ids hg) hp hf).1 rfl).1; exact ⟨rfl, by omega⟩))
  have HL := Lib.hid hfl
  clear h hd hv hr hg hfl hm hdl hW hwo
  go_enter Try.func24, Try.ntmps24
  go_wp2_with (first
    | (go_at_call 80; refine (H.out _ ((Below.refl _ _).alloc (Nat.le_refl _) _)).mono ?_; rintro e w1 ⟨gW, cW, rfl, hgW, hOW, hb1⟩; have HX1 := Lib.hid (show Below (w.heap.size + 1) (w.alloc (nb N A ps.length cap)) w1 by simpa using hb1); obtain ⟨b0, b1⟩ := box2 HX1.out; have hy1 := box_lt HX1.out; have HW1 := Lib.hid hOW.iat; clear hb1 hOW)
    | (go_at_call 78; refine (H2.out _ (below_box HX1.out)).mono ?_; rintro e w2 ⟨rfl, hb2⟩; have HX2 := Lib.hid (on_call HX1.out hb2); have HW2 := Lib.hid (HW1.out.kept hb2 (Nat.le_refl _)); clear b0 b1; obtain ⟨b0, b1⟩ := box2 HX2.out; have hy2 := box_lt HX2.out; clear hb2))
  have hBX := HX2.out
  have HWK := Lib.hid (fun w' (hb : Below w2.heap.size w2 w') => HW2.out.kept hb (Nat.le_refl _))
  have HB0 := Lib.hid (Below.refl w2.heap.size w2)
  have HX20 := Lib.hid hBX
  clear H H2 HX1 HX2 HW1 HW2 b0 b1 hy1 hBX
  go_loopw [12, 13, 38] (fun a h i wr => ∃ (k : Nat), k ≤ W.length ∧ i = .int .i64 (k : Int) ∧ a = .int .i64 (sumK (turnA ps fl W x) k) ∧ h = .int .i64 (hereA ps W x k) ∧ Hid (Below w2.heap.size w2 wr)) (fun _ _ i _ => W.length - (intOf i).toNat)
  case atStart => exact ⟨0, Nat.zero_le _, rfl, rfl, rfl, HB0⟩
  case round =>
    clear HB0
    obtain ⟨k, hk, rfl, rfl, rfl, hB2⟩ := hrel
    have hb := on_call HX20.out hB2.out
    have hB := Lib.hid (below_box hb)
    by_cases hlt : k < W.length
    · obtain ⟨c0, c1⟩ := box2 hb
      have hz2 := box_lt hb
      obtain ⟨bW, oW, hAW, hblW, w0⟩ := (HWK.out _ hB2.out).at_ hlt
      simp only [Option.some.injEq, Addr.mk.injEq, and_true] at hAW
      obtain ⟨rfl, rfl⟩ := hAW
      rw [Nat.zero_add] at w0
      have hk0 : (0 : Int) ≤ (k : Int) := by omega
      have hkn : (k : Int) < (W.length : Int) := by omega
      obtain ⟨hjl, hjf, hjt⟩ := HWO.out k hlt
      have hs := HS.out k hk
      have hs2 := HS.out (k + 1) hlt
      have hsn : sumK (turnA ps fl W x) (k + 1) = sumK (turnA ps fl W x) k + turnA ps fl W x k := rfl
      have hhn : hereA ps W x (k + 1) = oth (pAt ps (plc ps (lA W k))) (hereA ps W x k) := rfl
      have htn : turnA ps fl W x k = if (pAt ps (plc ps (lA W k))).fr = hereA ps W x k then lossI (pAt ps (plc ps (lA W k))) (lA fl (plc ps (lA W k))) else -lossI (pAt ps (plc ps (lA W k))) (lA fl (plc ps (lA W k))) := rfl
      have hla : lA W k = W.getD k 0 := rfl
      rw [htn] at hsn
      rw [hla] at hjl hjf hjt hsn hhn
      have hPL := Lib.hid (HPL.out (W.getD k 0))
      have hPP := Lib.hid (fun j f hp => HPP.out (W.getD k 0) (plc ps (W.getD k 0)) j f hjf hp)
      have hjfl : plc ps (W.getD k 0) < fl.length := by rw [HL.out]; exact hjl
      have hgp := HG.out _ hjl
      have hy := HE.out _ hjfl
      have HLO := Lib.hid (fun w' => loss_any hgp hy.1 hy.2 w')
      have hli := (loss_in hgp hy.1 hy.2).2
      have hne : (pAt ps (plc ps (W.getD k 0))).fr ≠ (pAt ps (plc ps (W.getD k 0))).to := hgp.2.2.2.2.2.2.1
      have hla2 : lA fl (plc ps (W.getD k 0)) = fl.getD (plc ps (W.getD k 0)) 0 := rfl
      rw [hla2] at hsn
      have HAP := Lib.hid (fun w' hb => (HA.out w' hb).at_ hjl)
      have HIP := Lib.hid (fun w' hb => (HI.out w' hb).at_ hjfl)
      have HO := Lib.hid (fun w => other_v hhn.symm w)
      have HTO := Lib.hid (show ((pAt ps (plc ps (W.getD k 0))).to = hereA ps W x k → sumK (turnA ps fl W x) (k + 1) = sumK (turnA ps fl W x) k + -lossI (pAt ps (plc ps (W.getD k 0))) (fl.getD (plc ps (W.getD k 0)) 0)) ∧ (¬ (pAt ps (plc ps (W.getD k 0))).to = hereA ps W x k → sumK (turnA ps fl W x) (k + 1) = sumK (turnA ps fl W x) k + lossI (pAt ps (plc ps (W.getD k 0))) (fl.getD (plc ps (W.getD k 0)) 0)) from ⟨fun e => by rw [hsn, if_neg (fun e2 => hne (e2.trans e.symm))], fun e => by rw [hsn, if_pos (hjt.resolve_right e)]⟩)
      clear hhn hsn htn hjf hjt hgp hy hla hla2 hne
      obtain ⟨s2, hs2e⟩ : ∃ z, sumK (turnA ps fl W x) (k + 1) = z := ⟨_, rfl⟩
      obtain ⟨h2, hh2e⟩ : ∃ z, hereA ps W x (k + 1) = z := ⟨_, rfl⟩
      rw [hs2e] at hs2 HTO
      rw [hh2e] at HO
      have HS2E := Lib.hid hs2e
      have HH2E := Lib.hid hh2e
      clear hs2e hh2e
      generalize lossI (pAt ps (plc ps (W.getD k 0))) (fl.getD (plc ps (W.getD k 0)) 0) = L at *
      generalize fl.getD (plc ps (W.getD k 0)) 0 = f at *
      generalize pAt ps (plc ps (W.getD k 0)) = p at *
      generalize plc ps (W.getD k 0) = j at *
      generalize sumK (turnA ps fl W x) k = s at *
      generalize hereA ps W x k = hh at *
      generalize W.getD k 0 = v at *
      have hjn : (j : Int) < (ps.length : Int) := by omega
      have hj0 : (0 : Int) ≤ (j : Int) := by omega
      have hjnf : (j : Int) < (fl.length : Int) := by omega
      go_wp2_with (first
        | (go_at_call 68; refine (hPL.out _ hB.out).mono ?_; rintro e w5 ⟨⟨j', f', rfl, hp'⟩, hb5⟩; obtain ⟨rfl, rfl⟩ := hPP.out j' f' hp'; refine Hid.out ?_))
      have hX5 := on_call hb hb5
      have hB5 := Lib.hid (below_box hX5)
      have hB25 := Lib.hid (hB2.out.trans (hb5.mono hB2.out.size))
      clear c0 c1 hz2 w0 hblW
      obtain ⟨c0, c1⟩ := box2 hX5
      have hz5 := box_lt hX5
      obtain ⟨b, off, hA, hbl, p0, p1, p2, p3⟩ := HAP.out _ hB5.out
      subst hA
      obtain ⟨bb, of2, hA2, hbl2, q0⟩ := HIP.out _ hB5.out
      subst hA2
      have hab := alloc_belowE w5 (.cells #[.int .i64 p.id, .int .i64 p.fr, .int .i64 p.to, .int .i64 p.sz] 40)
      have hB25n := Lib.hid (hB25.out.trans (hab.mono hB25.out.size))
      have q1 := (hab.cell (p := ⟨bb, of2 + j', none⟩) hbl2).trans q0
      have d0 := cells4 w5 (.int .i64 p.id) (.int .i64 p.fr) (.int .i64 p.to) (.int .i64 p.sz) 40 0 _ rfl
      have d1 := cells4 w5 (.int .i64 p.id) (.int .i64 p.fr) (.int .i64 p.to) (.int .i64 p.sz) 40 1 _ rfl
      have d2 := cells4 w5 (.int .i64 p.id) (.int .i64 p.fr) (.int .i64 p.to) (.int .i64 p.sz) 40 2 _ rfl
      have d3 := cells4 w5 (.int .i64 p.id) (.int .i64 p.fr) (.int .i64 p.to) (.int .i64 p.sz) 40 3 _ rfl
      have hzz : w5.heap.size < (w5.alloc (.cells #[.int .i64 p.id, .int .i64 p.fr, .int .i64 p.to, .int .i64 p.sz] 40)).heap.size := by simp
      have hbl2' : bb < (w5.alloc (.cells #[.int .i64 p.id, .int .i64 p.fr, .int .i64 p.to, .int .i64 p.sz] 40)).heap.size := by omega
      refine Lib.hid ?_
      go_wp2
      generalize w5.alloc (.cells #[.int .i64 p.id, .int .i64 p.fr, .int .i64 p.to, .int .i64 p.sz] 40) = wa at *
      clear p0 p1 p2 p3 q0 c0 c1 hab
      have hG := @cell_g
      refine region_below (by kernel_rfl) (by kernel_rfl) ?_
      repeat (first | go_big_quiet_step ((go_at_call 79; exact met HLO.out)))
      refine wpQuiet_nil ?_
      intro w6 hb6
      have r0 := (hb6.cell (p := ⟨w5.heap.size, 0, none⟩) hzz).trans d0
      have r1 := (hb6.cell (p := ⟨w5.heap.size, 1, none⟩) hzz).trans d1
      have r2 := (hb6.cell (p := ⟨w5.heap.size, 2, none⟩) hzz).trans d2
      have r3 := (hb6.cell (p := ⟨w5.heap.size, 3, none⟩) hzz).trans d3
      have hB6 := Lib.hid (hB25n.out.trans (hb6.mono hB25n.out.size))
      have hz6 : w5.heap.size < w6.heap.size := by have := hb6.size; omega
      clear hb6 d0 d1 d2 d3 q1 hG hbl2' hzz hb5
      by_cases hto : p.to = hh
      · have g0 : (p.to == hh) = true := beq_iff_eq.2 hto
        have he := HTO.out.1 hto
        have HE2 := Lib.hid he
        rw [he] at hs2
        clear hto he
        go_wp2_with (first
          | (go_at_call 81; refine (HO.out _).mono ?_; rintro e w7 ⟨rfl, hb7⟩))
        go_roundw
        case rel => exact ⟨k + 1, by omega, by go_num, by rw [HS2E.out, HE2.out], by rw [HH2E.out], Lib.hid (hB6.out.trans (hb7.mono hB6.out.size))⟩
        case measure => simp [intOf]; omega
      · have g0 : (p.to == hh) = false := beq_eq_false_iff_ne.2 hto
        have he := HTO.out.2 hto
        have HE2 := Lib.hid he
        rw [he] at hs2
        clear hto he
        go_wp2_with (first
          | (go_at_call 81; refine (HO.out _).mono ?_; rintro e w7 ⟨rfl, hb7⟩))
        go_roundw
        case rel => exact ⟨k + 1, by omega, by go_num, by rw [HS2E.out, HE2.out], by rw [HH2E.out], Lib.hid (hB6.out.trans (hb7.mono hB6.out.size))⟩
        case measure => simp [intOf]; omega
    · have hkk : k = W.length := by omega
      have HF := Lib.hid (show sumK (turnA ps fl W x) k = alongA ps fl W x by rw [hkk]; rfl)
      clear hkk
      go_wp2
      go_ret2
      exact ⟨by rw [← HF.out]; rfl, hB.out⟩
end Go.Proofs.Ytlkomipjamelkab.S2

namespace Go.Proofs.Ytlkomipjamelkab.S2
open Go.RowKit P2

/-- The way to a node. -/
noncomputable def wyA (ps : List Pp) (s : Nat) (v : Int) : List Int := wayL ps v (dist ps v s).toNat s
noncomputable def fallA (N : Nat) (ps : List Pp) (s : Nat) (dm : List Int) (v : Int) : Int := alongA ps (tfL N ps s dm) (wyA ps s v) s
noncomputable def hdF (N : Nat) (ps : List Pp) (s : Nat) (dm : List Int) (h : Int) (i : Nat) : Int := h - fallA N ps s dm ((i : Int) + 1)
noncomputable def hdTo (N : Nat) (ps : List Pp) (s : Nat) (dm : List Int) (h : Int) (k : Nat) : List Int := (List.range k).map (hdF N ps s dm h)
noncomputable def hdL (N : Nat) (ps : List Pp) (s : Nat) (dm : List Int) (h : Int) : List Int := hdTo N ps s dm h N
theorem hdTo_snoc (N : Nat) (ps : List Pp) (s : Nat) (dm : List Int) (h : Int) (k : Nat) : hdTo N ps s dm h (k + 1) = hdTo N ps s dm h k ++ [hdF N ps s dm h k] := by unfold hdTo; rw [List.range_succ, List.map_append]; rfl
theorem hdTo_len (N : Nat) (ps : List Pp) (s : Nat) (dm : List Int) (h : Int) (k : Nat) : (hdTo N ps s dm h k).length = k := by simp [hdTo]
theorem hdL_len (N : Nat) (ps : List Pp) (s : Nat) (dm : List Int) (h : Int) : (hdL N ps s dm h).length = N := hdTo_len N ps s dm h N
theorem hdL_at {N : Nat} {ps : List Pp} {s : Nat} {dm : List Int} {h : Int} {i : Nat} (hi : i < N) : (hdL N ps s dm h).getD i 0 = hdF N ps s dm h i := by
  simp [hdL, hdTo, List.getD, hi]
theorem node_mk {n : Int} {ps : List Pp} {x : Int} (hg : P2.Good n ps) (h1 : 1 ≤ x) (h2 : x ≤ n) : nodeB n ps x = true := by
  rw [nodeB_eq, good_mk hg]; simp [h1, h2]
theorem tfl_flo {N : Nat} {ps : List Pp} {s : Int} {dm : List Int} (hg : P2.Good N ps) (hr : allR 0 1000 dm = true) (hl : (dm.length : Int) = N) : floB N ps (tfL N ps s dm) = true := by
  have hN : N ≤ 8 := by have := hg.2.1; omega
  unfold floB amtB
  rw [good_mk hg, tfL_in hN hr (by omega)]
  simp [tfL_len]
theorem tree_dist {N : Nat} {ps : List Pp} (hg : P2.Good N ps) (ht : treeB N ps = true) {s : Nat} (h1 : 1 ≤ s) (h2 : s ≤ N) {v : Int} (v1 : 1 ≤ v) (v2 : v ≤ N) : dist ps v s = ((dist ps v s).toNat : Int) := by
  have hc := dist_conn.2 (tree_conn (tree_full hg ht).2.1 (a := s) (b := v) (by omega) (by omega) v1 v2)
  have := dist_lo ps v s
  omega
theorem wy_ok {N : Nat} {ps : List Pp} (hg : P2.Good N ps) (ht : treeB N ps = true) {s : Nat} (h1 : 1 ≤ s) (h2 : s ≤ N) {v : Int} (v1 : 1 ≤ v) (v2 : v ≤ N) : WayOk ps (wyA ps s v) s :=
  way_ok hg h2 (tree_dist hg ht h1 h2 v1 v2)
theorem fall_in {N : Nat} {ps : List Pp} (hg : P2.Good N ps) (ht : treeB N ps = true) {s : Nat} {dm : List Int} (hr : allR 0 1000 dm = true) (hl : (dm.length : Int) = N) (h1 : 1 ≤ s) (h2 : s ≤ N) {v : Int} (v1 : 1 ≤ v) (v2 : v ≤ N) : -4608000000 ≤ fallA N ps s dm v ∧ fallA N ps s dm v ≤ 4608000000 := by
  obtain ⟨hg2, hfl, hr2⟩ := floB_of (tfl_flo (s := s) hg hr hl)
  exact along_in hg hr2 hfl (wy_ok hg ht h1 h2 v1 v2) (Nat.le_refl _)
theorem hdF_in {N : Nat} {ps : List Pp} (hg : P2.Good N ps) (ht : treeB N ps = true) {s : Nat} {dm : List Int} (hr : allR 0 1000 dm = true) (hl : (dm.length : Int) = N) (h1 : 1 ≤ s) (h2 : s ≤ N) {h : Int} (g1 : 0 ≤ h) (g2 : h ≤ 100000000000) {i : Nat} (hi : i < N) : -5000000000 ≤ hdF N ps s dm h i ∧ hdF N ps s dm h i ≤ 105000000000 := by
  have := fall_in hg ht hr hl h1 h2 (v := (i : Int) + 1) (by omega) (by omega)
  unfold hdF
  omega
/-- At the source nothing is lost. -/
theorem fall_self (N : Nat) (ps : List Pp) (s : Nat) (dm : List Int) : fallA N ps s dm s = 0 := by
  unfold fallA wyA
  rw [dist_self]
  rfl

/-! ### Ranges of heads -/
def hdR (x : Int) : Bool := inR 0 100000000000 x
theorem hdR_of {x : Int} (h : hdR x = true) : 0 ≤ x ∧ x ≤ 100000000000 := by simpa [hdR, inR] using h
theorem ahd_v {l : List Int} {v : Bool} (hv : allR 0 100000000000 l = v) (A : Option Addr) (cap : Nat) (w : World) (h : IAt w A l) (hl : l.length ≤ 1048576) :
    Calls Try.prog 75 #[.slice A l.length cap] w fun e w' => e = .returned (.bool v) ∧ Below w.heap.size w w' := by
  have hv2 : amtB l l.length 0 100000000000 = v := by rw [amt_self]; exact hv
  have H := Lib.hid (am_v hv2 A cap w h hl)
  clear h hv hv2
  go_enter Try.func75, Try.ntmps75
  go_wp2_with (go_at_call 102; refine H.out.mono ?_; rintro e w1 ⟨rfl, hb1⟩)
  go_ret
  exact ⟨rfl, hb1⟩
/-- One head. -/
theorem ahd_one {x : Int} {v : Bool} (hv : hdR x = v) (w : World) :
    Calls Try.prog 75 #[.slice (some ⟨w.heap.size, 0, none⟩) 1 1] (w.alloc (.cells #[.int .i64 x] 3)) fun e w' => e = .returned (.bool v) ∧ Below w.heap.size w w' := by
  have hI : IAt (w.alloc (.cells #[.int .i64 x] 3)) (some ⟨w.heap.size, 0, none⟩) [x] := (own_oneI w w.heap.size x (Nat.le_refl _)).iat
  refine (ahd_v (l := [x]) (v := v) (by rw [← hv]; simp [allR, hdR]) _ 1 _ hI (by simp)).mono ?_
  rintro e w' ⟨he, hb⟩
  exact ⟨he, (alloc_belowE w _).trans (hb.mono (by simp))⟩
theorem shd_v {x : Int} {v : Bool} (hv : hdR x = v) (w : World) : Calls Try.prog 86 #[.int .i64 x] w fun e w' => e = .returned (.bool v) ∧ w' = w := by
  have HC := Lib.hid (fun w' => in_eq x 0 100000000000 v hv w')
  clear hv
  go_enter Try.func86, Try.ntmps86
  go_wp2_with (go_at_call 116; refine (HC.out _).mono ?_; rintro e w1 ⟨rfl, hw⟩; replace hw := hw.symm; subst hw)
  go_ret
  exact ⟨rfl, rfl⟩
end Go.Proofs.Ytlkomipjamelkab.S2

namespace Go.Proofs.Ytlkomipjamelkab.S2
open Go.RowKit P2

/-- What is lost from s to v, pipe by pipe. -/
noncomputable def potI (ps : List Pp) (fl : List Int) (s v : Int) : Int := sumK (fun i => phi ps s v i * lossI (pAt ps i) (lA fl i)) ps.length
theorem pot_self (ps : List Pp) (fl : List Int) (s : Int) : potI ps fl s s = 0 := by
  unfold potI
  rw [sk_same (g := fun _ => 0) (fun i hi => ?_), sk_zero]
  show phi ps s s i * _ = 0
  unfold phi
  rw [dnB_false (Conn.rf _ s), if_neg Bool.false_ne_true, Int.zero_mul]
theorem phi_far {N : Nat} {ps : List Pp} (hg : P2.Good N ps) (s : Int) {i j : Nat} (hi : i < ps.length) (hjl : j < ps.length) (hne : i ≠ j) : phi ps s (pAt ps j).to i = phi ps s (pAt ps j).fr i := by
  have hadj : Adj (Wo ps (pAt ps i)) (pAt ps j).fr (pAt ps j).to := ⟨pAt ps j, mem_Wo.2 ⟨pAt_mem hjl, fun e => hne (pAt_inj hg hi hjl e.symm)⟩, .inl ⟨rfl, rfl⟩⟩
  have e : dnB ps (pAt ps i) s (pAt ps j).to = dnB ps (pAt ps i) s (pAt ps j).fr := by
    rw [Bool.eq_iff_iff, dnB_true, dnB_true]
    exact ⟨fun h hc => h ((Conn.adj hadj.symm).tr hc), fun h hc => h ((Conn.adj hadj).tr hc)⟩
  unfold phi
  rw [e]
theorem phi_one {ps : List Pp} (ha : Acy ps) {s : Int} {j : Nat} (hjl : j < ps.length) (hsu : Conn ps s (pAt ps j).fr) : phi ps s (pAt ps j).to j = phi ps s (pAt ps j).fr j + 1 := by
  have hp := pAt_mem hjl
  have hnc : ¬ Conn (Wo ps (pAt ps j)) (pAt ps j).fr (pAt ps j).to := ha _ hp
  have hj : Jn (pAt ps j) (pAt ps j).fr (pAt ps j).to := .inl ⟨rfl, rfl⟩
  have hadj : Adj ps (pAt ps j).fr (pAt ps j).to := ⟨_, hp, hj⟩
  by_cases hu : Conn (Wo ps (pAt ps j)) (pAt ps j).fr s
  · have hu' : ¬ Conn (Wo ps (pAt ps j)) (pAt ps j).to s := fun hc => hnc (hu.tr hc.sy)
    have d1 : dnB ps (pAt ps j) s (pAt ps j).fr = false := dnB_false hu
    have d2 : dnB ps (pAt ps j) s (pAt ps j).to = true := dnB_true.2 hu'
    simp [phi, d1, d2]
  · have hu' : Conn (Wo ps (pAt ps j)) (pAt ps j).to s := Classical.byContradiction fun hc => hnc ((behind hp (jn_tch hj).1 hu hsu.sy (Conn.adj hadj)).1 hc)
    have d1 : dnB ps (pAt ps j) s (pAt ps j).fr = true := dnB_true.2 hu
    have d2 : dnB ps (pAt ps j) s (pAt ps j).to = false := dnB_false hu'
    simp [phi, d1, d2]
theorem pot_step {N : Nat} {ps : List Pp} (hg : P2.Good N ps) (ha : Acy ps) (fl : List Int) {s : Int} {j : Nat} (hjl : j < ps.length) (hsu : Conn ps s (pAt ps j).fr) : potI ps fl s (pAt ps j).to = potI ps fl s (pAt ps j).fr + lossI (pAt ps j) (lA fl j) := by
  unfold potI
  rw [sk_one (g := fun i => phi ps s (pAt ps j).fr i * lossI (pAt ps i) (lA fl i)) hjl (fun i hi hne => by
    show phi ps s (pAt ps j).to i * _ = phi ps s (pAt ps j).fr i * _
    rw [phi_far hg s hi hjl hne])]
  have h := phi_one ha hjl hsu
  show _ + (phi ps s (pAt ps j).to j * lossI (pAt ps j) (lA fl j) - phi ps s (pAt ps j).fr j * lossI (pAt ps j) (lA fl j)) = _
  rw [h, Int.add_mul, Int.one_mul]
  omega
/-- Along a way the losses add up to what lies between its ends. -/
theorem way_pot {N s : Nat} {ps : List Pp} (hg : P2.Good N ps) (ht : treeB N ps = true) (s1 : 1 ≤ s) (s2 : s ≤ N) (fl W : List Int) (h : Int) (hw : WayOk ps W h) : ∀ k, k ≤ W.length → sumK (turnA ps fl W h) k = potI ps fl s (hereA ps W h k) - potI ps fl s h
  | 0, _ => by
    show (0 : Int) = potI ps fl s h - potI ps fl s h
    omega
  | k + 1, hk => by
    obtain ⟨ha, hc, _⟩ := tree_full hg ht
    have ih := way_pot hg ht s1 s2 fl W h hw k (by omega)
    obtain ⟨hl, _, hat⟩ := hw.2 k (by omega)
    obtain ⟨_, _, f1, f2, t1, t2, _⟩ := good_pp hg (pAt_mem hl)
    have hst := pot_step hg ha fl hl (tree_conn hc (a := (s : Int)) (by omega) (by omega) f1 f2)
    show sumK (turnA ps fl W h) k + turnA ps fl W h k = potI ps fl s (oth (pAt ps (plc ps (lA W k))) (hereA ps W h k)) - potI ps fl s h
    rw [ih]
    unfold turnA oth
    by_cases e : (pAt ps (plc ps (lA W k))).fr = hereA ps W h k
    · rw [if_pos e, if_pos e, hst, e]
      omega
    · have e2 : (pAt ps (plc ps (lA W k))).to = hereA ps W h k := hat.resolve_left e
      rw [if_neg e, if_neg e, ← e2, hst]
      omega
/-- A way ends where it should. -/
theorem way_end {n : Nat} {ps : List Pp} (hg : P2.Good n ps) {t : Int} : ∀ (k h : Nat), dist ps t h = (k : Int) → hereA ps (wayL ps t k h) h (wayL ps t k h).length = t
  | 0, h, hd => by
    show (h : Int) = t
    exact dist_zero hd
  | k + 1, h, hd => by
    obtain ⟨j, hj, hjn⟩ : ∃ j, (j < (rowOf ps h).length ∧ nearB ps t h (pAt (rowOf ps h) j) = true) ∧ ∀ m, (m < (rowOf ps h).length ∧ nearB ps t h (pAt (rowOf ps h) m) = true) → j ≤ m := by
      have hx : ∃ j, j < (rowOf ps h).length ∧ nearB ps t h (pAt (rowOf ps h) j) = true := Classical.byContradiction fun hc => near_row hg hd fun i hi => by
        cases he : nearB ps t h (pAt (rowOf ps h) i) with
        | false => rfl
        | true => exact absurd ⟨i, hi, he⟩ hc
      obtain ⟨j, hj⟩ := hx
      exact least_nat _ j hj
    obtain ⟨hm, ht⟩ := row_mem hj.1
    have hp := good_pp hg hm
    have ho := oth_in (x := (h : Int)) hp
    obtain ⟨u, hu⟩ : ∃ u : Nat, oth (pAt (rowOf ps h) j) h = (u : Int) := ⟨(oth (pAt (rowOf ps h) j) h).toNat, by omega⟩
    have hw := way_row (k := k) hj.1 (fun i hi => by
      cases he : nearB ps t h (pAt (rowOf ps h) i) with
      | false => rfl
      | true => have := hjn i ⟨by omega, he⟩; omega) hj.2 hu
    have hdu : dist ps t (u : Int) = (k : Int) := by rw [← hu]; exact (near_iff hd hm ht).1 hj.2
    rw [hw]
    obtain ⟨q, hq, hqe⟩ := pp_at hm
    rw [← hqe] at hu ht ⊢
    obtain ⟨hpl, hfi⟩ := plc_at hg hq
    rw [List.length_cons, here_cons, hpl, hu]
    exact way_end hg k u hdu
theorem fall_pot {N s : Nat} {ps : List Pp} (hg : P2.Good N ps) (ht : treeB N ps = true) (s1 : 1 ≤ s) (s2 : s ≤ N) (dm : List Int) {v : Int} (v1 : 1 ≤ v) (v2 : v ≤ N) : fallA N ps s dm v = potI ps (tfL N ps s dm) s v := by
  unfold fallA alongA
  rw [way_pot hg ht s1 s2 _ _ _ (wy_ok hg ht s1 s2 v1 v2) _ (Nat.le_refl _), pot_self]
  unfold wyA
  rw [way_end hg _ _ (tree_dist hg ht s1 s2 v1 v2)]
  omega
/-- The head falls by each pipe's loss. -/
theorem fall_step {N s : Nat} {ps : List Pp} (hg : P2.Good N ps) (ht : treeB N ps = true) (s1 : 1 ≤ s) (s2 : s ≤ N) (dm : List Int) {j : Nat} (hj : j < ps.length) : fallA N ps s dm (pAt ps j).to = fallA N ps s dm (pAt ps j).fr + lossI (pAt ps j) (lA (tfL N ps s dm) j) := by
  obtain ⟨ha, hc, _⟩ := tree_full hg ht
  obtain ⟨_, _, f1, f2, t1, t2, _⟩ := good_pp hg (pAt_mem hj)
  rw [fall_pot hg ht s1 s2 dm t1 t2, fall_pot hg ht s1 s2 dm f1 f2]
  exact pot_step hg ha _ hj (tree_conn hc (a := (s : Int)) (by omega) (by omega) f1 f2)
end Go.Proofs.Ytlkomipjamelkab.S2

namespace Go.Proofs.Ytlkomipjamelkab.S2
open Go.RowKit P2

theorem fiI_at0 (l : List Int) (k : Nat) (h : k < l.length) : (fiI l k)[k]? = some (iv 0) := by
  unfold fiI
  have e : ((l.take k).map iv).length = k := by simp; omega
  rw [List.getElem?_append_right (by omega), e, Nat.sub_self, List.getElem?_replicate, if_pos (by omega)]
theorem fiI_set0 (l : List Int) (k : Nat) (h : k < l.length) : (fiI l k).set k (iv 0) = fiI l k := by
  apply List.ext_getElem?
  intro i
  rw [List.getElem?_set]
  by_cases e : k = i
  · subst e
    rw [if_pos rfl, fiI_at0 l k h, if_pos (by rw [fiI_len l k (by omega)]; exact h)]
  · rw [if_neg e]
theorem grown_drewF (w : World) (row : Option Nat) : w.grownBy w.drew row := ⟨rfl, rfl, rfl, Nat.le_refl _, fun _ _ _ => rfl⟩
abbrev q00 : Pp := ⟨0, 0, 0, 0⟩

/-- A fresh slice of numbers that has no room for more, beside true. -/
def GivesC (w : World) (l : List Int) (e : Ending) (w' : World) : Prop :=
  ∃ g, e = .returned (.tuple #[.slice (some ⟨g, 0, none⟩) l.length l.length, .bool true]) ∧ w.heap.size ≤ g ∧ IOwn w' w.heap.size (.slice (some ⟨g, 0, none⟩) l.length l.length) l ∧ Below w.heap.size w w'

set_option maxHeartbeats 1000000 in
theorem tfl_no1 (n : Int) (A : Option Addr) (cap : Nat) (ps : List Pp) (x : Int) (AD : Option Addr) (dc : Nat) (dm : List Int) (w : World) (hT : ∀ w', Below w.heap.size w w' → Calls Try.prog 57 #[nv n A ps.length cap, .int .i64 x] w' fun e w'' => e = .returned (.tuple #[bv 0 ⟨0, 0, 0, 0⟩ none 0 0, .bool false]) ∧ Below w'.heap.size w' w'') :
    Calls Try.prog 9 #[nv n A ps.length cap, .int .i64 x, .slice AD dm.length dc] w (GivesI w [] false) := by
  have H := Lib.hid hT
  clear hT
  go_enter Try.func9, Try.ntmps9
  go_wp2_with (go_at_call 57; refine (H.out _ ((Below.refl _ _).alloc (Nat.le_refl _) _)).mono ?_; rintro e w1 ⟨rfl, hb1⟩; have hB1 := Lib.hid (((Below.refl w.heap.size w).alloc (Nat.le_refl _) (nb n A ps.length cap)).trans (hb1.mono (by simp))); clear hb1)
  go_ret2
  have h9 := gives_none (hB1.out.alloc hB1.out.size (.cells #[.int .i64 0, .int .i64 0, .int .i64 0, .int .i64 0, .int .i64 0, .slice none 0 0] 82))
  rw [show (w1.alloc (.cells #[.int .i64 0, .int .i64 0, .int .i64 0, .int .i64 0, .int .i64 0, .slice none 0 0] 82)).heap.size = w1.heap.size + 1 from by simp] at h9
  exact h9
set_option maxHeartbeats 2000000 in
set_option maxRecDepth 100000 in
theorem tfl_no2 (N t : Nat) (A : Option Addr) (cap : Nat) (ps : List Pp) (AD : Option Addr) (dc : Nat) (dm : List Int) (w : World) (h : PAt w A ps) (hm : ps.length ≤ maxLen) (hd : IAt w AD dm) (hdl : dm.length ≤ 1048576) (hv : demB N ps dm = false) (hT : ∀ w', Below w.heap.size w w' → Calls Try.prog 57 #[nv N A ps.length cap, .int .i64 (t : Int)] w' (TfIs N ps t w')) :
    Calls Try.prog 9 #[nv N A ps.length cap, .int .i64 (t : Int), .slice AD dm.length dc] w (GivesI w [] false) := by
  have H := Lib.hid hT
  have H2 := Lib.hid (fun w' (hb : Below w.heap.size w w') => dem_v hv A cap AD dc w' (h.kept hb (Nat.le_refl _)) hm (hd.kept hb (Nat.le_refl _)) hdl)
  clear hT h hd hv
  go_enter Try.func9, Try.ntmps9
  go_wp2_with (first
    | (go_at_call 57; refine (H.out _ ((Below.refl _ _).alloc (Nat.le_refl _) _)).mono ?_; rintro e w1 ⟨A4, c4, rfl, hrep, hb1⟩; have HB1 := Lib.hid (show Below (w.heap.size + 1) (w.alloc (nb N A ps.length cap)) w1 from by simpa using hb1); clear hb1 hrep; obtain ⟨b0, b1⟩ := box2 HB1.out; have hy1 : w.heap.size < w1.heap.size := box_lt HB1.out; generalize (kidsL ps (t : Int) ⟨0, 0, 0, 0⟩).length = m4)
    | (go_at_call 58; refine (H2.out _ ((below_box HB1.out).alloc (below_box HB1.out).size _)).mono ?_; rintro e w2 ⟨rfl, hb2⟩; have HB2 := Lib.hid (((below_box HB1.out).alloc (below_box HB1.out).size (.cells #[.int .i64 (t : Int), .int .i64 0, .int .i64 0, .int .i64 0, .int .i64 0, .slice A4 m4 c4] 82)).trans (hb2.mono (by have := (below_box HB1.out).size; simp; omega)))))
  go_ret2
  exact gives_none HB2.out

set_option maxHeartbeats 4000000 in
set_option maxRecDepth 100000 in
theorem tfl_cap (N t : Nat) (A : Option Addr) (cap : Nat) (ps : List Pp) (AD : Option Addr) (dc : Nat) (dm : List Int) (w : World) (h : PAt w A ps) (hm : ps.length ≤ maxLen) (hd : IAt w AD dm) (hdl : dm.length ≤ 1048576) (hn : nodeB N ps t = true) (ht : treeB N ps = true) (hv : demB N ps dm = true) :
    Calls Try.prog 9 #[nv N A ps.length cap, .int .i64 (t : Int), .slice AD dm.length dc] w (GivesC w (tfL N ps t dm)) := by
  obtain ⟨hg, hdn, hr⟩ := demB_of hv
  obtain ⟨_, ht1, ht2⟩ := nodeB_of hn
  have hl10 := hg.2.2.1
  have hN8 := hg.2.1
  have ha := (tree_full hg ht).1
  have H := Lib.hid (fun w' (hb : Below w.heap.size w w') => tf_ok hn ht ha A cap w' (h.kept hb (Nat.le_refl _)) hm)
  have H2 := Lib.hid (fun w' (hb : Below w.heap.size w w') => dem_v hv A cap AD dc w' (h.kept hb (Nat.le_refl _)) hm (hd.kept hb (Nat.le_refl _)) hdl)
  have HA := Lib.hid (fun w' (hb : Below w.heap.size w w') => h.kept hb (Nat.le_refl _))
  have HI := Lib.hid (fun w' (hb : Below w.heap.size w w') => hd.kept hb (Nat.le_refl _))
  have HFE := Lib.hid (fun k (hk : k < ps.length) => far_end (t := t) hg ht (by omega) (by omega) (pAt_mem hk))
  have HBB := Lib.hid (fun (B : Nat) (p0 : Pp) (A : Option Addr) (cap : Nat) (w : World) (hB : B ≤ w.heap.size) (hr : RepIn ps (fun b => b < B) (N + 1) w A t ⟨0, 0, 0, 0⟩) => bbeh_any (fun b => b < B) B (fun _ h => h) hg ha p0 (N + 1) t ⟨0, 0, 0, 0⟩ A cap w hB (br_root hg (by omega) (by omega)) (cnt_le _ _ _ _) hr)
  have HBN := Lib.hid (fun (B d : Nat) (x : Int) (q : Pp) (A : Option Addr) (cap : Nat) (w : World) => bnodes_any ps (fun b => b < B) hl10 d x q A cap w)
  have HTK := Lib.hid (fun (l : List Int) (hmm : ∀ v, v ∈ l → 1 ≤ v ∧ v ≤ (N : Int)) (hl : l.length ≤ 8) k (hk : k ≤ l.length) => sumT_in hr (by omega) hmm hl hk)
  have HTI := Lib.hid (fun v (h1 : 1 ≤ v) (h2 : v ≤ (N : Int)) => tk_in hr (by omega) h1 h2)
  have HLL := Lib.hid (tfL_len N ps t dm)
  have HLA := Lib.hid (fun k (hk : k < ps.length) => tfL_at (N := N) (s := t) (dm := dm) hk)
  have HDL := Lib.hid hdn
  have hmk := run_make_row' (P := Try.prog) 27 3 (.int .i64 0) 8 Try.underlying27 infoI rfl .i64 .i64 ps.length (by omega) (by omega)
  have HO := Lib.hid (fun w => made_own (tfL N ps t dm) w (by rw [tfL_len]; omega))
  have HF := Lib.hid (fiI_full (tfL N ps t dm))
  have HFS := Lib.hid (fun k (hk : k < ps.length) => fiI_set (tfL N ps t dm) k (by rw [tfL_len]; exact hk))
  have HF0 := Lib.hid (fun k (hk : k < ps.length) => fiI_set0 (tfL N ps t dm) k (by rw [tfL_len]; exact hk))
  have HFL := Lib.hid (fun k (hk : k ≤ ps.length) => fiI_len (tfL N ps t dm) k (by rw [tfL_len]; exact hk))
  rw [HLL.out] at HO HF HFL
  clear h hm hd hdl hn ht hv hr ha hg hdn
  go_enter Try.func9, Try.ntmps9
  go_wp2_with (first
    | (go_at_call 57; refine (H.out _ ((Below.refl _ _).alloc (Nat.le_refl _) _)).mono ?_; rintro e w1 ⟨A4, c4, rfl, hrep, hb1⟩; have HB1 := Lib.hid (show Below (w.heap.size + 1) (w.alloc (nb N A ps.length cap)) w1 from by simpa using hb1); have HREP1 := Lib.hid hrep; clear hb1 hrep; obtain ⟨b0, b1⟩ := box2 HB1.out; have hy1 : w.heap.size < w1.heap.size := box_lt HB1.out; obtain ⟨m4, hm4⟩ : ∃ m4, (kidsL ps (t : Int) ⟨0, 0, 0, 0⟩).length = m4 := ⟨_, rfl⟩; rw [hm4] at HBB; have HM4 := Lib.hid hm4; rw [hm4]; clear hm4)
    | (go_at_call 58; refine (H2.out _ ((below_box HB1.out).alloc (below_box HB1.out).size _)).mono ?_; rintro e w2 ⟨rfl, hb2⟩; refine Hid.out ?_))
  have hab1 := alloc_belowE w1 (.cells #[.int .i64 (t : Int), .int .i64 0, .int .i64 0, .int .i64 0, .int .i64 0, .slice A4 m4 c4] 82)
  have hb12 : Below w1.heap.size w1 w2 := hab1.trans (hb2.mono (by simp))
  have HX2 := Lib.hid (on_call HB1.out hb12)
  have HB2 := Lib.hid (below_box HX2.out)
  have hz12 : w1.heap.size < w2.heap.size := by have := hb2.size; simp at this; omega
  have HT2 : Hid (BC w2 w1.heap.size 0 t ⟨0, 0, 0, 0⟩ (.slice A4 m4 c4)) := Lib.hid (by
    have hz : w1.heap.size < (w1.alloc (.cells #[.int .i64 (t : Int), .int .i64 0, .int .i64 0, .int .i64 0, .int .i64 0, .slice A4 m4 c4] 82)).heap.size := by simp
    exact ⟨(hb2.cell (p := ⟨w1.heap.size, 0, none⟩) hz).trans (cells_new6 w1 _ _ _ _ _ _ _ 0 _ rfl), (hb2.cell (p := ⟨w1.heap.size, 1, none⟩) hz).trans (cells_new6 w1 _ _ _ _ _ _ _ 1 _ rfl), (hb2.cell (p := ⟨w1.heap.size, 2, none⟩) hz).trans (cells_new6 w1 _ _ _ _ _ _ _ 2 _ rfl), (hb2.cell (p := ⟨w1.heap.size, 3, none⟩) hz).trans (cells_new6 w1 _ _ _ _ _ _ _ 3 _ rfl), (hb2.cell (p := ⟨w1.heap.size, 4, none⟩) hz).trans (cells_new6 w1 _ _ _ _ _ _ _ 4 _ rfl), (hb2.cell (p := ⟨w1.heap.size, 5, none⟩) hz).trans (cells_new6 w1 _ _ _ _ _ _ _ 5 _ rfl)⟩)
  have HREP2 := Lib.hid (RepIn.kept (Q := fun b => b < w2.heap.size) (fun b _ hlt => (show b < w2.heap.size by omega)) (fun b _ hlt => hb12.block b hlt) hb12.size _ _ _ _ HREP1.out)
  have HO2 := Lib.hid (HO.out w2)
  clear b0 b1
  obtain ⟨b0, b1⟩ := box2 HX2.out
  have hy2 := box_lt HX2.out
  clear hab1 hb12 hb2 HB1 HREP1 H H2 HO
  refine Lib.hid ?_
  go_wp2
  clear hmk
  have HB0 := Lib.hid (show Below w2.heap.size w2 (w2.alloc (.cells (madeCells #[.int .i64 0] ps.length) 3)) from (Below.refl _ _).alloc (Nat.le_refl _) _)
  go_loopw [39] (fun i wr => ∃ k : Nat, k ≤ ps.length ∧ i = .int .i64 k ∧ Hid (wr.ownsRow w2.heap.size 3 1 (.slice (some ⟨w2.heap.size, 0, none⟩) ps.length ps.length) ps.length (fiI (tfL N ps t dm) k)) ∧ Hid (Below w2.heap.size w2 wr)) (fun i _ => ps.length - (intOf i).toNat)
  case atStart => exact ⟨0, Nat.zero_le _, rfl, HO2, HB0⟩
  case round =>
    clear HB0 HO2
    obtain ⟨k, hk, rfl, hown, hB⟩ := hrel
    by_cases hlt : k < ps.length
    · obtain ⟨b, off, hA, hbl, p0, p1, p2, p3⟩ := (HA.out _ (HB2.out.trans (hB.out.mono HB2.out.size))).at_ hlt
      subst hA
      have hk0 : (0 : Int) ≤ (k : Int) := by omega
      have hkn : (k : Int) < (ps.length : Int) := by omega
      obtain ⟨y, hfy, hy12, hyb, hys, hyp⟩ := HFE.out k hlt
      have HFA := Lib.hid (HLA.out k hlt)
      have HS0 := Lib.hid (HFS.out k hlt)
      have HZ0 := Lib.hid (HF0.out k hlt)
      rw [HFA.out] at HS0
      have HFLO := Lib.hid (show ((pAt ps k).fr = y → flowA N ps t dm k = -(sumG (tk dm) (dnL N ps (pAt ps k) t))) ∧ (¬ (pAt ps k).fr = y → flowA N ps t dm k = sumG (tk dm) (dnL N ps (pAt ps k) t)) from ⟨fun e => by unfold flowA; rw [if_pos (hys.2 e)], fun e => by unfold flowA; rw [if_neg (fun h => e (hys.1 h))]⟩)
      have HYP := Lib.hid hyp
      have HFY := Lib.hid hfy
      have HDM := Lib.hid (fun v (h : v ∈ dnL N ps (pAt ps k) t) => (dn_mem.1 h).1)
      have HDN := Lib.hid (dn_len N ps (pAt ps k) t)
      have hrow := (hown.out.lt w2.heap.size rfl).2
      clear hfy hyb hys hyp hy12 HFA HFE HLA HFS HF0
      generalize flowA N ps t dm k = F at *
      generalize pAt ps k = p at *
      have hab := alloc_belowE wr (.cells #[.int .i64 p.id, .int .i64 p.fr, .int .i64 p.to, .int .i64 p.sz] 40)
      have hO2 := Lib.hid (own_on hown.out hab)
      have hBa := Lib.hid (hB.out.trans (hab.mono hB.out.size))
      have d0 := cells4 wr (.int .i64 p.id) (.int .i64 p.fr) (.int .i64 p.to) (.int .i64 p.sz) 40 0 _ rfl
      have d1 := cells4 wr (.int .i64 p.id) (.int .i64 p.fr) (.int .i64 p.to) (.int .i64 p.sz) 40 1 _ rfl
      have d2 := cells4 wr (.int .i64 p.id) (.int .i64 p.fr) (.int .i64 p.to) (.int .i64 p.sz) 40 2 _ rfl
      have d3 := cells4 wr (.int .i64 p.id) (.int .i64 p.fr) (.int .i64 p.to) (.int .i64 p.sz) 40 3 _ rfl
      have hzz : wr.heap.size < (wr.alloc (.cells #[.int .i64 p.id, .int .i64 p.fr, .int .i64 p.to, .int .i64 p.sz] 40)).heap.size := by simp
      have hz2r := hB.out.size
      obtain ⟨t0, t1, t2, t3, t4, t5⟩ := HT2.out.kept (hBa.out.block w1.heap.size hz12)
      have htz : w1.heap.size < (wr.alloc (.cells #[.int .i64 p.id, .int .i64 p.fr, .int .i64 p.to, .int .i64 p.sz] 40)).heap.size := by omega
      have HRP := Lib.hid (HREP2.out.below hBa.out)
      go_wp2_with (first
        | (go_at_call 59; refine (HBB.out w2.heap.size p A4 c4 _ (by simp; omega) HRP.out).mono ?_; rintro e w5 ⟨hbe, hb5⟩; rw [HFY.out] at hbe; obtain ⟨A5, c5, d5, rfl, hbo, hcd, hrep5⟩ := beh_some hbe; obtain ⟨m5, hm5⟩ : ∃ m5, (kidsL ps y p).length = m5 := ⟨_, rfl⟩; have HBN5 := Lib.hid (HBN.out w2.heap.size d5 y p A5 c5); rw [hm5] at HBN5; rw [hm5]; clear hm5; refine Hid.out ?_))
      have hperm := HYP.out d5 hbo hcd
      obtain ⟨l, hl⟩ : ∃ l, nodesL ps d5 y p = l := ⟨_, rfl⟩
      rw [hl] at hperm HBN5
      have hl8 : l.length ≤ 8 := by rw [hperm.length_eq]; have := HDN.out; omega
      have hlm : ∀ v, v ∈ l → 1 ≤ v ∧ v ≤ (N : Int) := fun v hv => HDM.out v (hperm.mem_iff.1 hv)
      have HLM := Lib.hid (fun j (hj : j < l.length) => (show 1 ≤ lA l j ∧ lA l j ≤ (N : Int) from hlm _ (by
        have e : lA l j = l[j] := by simp [lA, List.getD, hj]
        rw [e]; exact List.getElem_mem hj)))
      have HSK := Lib.hid (fun j (hj : j ≤ l.length) => HTK.out l hlm hl8 j hj)
      have hsum : sumK (fun i => tk dm (lA l i)) l.length = sumG (tk dm) (dnL N ps p t) := by rw [sumG_all, sumG_perm hperm]
      rw [← hsum] at HFLO
      have hb5a := hBa.out.trans (hb5.mono hBa.out.size)
      have hbr5 := hab.trans (hb5.mono hab.size)
      clear hperm hl hlm hsum hbo hcd hbe HYP HFY HDN HDM HBN HRP t0 t1 t2 t3 t4 t5 htz p0 p1 p2 p3 hbl
      have HR5 := Lib.hid hrep5
      have hO5 := own_on hO2.out hb5
      have e1 := (hb5.cell (p := ⟨wr.heap.size, 1, none⟩) hzz).trans d1
      have hz5 : wr.heap.size < w5.heap.size := by have := hb5.size; omega
      have hab5 := alloc_belowE w5 (.cells #[.int .i64 y, .int .i64 p.id, .int .i64 p.fr, .int .i64 p.to, .int .i64 p.sz, .slice A5 m5 c5] 82)
      have e2 := (hab5.cell (p := ⟨wr.heap.size, 1, none⟩) hz5).trans e1
      have hO5a := Lib.hid (own_on hO5 hab5)
      have hbase5 := Lib.hid (hb5a.trans (hab5.mono hb5a.size))
      have f0 := cells_new6 w5 (.int .i64 y) (.int .i64 p.id) (.int .i64 p.fr) (.int .i64 p.to) (.int .i64 p.sz) (.slice A5 m5 c5) 82 0 _ rfl
      have hz55 : w5.heap.size < (w5.alloc (.cells #[.int .i64 y, .int .i64 p.id, .int .i64 p.fr, .int .i64 p.to, .int .i64 p.sz, .slice A5 m5 c5] 82)).heap.size := by simp
      have HRP5 := Lib.hid (hrep5.below hab5)
      have hzg5 : w2.heap.size < w5.heap.size := by omega
      clear d0 d1 d2 d3 hzz hab hO2 hBa hO5 e1 hb5 hrep5 hb5a hbr5 HR5 hab5
      refine Lib.hid ?_
      go_wp2_with (first
        | (go_at_call 60; refine (HBN5.out _ HRP5.out (by omega)).mono ?_; rintro e w6 ⟨gN, cN, rfl, hgN, hON, hb6⟩; refine Hid.out ?_))
      have g1 := (hb6.cell (p := ⟨wr.heap.size, 1, none⟩) (by simp; omega)).trans e2
      have g2 := (hb6.cell (p := ⟨w5.heap.size, 0, none⟩) hz55).trans f0
      have HO6 := Lib.hid (own_on hO5a.out hb6)
      have HB6 := Lib.hid (hbase5.out.trans (hb6.mono hbase5.out.size))
      have HN6 := Lib.hid hON.iat
      have hz6 : w5.heap.size < w6.heap.size := by have := hb6.size; omega
      have hgN2 : w5.heap.size < gN := by simp at hgN; omega
      have hgNl := iown_lt' hON
      clear e2 f0 hO5a hbase5 hb6 hON HRP5 hz55 HBN5 hgN
      refine Lib.hid ?_
      go_wp2
      have hkx := HFL.out k hk
      have HX0 := Lib.hid (show w6.ownsRow w2.heap.size 3 1 (.slice (some ⟨w2.heap.size, 0, none⟩) ps.length ps.length) ps.length ((fiI (tfL N ps t dm) k).set k (iv (sumK (fun i => tk dm (lA l i)) 0))) from by
        have := HO6.out
        rw [← HZ0.out] at this
        exact this)
      have HG0 := Lib.hid (show w6.grownBy w6 (some w2.heap.size) from grown_refl w6 _)
      have hgw6 : w2.heap.size < w6.heap.size := by omega
      generalize fiI (tfL N ps t dm) k = XS at *
      obtain ⟨XS1, hXS1⟩ : ∃ z, fiI (tfL N ps t dm) (k + 1) = z := ⟨_, rfl⟩
      rw [hXS1] at HS0
      have HXS1 := Lib.hid hXS1
      clear hXS1
      obtain ⟨SM, hSM⟩ : ∃ SM, SM = (fun j => sumK (fun i => tk dm (lA l i)) j) := ⟨_, rfl⟩
      have HSM0 := Lib.hid (fun j => (congrFun hSM j).symm)
      have HSM1 := Lib.hid (fun j => show SM (j + 1) = SM j + tk dm (lA l j) by rw [hSM]; rfl)
      clear hSM
      rw [HSM0.out 0] at HX0
      rw [HSM0.out l.length] at HFLO
      have HSK2 := Lib.hid (fun j (hj : j ≤ l.length) => (show 0 ≤ SM j ∧ SM j ≤ 8000 by have := HSK.out j hj; rw [HSM0.out j] at this; exact this))
      have HSZ := Lib.hid (show SM 0 = 0 by rw [← HSM0.out 0]; rfl)
      clear HSM0 HSK HO6 HZ0 hown hB
      obtain ⟨wo, hwo⟩ : ∃ wo, wo = wr := ⟨_, rfl⟩
      subst hwo
      go_loopw [53] (fun i wi => ∃ j : Nat, j ≤ l.length ∧ i = .int .i64 (j : Int) ∧ Hid (wi.ownsRow w2.heap.size 3 1 (.slice (some ⟨w2.heap.size, 0, none⟩) ps.length ps.length) ps.length (XS.set k (iv (SM j)))) ∧ Hid (w6.grownBy wi (some w2.heap.size)) ∧ Hid (Below w2.heap.size w2 wi)) (fun i _ => l.length - (intOf i).toNat)
      case atStart => exact ⟨0, Nat.zero_le _, rfl, HX0, HG0, HB6⟩
      case round =>
        obtain ⟨j, hj, rfl, hrw, hgr, hBi⟩ := hrel
        clear HX0 HG0
        by_cases hjl : j < l.length
        · obtain ⟨v1, v2⟩ := HLM.out j hjl
          obtain ⟨u, hu⟩ : ∃ u : Nat, lA l j = (u : Int) + 1 := ⟨(lA l j - 1).toNat, by omega⟩
          have hud : u < dm.length := by have := HDL.out; omega
          obtain ⟨bb, of2, hA2, hbl2, x0⟩ := (HI.out _ (HB2.out.trans (hBi.out.mono HB2.out.size))).at_ hud
          subst hA2
          obtain ⟨bN, oN, hAN, hblN, x1⟩ := (HN6.out.far hgr.out (by omega)).at_ hjl
          simp only [Option.some.injEq, Addr.mk.injEq, and_true] at hAN
          obtain ⟨rfl, rfl⟩ := hAN
          rw [Nat.zero_add] at x1
          have hla : l.getD j 0 = lA l j := rfl
          rw [hla, hu] at x1
          have hs0 := HSK2.out j (by omega)
          have hs1 := HSK2.out (j + 1) hjl
          have hsn := HSM1.out j
          have htk : tk dm (lA l j) = dm.getD u 0 := by unfold tk; rw [hu, Int.add_sub_cancel, Int.toNat_natCast]
          rw [htk] at hsn
          have HSN := Lib.hid hsn
          rw [hsn] at hs1
          have hgrow := (hrw.out.lt w2.heap.size rfl).2
          have hj0 : (0 : Int) ≤ (j : Int) := by omega
          have hjn : (j : Int) < (l.length : Int) := by omega
          have hu0 : (0 : Int) ≤ (u : Int) := by omega
          have hun : (u : Int) < (dm.length : Int) := by omega
          have hcell := (hrw.out.cellAt k (by omega)).trans (show (XS.set k (iv (SM j)))[k]? = some (iv (SM j)) by rw [List.getElem?_set, if_pos rfl, if_pos (by rw [hkx]; exact hlt)])
          have hfz := hrw.out.frozenAt k
          have hst0 := hrw.out.stored k (iv (SM j + dm.getD u 0))
          rw [List.set_set] at hst0
          have HST := Lib.hid hst0
          clear hst0 hsn htk hla hu v1 v2
          generalize dm.getD u 0 = x at *
          generalize SM j = s at *
          have wS : IntKind.i64.wrap (s + x) = s + x := w64 _ (by omega)
          have hu9 : (u : Int) < 9 := by have := HDL.out; omega
          have wU : IntKind.i64.wrap ((u : Int) + 1 - 1) = (u : Int) := by rw [w64 _ (by omega)]; omega
          have wU2 : IntKind.i64.wrap (u : Int) = (u : Int) := w64 _ (by omega)
          go_wp2
          go_region_with (fail)
          all_goals
            go_wp2
            go_roundw
            · exact ⟨j + 1, by omega, by go_num, by rw [HSN.out]; exact Lib.hid HST.out.1, Lib.hid ((hgr.out.trans HST.out.2).trans (grown_drewF _ _)), Lib.hid (hBi.out.setCell (p := ⟨w2.heap.size, k, none⟩) (Nat.le_refl _) _).drew⟩
            · simp [intOf]; omega
        · have ej : j = l.length := by omega
          subst ej
          have y1 := (hgr.out.cell_far ⟨wo.heap.size, 1, none⟩ (by dsimp only; omega) (by simp; omega)).trans g1
          have y2 := (hgr.out.cell_far ⟨w5.heap.size, 0, none⟩ (by dsimp only; omega) (by simp; omega)).trans g2
          have hszi := hgr.out.size
          have hyz1 : wo.heap.size < wr.heap.size := by omega
          have hyz2 : w5.heap.size < wr.heap.size := by omega
          have hs0 := HSK2.out l.length (Nat.le_refl _)
          have hgrow := (hrw.out.lt w2.heap.size rfl).2
          by_cases hpy : p.fr = y
          · have hF := HFLO.out.1 hpy
            have g0 : (p.fr == y) = true := beq_iff_eq.2 hpy
            have hcell := (hrw.out.cellAt k (by omega)).trans (show (XS.set k (iv (SM l.length)))[k]? = some (iv (SM l.length)) by rw [List.getElem?_set, if_pos rfl, if_pos (by rw [hkx]; exact hlt)])
            have hfz := hrw.out.frozenAt k
            have hst0 := hrw.out.stored k (iv (-(SM l.length)))
            rw [List.set_set, ← hF, HS0.out] at hst0
            have HST := Lib.hid hst0
            have HFF := Lib.hid hF
            clear hst0 hF hpy
            generalize SM l.length = s at *
            go_wp2
            go_roundw
            case rel => exact ⟨k + 1, by omega, by go_num, by rw [HXS1.out]; have := HST.out.1; rw [HFF.out] at this; exact Lib.hid this, Lib.hid (hBi.out.setCell (p := ⟨w2.heap.size, k, none⟩) (Nat.le_refl _) _)⟩
            case measure => simp [intOf]; omega
          · have hF := HFLO.out.2 hpy
            have g0 : (p.fr == y) = false := beq_eq_false_iff_ne.2 hpy
            have hrow2 := hrw.out
            rw [← hF, HS0.out] at hrow2
            have HRW := Lib.hid hrow2
            clear hrow2 hF hpy
            go_wp2
            go_roundw
            case rel => exact ⟨k + 1, by omega, by go_num, by rw [HXS1.out]; exact HRW, hBi⟩
            case measure => simp [intOf]; omega
    · have e : k = ps.length := by omega
      subst e
      have hown2 := hown.out
      rw [HF.out] at hown2
      have H2 := Lib.hid hown2
      clear hown hown2
      go_wp2
      go_ret2
      exact ⟨_, by rw [HLL.out]; rfl, by omega, own_lower (by unfold IOwn; rw [HLL.out]; exact H2.out), HB2.out.trans (hB.out.mono HB2.out.size)⟩
theorem tfl_yes (N t : Nat) (A : Option Addr) (cap : Nat) (ps : List Pp) (AD : Option Addr) (dc : Nat) (dm : List Int) (w : World) (h : PAt w A ps) (hm : ps.length ≤ maxLen) (hd : IAt w AD dm) (hdl : dm.length ≤ 1048576) (hn : nodeB N ps t = true) (ht : treeB N ps = true) (hv : demB N ps dm = true) :
    Calls Try.prog 9 #[nv N A ps.length cap, .int .i64 (t : Int), .slice AD dm.length dc] w (GivesI w (tfL N ps t dm) true) :=
  (tfl_cap N t A cap ps AD dc dm w h hm hd hdl hn ht hv).mono fun _ _ ⟨g, he, hg, ho, hb⟩ => ⟨g, _, he, hg, ho, hb⟩
end Go.Proofs.Ytlkomipjamelkab.S2

namespace Go.Proofs.Ytlkomipjamelkab.S2
open Go.RowKit P2

set_option maxHeartbeats 1000000 in
theorem hd_no1 (n : Int) (A : Option Addr) (cap : Nat) (ps : List Pp) (x : Int) (AD : Option Addr) (dc : Nat) (dm : List Int) (h : Int) (w : World) (hT : ∀ w', Below w.heap.size w w' → Calls Try.prog 9 #[nv n A ps.length cap, .int .i64 x, .slice AD dm.length dc] w' (GivesI w' [] false)) :
    Calls Try.prog 21 #[nv n A ps.length cap, .int .i64 x, .slice AD dm.length dc, .int .i64 h] w (GivesI w [] false) := by
  have H := Lib.hid hT
  clear hT
  go_enter Try.func21, Try.ntmps21
  go_wp2_with (go_at_call 9; refine (H.out _ ((Below.refl _ _).alloc (Nat.le_refl _) _)).mono ?_; rintro e w1 ⟨g, c, rfl, hg, hO, hb1⟩)
  go_ret2
  exact gives_none (below_alloc_call hb1)
set_option maxHeartbeats 1000000 in
theorem hd_no2 (n : Int) (A : Option Addr) (cap : Nat) (ps : List Pp) (x : Int) (AD : Option Addr) (dc : Nat) (dm : List Int) (h : Int) (L : List Int) (w : World) (hh : hdR h = false) (hT : ∀ w', Below w.heap.size w w' → Calls Try.prog 9 #[nv n A ps.length cap, .int .i64 x, .slice AD dm.length dc] w' (GivesI w' L true)) :
    Calls Try.prog 21 #[nv n A ps.length cap, .int .i64 x, .slice AD dm.length dc, .int .i64 h] w (GivesI w [] false) := by
  have H := Lib.hid hT
  have H2 := Lib.hid (fun w' => ahd_one hh w')
  clear hT hh
  go_enter Try.func21, Try.ntmps21
  go_wp2_with (first
    | (go_at_call 9; refine (H.out _ ((Below.refl _ _).alloc (Nat.le_refl _) _)).mono ?_; rintro e w1 ⟨g, c, rfl, hg, hO, hb1⟩; have hB1 := Lib.hid (below_alloc_call hb1); clear hO hb1)
    | (go_at_call 75; refine (H2.out _).mono ?_; rintro e w2 ⟨rfl, hb2⟩))
  go_ret2
  exact gives_none (hB1.out.trans (hb2.mono hB1.out.size))

set_option maxHeartbeats 2000000 in
set_option maxRecDepth 100000 in
theorem hd_yes (N s : Nat) (A : Option Addr) (cap : Nat) (ps : List Pp) (AD : Option Addr) (dc : Nat) (dm : List Int) (h : Int) (w : World) (hp : PAt w A ps) (hm : ps.length ≤ maxLen) (hd : IAt w AD dm) (hdl : dm.length ≤ 1048576) (hn : nodeB N ps s = true) (ht : treeB N ps = true) (hv : demB N ps dm = true) (hh : hdR h = true) :
    Calls Try.prog 21 #[nv N A ps.length cap, .int .i64 (s : Int), .slice AD dm.length dc, .int .i64 h] w (GivesI w (hdL N ps s dm h) true) := by
  obtain ⟨hg, hdn, hr⟩ := demB_of hv
  obtain ⟨_, hs1, hs2⟩ := nodeB_of hn
  have hN8 := hg.2.1
  have hl10 := hg.2.2.1
  obtain ⟨hh1, hh2⟩ := hdR_of hh
  have H := Lib.hid (fun w' (hb : Below w.heap.size w w') => tfl_yes N s A cap ps AD dc dm w' (hp.kept hb (Nat.le_refl _)) hm (hd.kept hb (Nat.le_refl _)) hdl hn ht hv)
  have H2 := Lib.hid (fun w' => ahd_one hh w')
  have hflo := tfl_flo (s := s) hg hr hdn
  have HAL := Lib.hid (fun (AF : Option Addr) (cF : Nat) (k : Nat) (hk : k < N) w' (hb : Below w.heap.size w w') (hf : IAt w' AF (tfL N ps s dm)) => al_yes N A cap ps AF cF (tfL N ps s dm) s ((k : Int) + 1) (wyA ps s ((k : Int) + 1)) w' (hp.kept hb (Nat.le_refl _)) hm hf (by rw [tfL_len]; omega) hflo (wy_ok hg ht (by omega) (by omega) (by omega) (by omega)) (fun w'' hb2 => by
    have hy := way_yes N s (k + 1) A cap ps w'' (hp.kept (hb.trans (hb2.mono hb.size)) (Nat.le_refl _)) hm hn (node_mk hg (by omega) (by omega)) _ (tree_dist hg ht (by omega) (by omega) (v := ((k + 1 : Nat) : Int)) (by omega) (by omega))
    exact hy))
  have HFI := Lib.hid (fun k (hk : k < N) => fall_in hg ht hr hdn (s := s) (by omega) (by omega) (v := (k : Int) + 1) (by omega) (by omega))
  have HFL := Lib.hid (tfL_len N ps s dm)
  have HLL := Lib.hid (hdL_len N ps s dm h)
  have HLA := Lib.hid (fun k (hk : k < N) => (show (hdL N ps s dm h).getD k 0 = h - fallA N ps s dm ((k : Int) + 1) from hdL_at hk))
  have hmk := run_make_row' (P := Try.prog) 27 3 (.int .i64 0) 8 Try.underlying27 infoI rfl .i64 .i64 N (by omega) (by omega)
  have HO := Lib.hid (fun w => made_own (hdL N ps s dm h) w (by rw [hdL_len]; omega))
  have HF := Lib.hid (fiI_full (hdL N ps s dm h))
  have HFS := Lib.hid (fun k (hk : k < N) => fiI_set (hdL N ps s dm h) k (by rw [hdL_len]; exact hk))
  have HFH := Lib.hid (fun k (hk : k < N) => fiI_has (hdL N ps s dm h) k (by rw [hdL_len]; exact hk))
  rw [HLL.out] at HO HF
  rw [HFL.out] at HAL
  clear hp hm hd hdl hn ht hv hh hg hdn hr hflo
  go_enter Try.func21, Try.ntmps21
  go_wp2_with (first
    | (go_at_call 9; refine (H.out _ ((Below.refl _ _).alloc (Nat.le_refl _) _)).mono ?_; rintro e w1 ⟨gF, cF, rfl, hgF, hOF, hb1⟩; have HX1 := Lib.hid (show Below (w.heap.size + 1) (w.alloc (nb N A ps.length cap)) w1 by simpa using hb1); have HF1 := Lib.hid hOF.iat; clear hb1 hOF)
    | (go_at_call 75; refine (H2.out _).mono ?_; rintro e w2 ⟨rfl, hb2⟩; refine Hid.out ?_))
  have HX2 := Lib.hid (on_call HX1.out hb2)
  have HB2 := Lib.hid (below_box HX2.out)
  have HF2 := Lib.hid (HF1.out.kept hb2 (Nat.le_refl _))
  obtain ⟨b0, b1⟩ := box2 HX2.out
  have hy2 := box_lt HX2.out
  have HO2 := Lib.hid (HO.out w2)
  have HFK := Lib.hid (fun w' (hb : Below w2.heap.size w2 w') => HF2.out.kept hb (Nat.le_refl _))
  clear hb2 HX1 HF1 H H2 HO HF2
  rw [HFL.out]
  refine Lib.hid ?_
  go_wp2
  clear hmk
  have HB0 := Lib.hid (show Below w2.heap.size w2 (w2.alloc (.cells (madeCells #[.int .i64 0] N) 3)) from (Below.refl _ _).alloc (Nat.le_refl _) _)
  go_loopw [37] (fun i wr => ∃ k : Nat, k ≤ N ∧ i = .int .i64 k ∧ Hid (wr.ownsRow w2.heap.size 3 1 (.slice (some ⟨w2.heap.size, 0, none⟩) N N) N (fiI (hdL N ps s dm h) k)) ∧ Hid (Below w2.heap.size w2 wr)) (fun i _ => N - (intOf i).toNat)
  case atStart => exact ⟨0, Nat.zero_le _, rfl, HO2, HB0⟩
  case round =>
    clear HB0 HO2
    obtain ⟨k, hk, rfl, hown, hB⟩ := hrel
    have c0 := (hB.out.cell (p := ⟨w.heap.size, 0, none⟩) hy2).trans b0
    have c1 := (hB.out.cell (p := ⟨w.heap.size, 1, none⟩) hy2).trans b1
    have hzr : w.heap.size < wr.heap.size := by have := hB.out.size; omega
    by_cases hlt : k < N
    · have hk0 : (0 : Int) ≤ (k : Int) := by omega
      have hkn : (k : Int) < (N : Int) := by omega
      have HK := Lib.hid (HAL.out (some ⟨gF, 0, none⟩) cF k hlt wr (HB2.out.trans (hB.out.mono HB2.out.size)) (HFK.out _ hB.out))
      have hfi := HFI.out k hlt
      have hfs := HFS.out k hlt
      rw [HLA.out k hlt] at hfs
      have HST := Lib.hid hfs
      obtain ⟨uo, huo⟩ := HFH.out k hlt
      have HUO := Lib.hid huo
      have hF : alongA ps (tfL N ps s dm) (wyA ps s ((k : Int) + 1)) s = fallA N ps s dm ((k : Int) + 1) := rfl
      rw [hF] at HK
      clear hfs huo hF
      generalize fallA N ps s dm ((k : Int) + 1) = F at *
      have wS : IntKind.i64.wrap (h - F) = h - F := w64 _ (by omega)
      go_wp2_with (go_at_call 24; refine HK.out.mono ?_; rintro e w3 ⟨rfl, hb3⟩; refine Hid.out ?_)
      have hO3 := own_on hown.out hb3
      have hcell := (hO3.cellAt k (by omega)).trans HUO.out
      have hfz := hO3.frozenAt k
      have hgq := (hO3.lt w2.heap.size rfl).2
      have HB3 := Lib.hid (hB.out.trans (hb3.mono hB.out.size))
      have hst := hO3.stored k (iv (h - F))
      rw [HST.out] at hst
      have HRL := Lib.hid hst.1
      clear hO3 hst hb3 c0 c1
      refine Lib.hid ?_
      go_wp2
      go_roundw
      case rel => exact ⟨k + 1, by omega, by go_num, HRL, Lib.hid (HB3.out.setCell (p := ⟨w2.heap.size, k, none⟩) (Nat.le_refl _) _)⟩
      case measure => simp [intOf]; omega
    · have e : k = N := by omega
      subst e
      have hown2 := hown.out
      rw [HF.out] at hown2
      have HW2 := Lib.hid hown2
      clear hown hown2
      go_wp2
      go_ret2
      exact ⟨_, _, by rw [HLL.out]; rfl, by omega, own_lower (by unfold IOwn; rw [HLL.out]; exact HW2.out), HB2.out.trans (hB.out.mono HB2.out.size)⟩
end Go.Proofs.Ytlkomipjamelkab.S2

namespace Go.Proofs.Ytlkomipjamelkab.S2
open Go.RowKit P2
theorem gives_none9 {w w0 : World} (h : Below w0.heap.size w0 w) : GivesA w0 [] false (.returned (.tuple #[.slice (some ⟨w.heap.size, 0, none⟩) 0 0, .bool false])) (w.alloc (.cells #[] 3)) :=
  ⟨_, 0, 0, rfl, h.size, .inl rfl, h.alloc h.size _, by simp⟩
set_option maxHeartbeats 2000000 in
theorem stfl_no (n : Int) (A : Option Addr) (cap : Nat) (ps : List Pp) (x : Int) (AD : Option Addr) (dc : Nat) (dm : List Int) (w : World) (h : PAt w A ps) (hm : ps.length ≤ maxLen) (hd : IAt w AD dm) (hdl : dm.length ≤ 1048576)
    (hv : nodeB n ps x = false ∨ demB n ps dm = false ∨ ∃ N : Nat, n = N ∧ treeB N ps = false) :
    Calls Try.prog 10 #[nv n A ps.length cap, .int .i64 x, .slice AD dm.length dc] w (GivesA w [] false) := by
  obtain ⟨v1, hv1⟩ : ∃ v, nodeB n ps x = v := ⟨_, rfl⟩
  obtain ⟨v3, hv3⟩ : ∃ v, amtB dm n 0 1000 = v := ⟨_, rfl⟩
  have H1 := Lib.hid (fun w' (hb : Below w.heap.size w w') => snode_v hv1 A cap w' (h.kept hb (Nat.le_refl _)) hm)
  have H3 := Lib.hid (fun w' (hb : Below w.heap.size w w') => sdem_v hv3 A ps.length cap AD dc w' (hd.kept hb (Nat.le_refl _)) hdl)
  cases v1 with
  | false =>
    clear h hd hv hv1 hv3
    go_enter Try.func10, Try.ntmps10
    go_wp2_with (go_at_call 61; refine (H1.out _ ((Below.refl _ _).alloc (Nat.le_refl _) _)).mono ?_; rintro e w1 ⟨rfl, hb1⟩)
    go_ret2
    exact gives_none9 (below_alloc_call hb1)
  | true =>
    obtain ⟨hg, hx1, hx2⟩ := nodeB_of hv1
    obtain ⟨N, rfl⟩ := good_nat hg
    cases v3 with
    | false =>
      clear h hd hv hv1 hv3
      go_enter Try.func10, Try.ntmps10
      go_wp2_with (first
        | (go_at_call 61; refine (H1.out _ ((Below.refl _ _).alloc (Nat.le_refl _) _)).mono ?_; rintro e w1 ⟨rfl, hb1⟩; have HX1 := Lib.hid (show Below (w.heap.size + 1) (w.alloc (nb N A ps.length cap)) w1 by simpa using hb1); obtain ⟨b0, b1⟩ := box2 HX1.out; have hy1 := box_lt HX1.out; clear hb1)
        | (go_at_call 62; refine (H3.out _ (below_box HX1.out)).mono ?_; rintro e w3 ⟨rfl, hb3⟩; have HX3 := Lib.hid (on_call HX1.out hb3); clear b0 b1; obtain ⟨b0, b1⟩ := box2 HX3.out; have hy3 := box_lt HX3.out; clear hb3))
      go_ret2
      exact gives_none9 (below_box HX3.out)
    | true =>
      have ht : treeB N ps = false := by
        rcases hv with h | h | ⟨M, e, h⟩
        · exact absurd (h.symm.trans hv1) (by simp)
        · unfold demB at h; rw [good_mk hg, hv3] at h; cases h
        · have : M = N := by omega
          subst this
          exact h
      have H4 := Lib.hid (fun w' (hb : Below w.heap.size w w') => stree_v ht A cap w' (h.kept hb (Nat.le_refl _)) hg)
      clear h hd hv hv1 hv3 hg ht
      go_enter Try.func10, Try.ntmps10
      go_wp2_with (first
        | (go_at_call 61; refine (H1.out _ ((Below.refl _ _).alloc (Nat.le_refl _) _)).mono ?_; rintro e w1 ⟨rfl, hb1⟩; have HX1 := Lib.hid (show Below (w.heap.size + 1) (w.alloc (nb N A ps.length cap)) w1 by simpa using hb1); obtain ⟨b0, b1⟩ := box2 HX1.out; have hy1 := box_lt HX1.out; clear hb1)
        | (go_at_call 62; refine (H3.out _ (below_box HX1.out)).mono ?_; rintro e w3 ⟨rfl, hb3⟩; have HX3 := Lib.hid (on_call HX1.out hb3); clear b0 b1; obtain ⟨b0, b1⟩ := box2 HX3.out; have hy3 := box_lt HX3.out; clear hb3)
        | (go_at_call 63; refine (H4.out _ (below_box HX3.out)).mono ?_; rintro e w4 ⟨rfl, hb4⟩; have HX4 := Lib.hid (on_call HX3.out hb4); clear b0 b1; obtain ⟨b0, b1⟩ := box2 HX4.out; have hy4 := box_lt HX4.out; clear hb4))
      go_ret2
      exact gives_none9 (below_box HX4.out)

set_option maxHeartbeats 2000000 in
theorem stfl_yes (N t : Nat) (A : Option Addr) (cap : Nat) (ps : List Pp) (AD : Option Addr) (dc : Nat) (dm : List Int) (w : World) (h : PAt w A ps) (hm : ps.length ≤ maxLen) (hc : ps.length ≤ cap) (hd : IAt w AD dm) (hdl : dm.length ≤ 1048576) (hn : nodeB N ps t = true) (ht : treeB N ps = true) (hv : demB N ps dm = true) :
    Calls Try.prog 10 #[nv N A ps.length cap, .int .i64 (t : Int), .slice AD dm.length dc] w (GivesA w (tfL N ps t dm) true) := by
  obtain ⟨hg, hdn, hr⟩ := demB_of hv
  obtain ⟨_, hx1, hx2⟩ := nodeB_of hn
  unfold demB at hv
  rw [Bool.and_eq_true] at hv
  have H1 := Lib.hid (fun w' (hb : Below w.heap.size w w') => snode_v hn A cap w' (h.kept hb (Nat.le_refl _)) hm)
  have H3 := Lib.hid (fun w' (hb : Below w.heap.size w w') => sdem_v hv.2 A ps.length cap AD dc w' (hd.kept hb (Nat.le_refl _)) hdl)
  have H4 := Lib.hid (fun w' (hb : Below w.heap.size w w') => stree_v ht A cap w' (h.kept hb (Nat.le_refl _)) hg)
  have H5 := Lib.hid (fun w' (hb : Below w.heap.size w w') => stf_any N t A cap ps AD dc dm w' (h.kept hb (Nat.le_refl _)) hc (hd.kept hb (Nat.le_refl _)) hg (by omega) (by omega) hr hdn)
  clear h hd hv hn ht hg hdn hr hc
  go_enter Try.func10, Try.ntmps10
  go_wp2_with (first
    | (go_at_call 61; refine (H1.out _ ((Below.refl _ _).alloc (Nat.le_refl _) _)).mono ?_; rintro e w1 ⟨rfl, hb1⟩; have HX1 := Lib.hid (show Below (w.heap.size + 1) (w.alloc (nb N A ps.length cap)) w1 by simpa using hb1); obtain ⟨b0, b1⟩ := box2 HX1.out; have hy1 := box_lt HX1.out; clear hb1)
    | (go_at_call 62; refine (H3.out _ (below_box HX1.out)).mono ?_; rintro e w3 ⟨rfl, hb3⟩; have HX3 := Lib.hid (on_call HX1.out hb3); clear b0 b1; obtain ⟨b0, b1⟩ := box2 HX3.out; have hy3 := box_lt HX3.out; clear hb3)
    | (go_at_call 63; refine (H4.out _ (below_box HX3.out)).mono ?_; rintro e w4 ⟨rfl, hb4⟩; have HX4 := Lib.hid (on_call HX3.out hb4); clear b0 b1; obtain ⟨b0, b1⟩ := box2 HX4.out; have hy4 := box_lt HX4.out; clear hb4)
    | (go_at_call 64; refine (H5.out _ (below_box HX4.out)).mono ?_; rintro e w5 ⟨g, c, rfl, hg5, hO, hb5⟩))
  go_ret2
  have hz := (below_box HX4.out).size
  exact ⟨g, 0, c, rfl, by omega, hO.iat, (below_box HX4.out).trans (hb5.mono hz), iown_lt' hO⟩

/-! ### DownstreamNodes -/
end Go.Proofs.Ytlkomipjamelkab.S2

namespace Go.Proofs.Ytlkomipjamelkab.S2
open Go.RowKit P2

set_option maxHeartbeats 8000000 in
set_option maxRecDepth 100000 in
theorem l2way_any (N X T : Nat) (A : Option Addr) (cap : Nat) (ps : List Pp) (w : World) (h : PAt w A ps) (hg : P2.Good N ps) (hx1 : 1 ≤ X) (hx2 : X ≤ N) (hy1 : 1 ≤ T) (hy2 : T ≤ N) (K : Nat) (hd : dist ps T X = K) :
    Calls Try.prog 145 #[nv N A ps.length cap, .int .i64 (X : Int), .int .i64 (T : Int)] w (GivesL w (wayL ps T K X)) := by
  have HS := Lib.hid (fun w' (hb : Below w.heap.size w w') => steps_any N T A cap ps w' (h.kept hb (Nat.le_refl _)) hg hy1 hy2)
  have HA := Lib.hid h
  have HG := Lib.hid hg
  have hN : N ≤ 8 := by have := hg.2.1; omega
  have hl10 := hg.2.2.1
  have hKN := dist_le (t := T) hg X (by omega)
  have hK8 : K ≤ 8 := by omega
  have HAT := Lib.hid (fun (v : Nat) (h1 : 1 ≤ v) (h2 : v ≤ N) => distL_at N ps T v h2 (by omega))
  have HLN := Lib.hid (distL_len N ps T)
  have HDX := Lib.hid hd
  obtain ⟨i0, hi, hz0, hz1, hz2⟩ := info_parts infoI
  clear h hg hKN hd
  go_enter Try.func145, Try.ntmps145
  go_wp2_with (first
    | (go_at_call 169; refine (HS.out _ ((Below.refl _ _).alloc (Nat.le_refl _) _)).mono ?_; rintro e w4 ⟨gS, cS, rfl, hgS, hoS, hb4⟩; refine Hid.out ?_)
    | fail)
  have hB1 : Below (w.heap.size + 1) (w.alloc (.cells #[.int .i64 N, .slice A ps.length cap] 26)) w4 := by simpa using hb4
  obtain ⟨b0, b1⟩ := box2 hB1
  have hzB := box_lt hB1
  have HB4 := Lib.hid (below_box hB1)
  have hgS4 : gS < w4.heap.size := (World.ownsRow.lt hoS gS rfl).2
  have HST := Lib.hid (fun (v : Nat) (h1 : 1 ≤ v) (h2 : v ≤ N) => show w4.cell? ⟨gS, v, none⟩ = some (iv (dist ps T v)) by
    have := hoS.cell (by rw [HLN.out]) (v := v) (by rw [HLN.out]; omega)
    rwa [HAT.out v h1 h2] at this)
  have hz4 := HB4.out.size
  clear hB1 hb4 hoS HS hgS
  refine Lib.hid ?_
  go_wp2
  have hO := own_empty w4 w4.heap.size (Nat.le_refl _)
  have hb0 : Below w4.heap.size w4 (w4.alloc (.cells #[] 3)) := (Below.refl _ _).alloc (Nat.le_refl _) _
  go_loopg [1, 8] K (fun k i v wr => ∃ (h : Nat) (pre : List Int), i = .int .i64 (h : Int) ∧ 1 ≤ h ∧ h ≤ N ∧ Hid (dist ps T h = (k : Int)) ∧ Hid (pre ++ wayL ps T k h = wayL ps T K X) ∧ pre.length + k = K ∧ Hid (IOwn wr w4.heap.size v pre) ∧ Hid (v ≠ .slice none 0 0) ∧ Below w4.heap.size w4 wr)
  case atStart => exact ⟨X, [], rfl, by omega, by omega, HDX, Lib.hid rfl, by simp, Lib.hid hO, Lib.hid (by simp), hb0⟩
  case round =>
    clear hO hb0
    obtain ⟨h, pre, rfl, hh1, hhN, hdh, hpre, hlen, hown, hvn, hb⟩ := hrel
    by_cases hT : h = T
    · subst hT
      have e0 : gk = 0 := by have := hdh.out; rw [dist_self] at this; omega
      have hfin : pre = wayL ps h K X := by have := hpre.out; rw [e0] at this; simpa [wayL] using this
      have HFIN := Lib.hid hfin
      obtain ⟨g, capg, rfl, hgB⟩ := own_slice hown.out hvn.out
      clear hfin e0
      go_wp2
      go_ret
      have hlow : IOwn wr w.heap.size (.slice (some ⟨g, 0, none⟩) pre.length capg) pre := own_lower hown.out
      rw [← HFIN.out]
      exact ⟨g, capg, rfl, by omega, hlow, HB4.out.trans (hb.mono hz4)⟩
    · obtain ⟨k, hk⟩ : ∃ k, gk = k + 1 := by
        match gk, hdh with
        | 0, hdh => exact absurd (show h = T by have := dist_zero (show dist ps T h = 0 from hdh.out); omega) hT
        | k + 1, _ => exact ⟨k, rfl⟩
      have HMG := Lib.hid hk
      rw [hk] at hdh hpre hlen
      clear hk
      have hE : ((h : Int) != (T : Int)) = true := by simp; omega
      have HNR := Lib.hid (near_all HG.out hdh.out)
      have hh0 : (0 : Int) ≤ (h : Int) := by omega
      have hhN' : (h : Int) < (N : Int) + 1 := by omega
      obtain ⟨d, hdd⟩ : ∃ d, dist ps T (h : Int) = d := ⟨_, rfl⟩
      have hdk : d = (k : Int) + 1 := by rw [← hdd, hdh.out]; omega
      have ch0 := HST.out h hh1 hhN
      rw [hdd] at ch0
      have hws : IntKind.i64.wrap (d - 1) = d - 1 := IntWalk.i64_in _ (by omega)
      have HNI0 := Lib.hid (fun (p : Pp) hp ht => near_iff (t := T) (p := p) hdh.out hp ht)
      have HWA0 := Lib.hid (fun (j u : Nat) h1 h2 h3 h4 => way_all (ps := ps) (t := T) (h := h) (k := k) (j := j) (u := u) h1 h2 h3 h4)
      clear hdd
      go_wp2
      obtain ⟨V, hV⟩ : ∃ V, V = u8 := ⟨_, rfl⟩
      subst hV
      go_loopw [1, 8, 9] (fun i2 v2 j2 wr => ∃ (j : Nat), j ≤ ps.length ∧ v2 = V ∧ i2 = .int .i64 (h : Int) ∧ j2 = .int .i64 (j : Int) ∧ Hid (∀ i, i < j → (touchB h (pAt ps i) && nearB ps T h (pAt ps i)) = false) ∧ Hid (IOwn wr w4.heap.size V pre) ∧ Below w4.heap.size w4 wr) (fun _ _ j _ => ps.length - (intOf j).toNat)
      case atStart => exact ⟨0, Nat.zero_le _, rfl, rfl, rfl, Lib.hid (fun i hi => absurd hi (by omega)), hown, hb⟩
      case round =>
        clear hown hb
        obtain ⟨j, hj, rfl, rfl, rfl, hnn, hown, hb⟩ := hrel
        have b0w := (hb.cell (p := ⟨w.heap.size, 0, none⟩) hzB).trans b0
        have b1w := (hb.cell (p := ⟨w.heap.size, 1, none⟩) hzB).trans b1
        have hzw := hb.size
        by_cases hlt : j < ps.length
        · obtain ⟨b, o, hA, hbl, h0, h1, h2, h3⟩ := HA.out.at_ hlt
          subst hA
          have hbc : ∀ o, wr.cell? ⟨b, o, none⟩ = w.cell? ⟨b, o, none⟩ := fun o => (HB4.out.trans (hb.mono hz4)).cell (p := ⟨b, o, none⟩) hbl
          have p0 := (hbc _).trans h0
          have p1 := (hbc _).trans h1
          have p2 := (hbc _).trans h2
          have p3 := (hbc _).trans h3
          have hk0i : (0 : Int) ≤ (j : Int) := by omega
          have hk1i : (j : Int) < (ps.length : Int) := by omega
          have hmem : pAt ps j ∈ ps := by
            have e : pAt ps j = ps[j] := by simp [pAt, List.getD, hlt]
            rw [e]; exact List.getElem_mem hlt
          have hok := good_pp HG.out hmem
          unfold PpOk at hok
          have HNI := Lib.hid (HNI0.out _ hmem)
          have HWA := Lib.hid (fun (u : Nat) h2 h3 h4 => HWA0.out j u hlt h2 h3 h4)
          have HNN := Lib.hid (fun (h1 : (touchB h (pAt ps j) && nearB ps T h (pAt ps j)) = false) (i : Nat) (hi : i < j + 1) => show (touchB h (pAt ps i) && nearB ps T h (pAt ps i)) = false by
            by_cases e : i = j
            · rw [e]; exact h1
            · exact hnn.out i (by omega))
          have ch := (hb.cell (p := ⟨gS, h, none⟩) hgS4).trans ch0
          have hgSw : gS < wr.heap.size := by omega
          have ho := hown.out
          unfold IOwn at ho
          clear hbc h0 h1 h2 h3 hmem
          generalize pAt ps j = p at *
          obtain ⟨pid, pfr, pto, psz⟩ := p
          simp only at hok p0 p1 p2 p3
          obtain ⟨fr, rfl⟩ : ∃ f : Nat, pfr = f := ⟨pfr.toNat, by omega⟩
          obtain ⟨tt, rfl⟩ : ∃ f : Nat, pto = f := ⟨pto.toNat, by omega⟩
          by_cases hf1 : (fr : Int) = (h : Int)
          · have hEf : ((fr : Int) == (h : Int)) = true := by simpa using hf1
            have hou : oth ⟨pid, fr, tt, psz⟩ h = (tt : Int) := by
              show (if (fr : Int) = (h : Int) then (tt : Int) else (fr : Int)) = (tt : Int)
              rw [if_pos hf1]
            have hu1 : 1 ≤ tt := by omega
            have huN : tt ≤ N := by omega
            have hu0 : (0 : Int) ≤ (tt : Int) := by omega
            have hup : decide (0 < tt) = true := decide_eq_true (by omega)
            have huN' : (tt : Int) < (N : Int) + 1 := by omega
            have hnear := HNI.out (.inl hf1)
            rw [hou] at hnear
            have HNEAR := Lib.hid hnear
            have HW := Lib.hid (fun h1 h2 => HWA.out tt h1 h2 hou)
            have cu := HST.out tt hu1 huN
            have cu2 := (hb.cell (p := ⟨gS, tt, none⟩) hgS4).trans cu
            obtain ⟨x, hx⟩ : ∃ x, dist ps T (tt : Int) = x := ⟨_, rfl⟩
            rw [hx] at cu2 HNEAR
            have htb : touchB h ⟨pid, fr, tt, psz⟩ = true := by unfold touchB; exact decide_eq_true (.inl hf1)
            clear hnear hou hok cu hf1
            by_cases hxk : x = (k : Int)
            · have hxe : (x == d - 1) = true := by simp; omega
              have hnt : (touchB h ⟨pid, fr, tt, psz⟩ && nearB ps T h ⟨pid, fr, tt, psz⟩) = true := by rw [htb, HNEAR.out.2 hxk]; rfl
              have hw := HW.out hnn.out hnt
              have hpre2 := Lib.hid (show (pre ++ [pid]) ++ wayL ps T k tt = wayL ps T K X by
                have e := hpre.out
                rw [hw] at e
                rw [← e]
                simp)
              clear hw
              go_wp2
              go_quiet (fail)
              have ho6 : ((wr.alloc (.cells #[.int .i64 pid, .int .i64 (fr : Int), .int .i64 (tt : Int), .int .i64 psz] 40)).drewN nq).ownsRow w4.heap.size 3 1 _ pre.length (pre.map iv) := ho.alloc (.cells #[.int .i64 pid, .int .i64 (fr : Int), .int .i64 (tt : Int), .int .i64 psz] 40)
              have hb6 := below_drewN (hb.alloc hzw (.cells #[.int .i64 pid, .int .i64 (fr : Int), .int .i64 (tt : Int), .int .i64 psz] 40)) nq
              have hz6 : w4.heap.size ≤ ((wr.alloc (.cells #[.int .i64 pid, .int .i64 (fr : Int), .int .i64 (tt : Int), .int .i64 psz] 40)).drewN nq).heap.size := hb6.size
              go_wp2_with (at_builtin; go_must (refine wpList_append_own _ rfl _ _ 27 rfl w4.heap.size 3 i0 (.int .i64 0) 1 8 Try.underlying27 hi hz0 hz1 hz2 rfl (by decide) _ _ _ rfl (ho6.alloc _) ⟨wr.heap.size + 1, 0, none⟩ 1 1 [iv pid] rfl rfl (cell_new2 wr (.cells #[.int .i64 pid, .int .i64 (fr : Int), .int .i64 (tt : Int), .int .i64 psz] 40) (iv pid) 3) (by intro u hu; simp at hu; subst hu; rfl) (by unfold maxLen; omega) (by omega) (by simp at hz6 ⊢; omega) ?_))
              intro v' w7 hown' hgrow hnil
              have hown3 := Lib.hid (IOwn.push hown')
              have hB7 := Lib.hid ((hb6.alloc hz6 (.cells #[iv pid] 3)).grown hgrow (by simp at hz6 ⊢; omega) (fun g hg => (ho6.lt g hg).1))
              have hnil3 := Lib.hid (show v' ≠ .slice none 0 0 from fun e => by simp [e] at hnil)
              clear hown' hgrow hnil ho6
              go_wp2
              go_roundg k
              case measure => have := HMG.out; omega
              case rel => exact ⟨tt, pre ++ [pid], rfl, hu1, huN, Lib.hid (by rw [hx]; exact hxk), hpre2, by simp; omega, hown3, hnil3, hB7.out⟩
            · have hxe : (x == d - 1) = false := by simp; omega
              have hnf := Lib.hid (HNN.out (by
                rw [htb, Bool.true_and, ← Bool.not_eq_true]
                exact fun e => hxk (HNEAR.out.1 e)))
              go_wp2
              go_quiet (fail)
              go_wp2
              go_roundw
              case rel => exact ⟨j + 1, by omega, rfl, rfl, by go_num, hnf, Lib.hid (show IOwn ((wr.alloc (.cells #[.int .i64 pid, .int .i64 (fr : Int), .int .i64 (tt : Int), .int .i64 psz] 40)).drewN nq) _ _ _ from ho.alloc (.cells #[.int .i64 pid, .int .i64 (fr : Int), .int .i64 (tt : Int), .int .i64 psz] 40)), below_drewN (hb.alloc hzw (.cells #[.int .i64 pid, .int .i64 (fr : Int), .int .i64 (tt : Int), .int .i64 psz] 40)) nq⟩
              case measure => simp [intOf]; omega
          · have hEf : ((fr : Int) == (h : Int)) = false := by simpa using hf1
            by_cases hf2 : (tt : Int) = (h : Int)
            · have hEt : ((tt : Int) == (h : Int)) = true := by simpa using hf2
              have hou : oth ⟨pid, fr, tt, psz⟩ h = (fr : Int) := by
                show (if (fr : Int) = (h : Int) then (tt : Int) else (fr : Int)) = (fr : Int)
                rw [if_neg hf1]
              have hu1 : 1 ≤ fr := by omega
              have huN : fr ≤ N := by omega
              have hu0 : (0 : Int) ≤ (fr : Int) := by omega
              have hup : decide (0 < fr) = true := decide_eq_true (by omega)
              have huN' : (fr : Int) < (N : Int) + 1 := by omega
              have hnear := HNI.out (.inr hf2)
              rw [hou] at hnear
              have HNEAR := Lib.hid hnear
              have HW := Lib.hid (fun h1 h2 => HWA.out fr h1 h2 hou)
              have cu := HST.out fr hu1 huN
              have cu2 := (hb.cell (p := ⟨gS, fr, none⟩) hgS4).trans cu
              obtain ⟨x, hx⟩ : ∃ x, dist ps T (fr : Int) = x := ⟨_, rfl⟩
              rw [hx] at cu2 HNEAR
              have htb : touchB h ⟨pid, fr, tt, psz⟩ = true := by unfold touchB; exact decide_eq_true (.inr hf2)
              clear hnear hou hok cu hf2
              by_cases hxk : x = (k : Int)
              · have hxe : (x == d - 1) = true := by simp; omega
                have hnt : (touchB h ⟨pid, fr, tt, psz⟩ && nearB ps T h ⟨pid, fr, tt, psz⟩) = true := by rw [htb, HNEAR.out.2 hxk]; rfl
                have hw := HW.out hnn.out hnt
                have hpre2 := Lib.hid (show (pre ++ [pid]) ++ wayL ps T k fr = wayL ps T K X by
                  have e := hpre.out
                  rw [hw] at e
                  rw [← e]
                  simp)
                clear hw
                go_wp2
                go_quiet (fail)
                have ho6 : ((wr.alloc (.cells #[.int .i64 pid, .int .i64 (fr : Int), .int .i64 (tt : Int), .int .i64 psz] 40)).drewN nq).ownsRow w4.heap.size 3 1 _ pre.length (pre.map iv) := ho.alloc (.cells #[.int .i64 pid, .int .i64 (fr : Int), .int .i64 (tt : Int), .int .i64 psz] 40)
                have hb6 := below_drewN (hb.alloc hzw (.cells #[.int .i64 pid, .int .i64 (fr : Int), .int .i64 (tt : Int), .int .i64 psz] 40)) nq
                have hz6 : w4.heap.size ≤ ((wr.alloc (.cells #[.int .i64 pid, .int .i64 (fr : Int), .int .i64 (tt : Int), .int .i64 psz] 40)).drewN nq).heap.size := hb6.size
                go_wp2_with (at_builtin; go_must (refine wpList_append_own _ rfl _ _ 27 rfl w4.heap.size 3 i0 (.int .i64 0) 1 8 Try.underlying27 hi hz0 hz1 hz2 rfl (by decide) _ _ _ rfl (ho6.alloc _) ⟨wr.heap.size + 1, 0, none⟩ 1 1 [iv pid] rfl rfl (cell_new2 wr (.cells #[.int .i64 pid, .int .i64 (fr : Int), .int .i64 (tt : Int), .int .i64 psz] 40) (iv pid) 3) (by intro u hu; simp at hu; subst hu; rfl) (by unfold maxLen; omega) (by omega) (by simp at hz6 ⊢; omega) ?_))
                intro v' w7 hown' hgrow hnil
                have hown3 := Lib.hid (IOwn.push hown')
                have hB7 := Lib.hid ((hb6.alloc hz6 (.cells #[iv pid] 3)).grown hgrow (by simp at hz6 ⊢; omega) (fun g hg => (ho6.lt g hg).1))
                have hnil3 := Lib.hid (show v' ≠ .slice none 0 0 from fun e => by simp [e] at hnil)
                clear hown' hgrow hnil ho6
                go_wp2
                go_roundg k
                case measure => have := HMG.out; omega
                case rel => exact ⟨fr, pre ++ [pid], rfl, hu1, huN, Lib.hid (by rw [hx]; exact hxk), hpre2, by simp; omega, hown3, hnil3, hB7.out⟩
              · have hxe : (x == d - 1) = false := by simp; omega
                have hnf := Lib.hid (HNN.out (by
                  rw [htb, Bool.true_and, ← Bool.not_eq_true]
                  exact fun e => hxk (HNEAR.out.1 e)))
                go_wp2
                go_quiet (fail)
                go_wp2
                go_roundw
                case rel => exact ⟨j + 1, by omega, rfl, rfl, by go_num, hnf, Lib.hid (show IOwn ((wr.alloc (.cells #[.int .i64 pid, .int .i64 (fr : Int), .int .i64 (tt : Int), .int .i64 psz] 40)).drewN nq) _ _ _ from ho.alloc (.cells #[.int .i64 pid, .int .i64 (fr : Int), .int .i64 (tt : Int), .int .i64 psz] 40)), below_drewN (hb.alloc hzw (.cells #[.int .i64 pid, .int .i64 (fr : Int), .int .i64 (tt : Int), .int .i64 psz] 40)) nq⟩
                case measure => simp [intOf]; omega
            · have hEt : ((tt : Int) == (h : Int)) = false := by simpa using hf2
              have hnf := Lib.hid (HNN.out (by
                have : touchB h ⟨pid, fr, tt, psz⟩ = false := by unfold touchB; exact decide_eq_false (by rintro (e | e); exact hf1 e; exact hf2 e)
                rw [this]; rfl))
              go_wp2
              go_quiet (fail)
              go_wp2
              go_roundw
              case rel => exact ⟨j + 1, by omega, rfl, rfl, by go_num, hnf, Lib.hid (show IOwn ((wr.alloc (.cells #[.int .i64 pid, .int .i64 (fr : Int), .int .i64 (tt : Int), .int .i64 psz] 40)).drewN nq) _ _ _ from ho.alloc (.cells #[.int .i64 pid, .int .i64 (fr : Int), .int .i64 (tt : Int), .int .i64 psz] 40)), below_drewN (hb.alloc hzw (.cells #[.int .i64 pid, .int .i64 (fr : Int), .int .i64 (tt : Int), .int .i64 psz] 40)) nq⟩
              case measure => simp [intOf]; omega
        · exact absurd (fun i hi => hnn.out i (by omega)) HNR.out
end Go.Proofs.Ytlkomipjamelkab.S2

namespace Go.Proofs.Ytlkomipjamelkab.S2
open Go.RowKit P2

theorem has_v {l : List Int} {x : Int} {v : Bool} (hv : hasB l x = v) (A : Option Addr) (cap : Nat) (w : World) (h : IAt w A l) (hn : l.length ≤ 1048576) :
    Calls Try.prog 128 #[.slice A l.length cap, .int .i64 x] w fun e w' => e = .returned (.bool v) ∧ w' = w := by
  rw [← hv]; exact has_any A cap l x w h hn

theorem gives_noneA {w w0 : World} (h : Below w0.heap.size w0 w) : GivesA w0 [] false (.returned (.tuple #[.slice (some ⟨w.heap.size, 0, none⟩) 0 0, .bool false])) (w.alloc (.cells #[] 3)) :=
  ⟨_, 0, 0, rfl, h.size, .inl rfl, h.alloc h.size _, by simp⟩




end Go.Proofs.Ytlkomipjamelkab.S2

namespace Go.Proofs.Ytlkomipjamelkab.S2
open Go.RowKit P2
set_option maxHeartbeats 4000000 in
set_option maxRecDepth 100000 in
theorem sal_any (N : Nat) (A : Option Addr) (cap : Nat) (ps : List Pp) (AD : Option Addr) (dc : Nat) (fl : List Int) (x y : Int) (W : List Int) (w : World) (h : PAt w A ps) (hd : IAt w AD fl) (hv : floB N ps fl = true) (hwo : WayOk ps W x) (hW : ∀ w', Below w.heap.size w w' → Calls Try.prog 145 #[nv N A ps.length cap, .int .i64 x, .int .i64 y] w' (GivesL w' W)) :
    Calls Try.prog 138 #[nv N A ps.length cap, .slice AD fl.length dc, .int .i64 x, .int .i64 y] w fun e w' => e = .returned (.int .i64 (alongA ps fl W x)) ∧ Below w.heap.size w w' := by
  obtain ⟨hg, hfl, hr⟩ := floB_of hv
  have hl10 := hg.2.2.1
  have hW8 := hwo.1
  have H := Lib.hid hW
  have HFN := Lib.hid (fun v (i : Nat) (hf : FindIs ps v (i : Int)) w' (hb : Below w.heap.size w w') => (find_any N A cap ps v w' (h.kept hb (Nat.le_refl _)) (by omega)).mono (R' := fun e w'' => e = .returned (.int .i64 (i : Int)) ∧ Below w'.heap.size w' w'') fun e w'' ⟨⟨r, he, hr⟩, hb⟩ => ⟨by rw [he, find_one hr hf], hb⟩)
  have HA := Lib.hid (fun w' (hb : Below w.heap.size w w') => h.kept hb (Nat.le_refl _))
  have HI := Lib.hid (fun w' (hb : Below w.heap.size w w') => hd.kept hb (Nat.le_refl _))
  have HE := Lib.hid (fun k (hk : k < fl.length) => allR_at hr hk)
  have HS := Lib.hid (fun k (hk : k ≤ W.length) => along_in hg hr hfl hwo hk)
  have HG := Lib.hid (fun k (hk : k < ps.length) => good_pp hg (pAt_mem hk))
  have HWO := Lib.hid (fun k (hk : k < W.length) => hwo.2 k hk)
  have HL := Lib.hid hfl
  clear h hd hv hr hg hfl hW hwo
  go_enter Try.func138, Try.ntmps138
  go_wp2_with (first
    | (go_at_call 145; refine (H.out _ ((Below.refl _ _).alloc (Nat.le_refl _) _)).mono ?_; rintro e w2 ⟨gW, cW, rfl, hgW, hOW, hb1⟩; have HX2 := Lib.hid (show Below (w.heap.size + 1) (w.alloc (nb N A ps.length cap)) w2 by simpa using hb1); have hy2 := box_lt HX2.out; have HW2 := Lib.hid hOW.iat; clear hb1 hOW))
  have HWK := Lib.hid (fun w' (hb : Below w2.heap.size w2 w') => HW2.out.kept hb (Nat.le_refl _))
  have HB0 := Lib.hid (Below.refl w2.heap.size w2)
  clear H HW2
  go_loopw [2, 10, 11] (fun h a i wr => ∃ (k : Nat), k ≤ W.length ∧ i = .int .i64 (k : Int) ∧ a = .int .i64 (sumK (turnA ps fl W x) k) ∧ h = .int .i64 (hereA ps W x k) ∧ Hid (Below w2.heap.size w2 wr)) (fun _ _ i _ => W.length - (intOf i).toNat)
  case atStart => exact ⟨0, Nat.zero_le _, rfl, rfl, rfl, HB0⟩
  case round =>
    clear HB0
    obtain ⟨k, hk, rfl, rfl, rfl, hB2⟩ := hrel
    have hb := on_call HX2.out hB2.out
    have hB := Lib.hid (below_box hb)
    by_cases hlt : k < W.length
    · obtain ⟨c0, c1⟩ := box2 hb
      have hz2 := box_lt hb
      obtain ⟨bW, oW, hAW, hblW, w0⟩ := (HWK.out _ hB2.out).at_ hlt
      simp only [Option.some.injEq, Addr.mk.injEq, and_true] at hAW
      obtain ⟨rfl, rfl⟩ := hAW
      rw [Nat.zero_add] at w0
      have hk0 : (0 : Int) ≤ (k : Int) := by omega
      have hkn : (k : Int) < (W.length : Int) := by omega
      obtain ⟨hjl, hjf, hjt⟩ := HWO.out k hlt
      have hs := HS.out k hk
      have hs2 := HS.out (k + 1) hlt
      have hsn : sumK (turnA ps fl W x) (k + 1) = sumK (turnA ps fl W x) k + turnA ps fl W x k := rfl
      have hhn : hereA ps W x (k + 1) = (if (pAt ps (plc ps (lA W k))).fr = hereA ps W x k then (pAt ps (plc ps (lA W k))).to else (pAt ps (plc ps (lA W k))).fr) := rfl
      have htn : turnA ps fl W x k = if (pAt ps (plc ps (lA W k))).fr = hereA ps W x k then lossI (pAt ps (plc ps (lA W k))) (lA fl (plc ps (lA W k))) else -lossI (pAt ps (plc ps (lA W k))) (lA fl (plc ps (lA W k))) := rfl
      have hla : lA W k = W.getD k 0 := rfl
      rw [htn] at hsn
      rw [hla] at hjl hjf hjt hsn hhn
      have hFN := Lib.hid (fun w' hb' => HFN.out (W.getD k 0) (plc ps (W.getD k 0)) hjf w' (hB.out.trans (Below.mono hb' hB.out.size)))
      have hjfl : plc ps (W.getD k 0) < fl.length := by rw [HL.out]; exact hjl
      have hgp := HG.out _ hjl
      have hy := HE.out _ hjfl
      have HLO := Lib.hid (fun w' => sloss_any hgp hy.1 hy.2 w')
      have hli := (loss_in hgp hy.1 hy.2).2
      have hla2 : lA fl (plc ps (W.getD k 0)) = fl.getD (plc ps (W.getD k 0)) 0 := rfl
      rw [hla2] at hsn
      have HAP := Lib.hid (fun w' hb => (HA.out w' hb).at_ hjl)
      have HIP := Lib.hid (fun w' hb => (HI.out w' hb).at_ hjfl)
      obtain ⟨s2, hs2e⟩ : ∃ z, sumK (turnA ps fl W x) (k + 1) = z := ⟨_, rfl⟩
      obtain ⟨h2, hh2e⟩ : ∃ z, hereA ps W x (k + 1) = z := ⟨_, rfl⟩
      rw [hs2e] at hs2 hsn
      rw [hh2e] at hhn
      have HS2E := Lib.hid hs2e
      have HH2E := Lib.hid hh2e
      clear hs2e hh2e
      have HTO := Lib.hid (show ((pAt ps (plc ps (W.getD k 0))).fr = hereA ps W x k → s2 = sumK (turnA ps fl W x) k + lossI (pAt ps (plc ps (W.getD k 0))) (fl.getD (plc ps (W.getD k 0)) 0) ∧ h2 = (pAt ps (plc ps (W.getD k 0))).to) ∧ (¬ (pAt ps (plc ps (W.getD k 0))).fr = hereA ps W x k → s2 = sumK (turnA ps fl W x) k - lossI (pAt ps (plc ps (W.getD k 0))) (fl.getD (plc ps (W.getD k 0)) 0) ∧ h2 = (pAt ps (plc ps (W.getD k 0))).fr) from ⟨fun e => ⟨by rw [hsn, if_pos e], by rw [hhn, if_pos e]⟩, fun e => ⟨by rw [hsn, if_neg e]; omega, by rw [hhn, if_neg e]⟩⟩)
      clear hhn hsn htn hjf hjt hgp hy hla hla2
      generalize lossI (pAt ps (plc ps (W.getD k 0))) (fl.getD (plc ps (W.getD k 0)) 0) = L at *
      generalize fl.getD (plc ps (W.getD k 0)) 0 = f at *
      generalize pAt ps (plc ps (W.getD k 0)) = p at *
      generalize plc ps (W.getD k 0) = j at *
      generalize sumK (turnA ps fl W x) k = s at *
      generalize hereA ps W x k = hh at *
      generalize W.getD k 0 = v at *
      have hjn : (j : Int) < (ps.length : Int) := by omega
      have hj0 : (0 : Int) ≤ (j : Int) := by omega
      have hjnf : (j : Int) < (fl.length : Int) := by omega
      go_wp2
      have hG := @cell_g
      refine region_below (by kernel_rfl) (by kernel_rfl) ?_
      repeat (first | go_big_quiet_step ((go_at_call 146; exact met_at hFN.out)))
      refine wpQuiet_nil ?_
      intro w5 hb5
      have hX5 := on_call hb hb5
      have hB5 := Lib.hid (below_box hX5)
      have hB25 := Lib.hid (hB2.out.trans (hb5.mono hB2.out.size))
      clear c0 c1 hz2 w0 hblW hG
      obtain ⟨c0, c1⟩ := box2 hX5
      have hz5 := box_lt hX5
      obtain ⟨b, off, hA, hbl, p0, p1, p2, p3⟩ := HAP.out _ hB5.out
      subst hA
      obtain ⟨bb, of2, hA2, hbl2, q0⟩ := HIP.out _ hB5.out
      subst hA2
      have hab := alloc_belowE w5 (.cells #[.int .i64 p.id, .int .i64 p.fr, .int .i64 p.to, .int .i64 p.sz] 40)
      have hB25n := Lib.hid (hB25.out.trans (hab.mono hB25.out.size))
      have q1 := (hab.cell (p := ⟨bb, of2 + j, none⟩) hbl2).trans q0
      have d0 := cells4 w5 (.int .i64 p.id) (.int .i64 p.fr) (.int .i64 p.to) (.int .i64 p.sz) 40 0 _ rfl
      have d1 := cells4 w5 (.int .i64 p.id) (.int .i64 p.fr) (.int .i64 p.to) (.int .i64 p.sz) 40 1 _ rfl
      have d2 := cells4 w5 (.int .i64 p.id) (.int .i64 p.fr) (.int .i64 p.to) (.int .i64 p.sz) 40 2 _ rfl
      have d3 := cells4 w5 (.int .i64 p.id) (.int .i64 p.fr) (.int .i64 p.to) (.int .i64 p.sz) 40 3 _ rfl
      have hzz : w5.heap.size < (w5.alloc (.cells #[.int .i64 p.id, .int .i64 p.fr, .int .i64 p.to, .int .i64 p.sz] 40)).heap.size := by simp
      have hbl2' : bb < (w5.alloc (.cells #[.int .i64 p.id, .int .i64 p.fr, .int .i64 p.to, .int .i64 p.sz] 40)).heap.size := by omega
      by_cases hto : p.fr = hh
      · have g0 : (p.fr == hh) = true := beq_iff_eq.2 hto
        obtain ⟨he, he2⟩ := HTO.out.1 hto
        have HE2 := Lib.hid he
        have HE3 := Lib.hid he2
        rw [he] at hs2
        have wS : IntKind.i64.wrap (s + L) = s + L := w64 _ (by omega)
        clear hto he he2
        go_wp2
        generalize w5.alloc (.cells #[.int .i64 p.id, .int .i64 p.fr, .int .i64 p.to, .int .i64 p.sz] 40) = wa at *
        clear p0 p1 p2 p3 q0 c0 c1 hab
        have hG := @cell_g
        refine region_below (by kernel_rfl) (by kernel_rfl) ?_
        repeat (first | go_big_quiet_step ((go_at_call 121; exact met HLO.out)))
        refine wpQuiet_nil ?_
        intro w6 hb6
        have r2 := (hb6.cell (p := ⟨w5.heap.size, 2, none⟩) hzz).trans d2
        have hB6 := Lib.hid (hB25n.out.trans (hb6.mono hB25n.out.size))
        have hz6 : w5.heap.size < w6.heap.size := by have := hb6.size; omega
        clear hb6 d0 d1 d2 d3 q1 hG hbl2' hzz hb5
        go_wp2
        go_roundw
        case rel => exact ⟨k + 1, by omega, by go_num, by rw [HS2E.out, HE2.out], by rw [HH2E.out, HE3.out], hB6⟩
        case measure => simp [intOf]; omega
      · have g0 : (p.fr == hh) = false := beq_eq_false_iff_ne.2 hto
        obtain ⟨he, he2⟩ := HTO.out.2 hto
        have HE2 := Lib.hid he
        have HE3 := Lib.hid he2
        rw [he] at hs2
        have wS : IntKind.i64.wrap (s - L) = s - L := w64 _ (by omega)
        clear hto he he2
        go_wp2
        generalize w5.alloc (.cells #[.int .i64 p.id, .int .i64 p.fr, .int .i64 p.to, .int .i64 p.sz] 40) = wa at *
        clear p0 p1 p2 p3 q0 c0 c1 hab
        have hG := @cell_g
        refine region_below (by kernel_rfl) (by kernel_rfl) ?_
        repeat (first | go_big_quiet_step ((go_at_call 121; exact met HLO.out)))
        refine wpQuiet_nil ?_
        intro w6 hb6
        have r2 := (hb6.cell (p := ⟨w5.heap.size, 1, none⟩) hzz).trans d1
        have hB6 := Lib.hid (hB25n.out.trans (hb6.mono hB25n.out.size))
        have hz6 : w5.heap.size < w6.heap.size := by have := hb6.size; omega
        clear hb6 d0 d1 d2 d3 q1 hG hbl2' hzz hb5
        go_wp2
        go_roundw
        case rel => exact ⟨k + 1, by omega, by go_num, by rw [HS2E.out, HE2.out], by rw [HH2E.out, HE3.out], hB6⟩
        case measure => simp [intOf]; omega
    · have hkk : k = W.length := by omega
      have HF := Lib.hid (show sumK (turnA ps fl W x) k = alongA ps fl W x by rw [hkk]; rfl)
      clear hkk
      go_wp2
      go_ret
      exact ⟨by rw [← HF.out]; rfl, hB.out⟩


end Go.Proofs.Ytlkomipjamelkab.S2

namespace Go.Proofs.Ytlkomipjamelkab.S2
open Go.RowKit P2

/-- What is asked of a network, a source, demands and a head. -/
noncomputable def askH (n : Int) (ps : List Pp) (x : Int) (dm : List Int) (h : Int) : Bool := nodeB n ps x && (amtB dm n 0 1000 && (treeB n.toNat ps && hdR h))
theorem askH_of {n : Int} {ps : List Pp} {x : Int} {dm : List Int} {h : Int} (hv : askH n ps x dm h = true) : ∃ N X : Nat, n = N ∧ x = X ∧ nodeB n ps x = true ∧ demB n ps dm = true ∧ treeB N ps = true ∧ hdR h = true := by
  unfold askH at hv
  simp only [Bool.and_eq_true] at hv
  obtain ⟨h1, h2, h3, h4⟩ := hv
  obtain ⟨hg, hx1, hx2⟩ := nodeB_of h1
  obtain ⟨N, rfl⟩ := good_nat hg
  refine ⟨N, x.toNat, rfl, by omega, h1, by unfold demB; rw [good_mk hg, h2]; rfl, ?_, h4⟩
  rwa [Int.toNat_natCast] at h3
set_option maxHeartbeats 2000000 in
theorem ask_any (n : Int) (A : Option Addr) (cap : Nat) (ps : List Pp) (x : Int) (AD : Option Addr) (dc : Nat) (dm : List Int) (h : Int) (w : World) (hp : PAt w A ps) (hm : ps.length ≤ maxLen) (hd : IAt w AD dm) (hdl : dm.length ≤ 1048576) :
    Calls Try.prog 76 #[nv n A ps.length cap, .int .i64 x, .slice AD dm.length dc, .int .i64 h] w fun e w' => e = .returned (.bool (askH n ps x dm h)) ∧ Below w.heap.size w w' := by
  obtain ⟨v1, hv1⟩ : ∃ v, nodeB n ps x = v := ⟨_, rfl⟩
  obtain ⟨v3, hv3⟩ : ∃ v, amtB dm n 0 1000 = v := ⟨_, rfl⟩
  obtain ⟨v5, hv5⟩ : ∃ v, hdR h = v := ⟨_, rfl⟩
  have H1 := Lib.hid (fun w' (hb : Below w.heap.size w w') => snode_v hv1 A cap w' (hp.kept hb (Nat.le_refl _)) hm)
  have H3 := Lib.hid (fun w' (hb : Below w.heap.size w w') => sdem_v hv3 A ps.length cap AD dc w' (hd.kept hb (Nat.le_refl _)) hdl)
  have H5 := Lib.hid (fun w' => shd_v hv5 w')
  unfold askH
  rw [hv1, hv3, hv5]
  cases v1 with
  | false =>
    clear hp hd hv1 hv3 hv5
    go_enter Try.func76, Try.ntmps76
    go_wp2_with (go_at_call 61; refine (H1.out _ ((Below.refl _ _).alloc (Nat.le_refl _) _)).mono ?_; rintro e w1 ⟨rfl, hb1⟩)
    go_ret
    exact ⟨rfl, below_alloc_call hb1⟩
  | true =>
    obtain ⟨hg, hx1, hx2⟩ := nodeB_of hv1
    obtain ⟨N, rfl⟩ := good_nat hg
    rw [Int.toNat_natCast]
    cases v3 with
    | false =>
      clear hp hd hv1 hv3 hv5 hg
      go_enter Try.func76, Try.ntmps76
      go_wp2_with (first
        | (go_at_call 61; refine (H1.out _ ((Below.refl _ _).alloc (Nat.le_refl _) _)).mono ?_; rintro e w1 ⟨rfl, hb1⟩; have HX1 := Lib.hid (show Below (w.heap.size + 1) (w.alloc (nb N A ps.length cap)) w1 by simpa using hb1); obtain ⟨b0, b1⟩ := box2 HX1.out; have hy1 := box_lt HX1.out; clear hb1)
        | (go_at_call 62; refine (H3.out _ (below_box HX1.out)).mono ?_; rintro e w3 ⟨rfl, hb3⟩; have HX3 := Lib.hid (on_call HX1.out hb3)))
      go_ret
      exact ⟨rfl, below_box HX3.out⟩
    | true =>
      obtain ⟨v4, hv4⟩ : ∃ v, treeB N ps = v := ⟨_, rfl⟩
      have H4 := Lib.hid (fun w' (hb : Below w.heap.size w w') => stree_v hv4 A cap w' (hp.kept hb (Nat.le_refl _)) hg)
      rw [hv4]
      cases v4 with
      | false =>
        clear hp hd hv1 hv3 hv5 hg hv4
        go_enter Try.func76, Try.ntmps76
        go_wp2_with (first
          | (go_at_call 61; refine (H1.out _ ((Below.refl _ _).alloc (Nat.le_refl _) _)).mono ?_; rintro e w1 ⟨rfl, hb1⟩; have HX1 := Lib.hid (show Below (w.heap.size + 1) (w.alloc (nb N A ps.length cap)) w1 by simpa using hb1); obtain ⟨b0, b1⟩ := box2 HX1.out; have hy1 := box_lt HX1.out; clear hb1)
          | (go_at_call 62; refine (H3.out _ (below_box HX1.out)).mono ?_; rintro e w3 ⟨rfl, hb3⟩; have HX3 := Lib.hid (on_call HX1.out hb3); clear b0 b1; obtain ⟨b0, b1⟩ := box2 HX3.out; have hy3 := box_lt HX3.out; clear hb3)
          | (go_at_call 63; refine (H4.out _ (below_box HX3.out)).mono ?_; rintro e w4 ⟨rfl, hb4⟩; have HX4 := Lib.hid (on_call HX3.out hb4)))
        go_ret
        exact ⟨rfl, below_box HX4.out⟩
      | true =>
        clear hp hd hv1 hv3 hv5 hg hv4
        go_enter Try.func76, Try.ntmps76
        go_wp2_with (first
          | (go_at_call 61; refine (H1.out _ ((Below.refl _ _).alloc (Nat.le_refl _) _)).mono ?_; rintro e w1 ⟨rfl, hb1⟩; have HX1 := Lib.hid (show Below (w.heap.size + 1) (w.alloc (nb N A ps.length cap)) w1 by simpa using hb1); obtain ⟨b0, b1⟩ := box2 HX1.out; have hy1 := box_lt HX1.out; clear hb1)
          | (go_at_call 62; refine (H3.out _ (below_box HX1.out)).mono ?_; rintro e w3 ⟨rfl, hb3⟩; have HX3 := Lib.hid (on_call HX1.out hb3); clear b0 b1; obtain ⟨b0, b1⟩ := box2 HX3.out; have hy3 := box_lt HX3.out; clear hb3)
          | (go_at_call 63; refine (H4.out _ (below_box HX3.out)).mono ?_; rintro e w4 ⟨rfl, hb4⟩; have HX4 := Lib.hid (on_call HX3.out hb4))
          | (go_at_call 86; refine (H5.out _).mono ?_; rintro e w5 ⟨rfl, hw⟩; replace hw := hw.symm; subst hw))
        go_ret
        exact ⟨by simp, below_box HX4.out⟩
theorem ask_v {n : Int} {ps : List Pp} {x : Int} {dm : List Int} {h : Int} {v : Bool} (hv : askH n ps x dm h = v) (A : Option Addr) (cap : Nat) (AD : Option Addr) (dc : Nat) (w : World) (hp : PAt w A ps) (hm : ps.length ≤ maxLen) (hd : IAt w AD dm) (hdl : dm.length ≤ 1048576) :
    Calls Try.prog 76 #[nv n A ps.length cap, .int .i64 x, .slice AD dm.length dc, .int .i64 h] w fun e w' => e = .returned (.bool v) ∧ Below w.heap.size w w' := by
  rw [← hv]; exact ask_any n A cap ps x AD dc dm h w hp hm hd hdl

set_option maxHeartbeats 3000000 in
set_option maxRecDepth 100000 in
theorem shds_any (N s : Nat) (A : Option Addr) (cap : Nat) (ps : List Pp) (AD : Option Addr) (dc : Nat) (dm : List Int) (h : Int) (w : World) (hp : PAt w A ps) (hc : ps.length ≤ cap) (hd : IAt w AD dm) (hn : nodeB N ps s = true) (ht : treeB N ps = true) (hv : demB N ps dm = true) (hh : hdR h = true) :
    Calls Try.prog 77 #[nv N A ps.length cap, .int .i64 (s : Int), .slice AD dm.length dc, .int .i64 h] w (GivesL w (hdL N ps s dm h)) := by
  obtain ⟨hg, hdn, hr⟩ := demB_of hv
  obtain ⟨_, hs1, hs2⟩ := nodeB_of hn
  have hN8 := hg.2.1
  have hl10 := hg.2.2.1
  obtain ⟨hh1, hh2⟩ := hdR_of hh
  have H := Lib.hid (fun w' (hb : Below w.heap.size w w') => stf_any N s A cap ps AD dc dm w' (hp.kept hb (Nat.le_refl _)) hc (hd.kept hb (Nat.le_refl _)) hg (by omega) (by omega) hr hdn)
  have hflo := tfl_flo (s := s) hg hr hdn
  have HAL := Lib.hid (fun (AF : Option Addr) (cF : Nat) (k : Nat) (hk : k < N) w' (hb : Below w.heap.size w w') (hf : IAt w' AF (tfL N ps s dm)) => sal_any N A cap ps AF cF (tfL N ps s dm) s ((k : Int) + 1) (wyA ps s ((k : Int) + 1)) w' (hp.kept hb (Nat.le_refl _)) hf hflo (wy_ok hg ht (by omega) (by omega) (by omega) (by omega)) (fun w'' hb2 => by
    have hy := l2way_any N s (k + 1) A cap ps w'' (hp.kept (hb.trans (hb2.mono hb.size)) (Nat.le_refl _)) hg (by omega) (by omega) (by omega) (by omega) _ (tree_dist hg ht (by omega) (by omega) (v := ((k + 1 : Nat) : Int)) (by omega) (by omega))
    exact hy))
  have HFI := Lib.hid (fun k (hk : k < N) => fall_in hg ht hr hdn (s := s) (by omega) (by omega) (v := (k : Int) + 1) (by omega) (by omega))
  have HFL := Lib.hid (tfL_len N ps s dm)
  have HL := Lib.hid (show hdL N ps s dm h = hdTo N ps s dm h N from rfl)
  have HTS := Lib.hid (fun k => (show hdTo N ps s dm h (k + 1) = hdTo N ps s dm h k ++ [h - fallA N ps s dm ((k : Int) + 1)] from hdTo_snoc N ps s dm h k))
  have HTL := Lib.hid (hdTo_len N ps s dm h)
  obtain ⟨i0, hi, hz0, hz1, hz2⟩ := info_parts infoI
  rw [HFL.out] at HAL
  clear hp hd hn ht hv hh hg hdn hr hflo hc
  go_enter Try.func77, Try.ntmps77
  go_wp2_with (go_at_call 64; refine (H.out _ ((Below.refl _ _).alloc (Nat.le_refl _) _)).mono ?_; rintro e w2 ⟨gF, cF, rfl, hgF, hOF, hb1⟩; refine Hid.out ?_)
  have HX2 := Lib.hid (show Below (w.heap.size + 1) (w.alloc (nb N A ps.length cap)) w2 by simpa using hb1)
  have HB2 := Lib.hid (below_box HX2.out)
  have HF2 := Lib.hid hOF.iat
  obtain ⟨b0, b1⟩ := box2 HX2.out
  have hy2 := box_lt HX2.out
  have HFK := Lib.hid (fun w' (hb : Below w2.heap.size w2 w') => HF2.out.kept hb (Nat.le_refl _))
  have HO0 := Lib.hid (own_empty w2 w2.heap.size (Nat.le_refl _))
  have HB0 := Lib.hid (show Below w2.heap.size w2 (w2.alloc (.cells #[] 3)) from (Below.refl _ _).alloc (Nat.le_refl _) _)
  clear hb1 H HF2 hOF
  rw [HFL.out]
  refine Lib.hid ?_
  go_wp2
  go_loopw [10, 11] (fun v i wr => ∃ k : Nat, k ≤ N ∧ i = .int .i64 ((k : Int) + 1) ∧ Hid (IOwn wr w2.heap.size v (hdTo N ps s dm h k)) ∧ Hid (v ≠ .slice none 0 0) ∧ Hid (Below w2.heap.size w2 wr)) (fun _ i _ => N + 1 - (intOf i).toNat)
  case atStart => exact ⟨0, Nat.zero_le _, rfl, HO0, Lib.hid (by simp), HB0⟩
  case round =>
    clear HO0 HB0
    obtain ⟨k, hk, rfl, hown, hvn, hB⟩ := hrel
    have c0 := (hB.out.cell (p := ⟨w.heap.size, 0, none⟩) hy2).trans b0
    have c1 := (hB.out.cell (p := ⟨w.heap.size, 1, none⟩) hy2).trans b1
    have hzr : w.heap.size < wr.heap.size := by have := hB.out.size; omega
    by_cases hlt : k < N
    · have hk0 : (k : Int) + 1 ≤ (N : Int) := by omega
      have HK := Lib.hid (HAL.out (some ⟨gF, 0, none⟩) cF k hlt wr (HB2.out.trans (hB.out.mono HB2.out.size)) (HFK.out _ hB.out))
      have hfi := HFI.out k hlt
      have hsn := HTS.out k
      have hdl := HTL.out k
      have hF : alongA ps (tfL N ps s dm) (wyA ps s ((k : Int) + 1)) s = fallA N ps s dm ((k : Int) + 1) := rfl
      rw [hF] at HK
      clear hF
      have HSN := Lib.hid hsn
      clear hsn
      generalize fallA N ps s dm ((k : Int) + 1) = F at *
      have wS : IntKind.i64.wrap (h - F) = h - F := w64 _ (by omega)
      go_wp2_with (go_at_call 138; refine HK.out.mono ?_; rintro e w3 ⟨rfl, hb3⟩; refine Hid.out ?_)
      have hO3 := Lib.hid (hown.out.on hb3)
      have HB3 := Lib.hid (hB.out.trans (hb3.mono hB.out.size))
      have ho := hO3.out
      unfold IOwn at ho
      clear hb3 c0 c1
      refine Lib.hid ?_
      go_wp2_with (at_builtin; go_must (refine wpList_append_own _ rfl _ _ 27 rfl w2.heap.size 3 i0 (.int .i64 0) 1 8 Try.underlying27 hi hz0 hz1 hz2 rfl (by decide) _ _ _ rfl (ho.alloc _) ⟨w3.heap.size, 0, none⟩ 1 1 [iv (h - F)] rfl rfl (cell_one_new _ _ _) (by intro u hu; simp at hu; subst hu; rfl) (by unfold maxLen; omega) (by omega) (by have := HB3.out.size; simp; omega) ?_); intro v' w7 hown' hgrow hnil)
      have hown3 := Lib.hid (IOwn.push hown')
      rw [← HSN.out] at hown3
      have hB7 := Lib.hid ((HB3.out.alloc HB3.out.size (.cells #[iv (h - F)] 3)).grown hgrow (by have := HB3.out.size; simp; omega) (fun g hg => (ho.lt g hg).1))
      have hnil3 := Lib.hid (show v' ≠ .slice none 0 0 from fun e => by simp [e] at hnil)
      clear hown' hgrow hnil ho
      go_wp2
      go_roundw
      case rel => exact ⟨k + 1, by omega, by go_num, hown3, hnil3, hB7⟩
      case measure => simp [intOf]; omega
    · have hkN : k = N := by omega
      have hown2 := hown.out
      rw [hkN, ← HL.out] at hown2
      obtain ⟨g', capg, rfl, hg'⟩ := own_slice hown2 hvn.out
      have HO := Lib.hid hown2
      have hkn : ¬ (k : Int) + 1 ≤ (N : Int) := by omega
      clear hkN hown2
      go_wp2
      go_ret
      exact ⟨g', capg, rfl, by omega, own_lower HO.out, HB2.out.trans (hB.out.mono HB2.out.size)⟩

set_option maxHeartbeats 1000000 in
theorem shd_no (n : Int) (A : Option Addr) (cap : Nat) (ps : List Pp) (x : Int) (AD : Option Addr) (dc : Nat) (dm : List Int) (h : Int) (w : World) (hp : PAt w A ps) (hm : ps.length ≤ maxLen) (hd : IAt w AD dm) (hdl : dm.length ≤ 1048576) (hv : askH n ps x dm h = false) :
    Calls Try.prog 22 #[nv n A ps.length cap, .int .i64 x, .slice AD dm.length dc, .int .i64 h] w (GivesA w [] false) := by
  have H := Lib.hid (fun w' (hb : Below w.heap.size w w') => ask_v hv A cap AD dc w' (hp.kept hb (Nat.le_refl _)) hm (hd.kept hb (Nat.le_refl _)) hdl)
  clear hp hd hv
  go_enter Try.func22, Try.ntmps22
  go_wp2_with (go_at_call 76; refine (H.out _ ((Below.refl _ _).alloc (Nat.le_refl _) _)).mono ?_; rintro e w1 ⟨rfl, hb1⟩)
  go_ret2
  exact gives_noneA (below_alloc_call hb1)
set_option maxHeartbeats 1000000 in
theorem shd_yes (N s : Nat) (A : Option Addr) (cap : Nat) (ps : List Pp) (AD : Option Addr) (dc : Nat) (dm : List Int) (h : Int) (w : World) (hp : PAt w A ps) (hm : ps.length ≤ maxLen) (hc : ps.length ≤ cap) (hd : IAt w AD dm) (hdl : dm.length ≤ 1048576) (ha : askH N ps s dm h = true) (hn : nodeB N ps s = true) (ht : treeB N ps = true) (hv : demB N ps dm = true) (hh : hdR h = true) :
    Calls Try.prog 22 #[nv N A ps.length cap, .int .i64 (s : Int), .slice AD dm.length dc, .int .i64 h] w (GivesA w (hdL N ps s dm h) true) := by
  have H := Lib.hid (fun w' (hb : Below w.heap.size w w') => ask_v ha A cap AD dc w' (hp.kept hb (Nat.le_refl _)) hm (hd.kept hb (Nat.le_refl _)) hdl)
  have H2 := Lib.hid (fun w' (hb : Below w.heap.size w w') => shds_any N s A cap ps AD dc dm h w' (hp.kept hb (Nat.le_refl _)) hc (hd.kept hb (Nat.le_refl _)) hn ht hv hh)
  clear hp hd hv ha hn ht hh hc
  generalize hdL N ps s dm h = L at *
  go_enter Try.func22, Try.ntmps22
  go_wp2_with (first
    | (go_at_call 76; refine (H.out _ ((Below.refl _ _).alloc (Nat.le_refl _) _)).mono ?_; rintro e w1 ⟨rfl, hb1⟩; have HX1 := Lib.hid (show Below (w.heap.size + 1) (w.alloc (nb N A ps.length cap)) w1 by simpa using hb1); obtain ⟨b0, b1⟩ := box2 HX1.out; have hy1 := box_lt HX1.out; clear hb1)
    | (go_at_call 77; refine (H2.out _ (below_box HX1.out)).mono ?_; rintro e w2 ⟨g, c, rfl, hg2, hO, hb2⟩))
  go_ret2
  have hz := (below_box HX1.out).size
  exact ⟨g, 0, c, rfl, by omega, hO.iat, (below_box HX1.out).trans (hb2.mono hz), iown_lt' hO⟩
end Go.Proofs.Ytlkomipjamelkab.S2

namespace Go.Proofs.Ytlkomipjamelkab.S2
open Go.RowKit P2
/-- HeadsOf of the program where something is asked that is not there. -/
theorem hd_bad (n : Int) (A : Option Addr) (cap : Nat) (ps : List Pp) (x : Int) (AD : Option Addr) (dc : Nat) (dm : List Int) (h : Int) (w : World) (hp : PAt w A ps) (hm : ps.length ≤ maxLen) (hd : IAt w AD dm) (hdl : dm.length ≤ 1048576) (hv : askH n ps x dm h = false) :
    Calls Try.prog 21 #[nv n A ps.length cap, .int .i64 x, .slice AD dm.length dc, .int .i64 h] w (GivesI w [] false) := by
  cases hv1 : nodeB n ps x with
  | false => exact hd_no1 n A cap ps x AD dc dm h w (fun w' hb => tfl_no1 n A cap ps x AD dc dm w' (fun w'' hb2 => tf_node hv1 A cap w'' (hp.kept (hb.trans (hb2.mono hb.size)) (Nat.le_refl _)) hm))
  | true =>
    obtain ⟨hg, hx1, hx2⟩ := nodeB_of hv1
    obtain ⟨N, rfl⟩ := good_nat hg
    obtain ⟨X, rfl⟩ : ∃ X : Nat, x = X := ⟨x.toNat, by omega⟩
    cases ht : treeB N ps with
    | false => exact hd_no1 N A cap ps X AD dc dm h w (fun w' hb => tfl_no1 N A cap ps X AD dc dm w' (fun w'' hb2 => tf_tree hv1 ht A cap w'' (hp.kept (hb.trans (hb2.mono hb.size)) (Nat.le_refl _)) hm))
    | true =>
      cases hv2 : demB N ps dm with
      | false => exact hd_no1 N A cap ps X AD dc dm h w (fun w' hb => tfl_no2 N X A cap ps AD dc dm w' (hp.kept hb (Nat.le_refl _)) hm (hd.kept hb (Nat.le_refl _)) hdl hv2 (fun w'' hb2 => tf_ok hv1 ht (tree_full hg ht).1 A cap w'' (hp.kept (hb.trans (hb2.mono hb.size)) (Nat.le_refl _)) hm))
      | true =>
        have hh : hdR h = false := by
          unfold askH at hv
          unfold demB at hv2
          rw [Bool.and_eq_true] at hv2
          rw [hv1, hv2.2, Int.toNat_natCast, ht] at hv
          simpa using hv
        have hdm2 : demB N ps dm = true := by unfold demB; exact hv2
        exact hd_no2 N A cap ps X AD dc dm h _ w hh (fun w' hb => tfl_yes N X A cap ps AD dc dm w' (hp.kept hb (Nat.le_refl _)) hm (hd.kept hb (Nat.le_refl _)) hdl hv1 ht hdm2)
end Go.Proofs.Ytlkomipjamelkab.S2

namespace Go.Proofs.Ytlkomipjamelkab.S2
open Go.RowKit P2

/-- Two fresh slices of numbers beside a bool. -/
def GivesII (w : World) (I J : List Int) (ok : Bool) (e : Ending) (w' : World) : Prop :=
  ∃ g c g2 c2, e = .returned (.tuple #[.slice (some ⟨g, 0, none⟩) I.length c, .slice (some ⟨g2, 0, none⟩) J.length c2, .bool ok]) ∧ w.heap.size ≤ g ∧ w.heap.size ≤ g2 ∧ g ≠ g2 ∧ IOwn w' w.heap.size (.slice (some ⟨g, 0, none⟩) I.length c) I ∧ IOwn w' w.heap.size (.slice (some ⟨g2, 0, none⟩) J.length c2) J ∧ Below w.heap.size w w'
/-- Two slices of numbers beside a bool, made by the call, wherever they start. -/
def GivesAA (w : World) (I J : List Int) (ok : Bool) (e : Ending) (w' : World) : Prop :=
  ∃ g o c g2 o2 c2, e = .returned (.tuple #[.slice (some ⟨g, o, none⟩) I.length c, .slice (some ⟨g2, o2, none⟩) J.length c2, .bool ok]) ∧ w.heap.size ≤ g ∧ w.heap.size ≤ g2 ∧ IAt w' (some ⟨g, o, none⟩) I ∧ IAt w' (some ⟨g2, o2, none⟩) J ∧ Below w.heap.size w w' ∧ g < w'.heap.size ∧ g2 < w'.heap.size
theorem GivesII.any {w : World} {I J : List Int} {ok : Bool} {e : Ending} {w' : World} (h : GivesII w I J ok e w') : GivesAA w I J ok e w' := by
  obtain ⟨g, c, g2, c2, he, hg, hg2, _, hI, hJ, hb⟩ := h
  exact ⟨g, 0, c, g2, 0, c2, he, hg, hg2, hI.iat, hJ.iat, hb, (World.ownsRow.lt hI g rfl).2, (World.ownsRow.lt hJ g2 rfl).2⟩
theorem made_row (l : List Int) (w : World) (hn : l.length ≤ 1048576) : Hid ((w.alloc (.cells (madeCells #[.int .i64 0] l.length) 3)).ownsRow w.heap.size 3 1 (.slice (some ⟨w.heap.size, 0, none⟩) l.length l.length) l.length (fiI l 0)) := Lib.hid (made_own l w hn)
end Go.Proofs.Ytlkomipjamelkab.S2
