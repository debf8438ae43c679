/- What the laws on trees and heads draw: contracts. Conditions: each theorem's own premises. -/
import Derived.Test.YtlkomipjamelkabHQA
import Derived.Test.YtlkomipjamelkabReachTwo
import Derived.Test.YtlkomipjamelkabWoA
import Derived.Test.YtlkomipjamelkabReachThree
import Derived.Test.YtlkomipjamelkabNetKit
import Derived.Test.YtlkomipjamelkabNwAny
import Derived.Test.YtlkomipjamelkabNwNod
import Derived.Deep.DeepCutAuto
import Derived.Test.YtlkomipjamelkabGoodTwo
namespace Go.Proofs.Ytlkomipjamelkab.S2
open Go.RowKit P2

/-- 1 to N. -/
def upL (N : Nat) : List Int := (List.range N).map fun v : Nat => (v : Int) + 1
theorem upL_mem {N : Nat} {v : Int} : v ∈ upL N ↔ 1 ≤ v ∧ v ≤ N := by
  unfold upL
  rw [List.mem_map]
  constructor
  · rintro ⟨k, hk, rfl⟩
    have := List.mem_range.1 hk
    omega
  · rintro ⟨h1, h2⟩
    exact ⟨(v - 1).toNat, List.mem_range.2 (by omega), by omega⟩
theorem upL_sorted (N : Nat) : (upL N).Pairwise (· < ·) := by
  unfold upL
  rw [List.pairwise_map]
  exact List.pairwise_lt_range.imp (fun h => by omega)
open Classical in
/-- The nodes that are not connected with the source without a pipe. -/
noncomputable def dnB (ps : List Pp) (p : Pp) (s v : Int) : Bool := decide (¬ Conn (Wo ps p) v s)
open Classical in
theorem dnB_true {ps : List Pp} {p : Pp} {s v : Int} : dnB ps p s v = true ↔ ¬ Conn (Wo ps p) v s := by unfold dnB; exact decide_eq_true_iff
theorem dnB_false {ps : List Pp} {p : Pp} {s v : Int} (h : Conn (Wo ps p) v s) : dnB ps p s v = false := by
  cases e : dnB ps p s v with
  | false => rfl
  | true => exact absurd h (dnB_true.1 e)
noncomputable def dnTo (ps : List Pp) (p : Pp) (s : Int) (k : Nat) : List Int := (upL k).filter (dnB ps p s)
noncomputable def dnL (N : Nat) (ps : List Pp) (p : Pp) (s : Int) : List Int := dnTo ps p s N
theorem upL_snoc (k : Nat) : upL (k + 1) = upL k ++ [(k : Int) + 1] := by unfold upL; rw [List.range_succ, List.map_append]; rfl
theorem dnTo_yes {ps : List Pp} {p : Pp} {s : Int} {k : Nat} (h : dnB ps p s ((k : Int) + 1) = true) : dnTo ps p s (k + 1) = dnTo ps p s k ++ [(k : Int) + 1] := by
  unfold dnTo; rw [upL_snoc, List.filter_append]; simp [h]
theorem dnTo_no {ps : List Pp} {p : Pp} {s : Int} {k : Nat} (h : dnB ps p s ((k : Int) + 1) = false) : dnTo ps p s (k + 1) = dnTo ps p s k := by
  unfold dnTo; rw [upL_snoc, List.filter_append]; simp [h]
theorem dn_mem {N : Nat} {ps : List Pp} {p : Pp} {s v : Int} : v ∈ dnL N ps p s ↔ (1 ≤ v ∧ v ≤ N) ∧ ¬ Conn (Wo ps p) v s := by
  unfold dnL dnTo
  rw [List.mem_filter, upL_mem, dnB_true]
theorem dn_sorted (N : Nat) (ps : List Pp) (p : Pp) (s : Int) : (dnL N ps p s).Pairwise (· < ·) := (upL_sorted N).sublist List.filter_sublist
theorem dnTo_len (ps : List Pp) (p : Pp) (s : Int) (k : Nat) : (dnTo ps p s k).length ≤ k := Nat.le_trans (List.length_filter_le _ _) (by simp [upL])
theorem dn_len (N : Nat) (ps : List Pp) (p : Pp) (s : Int) : (dnL N ps p s).length ≤ N := dnTo_len ps p s N

/-! ### Sums over nodes -/
def sumG (g : Int → Int) : List Int → Int
  | [] => 0
  | x :: l => g x + sumG g l
theorem sumG_app (g : Int → Int) : ∀ (l m : List Int), sumG g (l ++ m) = sumG g l + sumG g m
  | [], m => by simp [sumG]
  | x :: l, m => by simp only [List.cons_append, sumG, sumG_app g l m]; omega
theorem sumG_perm {g : Int → Int} {l m : List Int} (h : l.Perm m) : sumG g l = sumG g m := by
  induction h with
  | nil => rfl
  | cons x _ ih => simp only [sumG, ih]
  | swap x y l => simp only [sumG]; omega
  | trans _ _ h1 h2 => rw [h1, h2]
theorem sumG_take (g : Int → Int) (l : List Int) : ∀ k, k ≤ l.length → sumK (fun i => g (lA l i)) k = sumG g (l.take k)
  | 0, _ => by simp [sumK, sumG]
  | k + 1, h => by
    have hk : k < l.length := by omega
    rw [sumK, sumG_take g l k (by omega), List.take_add_one, sumG_app]
    have e : lA l k = l[k] := by simp [lA, List.getD, hk]
    rw [e]
    simp [hk, sumG]
theorem sumG_all (g : Int → Int) (l : List Int) : sumK (fun i => g (lA l i)) l.length = sumG g l := by
  rw [sumG_take g l l.length (Nat.le_refl _), List.take_length]
/-- What a node takes. -/
def tk (dm : List Int) (v : Int) : Int := dm.getD (v - 1).toNat 0
theorem tk_in {dm : List Int} {N : Nat} (hr : allR 0 1000 dm = true) (hl : dm.length = N) {v : Int} (h1 : 1 ≤ v) (h2 : v ≤ N) : 0 ≤ tk dm v ∧ tk dm v ≤ 1000 := allR_at hr (i := (v - 1).toNat) (by omega)
theorem sumT_in {dm l : List Int} {N : Nat} (hr : allR 0 1000 dm = true) (hl : dm.length = N) (hm : ∀ v, v ∈ l → 1 ≤ v ∧ v ≤ N) (hn : l.length ≤ 8) {k : Nat} (hk : k ≤ l.length) : 0 ≤ sumK (fun i => tk dm (lA l i)) k ∧ sumK (fun i => tk dm (lA l i)) k ≤ 8000 := by
  have h1 : ∀ k, k ≤ l.length → 0 ≤ sumK (fun i => tk dm (lA l i)) k ∧ sumK (fun i => tk dm (lA l i)) k ≤ 1000 * (k : Int) := by
    intro k
    induction k with
    | zero => intro _; simp [sumK]
    | succ k ih =>
      intro hk
      have h2 := ih (by omega)
      have hm2 := hm (lA l k) (by
        have hk2 : k < l.length := by omega
        have e : lA l k = l[k] := by simp [lA, List.getD, hk2]
        rw [e]; exact List.getElem_mem hk2)
      have h3 := tk_in hr hl hm2.1 hm2.2
      have e : sumK (fun i => tk dm (lA l i)) (k + 1) = sumK (fun i => tk dm (lA l i)) k + tk dm (lA l k) := rfl
      rw [e]
      omega
  have := h1 k hk
  omega

/-! ### Flows of a tree -/
noncomputable def flowA (N : Nat) (ps : List Pp) (s : Int) (dm : List Int) (i : Nat) : Int :=
  if dnB ps (pAt ps i) s (pAt ps i).fr = true then -(sumG (tk dm) (dnL N ps (pAt ps i) s)) else sumG (tk dm) (dnL N ps (pAt ps i) s)
noncomputable def tfTo (N : Nat) (ps : List Pp) (s : Int) (dm : List Int) (k : Nat) : List Int := (List.range k).map (flowA N ps s dm)
noncomputable def tfL (N : Nat) (ps : List Pp) (s : Int) (dm : List Int) : List Int := tfTo N ps s dm ps.length
theorem tfTo_snoc (N : Nat) (ps : List Pp) (s : Int) (dm : List Int) (k : Nat) : tfTo N ps s dm (k + 1) = tfTo N ps s dm k ++ [flowA N ps s dm k] := by unfold tfTo; rw [List.range_succ, List.map_append]; rfl
theorem tfTo_len (N : Nat) (ps : List Pp) (s : Int) (dm : List Int) (k : Nat) : (tfTo N ps s dm k).length = k := by simp [tfTo]
theorem tfL_len (N : Nat) (ps : List Pp) (s : Int) (dm : List Int) : (tfL N ps s dm).length = ps.length := tfTo_len N ps s dm _
theorem tfL_at {N : Nat} {ps : List Pp} {s : Int} {dm : List Int} {i : Nat} (h : i < ps.length) : (tfL N ps s dm).getD i 0 = flowA N ps s dm i := by
  simp [tfL, tfTo, List.getD, h]
theorem sumD_in {N : Nat} {ps : List Pp} {p : Pp} {s : Int} {dm : List Int} (hN : N ≤ 8) (hr : allR 0 1000 dm = true) (hl : dm.length = N) : 0 ≤ sumG (tk dm) (dnL N ps p s) ∧ sumG (tk dm) (dnL N ps p s) ≤ 8000 := by
  have hn := dn_len N ps p s
  rw [← sumG_all]
  exact sumT_in hr hl (fun v hv => (dn_mem.1 hv).1) (by omega) (Nat.le_refl _)
theorem flow_in {N : Nat} {ps : List Pp} {s : Int} {dm : List Int} (hN : N ≤ 8) (hr : allR 0 1000 dm = true) (hl : dm.length = N) (i : Nat) : -8000 ≤ flowA N ps s dm i ∧ flowA N ps s dm i ≤ 8000 := by
  have := sumD_in (ps := ps) (p := pAt ps i) (s := s) hN hr hl
  unfold flowA
  split <;> omega
theorem tfL_in {N : Nat} {ps : List Pp} {s : Int} {dm : List Int} (hN : N ≤ 8) (hr : allR 0 1000 dm = true) (hl : dm.length = N) : allR (-8000) 8000 (tfL N ps s dm) = true :=
  allR_mk fun j hj => by
    rw [tfL_len] at hj
    rw [tfL_at hj]
    simpa [inR] using flow_in hN hr hl j

/-! ### What a search behind a pipe finds -/
theorem wo_none {ps : List Pp} {q : Pp} (h : q ∉ ps) : Wo ps q = ps := by
  unfold Wo
  exact List.filter_eq_self.2 fun e he => decide_eq_true fun hq => h (hq ▸ he)
theorem tree_full {N : Nat} {ps : List Pp} (hg : P2.Good N ps) (ht : treeB N ps = true) : Acy ps ∧ (∀ v : Nat, 1 ≤ v → v ≤ N → Conn ps 1 v) ∧ ps.length + 1 = N := by
  unfold treeB at ht
  rw [Bool.and_eq_true, decide_eq_true_iff, decide_eq_true_iff] at ht
  have hN := hg.1
  have hc := con_full (N := N) (ps := ps) (by omega) ht.2
  exact ⟨tree_acy hg ht.1 hc, hc, ht.1⟩
theorem tree_conn {N : Nat} {ps : List Pp} (h : ∀ v : Nat, 1 ≤ v → v ≤ N → Conn ps 1 v) {a b : Int} (a1 : 1 ≤ a) (a2 : a ≤ N) (b1 : 1 ≤ b) (b2 : b ≤ N) : Conn ps a b := by
  have ha := h a.toNat (by omega) (by omega)
  have hb := h b.toNat (by omega) (by omega)
  rw [Int.toNat_of_nonneg (by omega)] at ha hb
  exact ha.sy.tr hb
theorem root_not {N : Nat} {ps : List Pp} (hg : P2.Good N ps) : (⟨0, 0, 0, 0⟩ : Pp) ∉ ps := fun h => by have := (good_pp hg h).1; simp at this
/-- The far end of a pipe of a tree. -/
theorem far_end {N t : Nat} {ps : List Pp} (hg : P2.Good N ps) (ht : treeB N ps = true) (h1 : 1 ≤ t) (h2 : t ≤ N) {p : Pp} (hp : p ∈ ps) :
    ∃ y, fnd ps p (N + 1) t ⟨0, 0, 0, 0⟩ = some y ∧ (1 ≤ y ∧ y ≤ N) ∧ (∀ v, 1 ≤ v → v ≤ (N : Int) → (¬ Conn (Wo ps p) v t ↔ Conn (Wo ps p) y v)) ∧ (dnB ps p t p.fr = true ↔ p.fr = y) ∧ (∀ d, BrOk N ps y p → cntB N ps y p ≤ d → (nodesL ps d y p).Perm (dnL N ps p t)) := by
  obtain ⟨ha, hc, hlen⟩ := tree_full hg ht
  have hr := root_not hg
  have hbr : BrOk N ps t ⟨0, 0, 0, 0⟩ := ⟨by omega, by omega, .inr hr⟩
  have hpp := good_pp hg hp
  obtain ⟨_, _, f1, f2, t1, t2, hne, _, _⟩ := hpp
  have hy := fnd_yes hg ha hp (N + 1) t ⟨0, 0, 0, 0⟩ hbr (cnt_le N ps t _) (.inr (by rw [wo_none hr]; exact tree_conn hc (by omega) (by omega) f1 f2))
  obtain ⟨y, hfy⟩ := Option.ne_none_iff_exists'.1 hy
  rcases fnd_is hg ha (N + 1) t ⟨0, 0, 0, 0⟩ hbr (cnt_le N ps t _) hfy with ⟨h, _⟩ | ⟨_, hty, _, hns⟩
  · exact absurd (h ▸ hp) hr
  · have hy12 : 1 ≤ y ∧ y ≤ (N : Int) := by
      rcases hty with h | h
      · omega
      · omega
    have hb : ∀ v, 1 ≤ v → v ≤ (N : Int) → (¬ Conn (Wo ps p) v t ↔ Conn (Wo ps p) y v) := fun v v1 v2 => behind hp hty hns (tree_conn hc hy12.1 hy12.2 (by omega) (by omega)) (tree_conn hc hy12.1 hy12.2 v1 v2)
    refine ⟨y, hfy, hy12, hb, ?_, fun d hbo hcd => ?_⟩
    · rw [dnB_true, hb _ f1 f2]
      constructor
      · intro hcn
        rcases hty with h | h
        · exact h
        · exact absurd hcn.sy (by rw [← h]; exact ha p hp)
      · intro e
        rw [e]
        exact Conn.rf _ _
    · rw [List.perm_ext_iff_of_nodup (nodes_nodup hg ha d y p hbo hcd) ((dn_sorted N ps p t).imp (fun h => by omega))]
      intro v
      rw [nodes_mem hg ha d y p hbo hcd v, dn_mem]
      constructor
      · intro hv
        have hin : 1 ≤ v ∧ v ≤ (N : Int) := conn_ind (P := fun v => 1 ≤ v ∧ v ≤ (N : Int)) hy12 (fun u v _ _ hadj => by
          obtain ⟨e, he, hj⟩ := hadj
          have h3 := good_pp hg (mem_Wo.1 he).1
          rcases hj with ⟨_, rfl⟩ | ⟨_, rfl⟩
          · exact ⟨h3.2.2.2.2.1, h3.2.2.2.2.2.1⟩
          · exact ⟨h3.2.2.1, h3.2.2.2.1⟩) v hv
        exact ⟨hin, (hb v hin.1 hin.2).2 hv⟩
      · rintro ⟨hin, hv⟩
        exact (hb v hin.1 hin.2).1 hv
end Go.Proofs.Ytlkomipjamelkab.S2

namespace Go.Proofs.Ytlkomipjamelkab.S2
open Go.RowKit P2

theorem cells4 (w : World) (a b c d : Value) (t : TypeId) (k : Nat) (u : Value) (h : [a, b, c, d][k]? = some u) : (w.alloc (.cells #[a, b, c, d] t)).cell? ⟨w.heap.size, k, none⟩ = some u := by
  rw [World.cell?_alloc_at _ _ _ _ rfl]
  simpa using h
theorem alloc_belowE (w : World) (o : Obj) : Below w.heap.size w (w.alloc o) := (Below.refl _ _).alloc (Nat.le_refl _) o
def enT (ps : List Pp) (fl : List Int) (k : Nat) : Int := lossI (pAt ps k) (lA fl k) * lA fl k
def enA (ps : List Pp) (fl : List Int) : Int := sumK (enT ps fl) fl.length
theorem enT_in {n : Int} {ps : List Pp} (hg : P2.Good n ps) {fl : List Int} (hr : allR (-8000) 8000 fl = true) (hl : fl.length = ps.length) {k : Nat} (hk : k < fl.length) : -4608000000000 ≤ enT ps fl k ∧ enT ps fl k ≤ 4608000000000 := by
  have h2 := allR_at hr hk
  have h3 := (loss_in (good_pp hg (pAt_mem (show k < ps.length by omega))) h2.1 h2.2).2
  have h4 := mul_bd (x := lossI (pAt ps k) (lA fl k)) (y := lA fl k) (a := 576000000) (b := 8000) (by unfold lA; omega) (by unfold lA; omega) (by unfold lA; omega) (by unfold lA; omega)
  unfold enT
  omega
theorem enS_in {n : Int} {ps : List Pp} (hg : P2.Good n ps) {fl : List Int} (hr : allR (-8000) 8000 fl = true) (hl : fl.length = ps.length) {k : Nat} (hk : k ≤ fl.length) : -46080000000000 ≤ sumK (enT ps fl) k ∧ sumK (enT ps fl) k ≤ 46080000000000 := by
  have h1 := sumK_le (f := enT ps fl) (B := 4608000000000) (by omega) (k := k) (fun i hi => enT_in hg hr hl (by omega))
  have h2 : (k : Int) ≤ 10 := by have := hg.2.2.1; omega
  have h3 : (4608000000000 : Int) * k ≤ 4608000000000 * 10 := Int.mul_le_mul_of_nonneg_left h2 (by omega)
  omega
theorem amt_self {l : List Int} {a b : Int} : amtB l l.length a b = allR a b l := by simp [amtB]

set_option maxHeartbeats 1000000 in
theorem en_no (n : Int) (A : Option Addr) (cap : Nat) (ps : List Pp) (AD : Option Addr) (dc : Nat) (fl : List Int) (w : World) (h : PAt w A ps) (hm : ps.length ≤ maxLen) (hd : IAt w AD fl) (hdl : fl.length ≤ 1048576) (hv : floB n ps fl = false ∨ allR (-2000) 2000 fl = false) :
    Calls Try.prog 34 #[nv n A ps.length cap, .slice AD fl.length dc] w fun e w' => e = .returned (.tuple #[.int .i64 0, .bool false]) ∧ Below w.heap.size w w' := by
  obtain ⟨v1, hv1⟩ : ∃ v, floB n ps fl = v := ⟨_, rfl⟩
  have H := Lib.hid (fun w' (hb : Below w.heap.size w w') => flo_v hv1 A cap AD dc w' (h.kept hb (Nat.le_refl _)) hm (hd.kept hb (Nat.le_refl _)) hdl)
  cases v1 with
  | false =>
    clear h hd hv hv1
    go_enter Try.func34, Try.ntmps34
    go_wp2_with (go_at_call 78; refine (H.out _ ((Below.refl _ _).alloc (Nat.le_refl _) _)).mono ?_; rintro e w1 ⟨rfl, hb1⟩; have hB1 := Lib.hid (below_alloc_call hb1))
    go_ret2
    exact ⟨rfl, hB1.out⟩
  | true =>
    have hv2 : amtB fl fl.length (-2000) 2000 = false := by
      rw [amt_self]
      rcases hv with h | h
      · exact absurd (h.symm.trans hv1) (by simp)
      · exact h
    have H2 := Lib.hid (fun w' (hb : Below w.heap.size w w') => am_v hv2 AD dc w' (hd.kept hb (Nat.le_refl _)) hdl)
    clear h hd hv hv1 hv2
    go_enter Try.func34, Try.ntmps34
    go_wp2_with (first
      | (go_at_call 78; refine (H.out _ ((Below.refl _ _).alloc (Nat.le_refl _) _)).mono ?_; rintro e w1 ⟨rfl, hb1⟩; obtain ⟨hc1, hf1⟩ := bcell hb1; have hz1 := hb1.size; simp at hz1; have hB1 := Lib.hid (below_alloc_call hb1))
      | (go_at_call 102; refine (H2.out _ hB1.out).mono ?_; rintro e w2 ⟨rfl, hb2⟩; have hB2 := Lib.hid (hB1.out.trans (hb2.mono hB1.out.size))))
    go_ret2
    exact ⟨rfl, hB2.out⟩

set_option maxHeartbeats 2000000 in
set_option maxRecDepth 100000 in
theorem en_yes (n : Int) (A : Option Addr) (cap : Nat) (ps : List Pp) (AD : Option Addr) (dc : Nat) (fl : List Int) (w : World) (h : PAt w A ps) (hm : ps.length ≤ maxLen) (hd : IAt w AD fl) (hdl : fl.length ≤ 1048576) (hv : floB n ps fl = true) (hv2 : allR (-2000) 2000 fl = true) :
    Calls Try.prog 34 #[nv n A ps.length cap, .slice AD fl.length dc] w fun e w' => e = .returned (.tuple #[.int .i64 (enA ps fl), .bool true]) ∧ Below w.heap.size w w' := by
  obtain ⟨hg, hfl, hr⟩ := floB_of hv
  have hl10 := hg.2.2.1
  have H := Lib.hid (fun w' (hb : Below w.heap.size w w') => flo_v hv A cap AD dc w' (h.kept hb (Nat.le_refl _)) hm (hd.kept hb (Nat.le_refl _)) hdl)
  have hv3 : amtB fl fl.length (-2000) 2000 = true := by rw [amt_self]; exact hv2
  have H2 := Lib.hid (fun w' (hb : Below w.heap.size w w') => am_v hv3 AD dc w' (hd.kept hb (Nat.le_refl _)) hdl)
  have HA := Lib.hid (fun w' (hb : Below w.heap.size w w') => h.kept hb (Nat.le_refl _))
  have HI := Lib.hid (fun w' (hb : Below w.heap.size w w') => hd.kept hb (Nat.le_refl _))
  have HE := Lib.hid (fun k (hk : k < fl.length) => allR_at hr hk)
  have HT := Lib.hid (fun k (hk : k < fl.length) => enT_in hg hr hfl hk)
  have HS := Lib.hid (fun k (hk : k ≤ fl.length) => enS_in hg hr hfl hk)
  have HG := Lib.hid (fun k (hk : k < ps.length) => good_pp hg (pAt_mem hk))
  have HL := Lib.hid hfl
  clear h hd hv hr hg hfl hm hdl hv2 hv3
  go_enter Try.func34, Try.ntmps34
  go_wp2_with (first
    | (go_at_call 78; refine (H.out _ ((Below.refl _ _).alloc (Nat.le_refl _) _)).mono ?_; rintro e w1 ⟨rfl, hb1⟩; have HX1 := Lib.hid (show Below (w.heap.size + 1) (w.alloc (nb n A ps.length cap)) w1 by simpa using hb1); obtain ⟨b0, b1⟩ := box2 HX1.out; have hy1 := box_lt HX1.out; clear hb1)
    | (go_at_call 102; refine (H2.out _ (below_box HX1.out)).mono ?_; rintro e w2 ⟨rfl, hb2⟩; have HX2 := Lib.hid (on_call HX1.out hb2); clear b0 b1; obtain ⟨b0, b1⟩ := box2 HX2.out; have hy2 := box_lt HX2.out; clear hb2))
  have hB := Lib.hid (below_box HX2.out)
  clear H H2 HX1 HX2 b0 b1
  go_loopw [6, 23] (fun a i wr => ∃ (k : Nat), k ≤ ps.length ∧ i = .int .i64 (k : Int) ∧ a = .int .i64 (sumK (enT ps fl) k) ∧ Hid (Below w.heap.size w wr)) (fun _ i _ => ps.length - (intOf i).toNat)
  case atStart => exact ⟨0, Nat.zero_le _, rfl, rfl, hB⟩
  case round =>
    clear hB hy1 hy2
    obtain ⟨k, hk, rfl, rfl, hB⟩ := hrel
    have hs := HS.out k (by rw [HL.out]; exact hk)
    by_cases hlt : k < ps.length
    · obtain ⟨b, off, hA, hbl, p0, p1, p2, p3⟩ := (HA.out _ hB.out).at_ hlt
      subst hA
      have hkf : k < fl.length := by rw [HL.out]; exact hlt
      obtain ⟨bb, of2, hA2, hbl2, q0⟩ := (HI.out _ hB.out).at_ hkf
      subst hA2
      have hk0 : (0 : Int) ≤ (k : Int) := by omega
      have hkn : (k : Int) < (ps.length : Int) := by omega
      have hknf : (k : Int) < (fl.length : Int) := by omega
      have hy := HE.out k hkf
      have ht := HT.out k hkf
      have HLO := Lib.hid (fun w' => loss_any (HG.out k hlt) hy.1 hy.2 w')
      have hsn : sumK (enT ps fl) (k + 1) = sumK (enT ps fl) k + lossI (pAt ps k) (fl.getD k 0) * fl.getD k 0 := rfl
      have ht2 : -4608000000000 ≤ lossI (pAt ps k) (fl.getD k 0) * fl.getD k 0 ∧ lossI (pAt ps k) (fl.getD k 0) * fl.getD k 0 ≤ 4608000000000 := ht
      have HSN := Lib.hid hsn
      clear ht hsn hy
      generalize lossI (pAt ps k) (fl.getD k 0) = L at *
      generalize fl.getD k 0 = f at *
      generalize pAt ps k = p at *
      generalize sumK (enT ps fl) k = s at *
      have wP : IntKind.i64.wrap (L * f) = L * f := w64 _ (by omega)
      have wS : IntKind.i64.wrap (s + L * f) = s + L * f := w64 _ (by omega)
      have hBn := Lib.hid (hB.out.alloc hB.out.size (.cells #[.int .i64 p.id, .int .i64 p.fr, .int .i64 p.to, .int .i64 p.sz] 40))
      have q1 := ((alloc_belowE wr (.cells #[.int .i64 p.id, .int .i64 p.fr, .int .i64 p.to, .int .i64 p.sz] 40)).cell (p := ⟨bb, of2 + k, none⟩) hbl2).trans q0
      have d0 := cells4 wr (.int .i64 p.id) (.int .i64 p.fr) (.int .i64 p.to) (.int .i64 p.sz) 40 0 _ rfl
      have d1 := cells4 wr (.int .i64 p.id) (.int .i64 p.fr) (.int .i64 p.to) (.int .i64 p.sz) 40 1 _ rfl
      have d2 := cells4 wr (.int .i64 p.id) (.int .i64 p.fr) (.int .i64 p.to) (.int .i64 p.sz) 40 2 _ rfl
      have d3 := cells4 wr (.int .i64 p.id) (.int .i64 p.fr) (.int .i64 p.to) (.int .i64 p.sz) 40 3 _ rfl
      have hzz : wr.heap.size < (wr.alloc (.cells #[.int .i64 p.id, .int .i64 p.fr, .int .i64 p.to, .int .i64 p.sz] 40)).heap.size := by simp
      have hbl2' : bb < (wr.alloc (.cells #[.int .i64 p.id, .int .i64 p.fr, .int .i64 p.to, .int .i64 p.sz] 40)).heap.size := by omega
      go_wp2
      generalize wr.alloc (.cells #[.int .i64 p.id, .int .i64 p.fr, .int .i64 p.to, .int .i64 p.sz] 40) = wa at *
      clear p0 p1 p2 p3 q0
      have hG := @cell_g
      refine region_below (by kernel_rfl) (by kernel_rfl) ?_
      repeat (first | go_big_quiet_step ((go_at_call 79; exact met HLO.out)))
      refine wpQuiet_nil ?_
      intro w3 hb3
      go_wp2
      go_roundw
      case rel => exact ⟨k + 1, by omega, by go_num, by rw [HSN.out], Lib.hid (hBn.out.trans (hb3.mono hBn.out.size))⟩
      case measure => simp [intOf]; omega
    · have hkk : k = fl.length := by rw [HL.out]; omega
      have HF := Lib.hid (show sumK (enT ps fl) k = enA ps fl by rw [hkk]; rfl)
      clear hkk
      go_wp2
      go_ret2
      exact ⟨by rw [← HF.out]; rfl, hB.out⟩

/-! ### The model -/
set_option maxHeartbeats 2000000 in
set_option maxRecDepth 100000 in
theorem sen_sum (n : Int) (A : Option Addr) (cap : Nat) (ps : List Pp) (AD : Option Addr) (dc : Nat) (fl : List Int) (w : World) (h : PAt w A ps) (hd : IAt w AD fl) (hv : floB n ps fl = true) :
    Calls Try.prog 101 #[nv n A ps.length cap, .slice AD fl.length dc] w fun e w' => e = .returned (.int .i64 (enA ps fl)) ∧ Below w.heap.size w w' := by
  obtain ⟨hg, hfl, hr⟩ := floB_of hv
  have hl10 := hg.2.2.1
  have HA := Lib.hid (fun w' (hb : Below w.heap.size w w') => h.kept hb (Nat.le_refl _))
  have HI := Lib.hid (fun w' (hb : Below w.heap.size w w') => hd.kept hb (Nat.le_refl _))
  have HE := Lib.hid (fun k (hk : k < fl.length) => allR_at hr hk)
  have HT := Lib.hid (fun k (hk : k < fl.length) => enT_in hg hr hfl hk)
  have HS := Lib.hid (fun k (hk : k ≤ fl.length) => enS_in hg hr hfl hk)
  have HG := Lib.hid (fun k (hk : k < ps.length) => good_pp hg (pAt_mem hk))
  have HL := Lib.hid hfl
  have hps0 : fl.length ≤ 10 := by omega
  have hBX := (Below.refl (w.heap.size + 1) (w.alloc (nb n A ps.length cap)))
  clear h hd hv hr hg hfl
  go_enter Try.func101, Try.ntmps101
  go_wp2
  go_loopw [5, 6] (fun a i wr => ∃ (k : Nat), k ≤ fl.length ∧ i = .int .i64 (k : Int) ∧ a = .int .i64 (sumK (enT ps fl) k) ∧ Below (w.heap.size + 1) (w.alloc (nb n A ps.length cap)) wr) (fun _ i _ => fl.length - (intOf i).toNat)
  case atStart => exact ⟨0, Nat.zero_le _, rfl, rfl, hBX⟩
  case round =>
    clear hBX
    obtain ⟨k, hk, rfl, rfl, hb⟩ := hrel
    obtain ⟨c0, c1⟩ := box2 hb
    have hz2 := box_lt hb
    have hB := Lib.hid (below_box hb)
    have hs := HS.out k hk
    by_cases hlt : k < fl.length
    · have hkp : k < ps.length := by rw [← HL.out]; exact hlt
      obtain ⟨b, off, hA, hbl, p0, p1, p2, p3⟩ := (HA.out _ hB.out).at_ hkp
      subst hA
      obtain ⟨bb, of2, hA2, hbl2, q0⟩ := (HI.out _ hB.out).at_ hlt
      subst hA2
      have hk0 : (0 : Int) ≤ (k : Int) := by omega
      have hkn : (k : Int) < (fl.length : Int) := by omega
      have hknp : (k : Int) < (ps.length : Int) := by omega
      have hy := HE.out k hlt
      have hp := HG.out k hkp
      have hli := loss_in hp hy.1 hy.2
      have ht := HT.out k hlt
      have HC := Lib.hid (fun w' => sabs_any (fl.getD k 0) w' (by omega) (by omega))
      have ha0 := absI_nn (fl.getD k 0)
      have ha1 := absI_le hy.1 hy.2
      have e1 : (pAt ps k).sz * absI (fl.getD k 0) * fl.getD k 0 = lossI (pAt ps k) (fl.getD k 0) := by unfold lossI; rw [Int.mul_right_comm]
      have hm1 := mul_bd (x := (pAt ps k).sz) (y := absI (fl.getD k 0)) (a := 9) (b := 8000) (by have := hp.2.2.2.2.2.2.2; omega) (by have := hp.2.2.2.2.2.2.2; omega) (by omega) (by omega)
      have hsn : sumK (enT ps fl) (k + 1) = sumK (enT ps fl) k + lossI (pAt ps k) (fl.getD k 0) * fl.getD k 0 := rfl
      have ht2 : -4608000000000 ≤ lossI (pAt ps k) (fl.getD k 0) * fl.getD k 0 ∧ lossI (pAt ps k) (fl.getD k 0) * fl.getD k 0 ≤ 4608000000000 := ht
      have hli2 := hli.2
      rw [← e1] at hsn ht2 hli2
      have HSN := Lib.hid hsn
      clear ht hsn hli hp e1
      generalize absI (fl.getD k 0) = g at *
      generalize fl.getD k 0 = f at *
      generalize pAt ps k = p at *
      generalize sumK (enT ps fl) k = s at *
      have wP : IntKind.i64.wrap (p.sz * g) = p.sz * g := w64 _ (by omega)
      have wQ : IntKind.i64.wrap (p.sz * g * f) = p.sz * g * f := w64 _ (by omega)
      have wR : IntKind.i64.wrap (p.sz * g * f * f) = p.sz * g * f * f := w64 _ (by omega)
      have wS : IntKind.i64.wrap (s + p.sz * g * f * f) = s + p.sz * g * f * f := w64 _ (by omega)
      clear hm1 ht2 hli2 hy hs
      go_wp2
      go_quiet ((go_at_call 148; exact Calls.quiet_of_same (HC.out _)))
      go_wp2
      go_roundw
      case rel => exact ⟨k + 1, by omega, by go_num, by rw [HSN.out], below_drewN hb _⟩
      case measure => simp [intOf]; omega
    · have hkk : k = fl.length := by omega
      have HF := Lib.hid (show sumK (enT ps fl) k = enA ps fl by rw [hkk]; rfl)
      clear hkk
      go_wp2
      go_ret
      exact ⟨by rw [← HF.out]; rfl, hB.out⟩


end Go.Proofs.Ytlkomipjamelkab.S2

namespace Go.Proofs.Ytlkomipjamelkab.S2
open Go.RowKit P2

/-- A row of numbers of the call's own, read as a block. -/
theorem rep_succ (k : Nat) : List.replicate (k + 1) (-1 : Int) = List.replicate k (-1) ++ [-1] := List.replicate_succ'
/-- An own row of numbers, one of them set. -/
theorem IOwn.set {w : World} {B g n cap : Nat} {D : List Int} (h : IOwn w B (.slice (some ⟨g, 0, none⟩) n cap) D) (hn : D.length = n) (v : Nat) (x : Int) :
    IOwn (w.setCell ⟨g, v, none⟩ (iv x)) B (.slice (some ⟨g, 0, none⟩) n cap) (D.set v x) := by
  subst hn
  unfold IOwn at h ⊢
  have h2 := (h.stored v (iv x)).1
  rw [List.length_set, List.map_set]
  exact h2
theorem IOwn.cell {w : World} {B g n cap : Nat} {D : List Int} (h : IOwn w B (.slice (some ⟨g, 0, none⟩) n cap) D) (hn : D.length = n) {v : Nat} (hv : v < D.length) : w.cell? ⟨g, v, none⟩ = some (iv (dA D v)) := by
  subst hn
  unfold IOwn at h
  rw [h.cellAt v (by omega)]
  simp [dA, List.getD, hv]
theorem IOwn.frozen {w : World} {B g n cap : Nat} {D : List Int} (h : IOwn w B (.slice (some ⟨g, 0, none⟩) n cap) D) (hn : D.length = n) (v : Nat) : w.frozen? ⟨g, v, none⟩ = false := by
  subst hn
  unfold IOwn at h
  exact h.frozenAt v

set_option maxHeartbeats 8000000 in
set_option maxRecDepth 100000 in
theorem steps_any (N t : Nat) (A : Option Addr) (cap : Nat) (ps : List Pp) (w : World) (h : PAt w A ps) (hg : P2.Good N ps) (ht1 : 1 ≤ t) (ht2 : t ≤ N) :
    Calls Try.prog 169 #[nv N A ps.length cap, .int .i64 (t : Int)] w fun e w' => ∃ g c, e = .returned (.slice (some ⟨g, 0, none⟩) (N + 1) c) ∧ w.heap.size ≤ g ∧ IOwn w' w.heap.size (.slice (some ⟨g, 0, none⟩) (N + 1) c) (distL N ps t) ∧ Below w.heap.size w w' := by
  have HA := Lib.hid h
  have HG := Lib.hid hg
  have hN : N ≤ 8 := by have := hg.2.1; omega
  have hl10 := hg.2.2.1
  obtain ⟨i0, hi, hz0, hz1, hz2⟩ := info_parts infoI
  have HST := Lib.hid (Lv.start N ps t ht1 ht2)
  have ht0 : (0 : Int) ≤ (t : Int) := by omega
  have htN : (t : Int) < (N : Int) + 1 := by omega
  clear h hg
  go_enter Try.func169, Try.ntmps169
  go_wp2
  have hb0 : Below (w.heap.size + 1) (w.alloc (.cells #[.int .i64 N, .slice A ps.length cap] 26)) ((w.alloc (.cells #[.int .i64 N, .slice A ps.length cap] 26)).alloc (.cells #[] 3)) := (Below.refl _ _).alloc (by simp) _
  have hO1 : IOwn ((w.alloc (.cells #[.int .i64 N, .slice A ps.length cap] 26)).alloc (.cells #[] 3)) (w.heap.size + 1) (.slice (some ⟨w.heap.size + 1, 0, none⟩) 0 0) [] := by
    have := own_empty (w.alloc (.cells #[.int .i64 N, .slice A ps.length cap] 26)) (w.heap.size + 1) (by simp)
    simpa using this
  go_loopw [5, 6] (fun v i wr => ∃ k : Nat, k ≤ N + 1 ∧ i = .int .i64 k ∧ Hid (IOwn wr (w.heap.size + 1) v (List.replicate k (-1))) ∧ Hid (v ≠ .slice none 0 0) ∧ Below (w.heap.size + 1) (w.alloc (.cells #[.int .i64 N, .slice A ps.length cap] 26)) wr) (fun _ i _ => N + 1 - (intOf i).toNat)
  case atStart => exact ⟨0, Nat.zero_le _, rfl, Lib.hid hO1, Lib.hid (by simp), hb0⟩
  case round =>
    clear hO1 hb0
    obtain ⟨k, hk, rfl, hown, hvn, hb⟩ := hrel
    have hzl := box_lt hb
    obtain ⟨b0, b1⟩ := box2 hb
    by_cases hlt : k < N + 1
    · have hkN : (k : Int) ≤ (N : Int) := by omega
      have ho := hown.out
      unfold IOwn at ho
      rw [List.length_replicate] at ho
      go_wp2_with (at_builtin; go_must (refine wpList_append_own _ rfl _ _ 27 rfl (w.heap.size + 1) 3 i0 (.int .i64 0) 1 8 Try.underlying27 hi hz0 hz1 hz2 rfl (by decide) _ _ _ rfl (ho.alloc _) ⟨wr.heap.size, 0, none⟩ 1 1 [iv (-1)] rfl rfl (cell_one_new _ _ _) (by intro u hu; simp at hu; subst hu; rfl) (by unfold maxLen; omega) (by omega) (by have := hb.size; simp at this ⊢; omega) ?_))
      intro v' w3 hown' hgrow hnil
      have hown3 := Lib.hid (show IOwn w3 (w.heap.size + 1) v' (List.replicate (k + 1) (-1)) by
        rw [rep_succ]
        refine IOwn.push ?_
        rw [List.length_replicate, List.map_replicate]
        exact hown')
      have hB3 := Lib.hid ((hb.alloc hzl (.cells #[iv (-1)] 3)).grown hgrow (by simp; omega) (fun g hg => (ho.lt g hg).1))
      have hnil3 := Lib.hid (show v' ≠ .slice none 0 0 from fun e => by simp [e] at hnil)
      clear hown' hgrow hnil ho
      go_wp2
      go_roundw
      case rel => exact ⟨k + 1, by omega, by go_num, hown3, hnil3, hB3.out⟩
      case measure => simp [intOf]; omega
    · have hkk : k = N + 1 := by omega
      subst hkk
      obtain ⟨g, capg, rfl, hgB⟩ := own_slice hown.out hvn.out
      have ho := hown.out
      rw [List.length_replicate] at ho ⊢
      have hor : IOwn wr (w.heap.size + 1) (.slice (some ⟨g, 0, none⟩) (List.replicate (N + 1) (-1 : Int)).length capg) (List.replicate (N + 1) (-1)) := by rw [List.length_replicate]; exact ho
      have ct := hor.cell rfl (v := t) (by simp; omega)
      have ft := hor.frozen rfl t
      have hot := Lib.hid (hor.set rfl t 0)
      have hbt := Lib.hid (hb.setCell (p := ⟨g, t, none⟩) (by show w.heap.size + 1 ≤ g; omega) (iv 0))
      clear hown ho hor hvn
      go_wp2
      have hot2 : IOwn (wr.setCell ⟨g, t, none⟩ (iv 0)) (w.heap.size + 1) (.slice (some ⟨g, 0, none⟩) (N + 1) capg) ((List.replicate (N + 1) (-1 : Int)).set t 0) := by
        have := hot.out
        simpa using this
      have HO2 := Lib.hid hot2
      clear hot hot2 ct ft b0 b1 hzl hb hlt hk
      go_loopw [7] (fun i w2 => ∃ (s : Nat) (D : List Int), s ≤ N ∧ i = .int .i64 s ∧ Hid (Lv N ps t s D) ∧ Hid (IOwn w2 (w.heap.size + 1) (.slice (some ⟨g, 0, none⟩) (N + 1) capg) D) ∧ Below (w.heap.size + 1) (w.alloc (.cells #[.int .i64 N, .slice A ps.length cap] 26)) w2) (fun i _ => N - (intOf i).toNat)
      case atStart => exact ⟨0, _, Nat.zero_le _, rfl, HST, HO2, hbt.out⟩
      case round =>
        clear HO2 hbt HST
        obtain ⟨s, D, hs, rfl, hlv, hown, hb⟩ := hrel
        obtain ⟨b0, b1⟩ := box2 hb
        by_cases hlt : s < N
        · go_wp2
          have hlk := Lib.hid (Lk.start hlv.out)
          go_loopw [8] (fun i w3 => ∃ (k : Nat) (D : List Int), k ≤ ps.length ∧ i = .int .i64 k ∧ Hid (Lk N ps t s k D) ∧ Hid (IOwn w3 (w.heap.size + 1) (.slice (some ⟨g, 0, none⟩) (N + 1) capg) D) ∧ Below (w.heap.size + 1) (w.alloc (.cells #[.int .i64 N, .slice A ps.length cap] 26)) w3) (fun i _ => ps.length - (intOf i).toNat)
          case atStart => exact ⟨0, D, Nat.zero_le _, rfl, hlk, hown, hb⟩
          case round =>
            clear hlv hown hb b0 b1 hlk
            obtain ⟨k, D, hk, rfl, hlk, hown, hb⟩ := hrel
            obtain ⟨b0, b1⟩ := box2 hb
            have hzl := box_lt hb
            by_cases hlt2 : k < ps.length
            · obtain ⟨bb, off, hA, hbl, h0, h1, h2, h3⟩ := HA.out.at_ hlt2
              subst hA
              have hbc : ∀ o, wr.cell? ⟨bb, o, none⟩ = w.cell? ⟨bb, o, none⟩ := fun o => (below_box hb).cell (p := ⟨bb, o, none⟩) hbl
              have p1 := (hbc _).trans h1
              have p2 := (hbc _).trans h2
              have hk0i : (0 : Int) ≤ (k : Int) := by omega
              have hk1i : (k : Int) < (ps.length : Int) := by omega
              have hmem : pAt ps k ∈ ps := by
                have e : pAt ps k = ps[k] := by simp [pAt, List.getD, hlt2]
                rw [e]; exact List.getElem_mem hlt2
              have hok := good_pp HG.out hmem
              unfold PpOk at hok
              obtain ⟨a, ha⟩ : ∃ a : Nat, (pAt ps k).fr = (a : Int) := ⟨(pAt ps k).fr.toNat, by omega⟩
              obtain ⟨b, hbb⟩ : ∃ b : Nat, (pAt ps k).to = (b : Int) := ⟨(pAt ps k).to.toNat, by omega⟩
              have HLK := Lib.hid (hlk.out.step HG.out hlt2 ha hbb)
              rw [ha] at p1
              rw [hbb] at p2
              have ha0 : (0 : Int) ≤ (a : Int) := by omega
              have haN : (a : Int) < (N : Int) + 1 := by omega
              have hb0 : (0 : Int) ≤ (b : Int) := by omega
              have hbN : (b : Int) < (N : Int) + 1 := by omega
              have hDl := hlk.out.lv.len
              have HNE := Lib.hid (show a ≠ b by omega)
              clear hok hmem hbc h0 h1 h2 h3 ha hbb
              have ca := hown.out.cell hDl (v := a) (by omega)
              have cb := hown.out.cell hDl (v := b) (by omega)
              have fa := hown.out.frozen hDl a
              have fb := hown.out.frozen hDl b
              have HSA := Lib.hid (hown.out.set hDl a ((s : Int) + 1))
              have HSB := Lib.hid (hown.out.set hDl b ((s : Int) + 1))
              have hgA : w.heap.size + 1 ≤ g := hgB
              have HDA := Lib.hid (show dA (D.set b ((s : Int) + 1)) b = (s : Int) + 1 from dA_set_same D b _ (by omega))
              have HDN := Lib.hid (show dA (D.set b ((s : Int) + 1)) a = dA D a from dA_set_ne D b a _ HNE.out)
              obtain ⟨x, hx⟩ : ∃ x, dA D a = x := ⟨_, rfl⟩
              obtain ⟨y, hy⟩ : ∃ y, dA D b = y := ⟨_, rfl⟩
              have HX := Lib.hid hx
              have HY := Lib.hid hy
              rw [hx] at ca
              rw [hy] at cb
              clear hx hy
              go_wp2
              go_quiet (fail)
              have HBA := Lib.hid ((below_drewN hb nq).setCell (p := ⟨g, a, none⟩) hgA (iv ((s : Int) + 1)))
              have HBB := Lib.hid ((below_drewN hb nq).setCell (p := ⟨g, b, none⟩) hgA (iv ((s : Int) + 1)))
              by_cases hxs : x = (s : Int)
              · have hE1 : (x == (s : Int)) = true := by simpa using hxs
                have hx0 : ¬ x < 0 := by omega
                by_cases hy0 : y < 0
                · have hys : ((s : Int) + 1 == (s : Int)) = false := beq_eq_false_iff_ne.2 (by omega)
                  have e : step1 (step1 D a b s) b a s = D.set b ((s : Int) + 1) := by
                    have n1 : dA D a = s ∧ dA D b < 0 := by rw [HX.out, HY.out]; exact ⟨hxs, hy0⟩
                    have n2 : ¬ (dA (D.set b ((s : Int) + 1)) b = s ∧ dA (D.set b ((s : Int) + 1)) a < 0) := by rw [HDA.out]; omega
                    rw [step1_yes n1, step1_no n2]
                  have HF := Lib.hid HLK.out
                  rw [e] at HF
                  clear hxs
                  go_wp2
                  go_roundw
                  case rel => exact ⟨k + 1, _, by omega, by go_num, HF, Lib.hid (show IOwn ((wr.drewN nq).setCell _ _) _ _ _ from HSB.out), HBB.out⟩
                  case measure => simp [intOf]; omega
                · have e : step1 (step1 D a b s) b a s = D := by
                    have n1 : ¬ (dA D a = s ∧ dA D b < 0) := by rw [HX.out, HY.out]; omega
                    have n2 : ¬ (dA D b = s ∧ dA D a < 0) := by rw [HX.out, HY.out]; omega
                    rw [step1_no n1, step1_no n2]
                  have HF := Lib.hid HLK.out
                  rw [e] at HF
                  by_cases hys : y = (s : Int)
                  · have hE2 : (y == (s : Int)) = true := by simpa using hys
                    clear hxs hys
                    go_wp2
                    go_roundw
                    case rel => exact ⟨k + 1, _, by omega, by go_num, HF, Lib.hid (show IOwn (wr.drewN nq) _ _ _ from hown.out), below_drewN hb nq⟩
                    case measure => simp [intOf]; omega
                  · have hE2 : (y == (s : Int)) = false := by simpa using hys
                    clear hxs hys
                    go_wp2
                    go_roundw
                    case rel => exact ⟨k + 1, _, by omega, by go_num, HF, Lib.hid (show IOwn (wr.drewN nq) _ _ _ from hown.out), below_drewN hb nq⟩
                    case measure => simp [intOf]; omega
              · have hE1 : (x == (s : Int)) = false := by simpa using hxs
                by_cases hys : y = (s : Int)
                · have hE2 : (y == (s : Int)) = true := by simpa using hys
                  by_cases hx0 : x < 0
                  · have e : step1 (step1 D a b s) b a s = D.set a ((s : Int) + 1) := by
                      have n1 : ¬ (dA D a = s ∧ dA D b < 0) := by rw [HX.out, HY.out]; omega
                      have n2 : dA D b = s ∧ dA D a < 0 := by rw [HX.out, HY.out]; omega
                      rw [step1_no n1, step1_yes n2]
                    have HF := Lib.hid HLK.out
                    rw [e] at HF
                    clear hxs hys
                    go_wp2
                    go_roundw
                    case rel => exact ⟨k + 1, _, by omega, by go_num, HF, Lib.hid (show IOwn ((wr.drewN nq).setCell _ _) _ _ _ from HSA.out), HBA.out⟩
                    case measure => simp [intOf]; omega
                  · have e : step1 (step1 D a b s) b a s = D := by
                      have n1 : ¬ (dA D a = s ∧ dA D b < 0) := by rw [HX.out, HY.out]; omega
                      have n2 : ¬ (dA D b = s ∧ dA D a < 0) := by rw [HX.out, HY.out]; omega
                      rw [step1_no n1, step1_no n2]
                    have HF := Lib.hid HLK.out
                    rw [e] at HF
                    clear hxs hys
                    go_wp2
                    go_roundw
                    case rel => exact ⟨k + 1, _, by omega, by go_num, HF, Lib.hid (show IOwn (wr.drewN nq) _ _ _ from hown.out), below_drewN hb nq⟩
                    case measure => simp [intOf]; omega
                · have hE2 : (y == (s : Int)) = false := by simpa using hys
                  have e : step1 (step1 D a b s) b a s = D := by
                    have n1 : ¬ (dA D a = s ∧ dA D b < 0) := by rw [HX.out, HY.out]; omega
                    have n2 : ¬ (dA D b = s ∧ dA D a < 0) := by rw [HX.out, HY.out]; omega
                    rw [step1_no n1, step1_no n2]
                  have HF := Lib.hid HLK.out
                  rw [e] at HF
                  clear hxs hys
                  go_wp2
                  go_roundw
                  case rel => exact ⟨k + 1, _, by omega, by go_num, HF, Lib.hid (show IOwn (wr.drewN nq) _ _ _ from hown.out), below_drewN hb nq⟩
                  case measure => simp [intOf]; omega
            · have hfin := Lib.hid (hlk.out.finish HG.out (by omega))
              go_wp2
              go_roundw
              case rel => exact ⟨s + 1, D, by omega, by go_num, hfin, hown, hb⟩
              case measure => simp [intOf]; omega
        · have hss : s = N := by omega
          subst hss
          have hfin := hlv.out.all HG.out
          subst hfin
          go_wp2
          go_ret
          have hlow : IOwn wr w.heap.size (.slice (some ⟨g, 0, none⟩) (s + 1) capg) (distL s ps t) := own_lower hown.out
          exact ⟨g, capg, rfl, by omega, hlow, below_box hb⟩
end Go.Proofs.Ytlkomipjamelkab.S2

namespace Go.Proofs.Ytlkomipjamelkab.S2
open Go.RowKit P2

theorem wo_mem {n : Int} {ps : List Pp} (hg : P2.Good n ps) {i : Nat} (hi : i < ps.length) {e : Pp} : e ∈ wo ps i ↔ e ∈ Wo ps (pAt ps i) := by
  rw [mem_Wo]
  have hid := good_ids hg
  constructor
  · intro h
    refine ⟨(wo_sub ps i).subset h, fun he => ?_⟩
    unfold wo at h
    rcases List.mem_append.1 h with h | h
    · obtain ⟨j, hj, hje⟩ := List.getElem_of_mem h
      rw [List.length_take] at hj
      have h2 : pAt ps j = e := by rw [List.getElem_take] at hje; simp [pAt, List.getD, show j < ps.length by omega, hje]
      have := hid j i (by omega) hi
      rw [h2, he] at this
      omega
    · obtain ⟨j, hj, hje⟩ := List.getElem_of_mem h
      rw [List.length_drop] at hj
      have h2 : pAt ps (i + 1 + j) = e := by rw [List.getElem_drop] at hje; simp [pAt, List.getD, show i + 1 + j < ps.length by omega, hje]
      have := hid i (i + 1 + j) (by omega) (by omega)
      rw [h2, he] at this
      omega
  · rintro ⟨h, hne⟩
    obtain ⟨j, hj, rfl⟩ := pp_at h
    unfold wo
    rw [List.mem_append]
    by_cases h1 : j < i
    · left
      have e1 : pAt ps j = (ps.take i)[j]'(by rw [List.length_take]; omega) := by rw [List.getElem_take]; simp [pAt, List.getD, hj]
      rw [e1]; exact List.getElem_mem _
    · have h2 : j ≠ i := fun e => hne (by rw [e])
      right
      have e1 : pAt ps j = (ps.drop (i + 1))[j - (i + 1)]'(by rw [List.length_drop]; omega) := by
        rw [List.getElem_drop]
        have : i + 1 + (j - (i + 1)) = j := by omega
        simp [pAt, List.getD, hj, this]
      rw [e1]; exact List.getElem_mem _
theorem wo_conn {n : Int} {ps : List Pp} (hg : P2.Good n ps) {i : Nat} (hi : i < ps.length) {a b : Int} : Conn (wo ps i) a b ↔ Conn (Wo ps (pAt ps i)) a b :=
  ⟨conn_mono fun _ h => (wo_mem hg hi).1 h, conn_mono fun _ h => (wo_mem hg hi).2 h⟩
theorem wet_has {N t : Nat} {ps : List Pp} (hg : P2.Good N ps) {i : Nat} (hi : i < ps.length) {v : Int} (h1 : 1 ≤ v) (h2 : v ≤ N) : hasB (conL N (wo ps i) t) v = !(dnB ps (pAt ps i) t v) := by
  unfold hasB
  cases e : dnB ps (pAt ps i) t v with
  | true =>
    rw [Bool.not_true]
    exact decide_eq_false fun h => dnB_true.1 e ((wo_conn hg hi).1 ((con_mem _ _ _ _).1 h).2.2)
  | false =>
    rw [Bool.not_false]
    refine decide_eq_true ((con_mem _ _ _ _).2 ⟨h1, h2, (wo_conn hg hi).2 (Classical.byContradiction fun h => ?_)⟩)
    rw [dnB_true.2 h] at e
    cases e
theorem dn_has {N : Nat} {ps : List Pp} {p : Pp} {s v : Int} (h1 : 1 ≤ v) (h2 : v ≤ N) : hasB (dnL N ps p s) v = dnB ps p s v := by
  unfold hasB
  cases e : dnB ps p s v with
  | true => exact decide_eq_true (dn_mem.2 ⟨⟨h1, h2⟩, dnB_true.1 e⟩)
  | false => exact decide_eq_false fun h => by rw [dnB_true.2 (dn_mem.1 h).2] at e; cases e
theorem dhas_v {l : List Int} {x : Int} {v : Bool} (hv : hasB l x = v) (A : Option Addr) (cap : Nat) (w : World) (h : IAt w A l) (hn : l.length ≤ 1048576) :
    Calls Try.prog 128 #[.slice A l.length cap, .int .i64 x] w fun e w' => e = .returned (.bool v) ∧ w' = w := by rw [← hv]; exact has_any A cap l x w h hn

set_option maxHeartbeats 4000000 in
set_option maxRecDepth 100000 in
theorem sdn_any (N t i : Nat) (A : Option Addr) (cap : Nat) (ps : List Pp) (w : World) (h : PAt w A ps) (hc : ps.length ≤ cap) (hg : P2.Good N ps) (ht1 : 1 ≤ t) (ht2 : t ≤ N) (hil : i < ps.length) :
    Calls Try.prog 127 #[nv N A ps.length cap, .int .i64 (t : Int), .int .i64 (i : Int)] w (GivesL w (dnL N ps (pAt ps i) t)) := by
  have hl10 := hg.2.2.1
  have hN : N ≤ 8 := by have := hg.2.1; omega
  have H1 := Lib.hid (fun w' (hb : Below w.heap.size w w') => sw_all N i cap A ps w' (h.kept hb (Nat.le_refl _)) hil hc hl10)
  have H2 := Lib.hid (fun A2 c w' (hp : PAt w' A2 (wo ps i)) => sreach_any N t A2 c (wo ps i) w' hp (good_sub hg (wo_sub ps i)) ht1 ht2)
  have HH := Lib.hid (fun (k : Nat) (hk : k < N) => wet_has (t := t) hg hil (v := (k : Int) + 1) (by omega) (by omega))
  have hcl := conL_len N (wo ps i) t
  have HL := Lib.hid (show dnL N ps (pAt ps i) t = dnTo ps (pAt ps i) t N from rfl)
  obtain ⟨i0, hi, hz0, hz1, hz2⟩ := info_parts infoI
  clear h hg hc
  generalize pAt ps i = p at *
  go_enter Try.func127, Try.ntmps127
  go_wp2_with (first
    | (go_at_call 99; refine (H1.out _ ((Below.refl _ _).alloc (Nat.le_refl _) _)).mono ?_; rintro e w1 ⟨A2, c2, rfl, hp2, hb1⟩; have HX1 := Lib.hid (show Below (w.heap.size + 1) (w.alloc (nb N A ps.length cap)) w1 by simpa using hb1); have HP2 := Lib.hid hp2; clear hb1 hp2)
    | (go_at_call 123; refine (H2.out _ _ _ HP2.out).mono ?_; rintro e w2 ⟨g, o, c, rfl, hg2, hla, hb2⟩; have HX2 := Lib.hid (on_call HX1.out hb2); have HLA := Lib.hid hla.iat; clear hb2 hla; refine Hid.out ?_))
  have hBX := HX2.out
  have hz2w := box_lt hBX
  have HB2 := Lib.hid (below_box hBX)
  obtain ⟨b0, b1⟩ := box2 hBX
  have HO0 := Lib.hid (own_empty w2 w2.heap.size (Nat.le_refl _))
  have HB0 := Lib.hid (show Below w2.heap.size w2 (w2.alloc (.cells #[] 3)) from (Below.refl _ _).alloc (Nat.le_refl _) _)
  clear H1 H2 HX1 HP2 hBX
  refine Lib.hid ?_
  go_wp2
  go_loopw [8, 9] (fun v i wr => ∃ k : Nat, k ≤ N ∧ i = .int .i64 ((k : Int) + 1) ∧ Hid (IOwn wr w2.heap.size v (dnTo ps p t k)) ∧ Hid (v ≠ .slice none 0 0) ∧ Hid (Below w2.heap.size w2 wr)) (fun _ i _ => N + 1 - (intOf i).toNat)
  case atStart => exact ⟨0, Nat.zero_le _, rfl, HO0, Lib.hid (by simp), HB0⟩
  case round =>
    clear HO0 HB0
    obtain ⟨k, hk, rfl, hown, hvn, hB⟩ := hrel
    have c0 := (hB.out.cell (p := ⟨w.heap.size, 0, none⟩) hz2w).trans b0
    have hzr : w.heap.size < wr.heap.size := by have := hB.out.size; omega
    by_cases hlt : k < N
    · have HW := Lib.hid (HLA.out.kept hB.out (Nat.le_refl _))
      have hhas := HH.out k hlt
      have hdl := dnTo_len ps p t k
      have hk0 : (k : Int) + 1 ≤ (N : Int) := by omega
      cases hd : dnB ps p t ((k : Int) + 1) with
      | false =>
        rw [hd, Bool.not_false] at hhas
        have HC := Lib.hid (fun w' h => dhas_v hhas (some ⟨g, o, none⟩) c w' h (by omega))
        have hs := Lib.hid (dnTo_no hd)
        rw [← hs.out] at hown
        clear hhas hd
        go_wp2_with (go_at_call 128; refine (HC.out _ HW.out).mono ?_; rintro e w4 ⟨rfl, hw⟩; replace hw := hw.symm; subst hw)
        go_roundw
        case rel => exact ⟨k + 1, by omega, by go_num, hown, hvn, hB⟩
        case measure => simp [intOf]; omega
      | true =>
        rw [hd, Bool.not_true] at hhas
        have HC := Lib.hid (fun w' h => dhas_v hhas (some ⟨g, o, none⟩) c w' h (by omega))
        have hs := Lib.hid (dnTo_yes hd)
        have ho := hown.out
        unfold IOwn at ho
        clear hhas hd
        go_wp2_with (first
          | (go_at_call 128; refine (HC.out _ HW.out).mono ?_; rintro e w4 ⟨rfl, hw⟩; replace hw := hw.symm; subst hw)
          | (at_builtin; go_must (refine wpList_append_own _ rfl _ _ 27 rfl w2.heap.size 3 i0 (.int .i64 0) 1 8 Try.underlying27 hi hz0 hz1 hz2 rfl (by decide) _ _ _ rfl (ho.alloc _) ⟨wr.heap.size, 0, none⟩ 1 1 [iv ((k : Int) + 1)] rfl rfl (cell_one_new _ _ _) (by intro u hu; simp at hu; subst hu; rfl) (by unfold maxLen; omega) (by omega) (by have := hB.out.size; simp; omega) ?_); intro v' w7 hown' hgrow hnil))
        have hown3 := Lib.hid (IOwn.push hown')
        rw [← hs.out] at hown3
        have hB7 := Lib.hid ((hB.out.alloc hB.out.size (.cells #[iv ((k : Int) + 1)] 3)).grown hgrow (by have := hB.out.size; simp; omega) (fun g hg => (ho.lt g hg).1))
        have hnil3 := Lib.hid (show v' ≠ .slice none 0 0 from fun e => by simp [e] at hnil)
        clear hown' hgrow hnil ho
        go_wp2
        go_roundw
        case rel => exact ⟨k + 1, by omega, by go_num, hown3, hnil3, hB7⟩
        case measure => simp [intOf]; omega
    · have hkN : k = N := by omega
      have hown2 := hown.out
      rw [hkN, ← HL.out] at hown2
      obtain ⟨g', capg, rfl, hg'⟩ := own_slice hown2 hvn.out
      have HO := Lib.hid hown2
      have hkn : ¬ (k : Int) + 1 ≤ (N : Int) := by omega
      clear hkN hown2
      go_wp2
      go_ret
      exact ⟨g', capg, rfl, by omega, own_lower HO.out, HB2.out.trans (hB.out.mono HB2.out.size)⟩

set_option maxHeartbeats 4000000 in
set_option maxRecDepth 100000 in
theorem stf_any (N t : Nat) (A : Option Addr) (cap : Nat) (ps : List Pp) (AD : Option Addr) (dc : Nat) (dm : List Int) (w : World) (h : PAt w A ps) (hc : ps.length ≤ cap) (hd : IAt w AD dm) (hg : P2.Good N ps) (ht1 : 1 ≤ t) (ht2 : t ≤ N) (hr : allR 0 1000 dm = true) (hdn : (dm.length : Int) = N) :
    Calls Try.prog 64 #[nv N A ps.length cap, .int .i64 (t : Int), .slice AD dm.length dc] w (GivesL w (tfL N ps t dm)) := by
  have hl10 := hg.2.2.1
  have hN : N ≤ 8 := by have := hg.2.1; omega
  have H := Lib.hid (fun (i : Nat) (hi : i < ps.length) w' (hb : Below w.heap.size w w') => sdn_any N t i A cap ps w' (h.kept hb (Nat.le_refl _)) hc hg ht1 ht2 hi)
  have HA := Lib.hid (fun w' (hb : Below w.heap.size w w') => h.kept hb (Nat.le_refl _))
  have HI := Lib.hid (fun w' (hb : Below w.heap.size w w') => hd.kept hb (Nat.le_refl _))
  have HTK := Lib.hid (fun (l : List Int) (hmm : ∀ v, v ∈ l → 1 ≤ v ∧ v ≤ (N : Int)) (hl : l.length ≤ 8) k (hk : k ≤ l.length) => sumT_in hr (by omega) hmm hl hk)
  have HG := Lib.hid (fun k (hk : k < ps.length) => good_pp hg (pAt_mem hk))
  have HL := Lib.hid (show tfL N ps t dm = tfTo N ps t dm ps.length from rfl)
  have HDL := Lib.hid hdn
  have HTL := Lib.hid (tfTo_len N ps t dm)
  have HTS := Lib.hid (tfTo_snoc N ps t dm)
  obtain ⟨i0, hi, hz0, hz1, hz2⟩ := info_parts infoI
  have HO0 := Lib.hid (show IOwn ((w.alloc (nb N A ps.length cap)).alloc (.cells #[] 3)) (w.heap.size + 1) (.slice (some ⟨w.heap.size + 1, 0, none⟩) 0 0) [] from by
    have := own_empty (w.alloc (nb N A ps.length cap)) (w.heap.size + 1) (by simp)
    simpa using this)
  have HB0 := Lib.hid (show Below (w.heap.size + 1) (w.alloc (nb N A ps.length cap)) ((w.alloc (nb N A ps.length cap)).alloc (.cells #[] 3)) from (Below.refl _ _).alloc (by simp) _)
  clear h hd hr hg hdn hc
  go_enter Try.func64, Try.ntmps64
  go_wp2
  go_loopw [7, 8] (fun v i wr => ∃ k : Nat, k ≤ ps.length ∧ i = .int .i64 (k : Int) ∧ Hid (IOwn wr (w.heap.size + 1) v (tfTo N ps t dm k)) ∧ Hid (v ≠ .slice none 0 0) ∧ Hid (Below (w.heap.size + 1) (w.alloc (nb N A ps.length cap)) wr)) (fun _ i _ => ps.length - (intOf i).toNat)
  case atStart => exact ⟨0, Nat.zero_le _, rfl, HO0, Lib.hid (by simp), HB0⟩
  case round =>
    clear HO0 HB0
    obtain ⟨k, hk, rfl, hown, hvn, hX⟩ := hrel
    obtain ⟨c0, c1⟩ := box2 hX.out
    have hzr := box_lt hX.out
    have hB := Lib.hid (below_box hX.out)
    by_cases hlt : k < ps.length
    · have hk0 : (0 : Int) ≤ (k : Int) := by omega
      have hkn : (k : Int) < (ps.length : Int) := by omega
      have hgp := HG.out k hlt
      have hdl := dn_len N ps (pAt ps k) t
      have HDM := Lib.hid (fun v (h : v ∈ dnL N ps (pAt ps k) t) => (dn_mem.1 h).1)
      have hhas := dn_has (N := N) (ps := ps) (p := pAt ps k) (s := t) (v := (pAt ps k).fr) hgp.2.2.1 hgp.2.2.2.1
      have HFA := Lib.hid (show flowA N ps t dm k = if dnB ps (pAt ps k) t (pAt ps k).fr = true then -(sumG (tk dm) (dnL N ps (pAt ps k) t)) else sumG (tk dm) (dnL N ps (pAt ps k) t) from rfl)
      have HLM := Lib.hid (fun j (hj : j < (dnL N ps (pAt ps k) t).length) => (show 1 ≤ lA (dnL N ps (pAt ps k) t) j ∧ lA (dnL N ps (pAt ps k) t) j ≤ (N : Int) from HDM.out _ (by
        have e : lA (dnL N ps (pAt ps k) t) j = (dnL N ps (pAt ps k) t)[j] := by simp [lA, List.getD, hj]
        rw [e]; exact List.getElem_mem hj)))
      have HSK := Lib.hid (fun j (hj : j ≤ (dnL N ps (pAt ps k) t).length) => HTK.out _ HDM.out (by omega) j hj)
      have hsum := sumG_all (tk dm) (dnL N ps (pAt ps k) t)
      rw [← hsum] at HFA
      obtain ⟨b, off, hA, hbl, p0, p1, p2, p3⟩ := (HA.out _ hB.out).at_ hlt
      subst hA
      have HK := Lib.hid (H.out k hlt _ hB.out)
      obtain ⟨F, hF⟩ : ∃ F, flowA N ps t dm k = F := ⟨_, rfl⟩
      rw [hF] at HFA
      have hsn := HTS.out k
      rw [hF] at hsn
      have HSN := Lib.hid hsn
      have hdlen := HTL.out k
      clear hsn hF hsum HDM hgp
      generalize dnB ps (pAt ps k) t (pAt ps k).fr = db at *
      generalize dnL N ps (pAt ps k) t = l at *
      generalize pAt ps k = p at *
      obtain ⟨SM, hSM⟩ : ∃ SM, SM = (fun j => sumK (fun i => tk dm (lA l i)) j) := ⟨_, rfl⟩
      have HSM0 := Lib.hid (fun j => (congrFun hSM j).symm)
      have HSM1 := Lib.hid (fun j => show SM (j + 1) = SM j + tk dm (lA l j) by rw [hSM]; rfl)
      clear hSM
      rw [HSM0.out l.length] at HFA
      have HSK2 := Lib.hid (fun j (hj : j ≤ l.length) => (show 0 ≤ SM j ∧ SM j ≤ 8000 by have := HSK.out j hj; rw [HSM0.out j] at this; exact this))
      have HSZ := Lib.hid (show SM 0 = 0 by rw [← HSM0.out 0]; rfl)
      clear HSM0 HSK
      go_wp2_with (go_at_call 127; refine HK.out.mono ?_; rintro e w3 ⟨gD, cD, rfl, hgD, hOD, hb3⟩; refine Hid.out ?_)
      have hX3 := Lib.hid (on_call hX.out hb3)
      have hB3 := Lib.hid (below_box hX3.out)
      have HD3 := Lib.hid hOD.iat
      have hO3 := Lib.hid (hown.out.on hb3)
      have r1 := (hb3.cell (p := ⟨b, off + k * 4 + 1, none⟩) hbl).trans p1
      have hbl3 : b < w3.heap.size := by have := hb3.size; omega
      clear c0 c1 hzr p0 p1 p2 p3 hbl hb3 hOD
      obtain ⟨c0, c1⟩ := box2 hX3.out
      have hzr := box_lt hX3.out
      refine Lib.hid ?_
      go_wp2
      go_loop [10, 11] (fun s i => ∃ j : Nat, j ≤ l.length ∧ i = .int .i64 (j : Int) ∧ s = .int .i64 (SM j)) (fun _ i => l.length - (intOf i).toNat)
      case atStart => exact ⟨0, Nat.zero_le _, rfl, by rw [HSZ.out]⟩
      case round =>
        obtain ⟨j, hj, rfl, rfl⟩ := hrel
        by_cases hjl : j < l.length
        · obtain ⟨v1, v2⟩ := HLM.out j hjl
          obtain ⟨u, hu⟩ : ∃ u : Nat, lA l j = (u : Int) + 1 := ⟨(lA l j - 1).toNat, by omega⟩
          have hud : u < dm.length := by have := HDL.out; omega
          obtain ⟨bb, of2, hA2, hbl2, x0⟩ := (HI.out _ hB3.out).at_ hud
          subst hA2
          obtain ⟨bN, oN, hAN, hblN, x1⟩ := HD3.out.at_ hjl
          simp only [Option.some.injEq, Addr.mk.injEq, and_true] at hAN
          obtain ⟨rfl, rfl⟩ := hAN
          rw [Nat.zero_add] at x1
          have hla : l.getD j 0 = lA l j := rfl
          rw [hla, hu] at x1
          have hs0 := HSK2.out j (by omega)
          have hs1 := HSK2.out (j + 1) hjl
          have hsn := HSM1.out j
          have htk : tk dm (lA l j) = dm.getD u 0 := by unfold tk; rw [hu, Int.add_sub_cancel, Int.toNat_natCast]
          rw [htk] at hsn
          have HSN2 := Lib.hid hsn
          rw [hsn] at hs1
          have hj0 : (0 : Int) ≤ (j : Int) := by omega
          have hjn : (j : Int) < (l.length : Int) := by omega
          have hu0 : (0 : Int) ≤ (u : Int) := by omega
          have hun : (u : Int) < (dm.length : Int) := by omega
          clear hsn htk hla hu v1 v2
          generalize dm.getD u 0 = x at *
          generalize SM j = s at *
          have wS : IntKind.i64.wrap (s + x) = s + x := w64 _ (by omega)
          have hu9 : (u : Int) < 9 := by have := HDL.out; omega
          have wU : IntKind.i64.wrap ((u : Int) + 1 - 1) = (u : Int) := by rw [w64 _ (by omega)]; omega
          have wU2 : IntKind.i64.wrap (u : Int) = (u : Int) := w64 _ (by omega)
          go_wp2
          go_round
          case rel => exact ⟨j + 1, by omega, by go_num, by rw [HSN2.out]⟩
          case measure => simp [intOf]; omega
        · have ej : j = l.length := by omega
          subst ej
          have HC := Lib.hid (fun w' h => dhas_v hhas (some ⟨gD, 0, none⟩) cD w' h (by omega))
          have hs0 := HSK2.out l.length (Nat.le_refl _)
          have ho := hO3.out
          unfold IOwn at ho
          have hz3 := hX3.out.size
          simp at hz3
          cases db with
          | true =>
            have hF : F = -(SM l.length) := by rw [HFA.out, if_pos rfl]
            have HFF := Lib.hid hF
            clear hF hhas
            generalize SM l.length = s at *
            go_wp2_with (first
              | (go_at_call 128; refine (HC.out _ HD3.out).mono ?_; rintro e w4 ⟨rfl, hw⟩; replace hw := hw.symm; subst hw)
              | (at_builtin; go_must (refine wpList_append_own _ rfl _ _ 27 rfl (w.heap.size + 1) 3 i0 (.int .i64 0) 1 8 Try.underlying27 hi hz0 hz1 hz2 rfl (by decide) _ _ _ rfl (ho.alloc _) ⟨w3.heap.size, 0, none⟩ 1 1 [iv (-s)] rfl rfl (cell_one_new _ _ _) (by intro u hu; simp at hu; subst hu; rfl) (by unfold maxLen; omega) (by omega) (by simp; omega) ?_); intro v' w7 hown' hgrow hnil))
            have hown3 := Lib.hid (IOwn.push hown')
            rw [← HFF.out, ← HSN.out] at hown3
            have hX7 := Lib.hid ((hX3.out.alloc (by omega) (.cells #[iv (-s)] 3)).grown hgrow (by simp; omega) (fun g hg => (ho.lt g hg).1))
            have hnil3 := Lib.hid (show v' ≠ .slice none 0 0 from fun e => by simp [e] at hnil)
            clear hown' hgrow hnil ho
            go_wp2
            go_roundw
            case rel => exact ⟨k + 1, by omega, by go_num, hown3, hnil3, hX7⟩
            case measure => simp [intOf]; omega
          | false =>
            have hF : F = SM l.length := by rw [HFA.out, if_neg (by simp)]
            have HFF := Lib.hid hF
            clear hF hhas
            generalize SM l.length = s at *
            go_wp2_with (first
              | (go_at_call 128; refine (HC.out _ HD3.out).mono ?_; rintro e w4 ⟨rfl, hw⟩; replace hw := hw.symm; subst hw)
              | (at_builtin; go_must (refine wpList_append_own _ rfl _ _ 27 rfl (w.heap.size + 1) 3 i0 (.int .i64 0) 1 8 Try.underlying27 hi hz0 hz1 hz2 rfl (by decide) _ _ _ rfl (ho.alloc _) ⟨w3.heap.size, 0, none⟩ 1 1 [iv s] rfl rfl (cell_one_new _ _ _) (by intro u hu; simp at hu; subst hu; rfl) (by unfold maxLen; omega) (by omega) (by simp; omega) ?_); intro v' w7 hown' hgrow hnil))
            have hown3 := Lib.hid (IOwn.push hown')
            rw [← HFF.out, ← HSN.out] at hown3
            have hX7 := Lib.hid ((hX3.out.alloc (by omega) (.cells #[iv s] 3)).grown hgrow (by simp; omega) (fun g hg => (ho.lt g hg).1))
            have hnil3 := Lib.hid (show v' ≠ .slice none 0 0 from fun e => by simp [e] at hnil)
            clear hown' hgrow hnil ho
            go_wp2
            go_roundw
            case rel => exact ⟨k + 1, by omega, by go_num, hown3, hnil3, hX7⟩
            case measure => simp [intOf]; omega
    · have hkN : k = ps.length := by omega
      have hown2 := hown.out
      rw [hkN, ← HL.out] at hown2
      obtain ⟨g', capg, rfl, hg'⟩ := own_slice hown2 hvn.out
      have HO := Lib.hid hown2
      clear hkN hown2
      go_wp2
      go_ret
      exact ⟨g', capg, rfl, by omega, own_lower HO.out, hB.out⟩
end Go.Proofs.Ytlkomipjamelkab.S2

namespace Go.Proofs.Ytlkomipjamelkab.S2
open Go.RowKit Go.Sort P2

/-- A drawn network: its nodes' number, its pipes in a row that the draw made. -/
structure DNet (B : Nat) (w : World) (N : Int) (A : Option Addr) (c : Nat) (ps : List Pp) : Prop where
  n0 : 0 ≤ N
  n9 : N ≤ 9
  len : ps.length ≤ 12
  cap : ps.length ≤ c
  own : w.ownsRow B 40 4 (.slice A ps.length c) ps.length (pcs ps)
theorem DNet.pat {B : Nat} {w : World} {N : Int} {A : Option Addr} {c : Nat} {ps : List Pp} (h : DNet B w N A c ps) : PAt w A ps := own_patP h.own
theorem DNet.low {B B' : Nat} {w : World} {N : Int} {A : Option Addr} {c : Nat} {ps : List Pp} (h : DNet B w N A c ps) (hB : B' ≤ B) : DNet B' w N A c ps := ⟨h.n0, h.n9, h.len, h.cap, ownP_lower h.own hB⟩
theorem DNet.on {B : Nat} {w w' : World} {N : Int} {A : Option Addr} {c : Nat} {ps : List Pp} (h : DNet B w N A c ps) (hb : Below w.heap.size w w') : DNet B w' N A c ps := ⟨h.n0, h.n9, h.len, h.cap, own_onP h.own hb⟩
theorem DNet.grown {B g : Nat} {w w' : World} {N : Int} {A : Option Addr} {c : Nat} {ps : List Pp} (h : DNet B w N A c ps) (hg : w.grownBy w' (some g)) (hB : g < B) : DNet B w' N A c ps :=
  ⟨h.n0, h.n9, h.len, h.cap, World.ownsRow.kept h.own hg (.inr (fun e => by have := (h.own.lt g e).1; omega))⟩
theorem DNet.set {B : Nat} {w : World} {N : Int} {A : Option Addr} {c : Nat} {ps : List Pp} (h : DNet B w N A c ps) (b i : Nat) (u : Value) (hb : b < B) : DNet B (w.setCell ⟨b, i, none⟩ u) N A c ps :=
  ⟨h.n0, h.n9, h.len, h.cap, ownsRow_setCell_other h.own (a := ⟨b, i, none⟩) (fun e => by have := (h.own.lt b e).1; omega) u⟩
theorem DNet.of {B g : Nat} {a : Option Addr} {n cap K : Nat} {w w' : World} {e : Ending} (h : NetPost B g a n cap K 12 w e w') : ∃ N A c ps, e = .returned (nv N A ps.length c) ∧ DNet w.heap.size w' N A c ps ∧ S1.St B g a n cap K w' ∧ w.grownBy w' (some g) := by
  obtain ⟨N, v, ps, he, hN, hpl, ho, hs, hg⟩ := h
  obtain ⟨A, c, rfl⟩ := ownP_slice ho
  refine ⟨N, A, c, ps, he, ⟨hN.1, hN.2, hpl, ?_, ho⟩, hs, hg⟩
  rcases ho.2 with ⟨hv, hn⟩ | ⟨g', c', cur, hv, _, _, hle, _, _⟩
  · rw [hn]; exact Nat.zero_le _
  · injection hv with _ _ h3
    rw [h3]; exact hle
/-- The cursor made, behind the result's box. -/
theorem cur_start {a : Option Addr} {n : Nat} (cap : Nat) {w : World} (o : Obj) (h : S1.Cd w.heap.size a n w) (hn : n ≤ 65536) : S1.St (w.heap.size + 1) (w.heap.size + 1) a n cap 0 ((w.alloc o).alloc (.cells #[.slice a n cap, .int .i64 0, .int .u64 0] 76)) := by
  have := S1.st_start cap (h.later (alloc_below w o) (Nat.le_refl _)) hn
  rw [size_alloc] at this
  exact this
theorem below2 {w w1 : World} {o1 o2 : Obj} {g : Nat} (hg : ((w.alloc o1).alloc o2).grownBy w1 (some g)) (hgw : w.heap.size < g) : Below w.heap.size w w1 :=
  (((Below.refl _ _).alloc (Nat.le_refl _) o1).alloc (by simp) o2).trans (S1.grown_below hg (by omega) (by simp; omega))

end Go.Proofs.Ytlkomipjamelkab.S2

namespace Go.Proofs.Ytlkomipjamelkab.S2
open Go.RowKit Go.Sort P2

/-- A list of numbers under way: the cursor, what has changed, the list in a row of its own, the network's box. -/
structure LI (w wr : World) (B g : Nat) (a : Option Addr) (n cap K : Nat) (N : Int) (u : Value) (v : Value) (l : List Int) : Prop where
  st : S1.St B g a n cap K wr
  gr : w.grownBy wr (some g)
  own : IOwn wr (w.heap.size + 1) v l
  box : TN wr w.heap.size (.int .i64 N) u
  gw : g < w.heap.size
theorem LI.alloc {w wr : World} {B g : Nat} {a : Option Addr} {n cap K : Nat} {N : Int} {u v : Value} {l : List Int} (h : LI w wr B g a n cap K N u v l) (ob : Obj) : LI w (wr.alloc ob) B g a n cap K N u v l :=
  ⟨S1.st_new h.st _, S1.grown_new h.gr _, h.own.alloc _, h.box.below (alloc_below _ _), h.gw⟩
theorem LI.call {w wr w2 : World} {B g : Nat} {a : Option Addr} {n cap K K' : Nat} {N : Int} {u v : Value} {l : List Int} (h : LI w wr B g a n cap K N u v l) (hs : S1.St B g a n cap K' w2) (hg : wr.grownBy w2 (some g)) : LI w w2 B g a n cap K' N u v l :=
  ⟨hs, S1.grown_trans h.gr hg, World.ownsRow.kept h.own hg (.inr (fun e => by have := (World.ownsRow.lt h.own g e).1; have := h.gw; omega)), h.box.grown hg (by have := h.gw; omega), h.gw⟩
theorem LI.more {w wr : World} {B g : Nat} {a : Option Addr} {n cap K K' : Nat} {N : Int} {u v : Value} {l : List Int} (h : LI w wr B g a n cap K N u v l) (hK : K ≤ K') : LI w wr B g a n cap K' N u v l := ⟨h.st.more hK, h.gr, h.own, h.box, h.gw⟩
theorem LI.push {w wr w2 : World} {B g q cc : Nat} {a : Option Addr} {n cap K : Nat} {N x : Int} {u v' : Value} {l : List Int} (h : LI w wr B g a n cap K N u (.slice (some ⟨q, 0, none⟩) l.length cc) l) (hg : wr.grownBy w2 (some q)) (ho : w2.ownsRow (w.heap.size + 1) 3 1 v' (l.length + 1) (l.map iv ++ [iv x])) : LI w w2 B g a n cap K N u v' (l ++ [x]) := by
  have hq := World.ownsRow.lt h.own q rfl
  have hgw := h.gw
  exact ⟨st_row h.st hg (by omega), grown_row h.gr hg (by omega), IOwn.push ho, h.box.grown hg (by omega), h.gw⟩
theorem LI.set {w wr : World} {B g q cc : Nat} {a : Option Addr} {n cap K : Nat} {N : Int} {u : Value} {l : List Int} (h : LI w wr B g a n cap K N u (.slice (some ⟨q, 0, none⟩) l.length cc) l) (k : Nat) (x : Int) : LI w (wr.setCell ⟨q, k, none⟩ (iv x)) B g a n cap K N u (.slice (some ⟨q, 0, none⟩) (l.set k x).length cc) (l.set k x) := by
  have hq := World.ownsRow.lt h.own q rfl
  have hgw := h.gw
  have hbg := h.st.bg
  have ho := IOwn.set h.own rfl k x
  refine ⟨S1.st_far h.st (by omega) (by omega), S1.grown_setnew h.gr (by omega), ?_, h.box.other _ (by show w.heap.size ≠ q; omega), h.gw⟩
  simpa using ho
/-- What a drawn list is. -/
def LPost (B g : Nat) (a : Option Addr) (n cap K m : Nat) (w : World) (e : Ending) (w' : World) : Prop :=
  ∃ (q cc : Nat) (l : List Int), e = .returned (.slice (some ⟨q, 0, none⟩) l.length cc) ∧ l.length ≤ m ∧ IOwn w' (w.heap.size + 1) (.slice (some ⟨q, 0, none⟩) l.length cc) l ∧ S1.St B g a n cap K w' ∧ w.grownBy w' (some g)
theorem LI.post {w wr : World} {B g q cc k m K' : Nat} {a : Option Addr} {n cap K : Nat} {N : Int} {u : Value} {l : List Int} (h : LI w wr B g a n cap K N u (.slice (some ⟨q, 0, none⟩) l.length cc) l) (hl : l.length = k) (hm : k ≤ m) (hK : K ≤ K') : LPost B g a n cap K' m w (.returned (.slice (some ⟨q, 0, none⟩) k cc)) wr := by
  subst hl
  exact ⟨q, cc, l, rfl, hm, h.own, h.st.more hK, h.gr⟩

set_option maxHeartbeats 4000000 in
set_option maxRecDepth 100000 in
theorem demands_draw (B g : Nat) (a : Option Addr) (n cap K : Nat) (N : Int) (A : Option Addr) (len c : Nat) (w : World) (hK : K ≤ 800000) (hN9 : N ≤ 9) (h : S1.St B g a n cap K w) (hgw : g < w.heap.size) :
    Calls Try.prog 56 #[.pointer (some ⟨g, 0, none⟩), nv N A len c] w (LPost B g a n cap (K + 100) 10 w) := by
  have hBg := h.bg
  obtain ⟨i0, hi, hz0, hz1, hz2⟩ := info_parts infoI
  have HL0 := Lib.hid (show LI w ((w.alloc (nb N A len c)).alloc (.cells #[] 3)) B g a n cap K N (.slice A len c) (.slice (some ⟨w.heap.size + 1, 0, none⟩) 0 0) [] from by
    have h1 := own_empty (w.alloc (nb N A len c)) (w.heap.size + 1) (by simp)
    rw [size_alloc] at h1
    exact ⟨S1.st_new (S1.st_new h _) _, S1.grown_new (World.grownBy_alloc w _ (some g)) _, h1, (TN.made w _ _).below (alloc_below _ _), hgw⟩)
  clear h
  go_enter Try.func56, Try.ntmps56
  refine Hid.out ?_
  refine Lib.hid ?_
  go_wp2_with fail
  go_loopw [5, 6] (fun v nd wr => ∃ (k q cc : Nat) (l : List Int), nd = .int .i64 (1 + (k : Int)) ∧ k ≤ 9 ∧ l.length = k ∧ v = .slice (some ⟨q, 0, none⟩) k cc ∧ Hid (LI w wr B g a n cap (K + 2 * k) N (.slice A len c) (.slice (some ⟨q, 0, none⟩) l.length cc) l)) (fun _ nd _ => (12 - intOf nd).toNat)
  case atStart => exact ⟨0, w.heap.size + 1, 0, [], rfl, by omega, rfl, rfl, HL0⟩
  case round =>
    clear HL0
    obtain ⟨k, q, cc, l, rfl, hk9, hlk, rfl, HL⟩ := hrel
    obtain ⟨wo, hwo⟩ : ∃ wo, wo = wr := ⟨_, rfl⟩
    subst hwo
    obtain ⟨c0, c1⟩ := HL.out.box.cell
    have hbz := HL.out.box.lt
    have HLK := Lib.hid hlk
    clear hlk
    by_cases hlt : 1 + (k : Int) ≤ N
    · have hle : decide (1 + (k : Int) ≤ N) = true := decide_eq_true hlt
      have hk8 : k ≤ 8 := by omega
      have wk : IntKind.i64.wrap (1 + (k : Int) + 1) = 1 + (k : Int) + 1 := IntWalk.i64_in _ (by omega)
      have HQ := Lib.hid (World.ownsRow.lt HL.out.own q rfl)
      clear hlt
      refine Hid.out ?_
      refine Lib.hid ?_
      go_wp2_with (first
        | (go_at_call 110; refine (S1.among_any B g a n cap (K + 2 * k) wo.heap.size 7 7 [0, 1, 2, 5, 10, 30, 1000] _ rfl (by omega) (by simp) (by simp) (HL.out.alloc (.cells #[.int .i64 0, .int .i64 1, .int .i64 2, .int .i64 5, .int .i64 10, .int .i64 30, .int .i64 1000] 3)).st (fun j hj => S1.ti_new wo [0, 1, 2, 5, 10, 30, 1000] 3 j hj) (by omega)).mono ?_; rintro e w5 ⟨⟨z, rfl⟩, hs, hg⟩; refine Hid.out ?_)
        | fail)
      have HL5 := Lib.hid ((HL.out.alloc (.cells #[.int .i64 0, .int .i64 1, .int .i64 2, .int .i64 5, .int .i64 10, .int .i64 30, .int .i64 1000] 3)).call hs hg)
      have ho := HL5.out.own
      rw [HLK.out] at ho
      have hgz := HL5.out.gr.size
      clear hs hg c0 c1
      obtain ⟨d0, d1⟩ := HL5.out.box.cell
      have hdz := HL5.out.box.lt
      refine Lib.hid ?_
      go_wp2_with (first
        | (at_builtin; go_must (refine wpList_append_own _ rfl _ _ 27 rfl (w.heap.size + 1) 3 i0 (.int .i64 0) 1 8 Try.underlying27 hi hz0 hz1 hz2 rfl (by decide) _ _ _ rfl (ho.alloc _) ⟨w5.heap.size, 0, none⟩ 1 1 [iv z] rfl rfl (cell_one_new _ _ _) (by intro u hu; simp at hu; subst hu; rfl) (by have := HLK.out; unfold maxLen; omega) (by have := HLK.out; omega) (by have := HLK.out; simp; omega) ?_); intro v' w7 hown' hgrow hnil)
        | fail)
      have hg7 : (w5.alloc (.cells #[iv z] 3)).grownBy w7 (some q) := hgrow
      obtain ⟨q2, cc2, hv2, -⟩ := World.ownsRow.form hown' (by omega)
      subst hv2
      have HL7 := Lib.hid ((HL5.out.alloc (.cells #[iv z] 3)).push hg7 hown')
      clear hown' hgrow hnil ho HL5 hg7
      refine ⟨⟨k + 1, q2, cc2, l ++ [z], by go_num, by omega, by simp [HLK.out], by rw [HLK.out], Lib.hid ?_⟩, by simp [intOf]; omega⟩
      have hx := HL7.out
      have hlen : (l ++ [z]).length = l.length + 1 := by simp
      rw [hlen]
      exact hx.more (by omega)
    · have hle : decide (1 + (k : Int) ≤ N) = false := decide_eq_false hlt
      clear hlt
      refine Hid.out ?_
      refine Lib.hid ?_
      go_wp2_with fail
      case isTrue hk0 K0 aK0 =>
        go_wp2_with (first | (go_at_call 118; refine (S1.one_any B g a n cap (K + 2 * k) 20 _ (by omega) (by omega) (by omega) HL.out.st).mono ?_; rintro e w5 ⟨b5, rfl, hs, hg⟩; refine Hid.out ?_) | fail)
        have HL5 := Lib.hid (HL.out.call hs hg)
        clear hs hg
        cases b5 with
        | false =>
          refine Lib.hid ?_
          go_wp2_with (first | (go_at_call 118; refine (S1.one_any B g a n cap (K + 2 * k + 2) 24 _ (by omega) (by omega) (by omega) HL5.out.st).mono ?_; rintro e wt ⟨bt, rfl, hs, hg⟩; refine Hid.out ?_) | fail)
          have HLt := Lib.hid (HL5.out.call hs hg)
          clear hs hg
          cases bt with
          | false =>
            refine Lib.hid ?_
            go_wp2_with fail
            have hy := HLt.out.post HLK.out (m := 10) (K' := K + 100) (by omega) (by omega)
            go_ret
            exact hy
          | true =>
            have ho := HLt.out.own
            rw [HLK.out] at ho
            have hgz := HLt.out.gr.size
            refine Lib.hid ?_
            go_wp2_with (first
              | (at_builtin; go_must (refine wpList_append_own _ rfl _ _ 27 rfl (w.heap.size + 1) 3 i0 (.int .i64 0) 1 8 Try.underlying27 hi hz0 hz1 hz2 rfl (by decide) _ _ _ rfl (ho.alloc _) ⟨wt.heap.size, 0, none⟩ 1 1 [iv 1] rfl rfl (cell_one_new _ _ _) (by intro u hu; simp at hu; subst hu; rfl) (by have := HLK.out; unfold maxLen; omega) (by have := HLK.out; omega) (by have := HLK.out; simp; omega) ?_); intro v' w9 hown' hgrow hnil)
              | fail)
            have hg9 : (wt.alloc (.cells #[iv 1] 3)).grownBy w9 (some q) := hgrow
            obtain ⟨q2, cc2, hv2, -⟩ := World.ownsRow.form hown' (by omega)
            subst hv2
            have HL9 := Lib.hid ((HLt.out.alloc (.cells #[iv 1] 3)).push hg9 hown')
            clear hown' hgrow hnil ho HLt hg9
            have hlen : (l ++ [1]).length = l.length + 1 := by simp
            have hx := HL9.out
            rw [← hlen] at hx
            have hy := hx.post hlen (m := 10) (K' := K + 100) (by have := HLK.out; omega) (by omega)
            clear hx HL9
            go_wp2_with fail
            go_ret
            exact hy
        | true =>
          refine Lib.hid ?_
          go_wp2_with (first
            | (go_at_call 109; refine (S1.pick_any B g a n cap (K + 2 * k + 2) (k : Int) _ (by omega) (by omega) (by omega) HL5.out.st).mono ?_; rintro e w6 ⟨r, rfl, hr0, hr1, hs, hg⟩; refine Hid.out ?_)
            | fail)
          have HL6 := Lib.hid (HL5.out.call hs hg)
          clear hs hg
          refine Lib.hid ?_
          go_wp2_with (first
            | (go_at_call 110; refine (S1.among_any B g a n cap (K + 2 * k + 4) w6.heap.size 2 2 [-1, 1001] _ rfl (by omega) (by simp) (by simp) (HL6.out.alloc (.cells #[.int .i64 (-1), .int .i64 1001] 3)).st (fun j hj => S1.ti_new w6 [-1, 1001] 3 j hj) (by have := HL6.out.gr.size; omega)).mono ?_; rintro e w7 ⟨⟨z, rfl⟩, hs, hg⟩; refine Hid.out ?_)
            | fail)
          have HL7 := Lib.hid ((HL6.out.alloc (.cells #[.int .i64 (-1), .int .i64 1001] 3)).call hs hg)
          clear hs hg
          obtain ⟨rn, rfl⟩ : ∃ rn : Nat, r = (rn : Int) := ⟨r.toNat, by omega⟩
          have hrn : rn < l.length := by have := HLK.out; omega
          have ho := HL7.out.own
          unfold IOwn at ho
          have hfz := ho.frozenAt rn
          have hcz : w7.cell? ⟨q, rn, none⟩ = some (iv (l.getD rn 0)) := by rw [ho.cellAt rn (by omega)]; simp [List.getD, hrn]
          clear ho
          have HLW := Lib.hid (HL7.out.set rn z)
          have HLn := Lib.hid (show (l.set rn z).length = k by rw [List.length_set]; exact HLK.out)
          refine Lib.hid ?_
          go_wp2_with (first | (go_at_call 118; refine (S1.one_any B g a n cap (K + 2 * k + 6) 24 _ (by omega) (by omega) (by omega) HLW.out.st).mono ?_; rintro e wt ⟨bt, rfl, hs, hg⟩; refine Hid.out ?_) | fail)
          have HLt := Lib.hid (HLW.out.call hs hg)
          clear hs hg
          cases bt with
          | false =>
            refine Lib.hid ?_
            go_wp2_with fail
            have hy := HLt.out.post HLn.out (m := 10) (K' := K + 100) (by omega) (by omega)
            go_ret
            exact hy
          | true =>
            have ho := HLt.out.own
            rw [HLn.out] at ho
            have hgz := HLt.out.gr.size
            refine Lib.hid ?_
            go_wp2_with (first
              | (at_builtin; go_must (refine wpList_append_own _ rfl _ _ 27 rfl (w.heap.size + 1) 3 i0 (.int .i64 0) 1 8 Try.underlying27 hi hz0 hz1 hz2 rfl (by decide) _ _ _ rfl (ho.alloc _) ⟨wt.heap.size, 0, none⟩ 1 1 [iv 1] rfl rfl (cell_one_new _ _ _) (by intro u hu; simp at hu; subst hu; rfl) (by have := HLn.out; unfold maxLen; omega) (by have := HLn.out; omega) (by have := HLn.out; simp; omega) ?_); intro v' w9 hown' hgrow hnil)
              | fail)
            have hg9 : (wt.alloc (.cells #[iv 1] 3)).grownBy w9 (some q) := hgrow
            obtain ⟨q2, cc2, hv2, -⟩ := World.ownsRow.form hown' (by omega)
            subst hv2
            have HL9 := Lib.hid ((HLt.out.alloc (.cells #[iv 1] 3)).push hg9 hown')
            clear hown' hgrow hnil ho HLt hg9
            have hlen : ((l.set rn z) ++ [1]).length = (l.set rn z).length + 1 := by simp
            have hx := HL9.out
            rw [← hlen] at hx
            have hy := hx.post hlen (m := 10) (K' := K + 100) (by have := HLn.out; omega) (by omega)
            clear hx HL9
            go_wp2_with fail
            go_ret
            exact hy
      · skip
        refine Hid.out ?_
        refine Lib.hid ?_
        go_wp2_with (first | (go_at_call 118; refine (S1.one_any B g a n cap (K + 2 * k) 24 _ (by omega) (by omega) (by omega) HL.out.st).mono ?_; rintro e wt ⟨bt, rfl, hs, hg⟩; refine Hid.out ?_) | fail)
        have HLt := Lib.hid (HL.out.call hs hg)
        clear hs hg
        cases bt with
        | false =>
          refine Lib.hid ?_
          go_wp2_with fail
          have hy := HLt.out.post HLK.out (m := 10) (K' := K + 100) (by omega) (by omega)
          go_ret
          exact hy
        | true =>
          have ho := HLt.out.own
          rw [HLK.out] at ho
          have hgz := HLt.out.gr.size
          refine Lib.hid ?_
          go_wp2_with (first
            | (at_builtin; go_must (refine wpList_append_own _ rfl _ _ 27 rfl (w.heap.size + 1) 3 i0 (.int .i64 0) 1 8 Try.underlying27 hi hz0 hz1 hz2 rfl (by decide) _ _ _ rfl (ho.alloc _) ⟨wt.heap.size, 0, none⟩ 1 1 [iv 1] rfl rfl (cell_one_new _ _ _) (by intro u hu; simp at hu; subst hu; rfl) (by have := HLK.out; unfold maxLen; omega) (by have := HLK.out; omega) (by have := HLK.out; simp; omega) ?_); intro v' w9 hown' hgrow hnil)
            | fail)
          have hg9 : (wt.alloc (.cells #[iv 1] 3)).grownBy w9 (some q) := hgrow
          obtain ⟨q2, cc2, hv2, -⟩ := World.ownsRow.form hown' (by omega)
          subst hv2
          have HL9 := Lib.hid ((HLt.out.alloc (.cells #[iv 1] 3)).push hg9 hown')
          clear hown' hgrow hnil ho HLt hg9
          have hlen : (l ++ [1]).length = l.length + 1 := by simp
          have hx := HL9.out
          rw [← hlen] at hx
          have hy := hx.post hlen (m := 10) (K' := K + 100) (by have := HLK.out; omega) (by omega)
          clear hx HL9
          go_wp2_with fail
          go_ret
          exact hy
end Go.Proofs.Ytlkomipjamelkab.S2

namespace Go.Proofs.Ytlkomipjamelkab.S2
open Go.RowKit Go.Sort P2

theorem pip_cell {w : World} {A : Option Addr} {ps : List Pp} {i : Nat} (h : PAt w A ps) (hi : i < ps.length) : ∃ b off, A = some ⟨b, off, none⟩ ∧ b < w.heap.size ∧ w.cell? ⟨b, off + i * 4, none⟩ = some (.int .i64 (pAt ps i).id) := by
  rcases h with h0 | ⟨b, off, hA, hbl, hc⟩
  · rw [h0] at hi; exact absurd hi (Nat.not_lt_zero _)
  · exact ⟨b, off, hA, hbl, (hc i hi).1⟩
end Go.Proofs.Ytlkomipjamelkab.S2

namespace Go.Proofs.Ytlkomipjamelkab.S2
open Go.RowKit Go.Sort P2

theorem grown_of {w w' : World} {g : Nat} (h : Below w.heap.size w w') : w.grownBy w' (some g) := ⟨h.os, h.tape, h.output, h.size, fun k hk _ => h.block k hk⟩
/-- A drawn network whose pipes are only read: its row lies at or above B. -/
structure TNet (B : Nat) (w : World) (N : Int) (A : Option Addr) (c : Nat) (ps : List Pp) : Prop where
  n0 : 0 ≤ N
  n9 : N ≤ 9
  len : ps.length ≤ 12
  cap : ps.length ≤ c
  pat : PAt w A ps
  far : ∀ b off, A = some ⟨b, off, none⟩ → B ≤ b
theorem TNet.of {B : Nat} {w : World} {N : Int} {A : Option Addr} {c : Nat} {ps : List Pp} (h : DNet B w N A c ps) : TNet B w N A c ps :=
  ⟨h.n0, h.n9, h.len, h.cap, h.pat, fun b off e => by subst e; exact (h.own.lt b rfl).1⟩
theorem TNet.on {B : Nat} {w w' : World} {N : Int} {A : Option Addr} {c : Nat} {ps : List Pp} (h : TNet B w N A c ps) (hb : Below w.heap.size w w') : TNet B w' N A c ps := ⟨h.n0, h.n9, h.len, h.cap, h.pat.kept hb (Nat.le_refl _), h.far⟩
theorem TNet.call {B g : Nat} {w w' : World} {N : Int} {A : Option Addr} {c : Nat} {ps : List Pp} (h : TNet B w N A c ps) (hg : w.grownBy w' (some g)) (hB : g < B) : TNet B w' N A c ps := by
  refine ⟨h.n0, h.n9, h.len, h.cap, ?_, h.far⟩
  rcases h.pat with h0 | ⟨b, off, hA, hlt, hc⟩
  · exact .inl h0
  · have hf := h.far b off hA
    have hk : ∀ o, w'.cell? ⟨b, o, none⟩ = w.cell? ⟨b, o, none⟩ := fun o => hg.cell_far ⟨b, o, none⟩ hlt (by simp; omega)
    refine .inr ⟨b, off, hA, Nat.lt_of_lt_of_le hlt hg.size, fun i hi => ?_⟩
    obtain ⟨h0, h1, h2, h3⟩ := hc i hi
    exact ⟨(hk _).trans h0, (hk _).trans h1, (hk _).trans h2, (hk _).trans h3⟩
/-- A network under way that is only read: the cursor, what has changed, the network, its box, the result's box. -/
structure TI (w wr : World) (B g : Nat) (a : Option Addr) (n cap K T : Nat) (N : Int) (A : Option Addr) (c : Nat) (ps : List Pp) : Prop where
  st : S1.St B g a n cap K wr
  gr : w.grownBy wr (some g)
  net : TNet (w.heap.size + 1) wr N A c ps
  box : TN wr T (.int .i64 N) (.slice A ps.length c)
  res : TN wr w.heap.size (.int .i64 0) (.slice none 0 0)
  gw : g < w.heap.size
  tw : w.heap.size < T
theorem TI.quiet {w wr w2 : World} {B g : Nat} {a : Option Addr} {n cap K T : Nat} {N : Int} {A : Option Addr} {c : Nat} {ps : List Pp} (h : TI w wr B g a n cap K T N A c ps) (hb : Below wr.heap.size wr w2) : TI w w2 B g a n cap K T N A c ps :=
  ⟨h.st.other hb, S1.grown_trans h.gr (grown_of hb), h.net.on hb, h.box.below hb, h.res.below hb, h.gw, h.tw⟩
theorem TI.call {w wr w2 : World} {B g : Nat} {a : Option Addr} {n cap K K' T : Nat} {N : Int} {A : Option Addr} {c : Nat} {ps : List Pp} (h : TI w wr B g a n cap K T N A c ps) (hs : S1.St B g a n cap K' w2) (hg : wr.grownBy w2 (some g)) : TI w w2 B g a n cap K' T N A c ps :=
  ⟨hs, S1.grown_trans h.gr hg, h.net.call hg (by have := h.gw; omega), h.box.grown hg (by have := h.gw; have := h.tw; omega), h.res.grown hg (by have := h.gw; omega), h.gw, h.tw⟩
theorem TNet.set {B : Nat} {w : World} {N : Int} {A : Option Addr} {c : Nat} {ps : List Pp} (h : TNet B w N A c ps) (b i : Nat) (u : Value) (hb : b < B) : TNet B (w.setCell ⟨b, i, none⟩ u) N A c ps := by
  refine ⟨h.n0, h.n9, h.len, h.cap, ?_, h.far⟩
  rcases h.pat with h0 | ⟨b', off, hA, hlt, hc⟩
  · exact .inl h0
  · have hf := h.far b' off hA
    have hk : ∀ o, (w.setCell ⟨b, i, none⟩ u).cell? ⟨b', o, none⟩ = w.cell? ⟨b', o, none⟩ := fun o => World.cell?_setCell_far w ⟨b, i, none⟩ _ _ (by show b ≠ b'; omega)
    refine .inr ⟨b', off, hA, by simpa using hlt, fun k hk' => ?_⟩
    obtain ⟨h0, h1, h2, h3⟩ := hc k hk'
    exact ⟨(hk _).trans h0, (hk _).trans h1, (hk _).trans h2, (hk _).trans h3⟩
def TPost (B g : Nat) (a : Option Addr) (n cap K : Nat) (w : World) (e : Ending) (w' : World) : Prop :=
  ∃ N A c ps, e = .returned (nv N A ps.length c) ∧ TNet (w.heap.size + 1) w' N A c ps ∧ S1.St B g a n cap K w' ∧ w.grownBy w' (some g)
theorem TI.done {w wr : World} {B g : Nat} {a : Option Addr} {n cap K K' T : Nat} {N : Int} {A : Option Addr} {c : Nat} {ps : List Pp} (h : TI w wr B g a n cap K T N A c ps) (hK : K ≤ K') : TPost B g a n cap K' w (.returned (nv N A ps.length c)) ((wr.setCell ⟨w.heap.size, 0, none⟩ (.int .i64 N)).setCell ⟨w.heap.size, 1, none⟩ (.slice A ps.length c)) := by
  have hg : w.heap.size ≠ g := by have := h.gw; omega
  have hB : B ≤ w.heap.size := by have := h.gw; have := h.st.bg; omega
  exact ⟨N, A, c, ps, rfl, (h.net.set _ _ _ (by omega)).set _ _ _ (by omega), (S1.st_far (S1.st_far h.st hg hB) hg hB).more hK, S1.grown_setnew (S1.grown_setnew h.gr (Nat.le_refl _)) (Nat.le_refl _)⟩
theorem TNet.low {B B' : Nat} {w : World} {N : Int} {A : Option Addr} {c : Nat} {ps : List Pp} (h : TNet B w N A c ps) (hB : B' ≤ B) : TNet B' w N A c ps := ⟨h.n0, h.n9, h.len, h.cap, h.pat, fun b off e => by have := h.far b off e; omega⟩
theorem TI.spun {w wr : World} {B g : Nat} {a a' : Option Addr} {n cap K K' T : Nat} {N : Int} {A : Option Addr} {c c' : Nat} {ps qs : List Pp} (h : TI w wr B g a n cap K T N A c ps) (hK : K ≤ K') (hn : TNet (T + 1) wr N a' c' qs) : TPost B g a n cap K' w (.returned (nv N a' qs.length c')) ((((wr.setCell ⟨T, 0, none⟩ (.int .i64 N)).setCell ⟨T, 1, none⟩ (.slice a' qs.length c')).setCell ⟨w.heap.size, 0, none⟩ (.int .i64 N)).setCell ⟨w.heap.size, 1, none⟩ (.slice a' qs.length c')) := by
  have hgw := h.gw
  have htw := h.tw
  have hbg := h.st.bg
  have hg : w.heap.size ≠ g := by omega
  have hB : B ≤ w.heap.size := by omega
  have hg2 : T ≠ g := by omega
  have hB2 : B ≤ T := by omega
  have hw2 : w.heap.size ≤ T := by omega
  exact ⟨N, a', c', qs, rfl, ((((hn.set _ _ _ (by omega)).set _ _ _ (by omega)).set _ _ _ (by omega)).set _ _ _ (by omega)).low (by omega), (S1.st_far (S1.st_far (S1.st_far (S1.st_far h.st hg2 hB2) hg2 hB2) hg hB) hg hB).more hK, S1.grown_setnew (S1.grown_setnew (S1.grown_setnew (S1.grown_setnew h.gr hw2) hw2) (Nat.le_refl _)) (Nat.le_refl _)⟩
theorem good_v {n : Int} {ps : List Pp} {v : Bool} (hv : goodB n ps = v) (A : Option Addr) (cap : Nat) (w : World) (h : PAt w A ps) (hl : ps.length ≤ 12) :
    Calls Try.prog 104 #[nv n A ps.length cap] w fun e w' => e = .returned (.bool v) ∧ Below w.heap.size w w' := by
  rw [← hv]
  exact sgood_any n A cap ps w h (by unfold maxLen; omega)
set_option maxHeartbeats 2000000 in
set_option maxRecDepth 100000 in
theorem tree_draw (B g : Nat) (a : Option Addr) (n cap K : Nat) (w : World) (hK : K ≤ 600000) (h : S1.St B g a n cap K w) (hgw : g < w.heap.size) :
    Calls Try.prog 54 #[.pointer (some ⟨g, 0, none⟩)] w (TPost B g a n cap (K + 1000) w) := by
  have HS1 := Lib.hid (S1.st_new h (nb 0 none 0 0))
  clear h
  go_enter Try.func54, Try.ntmps54
  refine Hid.out ?_
  refine Lib.hid ?_
  go_wp2_with (first | (go_at_call 122; refine (anynet_any B g a n cap K _ (by omega) HS1.out (by simp; omega)).mono ?_; rintro e w1 hpost; obtain ⟨N, A, c, ps, rfl, hd, hs, hg⟩ := DNet.of hpost; refine Hid.out ?_) | fail)
  have HRB := ((TN.made w (.int .i64 0) (.slice none 0 0))).grown hg (by omega)
  refine Lib.hid ?_
  go_wp2_with fail
  have hw1 : w.heap.size + 1 ≤ w1.heap.size := by have := hg.size; simp at this; omega
  have HI := Lib.hid (show TI w ((w1.alloc (nb N A ps.length c)).drew) B g a n cap (K + 400) w1.heap.size N A c ps from
    TI.quiet (wr := w1.alloc (nb N A ps.length c)) ⟨S1.st_new hs _, S1.grown_new (S1.grown_trans (World.grownBy_alloc w _ (some g)) hg) _, (TNet.of (hd.low (by simp))).on (alloc_below _ _), TN.made w1 _ _, HRB.below (alloc_below _ _), hgw, by omega⟩ ((Below.refl _ _).drew))
  clear hd hs hg HRB hpost
  have hpl := HI.out.net.len
  have hK4 : K + 400 ≤ 900000 := by omega
  have hK9 : K + 400 + 2 ≤ K + 1000 := by omega
  obtain ⟨x0, x1⟩ := HI.out.box.cell
  by_cases hgd : goodB N ps = true
  · skip
    obtain ⟨M, rfl⟩ : ∃ M : Nat, N = (M : Int) := ⟨N.toNat, by have := HI.out.net.n0; omega⟩
    have hG := good_of hgd
    have hM8 : M ≤ 8 := by have := hG.2.1; omega
    have hM1 : 1 ≤ M := by have := hG.1; omega
    have hcl : (conL M ps ((1 : Nat) : Int)).length ≤ M + 1 := conL_len M ps 1
    have HC := Lib.hid (good_v hgd A c _ HI.out.net.pat hpl)
    obtain ⟨C, hC⟩ : ∃ C, conL M ps ((1 : Nat) : Int) = C := ⟨_, rfl⟩
    rw [hC] at hcl
    clear hgd
    by_cases hn : C.length = M
    · have g2 : ((C.length : Int) == (M : Int)) = true := beq_iff_eq.2 (by omega)
      clear hn
      refine wp_region_held_drew (S := fun w' => w'.cell? ⟨w1.heap.size, 0, none⟩ = some (.int .i64 (M : Int)) ∧ w'.cell? ⟨w1.heap.size, 1, none⟩ = some (.slice A ps.length c)) (by kernel_rfl) (by go_keep) (fun hHeld => ?_)
      refine wpAnyH_take (i := 0) (v := .agg #[.int .i64 (M : Int), .slice A ps.length c]) rfl (by kernel_rfl) (by kernel_rfl) (by kernel_rfl) (fun _ _ _ h => h) (Or.inl ⟨by rfl, ?_⟩) (by assumption) ?_
      · (intro w hSw; (try dsimp only at hSw); go_simp)
      simp only [Act.put, List.setIfInBounds_toArray]
      refine wpAnyH_ready (rs := [1]) (by kernel_rfl) (by simp) ?_
      refine AllReadyH.cons rfl (fun K hK => ?_) AllReadyH.nil
      go_simp
      go_at_call 104
      refine HC.out.mono ?_
      rintro e w2 ⟨rfl, hb2⟩
      have HI2 := Lib.hid (HI.out.quiet hb2)
      refine hK.out _ _ (by exact HI2.out.box.cell) (fun hHeld => ?_)
      clear hK K
      refine wpAnyH_ready (rs := [2]) (by kernel_rfl) (by simp) ?_
      refine AllReadyH.cons rfl (fun K hK => ?_) AllReadyH.nil
      go_simp
      refine hK.out _ _ (by first | assumption | go_keep) (fun hHeld => ?_)
      clear hK K
      refine wpAnyH_take (i := 3) (v := .agg #[.int .i64 (M : Int), .slice A ps.length c]) rfl (by kernel_rfl) (by kernel_rfl) (by kernel_rfl) (fun _ _ _ h => h) (Or.inl ⟨by rfl, ?_⟩) (by assumption) ?_
      · (intro w hSw; (try dsimp only at hSw); go_simp)
      simp only [Act.put]
      refine wpAnyH_take (i := 6) (v := .pointer (some ⟨w1.heap.size, 0, none⟩)) rfl (by kernel_rfl) (by kernel_rfl) (by kernel_rfl) (fun _ _ _ h => h) (Or.inl ⟨by rfl, ?_⟩) (by assumption) ?_
      · (intro w hSw; (try dsimp only at hSw); go_simp)
      simp only [Act.put]
      refine wpAnyH_take (i := 7) (v := .int .i64 (M : Int)) rfl (by kernel_rfl) (by kernel_rfl) (by kernel_rfl) (fun _ _ _ h => h) (Or.inl ⟨by rfl, ?_⟩) (by assumption) ?_
      · (intro w hSw; (try dsimp only at hSw); go_simp)
      simp only [Act.put]
      refine wpAnyH_ready (rs := [4]) (by kernel_rfl) (by simp) ?_
      refine AllReadyH.cons rfl (fun K hK => ?_) AllReadyH.nil
      go_simp
      go_at_call 123
      refine (show Calls Try.prog 123 #[nv (M : Int) A ps.length c, .int .i64 1] w2 _ from sreach_any M 1 A c ps w2 HI2.out.net.pat hG (by omega) (by omega)).mono ?_
      rintro e w3 ⟨gr, o, capr, rfl, hgg, ho, hb3⟩
      have HI3 := Lib.hid (HI2.out.quiet hb3)
      rw [hC]
      refine hK.out _ _ (by exact HI3.out.box.cell) (fun hHeld => ?_)
      clear hK K
      refine wpAnyH_ready (rs := [5]) (by kernel_rfl) (by simp) ?_
      refine AllReadyH.cons rfl (fun K hK => ?_) AllReadyH.nil
      go_simp
      refine hK.out _ _ (by first | assumption | go_keep) (fun hHeld => ?_)
      clear hK K
      refine wpAnyH_ready (rs := [8]) (by kernel_rfl) (by simp) ?_
      refine AllReadyH.cons rfl (fun K hK => ?_) AllReadyH.nil
      go_simp
      refine hK.out _ _ (by first | assumption | go_keep) (fun hHeld => ?_)
      clear hK K
      refine wpAnyH_ready (rs := [9]) (by kernel_rfl) (by simp) ?_
      refine AllReadyH.cons rfl (fun K hK => ?_) AllReadyH.nil
      go_simp
      refine hK.out _ _ (by first | assumption | go_keep) (fun hHeld => ?_)
      clear hK K
      refine wpAnyH_ready (rs := [10]) (by kernel_rfl) (by simp) ?_
      refine AllReadyH.cons rfl (fun K hK => ?_) AllReadyH.nil
      go_simp
      refine hK.out _ _ (by first | assumption | go_keep) (fun hHeld => ?_)
      clear hK K
      refine wpAnyH_ready (rs := [11]) (by kernel_rfl) (by simp) ?_
      refine AllReadyH.cons rfl (fun K hK => ?_) AllReadyH.nil
      go_simp
      refine hK.out _ _ (by first | assumption | go_keep) (fun hHeld => ?_)
      clear hK K
      refine wpAnyH_ready (rs := [12]) (by kernel_rfl) (by simp) ?_
      refine AllReadyH.cons rfl (fun K hK => ?_) AllReadyH.nil
      go_simp
      go_at_call 118
      refine (S1.one_any B g a n cap _ 5 _ hK4 (by omega) (by omega) HI3.out.st).mono ?_
      rintro e w4 ⟨b4, rfl, hs4, hg4⟩
      have HI4 := Lib.hid (HI3.out.call hs4 hg4)
      refine hK.out _ _ (by exact HI4.out.box.cell) (fun hHeld => ?_)
      clear hK K
      refine wpAnyH_ready (rs := [13]) (by kernel_rfl) (by simp) ?_
      refine AllReadyH.cons rfl (fun K hK => ?_) AllReadyH.nil
      go_simp
      refine hK.out _ _ (by first | assumption | go_keep) (fun hHeld => ?_)
      clear hK K
      refine wpAnyH_ready (rs := [14]) (by kernel_rfl) (by simp) ?_
      refine AllReadyH.cons rfl (fun K hK => ?_) AllReadyH.nil
      go_simp
      refine hK.out _ _ (by first | assumption | go_keep) (fun hHeld => ?_)
      clear hK K
      refine wpAnyH_done (by kernel_rfl) ?_ _
      clear hHeld
      cases b4 with
      | true =>
        obtain ⟨q0, q1⟩ := HI4.out.box.cell
        obtain ⟨s0, s1⟩ := HI4.out.res.cell
        have hsl := HI4.out.res.lt
        have hTl := HI4.out.box.lt
        have hsf := HI4.out.res.frozen
        have f0 := hsf 0
        have f1 := hsf 1
        go_wp2
        refine bodyPost_ret (v := nv (M : Int) A ps.length c) (by simp [results, Try.results54, go_sem, s0, s1]) rfl (HI4.out.done (by omega))
      | false =>
        have hSP := Lib.hid (ssp_any M A c ps w4 HI4.out.net.pat hG)
        obtain ⟨q0, q1⟩ := HI4.out.box.cell
        have hTl := HI4.out.box.lt
        go_wp2_with (first | (go_at_call 124; refine hSP.out.mono ?_; rintro e w5 ⟨g5, c5, rfl, hc5, hg5, hp5, hb5⟩; refine Hid.out ?_) | fail)
        have HI5 := Lib.hid (HI4.out.quiet hb5)
        have HN5 := Lib.hid (show TNet (w1.heap.size + 1) w5 (M : Int) (some ⟨g5, 0, none⟩) c5 (spL ps) from ⟨HI4.out.net.n0, HI4.out.net.n9, Nat.le_trans (show (spL ps).length ≤ ps.length from spT_len ps ps.length (Nat.le_refl _)) hpl, hc5, hp5, fun b off e => by injection e with e; injection e with e1; omega⟩)
        clear hp5 hb5 q0 q1
        obtain ⟨q0, q1⟩ := HI5.out.box.cell
        obtain ⟨s0, s1⟩ := HI5.out.res.cell
        have hsl := HI5.out.res.lt
        have hTl5 := HI5.out.box.lt
        have htw := HI5.out.tw
        have hsf := HI5.out.res.frozen
        have hbf := HI5.out.box.frozen
        have f0 := hsf 0
        have f1 := hsf 1
        have b0 := hbf 0
        have b1 := hbf 1
        have hne1 : w.heap.size ≠ w1.heap.size := by omega
        refine Lib.hid ?_
        go_wp2
        refine bodyPost_ret (v := nv (M : Int) (some ⟨g5, 0, none⟩) (spL ps).length c5) (by simp [results, Try.results54, go_sem, s0, s1]) rfl (HI5.out.spun hK9 HN5.out)
    have g2 : ((C.length : Int) == (M : Int)) = false := beq_eq_false_iff_ne.2 (by omega)
    clear hn
    refine wp_region_held_drew (S := fun w' => w'.cell? ⟨w1.heap.size, 0, none⟩ = some (.int .i64 (M : Int)) ∧ w'.cell? ⟨w1.heap.size, 1, none⟩ = some (.slice A ps.length c)) (by kernel_rfl) (by go_keep) (fun hHeld => ?_)
    refine wpAnyH_take (i := 0) (v := .agg #[.int .i64 (M : Int), .slice A ps.length c]) rfl (by kernel_rfl) (by kernel_rfl) (by kernel_rfl) (fun _ _ _ h => h) (Or.inl ⟨by rfl, ?_⟩) (by assumption) ?_
    · (intro w hSw; (try dsimp only at hSw); go_simp)
    simp only [Act.put, List.setIfInBounds_toArray]
    refine wpAnyH_ready (rs := [1]) (by kernel_rfl) (by simp) ?_
    refine AllReadyH.cons rfl (fun K hK => ?_) AllReadyH.nil
    go_simp
    go_at_call 104
    refine HC.out.mono ?_
    rintro e w2 ⟨rfl, hb2⟩
    have HI2 := Lib.hid (HI.out.quiet hb2)
    refine hK.out _ _ (by exact HI2.out.box.cell) (fun hHeld => ?_)
    clear hK K
    refine wpAnyH_ready (rs := [2]) (by kernel_rfl) (by simp) ?_
    refine AllReadyH.cons rfl (fun K hK => ?_) AllReadyH.nil
    go_simp
    refine hK.out _ _ (by first | assumption | go_keep) (fun hHeld => ?_)
    clear hK K
    refine wpAnyH_take (i := 3) (v := .agg #[.int .i64 (M : Int), .slice A ps.length c]) rfl (by kernel_rfl) (by kernel_rfl) (by kernel_rfl) (fun _ _ _ h => h) (Or.inl ⟨by rfl, ?_⟩) (by assumption) ?_
    · (intro w hSw; (try dsimp only at hSw); go_simp)
    simp only [Act.put]
    refine wpAnyH_take (i := 6) (v := .pointer (some ⟨w1.heap.size, 0, none⟩)) rfl (by kernel_rfl) (by kernel_rfl) (by kernel_rfl) (fun _ _ _ h => h) (Or.inl ⟨by rfl, ?_⟩) (by assumption) ?_
    · (intro w hSw; (try dsimp only at hSw); go_simp)
    simp only [Act.put]
    refine wpAnyH_take (i := 7) (v := .int .i64 (M : Int)) rfl (by kernel_rfl) (by kernel_rfl) (by kernel_rfl) (fun _ _ _ h => h) (Or.inl ⟨by rfl, ?_⟩) (by assumption) ?_
    · (intro w hSw; (try dsimp only at hSw); go_simp)
    simp only [Act.put]
    refine wpAnyH_ready (rs := [4]) (by kernel_rfl) (by simp) ?_
    refine AllReadyH.cons rfl (fun K hK => ?_) AllReadyH.nil
    go_simp
    go_at_call 123
    refine (show Calls Try.prog 123 #[nv (M : Int) A ps.length c, .int .i64 1] w2 _ from sreach_any M 1 A c ps w2 HI2.out.net.pat hG (by omega) (by omega)).mono ?_
    rintro e w3 ⟨gr, o, capr, rfl, hgg, ho, hb3⟩
    have HI3 := Lib.hid (HI2.out.quiet hb3)
    rw [hC]
    refine hK.out _ _ (by exact HI3.out.box.cell) (fun hHeld => ?_)
    clear hK K
    refine wpAnyH_ready (rs := [5]) (by kernel_rfl) (by simp) ?_
    refine AllReadyH.cons rfl (fun K hK => ?_) AllReadyH.nil
    go_simp
    refine hK.out _ _ (by first | assumption | go_keep) (fun hHeld => ?_)
    clear hK K
    refine wpAnyH_ready (rs := [8]) (by kernel_rfl) (by simp) ?_
    refine AllReadyH.cons rfl (fun K hK => ?_) AllReadyH.nil
    go_simp
    refine hK.out _ _ (by first | assumption | go_keep) (fun hHeld => ?_)
    clear hK K
    refine wpAnyH_ready (rs := [9]) (by kernel_rfl) (by simp) ?_
    refine AllReadyH.cons rfl (fun K hK => ?_) AllReadyH.nil
    go_simp
    refine hK.out _ _ (by first | assumption | go_keep) (fun hHeld => ?_)
    clear hK K
    refine wpAnyH_ready (rs := [10]) (by kernel_rfl) (by simp) ?_
    refine AllReadyH.cons rfl (fun K hK => ?_) AllReadyH.nil
    go_simp
    refine hK.out _ _ (by first | assumption | go_keep) (fun hHeld => ?_)
    clear hK K
    refine wpAnyH_take (i := 11) (v := undef) rfl (by kernel_rfl) (by kernel_rfl) (by kernel_rfl) (fun _ _ _ h => h) (Or.inr ⟨by rfl, rfl⟩) (by assumption) ?_
    simp only [Act.put]
    refine wpAnyH_take (i := 12) (v := undef) rfl (by kernel_rfl) (by kernel_rfl) (by kernel_rfl) (fun _ _ _ h => h) (Or.inr ⟨by rfl, rfl⟩) (by assumption) ?_
    simp only [Act.put]
    refine wpAnyH_take (i := 13) (v := undef) rfl (by kernel_rfl) (by kernel_rfl) (by kernel_rfl) (fun _ _ _ h => h) (Or.inr ⟨by rfl, rfl⟩) (by assumption) ?_
    simp only [Act.put]
    refine wpAnyH_ready (rs := [14]) (by kernel_rfl) (by simp) ?_
    refine AllReadyH.cons rfl (fun K hK => ?_) AllReadyH.nil
    go_simp
    refine hK.out _ _ (by first | assumption | go_keep) (fun hHeld => ?_)
    clear hK K
    refine wpAnyH_done (by kernel_rfl) ?_ _
    clear hHeld
    obtain ⟨q0, q1⟩ := HI3.out.box.cell
    obtain ⟨s0, s1⟩ := HI3.out.res.cell
    have hsl := HI3.out.res.lt
    have hTl := HI3.out.box.lt
    have hsf := HI3.out.res.frozen
    have f0 := hsf 0
    have f1 := hsf 1
    go_wp2
    refine bodyPost_ret (v := nv (M : Int) A ps.length c) (by simp [results, Try.results54, go_sem, s0, s1]) rfl (HI3.out.done (by omega))
  · have hgf : goodB N ps = false := by simpa using hgd
    have HC := Lib.hid (good_v hgf A c _ HI.out.net.pat hpl)
    clear hgd hgf
    refine wp_region_held_drew (S := fun w' => w'.cell? ⟨w1.heap.size, 0, none⟩ = some (.int .i64 N) ∧ w'.cell? ⟨w1.heap.size, 1, none⟩ = some (.slice A ps.length c)) (by kernel_rfl) (by go_keep) (fun hHeld => ?_)
    refine wpAnyH_take (i := 0) (v := .agg #[.int .i64 N, .slice A ps.length c]) rfl (by kernel_rfl) (by kernel_rfl) (by kernel_rfl) (fun _ _ _ h => h) (Or.inl ⟨by rfl, ?_⟩) (by assumption) ?_
    · (intro w hSw; (try dsimp only at hSw); go_simp)
    simp only [Act.put, List.setIfInBounds_toArray]
    refine wpAnyH_ready (rs := [1]) (by kernel_rfl) (by simp) ?_
    refine AllReadyH.cons rfl (fun K hK => ?_) AllReadyH.nil
    go_simp
    go_at_call 104
    refine HC.out.mono ?_
    rintro e w2 ⟨rfl, hb2⟩
    have HI2 := Lib.hid (HI.out.quiet hb2)
    refine hK.out _ _ (by exact HI2.out.box.cell) (fun hHeld => ?_)
    clear hK K
    refine wpAnyH_ready (rs := [2]) (by kernel_rfl) (by simp) ?_
    refine AllReadyH.cons rfl (fun K hK => ?_) AllReadyH.nil
    go_simp
    refine hK.out _ _ (by first | assumption | go_keep) (fun hHeld => ?_)
    clear hK K
    refine wpAnyH_take (i := 3) (v := undef) rfl (by kernel_rfl) (by kernel_rfl) (by kernel_rfl) (fun _ _ _ h => h) (Or.inr ⟨by rfl, rfl⟩) (by assumption) ?_
    simp only [Act.put]
    refine wpAnyH_take (i := 4) (v := undef) rfl (by kernel_rfl) (by kernel_rfl) (by kernel_rfl) (fun _ _ _ h => h) (Or.inr ⟨by rfl, rfl⟩) (by assumption) ?_
    simp only [Act.put]
    refine wpAnyH_take (i := 5) (v := undef) rfl (by kernel_rfl) (by kernel_rfl) (by kernel_rfl) (fun _ _ _ h => h) (Or.inr ⟨by rfl, rfl⟩) (by assumption) ?_
    simp only [Act.put]
    refine wpAnyH_take (i := 6) (v := undef) rfl (by kernel_rfl) (by kernel_rfl) (by kernel_rfl) (fun _ _ _ h => h) (Or.inr ⟨by rfl, rfl⟩) (by assumption) ?_
    simp only [Act.put]
    refine wpAnyH_take (i := 7) (v := undef) rfl (by kernel_rfl) (by kernel_rfl) (by kernel_rfl) (fun _ _ _ h => h) (Or.inr ⟨by rfl, rfl⟩) (by assumption) ?_
    simp only [Act.put]
    refine wpAnyH_take (i := 8) (v := undef) rfl (by kernel_rfl) (by kernel_rfl) (by kernel_rfl) (fun _ _ _ h => h) (Or.inr ⟨by rfl, rfl⟩) (by assumption) ?_
    simp only [Act.put]
    refine wpAnyH_ready (rs := [9]) (by kernel_rfl) (by simp) ?_
    refine AllReadyH.cons rfl (fun K hK => ?_) AllReadyH.nil
    go_simp
    refine hK.out _ _ (by first | assumption | go_keep) (fun hHeld => ?_)
    clear hK K
    refine wpAnyH_ready (rs := [10]) (by kernel_rfl) (by simp) ?_
    refine AllReadyH.cons rfl (fun K hK => ?_) AllReadyH.nil
    go_simp
    refine hK.out _ _ (by first | assumption | go_keep) (fun hHeld => ?_)
    clear hK K
    refine wpAnyH_take (i := 11) (v := undef) rfl (by kernel_rfl) (by kernel_rfl) (by kernel_rfl) (fun _ _ _ h => h) (Or.inr ⟨by rfl, rfl⟩) (by assumption) ?_
    simp only [Act.put]
    refine wpAnyH_take (i := 12) (v := undef) rfl (by kernel_rfl) (by kernel_rfl) (by kernel_rfl) (fun _ _ _ h => h) (Or.inr ⟨by rfl, rfl⟩) (by assumption) ?_
    simp only [Act.put]
    refine wpAnyH_take (i := 13) (v := undef) rfl (by kernel_rfl) (by kernel_rfl) (by kernel_rfl) (fun _ _ _ h => h) (Or.inr ⟨by rfl, rfl⟩) (by assumption) ?_
    simp only [Act.put]
    refine wpAnyH_ready (rs := [14]) (by kernel_rfl) (by simp) ?_
    refine AllReadyH.cons rfl (fun K hK => ?_) AllReadyH.nil
    go_simp
    refine hK.out _ _ (by first | assumption | go_keep) (fun hHeld => ?_)
    clear hK K
    refine wpAnyH_done (by kernel_rfl) ?_ _
    clear hHeld
    obtain ⟨q0, q1⟩ := HI2.out.box.cell
    obtain ⟨s0, s1⟩ := HI2.out.res.cell
    have hsl := HI2.out.res.lt
    have hTl := HI2.out.box.lt
    have hsf := HI2.out.res.frozen
    have f0 := hsf 0
    have f1 := hsf 1
    go_wp2
    refine bodyPost_ret (v := nv N A ps.length c) (by simp [results, Try.results54, go_sem, s0, s1]) rfl (HI2.out.done (by omega))
end Go.Proofs.Ytlkomipjamelkab.S2

namespace Go.Proofs.Ytlkomipjamelkab.S2
open Go.RowKit Go.Sort P2

set_option maxHeartbeats 4000000 in
set_option maxRecDepth 100000 in
theorem heights_draw (B g : Nat) (a : Option Addr) (n cap K : Nat) (N : Int) (A : Option Addr) (len c : Nat) (w : World) (hK : K ≤ 800000) (hN9 : N ≤ 9) (h : S1.St B g a n cap K w) (hgw : g < w.heap.size) :
    Calls Try.prog 82 #[.pointer (some ⟨g, 0, none⟩), nv N A len c] w (LPost B g a n cap (K + 100) 10 w) := by
  have hBg := h.bg
  obtain ⟨i0, hi, hz0, hz1, hz2⟩ := info_parts infoI
  have HL0 := Lib.hid (show LI w ((w.alloc (nb N A len c)).alloc (.cells #[] 3)) B g a n cap K N (.slice A len c) (.slice (some ⟨w.heap.size + 1, 0, none⟩) 0 0) [] from by
    have h1 := own_empty (w.alloc (nb N A len c)) (w.heap.size + 1) (by simp)
    rw [size_alloc] at h1
    exact ⟨S1.st_new (S1.st_new h _) _, S1.grown_new (World.grownBy_alloc w _ (some g)) _, h1, (TN.made w _ _).below (alloc_below _ _), hgw⟩)
  clear h
  go_enter Try.func82, Try.ntmps82
  refine Hid.out ?_
  refine Lib.hid ?_
  go_wp2_with fail
  go_loopw [5, 6] (fun v nd wr => ∃ (k q cc : Nat) (l : List Int), nd = .int .i64 (1 + (k : Int)) ∧ k ≤ 9 ∧ l.length = k ∧ v = .slice (some ⟨q, 0, none⟩) k cc ∧ Hid (LI w wr B g a n cap (K + 2 * k) N (.slice A len c) (.slice (some ⟨q, 0, none⟩) l.length cc) l)) (fun _ nd _ => (12 - intOf nd).toNat)
  case atStart => exact ⟨0, w.heap.size + 1, 0, [], rfl, by omega, rfl, rfl, HL0⟩
  case round =>
    clear HL0
    obtain ⟨k, q, cc, l, rfl, hk9, hlk, rfl, HL⟩ := hrel
    obtain ⟨wo, hwo⟩ : ∃ wo, wo = wr := ⟨_, rfl⟩
    subst hwo
    obtain ⟨c0, c1⟩ := HL.out.box.cell
    have hbz := HL.out.box.lt
    have HLK := Lib.hid hlk
    clear hlk
    by_cases hlt : 1 + (k : Int) ≤ N
    · have hle : decide (1 + (k : Int) ≤ N) = true := decide_eq_true hlt
      have hk8 : k ≤ 8 := by omega
      have wk : IntKind.i64.wrap (1 + (k : Int) + 1) = 1 + (k : Int) + 1 := IntWalk.i64_in _ (by omega)
      have HQ := Lib.hid (World.ownsRow.lt HL.out.own q rfl)
      clear hlt
      refine Hid.out ?_
      refine Lib.hid ?_
      go_wp2_with (first
        | (go_at_call 110; refine (S1.among_any B g a n cap (K + 2 * k) wo.heap.size 5 5 [0, 5, 50, 1000, 20000] _ rfl (by omega) (by simp) (by simp) (HL.out.alloc (.cells #[.int .i64 0, .int .i64 5, .int .i64 50, .int .i64 1000, .int .i64 20000] 3)).st (fun j hj => S1.ti_new wo [0, 5, 50, 1000, 20000] 3 j hj) (by omega)).mono ?_; rintro e w5 ⟨⟨z, rfl⟩, hs, hg⟩; refine Hid.out ?_)
        | fail)
      have HL5 := Lib.hid ((HL.out.alloc (.cells #[.int .i64 0, .int .i64 5, .int .i64 50, .int .i64 1000, .int .i64 20000] 3)).call hs hg)
      have ho := HL5.out.own
      rw [HLK.out] at ho
      have hgz := HL5.out.gr.size
      clear hs hg c0 c1
      obtain ⟨d0, d1⟩ := HL5.out.box.cell
      have hdz := HL5.out.box.lt
      refine Lib.hid ?_
      go_wp2_with (first
        | (at_builtin; go_must (refine wpList_append_own _ rfl _ _ 27 rfl (w.heap.size + 1) 3 i0 (.int .i64 0) 1 8 Try.underlying27 hi hz0 hz1 hz2 rfl (by decide) _ _ _ rfl (ho.alloc _) ⟨w5.heap.size, 0, none⟩ 1 1 [iv z] rfl rfl (cell_one_new _ _ _) (by intro u hu; simp at hu; subst hu; rfl) (by have := HLK.out; unfold maxLen; omega) (by have := HLK.out; omega) (by have := HLK.out; simp; omega) ?_); intro v' w7 hown' hgrow hnil)
        | fail)
      have hg7 : (w5.alloc (.cells #[iv z] 3)).grownBy w7 (some q) := hgrow
      obtain ⟨q2, cc2, hv2, -⟩ := World.ownsRow.form hown' (by omega)
      subst hv2
      have HL7 := Lib.hid ((HL5.out.alloc (.cells #[iv z] 3)).push hg7 hown')
      clear hown' hgrow hnil ho HL5 hg7
      refine ⟨⟨k + 1, q2, cc2, l ++ [z], by go_num, by omega, by simp [HLK.out], by rw [HLK.out], Lib.hid ?_⟩, by simp [intOf]; omega⟩
      have hx := HL7.out
      have hlen : (l ++ [z]).length = l.length + 1 := by simp
      rw [hlen]
      exact hx.more (by omega)
    · have hle : decide (1 + (k : Int) ≤ N) = false := decide_eq_false hlt
      clear hlt
      refine Hid.out ?_
      refine Lib.hid ?_
      go_wp2_with fail
      case isTrue hk0 K0 aK0 =>
        go_wp2_with (first | (go_at_call 118; refine (S1.one_any B g a n cap (K + 2 * k) 20 _ (by omega) (by omega) (by omega) HL.out.st).mono ?_; rintro e w5 ⟨b5, rfl, hs, hg⟩; refine Hid.out ?_) | fail)
        have HL5 := Lib.hid (HL.out.call hs hg)
        clear hs hg
        cases b5 with
        | false =>
          refine Lib.hid ?_
          go_wp2_with fail
          have hy := HL5.out.post HLK.out (m := 10) (K' := K + 100) (by omega) (by omega)
          go_ret
          exact hy
        | true =>
          refine Lib.hid ?_
          go_wp2_with (first
            | (go_at_call 110; refine (S1.among_any B g a n cap (K + 2 * k + 2) w5.heap.size 3 3 [-1, 100000000000, 100000000001] _ rfl (by omega) (by simp) (by simp) (HL5.out.alloc (.cells #[.int .i64 (-1), .int .i64 100000000000, .int .i64 100000000001] 3)).st (fun j hj => S1.ti_new w5 [-1, 100000000000, 100000000001] 3 j hj) (by have := HL5.out.gr.size; omega)).mono ?_; rintro e w7 ⟨⟨z, rfl⟩, hs, hg⟩; refine Hid.out ?_)
            | fail)
          have HL7 := Lib.hid ((HL5.out.alloc (.cells #[.int .i64 (-1), .int .i64 100000000000, .int .i64 100000000001] 3)).call hs hg)
          clear hs hg
          have hrn : 0 < l.length := by have := HLK.out; omega
          have ho := HL7.out.own
          unfold IOwn at ho
          have hfz := ho.frozenAt 0
          have hcz : w7.cell? ⟨q, 0, none⟩ = some (iv (l.getD 0 0)) := by rw [ho.cellAt 0 (by omega)]; simp [List.getD, hrn]
          clear ho
          have HLW := Lib.hid (HL7.out.set 0 z)
          have HLn := Lib.hid (show (l.set 0 z).length = k by rw [List.length_set]; exact HLK.out)
          refine Lib.hid ?_
          go_wp2_with fail
          have hy := HLW.out.post HLn.out (m := 10) (K' := K + 100) (by omega) (by omega)
          go_ret
          exact hy
      · skip
        refine Hid.out ?_
        refine Lib.hid ?_
        go_wp2_with fail
        have hy := HL.out.post HLK.out (m := 10) (K' := K + 100) (by omega) (by omega)
        go_ret
        exact hy
end Go.Proofs.Ytlkomipjamelkab.S2

namespace Go.Proofs.Ytlkomipjamelkab.S2
open Go.RowKit Go.Sort P2

theorem head_draw (B g : Nat) (a : Option Addr) (n cap K : Nat) (w : World) (hK : K ≤ 800000) (h : S1.St B g a n cap K w) :
    Calls Try.prog 74 #[.pointer (some ⟨g, 0, none⟩)] w fun e w' => (∃ z : Int, e = .returned (.int .i64 z)) ∧ S1.St B g a n cap (K + 2) w' ∧ w.grownBy w' (some g) := by
  have HS := Lib.hid (S1.st_new h (.cells #[.int .i64 0, .int .i64 100, .int .i64 5000, .int .i64 100000, .int .i64 2000000, .int .i64 100000000000, .int .i64 100000000001, .int .i64 (-1), .int .i64 30000, .int .i64 1000] 3))
  have HG := Lib.hid (show w.grownBy (w.alloc (.cells #[.int .i64 0, .int .i64 100, .int .i64 5000, .int .i64 100000, .int .i64 2000000, .int .i64 100000000000, .int .i64 100000000001, .int .i64 (-1), .int .i64 30000, .int .i64 1000] 3)) (some g) from World.grownBy_alloc w _ (some g))
  have hlt := st_lt h
  clear h
  go_enter Try.func74, Try.ntmps74
  refine Hid.out ?_
  refine Lib.hid ?_
  go_wp2_with (first | (go_at_call 110; refine (S1.among_any B g a n cap K w.heap.size 10 10 [0, 100, 5000, 100000, 2000000, 100000000000, 100000000001, (-1), 30000, 1000] _ rfl (by omega) (by simp) (by simp) HS.out (fun j hj => S1.ti_new w [0, 100, 5000, 100000, 2000000, 100000000000, 100000000001, (-1), 30000, 1000] 3 j hj) (by omega)).mono ?_; rintro e w5 ⟨⟨z, rfl⟩, hs, hg⟩; refine Hid.out ?_) | fail)
  refine Lib.hid ?_
  go_wp2_with fail
  go_ret
  exact ⟨⟨z, rfl⟩, hs, S1.grown_trans HG.out hg⟩
/-- A draw under way behind its network: the cursor, the network, its box, the result's box. -/
structure DI (w wr : World) (a : Option Addr) (n cap K T : Nat) (N : Int) (A : Option Addr) (c : Nat) (ps : List Pp) : Prop where
  st : S1.St (w.heap.size + 1) (w.heap.size + 1) a n cap K wr
  bel : Below w.heap.size w wr
  net : TNet (w.heap.size + 2) wr N A c ps
  box : TN wr T (.int .i64 N) (.slice A ps.length c)
  res : TN wr w.heap.size (.int .i64 0) (.slice none 0 0)
  tw : w.heap.size + 1 < T
theorem DI.quiet {w wr w2 : World} {a : Option Addr} {n cap K T : Nat} {N : Int} {A : Option Addr} {c : Nat} {ps : List Pp} (h : DI w wr a n cap K T N A c ps) (hb : Below wr.heap.size wr w2) : DI w w2 a n cap K T N A c ps :=
  ⟨h.st.other hb, h.bel.trans (hb.mono h.bel.size), h.net.on hb, h.box.below hb, h.res.below hb, h.tw⟩
theorem DI.call {w wr w2 : World} {a : Option Addr} {n cap K K' T : Nat} {N : Int} {A : Option Addr} {c : Nat} {ps : List Pp} (h : DI w wr a n cap K T N A c ps) (hs : S1.St (w.heap.size + 1) (w.heap.size + 1) a n cap K' w2) (hg : wr.grownBy w2 (some (w.heap.size + 1))) : DI w w2 a n cap K' T N A c ps :=
  ⟨hs, h.bel.trans (S1.grown_below hg (by omega) h.bel.size), h.net.call hg (by omega), h.box.grown hg (by have := h.tw; omega), h.res.grown hg (by omega), h.tw⟩
theorem DI.done {w wr : World} {a : Option Addr} {n cap K T : Nat} {N : Int} {A : Option Addr} {c : Nat} {ps : List Pp} (h : DI w wr a n cap K T N A c ps) (x y : Value) : TNet (w.heap.size + 1) ((wr.setCell ⟨w.heap.size, 0, none⟩ x).setCell ⟨w.heap.size, 1, none⟩ y) N A c ps ∧ Below w.heap.size w ((wr.setCell ⟨w.heap.size, 0, none⟩ x).setCell ⟨w.heap.size, 1, none⟩ y) :=
  ⟨((h.net.low (by omega)).set _ _ _ (by omega)).set _ _ _ (by omega), (h.bel.setCell (p := ⟨w.heap.size, 0, none⟩) (Nat.le_refl _) x).setCell (p := ⟨w.heap.size, 1, none⟩) (Nat.le_refl _) y⟩
theorem own_call {w w2 : World} {B g : Nat} {v : Value} {l : List Int} (h : IOwn w B v l) (hg : w.grownBy w2 (some g)) (hB : g < B) : IOwn w2 B v l :=
  World.ownsRow.kept h hg (.inr (fun e => by have := (World.ownsRow.lt h g e).1; omega))
theorem own_cell {w : World} {B b i : Nat} {v x : Value} {l : List Int} (h : IOwn w B v l) (hB : b < B) : IOwn (w.setCell ⟨b, i, none⟩ x) B v l :=
  own_call (g := b) h ⟨rfl, rfl, rfl, by simp [World.setCell], fun k _ hk => Below.heap_setCell _ _ _ _ (fun e => hk (by simp [e]))⟩ hB
theorem own_low {w : World} {B B' : Nat} {v : Value} {l : List Int} (h : IOwn w B v l) (hB : B' ≤ B) : IOwn w B' v l := own_lower h hB
theorem own_two {w : World} {b : Nat} {v x y : Value} {l : List Int} (h : IOwn w (b + 1) v l) : IOwn ((w.setCell ⟨b, 0, none⟩ x).setCell ⟨b, 1, none⟩ y) (b + 1) v l := own_cell (own_cell h (by omega)) (by omega)
set_option maxHeartbeats 4000000 in
set_option maxRecDepth 100000 in
theorem dtree_any (a : Option Addr) (n cap : Nat) (w : World) (h : S1.Cd w.heap.size a n w) (hn : n ≤ 65536) :
    Calls Try.prog 8 #[.slice a n cap] w fun e w' => ∃ (N : Int) (A : Option Addr) (c : Nat) (ps : List Pp) (z0 : Int) (q1 c1 : Nat) (l1 : List Int), e = .returned (.tuple #[nv N A ps.length c, .int .i64 z0, .slice (some ⟨q1, 0, none⟩) l1.length c1]) ∧ TNet (w.heap.size + 1) w' N A c ps ∧ l1.length ≤ 10 ∧ IOwn w' (w.heap.size + 1) (.slice (some ⟨q1, 0, none⟩) l1.length c1) l1 ∧ Below w.heap.size w w' := by
  have HST := Lib.hid (cur_start cap (nb 0 none 0 0) h hn)
  clear h
  go_enter Try.func8, Try.ntmps8
  refine Hid.out ?_
  refine Lib.hid ?_
  go_wp2_with (first | (go_at_call 54; refine (tree_draw (w.heap.size + 1) (w.heap.size + 1) a n cap 0 _ (by omega) HST.out (by simp)).mono ?_; rintro e w1 ⟨N, A, c, ps, rfl, hd, hs, hg⟩; refine Hid.out ?_) | fail)
  have hz1 : w.heap.size + 2 ≤ w1.heap.size := by have := hg.size; simp at this; omega
  have HI0 := Lib.hid (show DI w (w1.alloc (nb N A ps.length c)) a n cap 1000 w1.heap.size N A c ps from
    ⟨S1.st_new (hs.more (by omega)) _, (below2 hg (by omega)).trans ((alloc_below w1 _).mono (by omega)), (hd.low (by simp)).on (alloc_below _ _), TN.made w1 _ _, (((TN.made w (.int .i64 0) (.slice none 0 0)).below (alloc_below _ _)).grown hg (by omega)).below (alloc_below _ _), by omega⟩)
  clear hd hs hg HST
  refine Lib.hid ?_
  go_upto_region 3 with (fail)
  obtain ⟨wa, hwa⟩ : ∃ wa, w1.alloc (nb N A ps.length c) = wa := ⟨_, rfl⟩
  rw [hwa] at HI0 ⊢
  clear hwa
  have hN9 := HI0.out.net.n9
  have hT9 : w.heap.size + 1 < w1.heap.size := HI0.out.tw
  obtain ⟨c0, c1⟩ := HI0.out.box.cell
  have hy0 := HI0.out.box.lt
  refine wp_region_held_drew (S := fun w' => w'.cell? ⟨w1.heap.size, 0, none⟩ = some (.int .i64 N) ∧ w'.cell? ⟨w1.heap.size, 1, none⟩ = some (.slice A ps.length c)) (by kernel_rfl) (by exact ⟨c0, c1⟩) (fun hHeld => ?_)
  refine wpAnyH_take (i := 0) (v := .agg #[.int .i64 N, .slice A ps.length c]) rfl (by kernel_rfl) (by kernel_rfl) (by kernel_rfl) (fun _ _ _ h => h) (Or.inl ⟨by kernel_rfl, ?_⟩) (by assumption) ?_
  · (intro w hSw; (try dsimp only at hSw); go_simp)
  simp only [Act.put, List.setIfInBounds_toArray]
  refine wpAnyH_take (i := 1) (v := .pointer (some ⟨w.heap.size + 1, 0, none⟩)) rfl (by kernel_rfl) (by kernel_rfl) (by kernel_rfl) (fun _ _ _ h => h) (Or.inl ⟨by kernel_rfl, ?_⟩) (by assumption) ?_
  · (intro w hSw; (try dsimp only at hSw); go_simp)
  simp only [Act.put]
  refine wpAnyH_take (i := 2) (v := .agg #[.int .i64 N, .slice A ps.length c]) rfl (by kernel_rfl) (by kernel_rfl) (by kernel_rfl) (fun _ _ _ h => h) (Or.inl ⟨by kernel_rfl, ?_⟩) (by assumption) ?_
  · (intro w hSw; (try dsimp only at hSw); go_simp)
  simp only [Act.put]
  refine wpAnyH_take (i := 4) (v := .pointer (some ⟨w.heap.size + 1, 0, none⟩)) rfl (by kernel_rfl) (by kernel_rfl) (by kernel_rfl) (fun _ _ _ h => h) (Or.inl ⟨by kernel_rfl, ?_⟩) (by assumption) ?_
  · (intro w hSw; (try dsimp only at hSw); go_simp)
  simp only [Act.put]
  refine wpAnyH_take (i := 5) (v := .agg #[.int .i64 N, .slice A ps.length c]) rfl (by kernel_rfl) (by kernel_rfl) (by kernel_rfl) (fun _ _ _ h => h) (Or.inl ⟨by kernel_rfl, ?_⟩) (by assumption) ?_
  · (intro w hSw; (try dsimp only at hSw); go_simp)
  simp only [Act.put]
  have HI0x := Lib.hid (HI0.out.quiet (Below.refl _ _).drew)
  clear HI0 c0 c1
  refine wpAnyH_ready (rs := [3]) (by kernel_rfl) (by simp) ?_
  refine AllReadyH.cons rfl (fun K hK => ?_) AllReadyH.nil
  go_simp
  go_at_call 55
  refine (node_draw (w.heap.size + 1) (w.heap.size + 1) a n cap 1000 N A ps.length c _ (by omega) (by omega) HI0x.out.st).mono ?_
  rintro e v0 ⟨⟨z0, rfl⟩, hs, hg⟩
  have HI1 := Lib.hid (HI0x.out.call hs hg)
  clear hs hg
  obtain ⟨x0, y0⟩ := HI1.out.box.cell
  refine hK.out _ _ (by exact ⟨x0, y0⟩) (fun hHeld => ?_)
  clear hK K
  refine wpAnyH_ready (rs := [6]) (by kernel_rfl) (by simp) ?_
  refine AllReadyH.cons rfl (fun K hK => ?_) AllReadyH.nil
  go_simp
  go_at_call 56
  refine (demands_draw (w.heap.size + 1) (w.heap.size + 1) a n cap 1004 N A ps.length c _ (by omega) hN9 HI1.out.st (by have := HI1.out.box.lt; omega)).mono ?_
  rintro e v1 ⟨q1, c1, l1, rfl, hl1, ho, hs, hg⟩
  have HO1_1 := Lib.hid (own_low (B' := w.heap.size + 2) ho (by have := HI1.out.box.lt; omega))
  clear ho
  have HI2 := Lib.hid (HI1.out.call hs hg)
  clear hs hg
  obtain ⟨x1, y1⟩ := HI2.out.box.cell
  obtain ⟨s0, s1⟩ := HI2.out.res.cell
  have sf := HI2.out.res.frozen
  have sz := HI2.out.res.lt
  refine hK.out _ _ (by exact ⟨x1, y1⟩) (fun hHeld => ?_)
  clear hK K
  have hD := Lib.hid (HI2.out.done (.int .i64 N) (.slice A ps.length c))
  refine wpAnyH_ready (rs := [7]) (by kernel_rfl) (by simp) ?_
  refine AllReadyH.cons rfl (fun K hK => ?_) AllReadyH.nil
  go_simp
  refine hK.out _ _ (by first | assumption | go_keep | exact (((HI2.out.box.other (p := ⟨w.heap.size, 0, none⟩) (.int .i64 N) (by show w1.heap.size ≠ w.heap.size; omega)).other (p := ⟨w.heap.size, 1, none⟩) (.slice A ps.length c) (by show w1.heap.size ≠ w.heap.size; omega)).cell)) (fun hHeld => ?_)
  clear hK K
  refine wpAnyH_ready (rs := [8]) (by kernel_rfl) (by simp) ?_
  refine AllReadyH.cons rfl (fun K hK => ?_) AllReadyH.nil
  go_simp
  refine hK.out _ _ (by first | assumption | go_keep | exact (((HI2.out.box.other (p := ⟨w.heap.size, 0, none⟩) (.int .i64 N) (by show w1.heap.size ≠ w.heap.size; omega)).other (p := ⟨w.heap.size, 1, none⟩) (.slice A ps.length c) (by show w1.heap.size ≠ w.heap.size; omega)).cell)) (fun hHeld => ?_)
  clear hK K
  refine wpAnyH_ready (rs := [9]) (by kernel_rfl) (by simp) ?_
  refine AllReadyH.cons rfl (fun K hK => ?_) AllReadyH.nil
  go_simp
  refine hK.out _ _ (by first | assumption | go_keep | exact (((HI2.out.box.other (p := ⟨w.heap.size, 0, none⟩) (.int .i64 N) (by show w1.heap.size ≠ w.heap.size; omega)).other (p := ⟨w.heap.size, 1, none⟩) (.slice A ps.length c) (by show w1.heap.size ≠ w.heap.size; omega)).cell)) (fun hHeld => ?_)
  clear hK K
  refine wpAnyH_done (by kernel_rfl) ?_ _
  clear hHeld
  go_wp2_with fail
  refine bodyPost_ret (v := .tuple #[nv N A ps.length c, .int .i64 z0, .slice (some ⟨q1, 0, none⟩) l1.length c1]) (by simp [results, Try.results8, go_sem, s0, s1]) rfl ⟨N, A, c, ps, z0, q1, c1, l1, rfl, hD.out.1, hl1, own_two (own_low HO1_1.out (by omega)), hD.out.2⟩
set_option maxHeartbeats 4000000 in
set_option maxRecDepth 100000 in
theorem dheads_any (a : Option Addr) (n cap : Nat) (w : World) (h : S1.Cd w.heap.size a n w) (hn : n ≤ 65536) :
    Calls Try.prog 20 #[.slice a n cap] w fun e w' => ∃ (N : Int) (A : Option Addr) (c : Nat) (ps : List Pp) (z0 : Int) (q1 c1 : Nat) (l1 : List Int) (z2 : Int), e = .returned (.tuple #[nv N A ps.length c, .int .i64 z0, .slice (some ⟨q1, 0, none⟩) l1.length c1, .int .i64 z2]) ∧ TNet (w.heap.size + 1) w' N A c ps ∧ l1.length ≤ 10 ∧ IOwn w' (w.heap.size + 1) (.slice (some ⟨q1, 0, none⟩) l1.length c1) l1 ∧ Below w.heap.size w w' := by
  have HST := Lib.hid (cur_start cap (nb 0 none 0 0) h hn)
  clear h
  go_enter Try.func20, Try.ntmps20
  refine Hid.out ?_
  refine Lib.hid ?_
  go_wp2_with (first | (go_at_call 54; refine (tree_draw (w.heap.size + 1) (w.heap.size + 1) a n cap 0 _ (by omega) HST.out (by simp)).mono ?_; rintro e w1 ⟨N, A, c, ps, rfl, hd, hs, hg⟩; refine Hid.out ?_) | fail)
  have hz1 : w.heap.size + 2 ≤ w1.heap.size := by have := hg.size; simp at this; omega
  have HI0 := Lib.hid (show DI w (w1.alloc (nb N A ps.length c)) a n cap 1000 w1.heap.size N A c ps from
    ⟨S1.st_new (hs.more (by omega)) _, (below2 hg (by omega)).trans ((alloc_below w1 _).mono (by omega)), (hd.low (by simp)).on (alloc_below _ _), TN.made w1 _ _, (((TN.made w (.int .i64 0) (.slice none 0 0)).below (alloc_below _ _)).grown hg (by omega)).below (alloc_below _ _), by omega⟩)
  clear hd hs hg HST
  refine Lib.hid ?_
  go_upto_region 3 with (fail)
  obtain ⟨wa, hwa⟩ : ∃ wa, w1.alloc (nb N A ps.length c) = wa := ⟨_, rfl⟩
  rw [hwa] at HI0 ⊢
  clear hwa
  have hN9 := HI0.out.net.n9
  have hT9 : w.heap.size + 1 < w1.heap.size := HI0.out.tw
  obtain ⟨c0, c1⟩ := HI0.out.box.cell
  have hy0 := HI0.out.box.lt
  refine wp_region_held_drew (S := fun w' => w'.cell? ⟨w1.heap.size, 0, none⟩ = some (.int .i64 N) ∧ w'.cell? ⟨w1.heap.size, 1, none⟩ = some (.slice A ps.length c)) (by kernel_rfl) (by exact ⟨c0, c1⟩) (fun hHeld => ?_)
  refine wpAnyH_take (i := 0) (v := .agg #[.int .i64 N, .slice A ps.length c]) rfl (by kernel_rfl) (by kernel_rfl) (by kernel_rfl) (fun _ _ _ h => h) (Or.inl ⟨by kernel_rfl, ?_⟩) (by assumption) ?_
  · (intro w hSw; (try dsimp only at hSw); go_simp)
  simp only [Act.put, List.setIfInBounds_toArray]
  refine wpAnyH_take (i := 1) (v := .pointer (some ⟨w.heap.size + 1, 0, none⟩)) rfl (by kernel_rfl) (by kernel_rfl) (by kernel_rfl) (fun _ _ _ h => h) (Or.inl ⟨by kernel_rfl, ?_⟩) (by assumption) ?_
  · (intro w hSw; (try dsimp only at hSw); go_simp)
  simp only [Act.put]
  refine wpAnyH_take (i := 2) (v := .agg #[.int .i64 N, .slice A ps.length c]) rfl (by kernel_rfl) (by kernel_rfl) (by kernel_rfl) (fun _ _ _ h => h) (Or.inl ⟨by kernel_rfl, ?_⟩) (by assumption) ?_
  · (intro w hSw; (try dsimp only at hSw); go_simp)
  simp only [Act.put]
  refine wpAnyH_take (i := 4) (v := .pointer (some ⟨w.heap.size + 1, 0, none⟩)) rfl (by kernel_rfl) (by kernel_rfl) (by kernel_rfl) (fun _ _ _ h => h) (Or.inl ⟨by kernel_rfl, ?_⟩) (by assumption) ?_
  · (intro w hSw; (try dsimp only at hSw); go_simp)
  simp only [Act.put]
  refine wpAnyH_take (i := 5) (v := .agg #[.int .i64 N, .slice A ps.length c]) rfl (by kernel_rfl) (by kernel_rfl) (by kernel_rfl) (fun _ _ _ h => h) (Or.inl ⟨by kernel_rfl, ?_⟩) (by assumption) ?_
  · (intro w hSw; (try dsimp only at hSw); go_simp)
  simp only [Act.put]
  refine wpAnyH_take (i := 7) (v := .pointer (some ⟨w.heap.size + 1, 0, none⟩)) rfl (by kernel_rfl) (by kernel_rfl) (by kernel_rfl) (fun _ _ _ h => h) (Or.inl ⟨by kernel_rfl, ?_⟩) (by assumption) ?_
  · (intro w hSw; (try dsimp only at hSw); go_simp)
  simp only [Act.put]
  have HI0x := Lib.hid (HI0.out.quiet (Below.refl _ _).drew)
  clear HI0 c0 c1
  refine wpAnyH_ready (rs := [3]) (by kernel_rfl) (by simp) ?_
  refine AllReadyH.cons rfl (fun K hK => ?_) AllReadyH.nil
  go_simp
  go_at_call 55
  refine (node_draw (w.heap.size + 1) (w.heap.size + 1) a n cap 1000 N A ps.length c _ (by omega) (by omega) HI0x.out.st).mono ?_
  rintro e v0 ⟨⟨z0, rfl⟩, hs, hg⟩
  have HI1 := Lib.hid (HI0x.out.call hs hg)
  clear hs hg
  obtain ⟨x0, y0⟩ := HI1.out.box.cell
  refine hK.out _ _ (by exact ⟨x0, y0⟩) (fun hHeld => ?_)
  clear hK K
  refine wpAnyH_ready (rs := [6]) (by kernel_rfl) (by simp) ?_
  refine AllReadyH.cons rfl (fun K hK => ?_) AllReadyH.nil
  go_simp
  go_at_call 56
  refine (demands_draw (w.heap.size + 1) (w.heap.size + 1) a n cap 1004 N A ps.length c _ (by omega) hN9 HI1.out.st (by have := HI1.out.box.lt; omega)).mono ?_
  rintro e v1 ⟨q1, c1, l1, rfl, hl1, ho, hs, hg⟩
  have HO1_1 := Lib.hid (own_low (B' := w.heap.size + 2) ho (by have := HI1.out.box.lt; omega))
  clear ho
  have HI2 := Lib.hid (HI1.out.call hs hg)
  clear hs hg
  obtain ⟨x1, y1⟩ := HI2.out.box.cell
  refine hK.out _ _ (by exact ⟨x1, y1⟩) (fun hHeld => ?_)
  clear hK K
  refine wpAnyH_ready (rs := [8]) (by kernel_rfl) (by simp) ?_
  refine AllReadyH.cons rfl (fun K hK => ?_) AllReadyH.nil
  go_simp
  go_at_call 74
  refine (head_draw (w.heap.size + 1) (w.heap.size + 1) a n cap 1104 _ (by omega) HI2.out.st).mono ?_
  rintro e v2 ⟨⟨z2, rfl⟩, hs, hg⟩
  have HO1_2 := Lib.hid (own_call HO1_1.out hg (by omega))
  have HI3 := Lib.hid (HI2.out.call hs hg)
  clear hs hg
  obtain ⟨x2, y2⟩ := HI3.out.box.cell
  obtain ⟨s0, s1⟩ := HI3.out.res.cell
  have sf := HI3.out.res.frozen
  have sz := HI3.out.res.lt
  refine hK.out _ _ (by exact ⟨x2, y2⟩) (fun hHeld => ?_)
  clear hK K
  have hD := Lib.hid (HI3.out.done (.int .i64 N) (.slice A ps.length c))
  refine wpAnyH_ready (rs := [9]) (by kernel_rfl) (by simp) ?_
  refine AllReadyH.cons rfl (fun K hK => ?_) AllReadyH.nil
  go_simp
  refine hK.out _ _ (by first | assumption | go_keep | exact (((HI3.out.box.other (p := ⟨w.heap.size, 0, none⟩) (.int .i64 N) (by show w1.heap.size ≠ w.heap.size; omega)).other (p := ⟨w.heap.size, 1, none⟩) (.slice A ps.length c) (by show w1.heap.size ≠ w.heap.size; omega)).cell)) (fun hHeld => ?_)
  clear hK K
  refine wpAnyH_ready (rs := [10]) (by kernel_rfl) (by simp) ?_
  refine AllReadyH.cons rfl (fun K hK => ?_) AllReadyH.nil
  go_simp
  refine hK.out _ _ (by first | assumption | go_keep | exact (((HI3.out.box.other (p := ⟨w.heap.size, 0, none⟩) (.int .i64 N) (by show w1.heap.size ≠ w.heap.size; omega)).other (p := ⟨w.heap.size, 1, none⟩) (.slice A ps.length c) (by show w1.heap.size ≠ w.heap.size; omega)).cell)) (fun hHeld => ?_)
  clear hK K
  refine wpAnyH_ready (rs := [11]) (by kernel_rfl) (by simp) ?_
  refine AllReadyH.cons rfl (fun K hK => ?_) AllReadyH.nil
  go_simp
  refine hK.out _ _ (by first | assumption | go_keep | exact (((HI3.out.box.other (p := ⟨w.heap.size, 0, none⟩) (.int .i64 N) (by show w1.heap.size ≠ w.heap.size; omega)).other (p := ⟨w.heap.size, 1, none⟩) (.slice A ps.length c) (by show w1.heap.size ≠ w.heap.size; omega)).cell)) (fun hHeld => ?_)
  clear hK K
  refine wpAnyH_ready (rs := [12]) (by kernel_rfl) (by simp) ?_
  refine AllReadyH.cons rfl (fun K hK => ?_) AllReadyH.nil
  go_simp
  refine hK.out _ _ (by first | assumption | go_keep | exact (((HI3.out.box.other (p := ⟨w.heap.size, 0, none⟩) (.int .i64 N) (by show w1.heap.size ≠ w.heap.size; omega)).other (p := ⟨w.heap.size, 1, none⟩) (.slice A ps.length c) (by show w1.heap.size ≠ w.heap.size; omega)).cell)) (fun hHeld => ?_)
  clear hK K
  refine wpAnyH_done (by kernel_rfl) ?_ _
  clear hHeld
  go_wp2_with fail
  refine bodyPost_ret (v := .tuple #[nv N A ps.length c, .int .i64 z0, .slice (some ⟨q1, 0, none⟩) l1.length c1, .int .i64 z2]) (by simp [results, Try.results20, go_sem, s0, s1]) rfl ⟨N, A, c, ps, z0, q1, c1, l1, z2, rfl, hD.out.1, hl1, own_two (own_low HO1_2.out (by omega)), hD.out.2⟩
set_option maxHeartbeats 4000000 in
set_option maxRecDepth 100000 in
theorem dneed_any (a : Option Addr) (n cap : Nat) (w : World) (h : S1.Cd w.heap.size a n w) (hn : n ≤ 65536) :
    Calls Try.prog 25 #[.slice a n cap] w fun e w' => ∃ (N : Int) (A : Option Addr) (c : Nat) (ps : List Pp) (z0 : Int) (q1 c1 : Nat) (l1 : List Int) (q2 c2 : Nat) (l2 : List Int) (z3 : Int), e = .returned (.tuple #[nv N A ps.length c, .int .i64 z0, .slice (some ⟨q1, 0, none⟩) l1.length c1, .slice (some ⟨q2, 0, none⟩) l2.length c2, .int .i64 z3]) ∧ TNet (w.heap.size + 1) w' N A c ps ∧ l1.length ≤ 10 ∧ IOwn w' (w.heap.size + 1) (.slice (some ⟨q1, 0, none⟩) l1.length c1) l1 ∧ l2.length ≤ 10 ∧ IOwn w' (w.heap.size + 1) (.slice (some ⟨q2, 0, none⟩) l2.length c2) l2 ∧ Below w.heap.size w w' := by
  have HST := Lib.hid (cur_start cap (nb 0 none 0 0) h hn)
  clear h
  go_enter Try.func25, Try.ntmps25
  refine Hid.out ?_
  refine Lib.hid ?_
  go_wp2_with (first | (go_at_call 54; refine (tree_draw (w.heap.size + 1) (w.heap.size + 1) a n cap 0 _ (by omega) HST.out (by simp)).mono ?_; rintro e w1 ⟨N, A, c, ps, rfl, hd, hs, hg⟩; refine Hid.out ?_) | fail)
  have hz1 : w.heap.size + 2 ≤ w1.heap.size := by have := hg.size; simp at this; omega
  have HI0 := Lib.hid (show DI w (w1.alloc (nb N A ps.length c)) a n cap 1000 w1.heap.size N A c ps from
    ⟨S1.st_new (hs.more (by omega)) _, (below2 hg (by omega)).trans ((alloc_below w1 _).mono (by omega)), (hd.low (by simp)).on (alloc_below _ _), TN.made w1 _ _, (((TN.made w (.int .i64 0) (.slice none 0 0)).below (alloc_below _ _)).grown hg (by omega)).below (alloc_below _ _), by omega⟩)
  clear hd hs hg HST
  refine Lib.hid ?_
  go_upto_region 3 with (fail)
  obtain ⟨wa, hwa⟩ : ∃ wa, w1.alloc (nb N A ps.length c) = wa := ⟨_, rfl⟩
  rw [hwa] at HI0 ⊢
  clear hwa
  have hN9 := HI0.out.net.n9
  have hT9 : w.heap.size + 1 < w1.heap.size := HI0.out.tw
  obtain ⟨c0, c1⟩ := HI0.out.box.cell
  have hy0 := HI0.out.box.lt
  refine wp_region_held_drew (S := fun w' => w'.cell? ⟨w1.heap.size, 0, none⟩ = some (.int .i64 N) ∧ w'.cell? ⟨w1.heap.size, 1, none⟩ = some (.slice A ps.length c)) (by kernel_rfl) (by exact ⟨c0, c1⟩) (fun hHeld => ?_)
  refine wpAnyH_take (i := 0) (v := .agg #[.int .i64 N, .slice A ps.length c]) rfl (by kernel_rfl) (by kernel_rfl) (by kernel_rfl) (fun _ _ _ h => h) (Or.inl ⟨by kernel_rfl, ?_⟩) (by assumption) ?_
  · (intro w hSw; (try dsimp only at hSw); go_simp)
  simp only [Act.put, List.setIfInBounds_toArray]
  refine wpAnyH_take (i := 1) (v := .pointer (some ⟨w.heap.size + 1, 0, none⟩)) rfl (by kernel_rfl) (by kernel_rfl) (by kernel_rfl) (fun _ _ _ h => h) (Or.inl ⟨by kernel_rfl, ?_⟩) (by assumption) ?_
  · (intro w hSw; (try dsimp only at hSw); go_simp)
  simp only [Act.put]
  refine wpAnyH_take (i := 2) (v := .agg #[.int .i64 N, .slice A ps.length c]) rfl (by kernel_rfl) (by kernel_rfl) (by kernel_rfl) (fun _ _ _ h => h) (Or.inl ⟨by kernel_rfl, ?_⟩) (by assumption) ?_
  · (intro w hSw; (try dsimp only at hSw); go_simp)
  simp only [Act.put]
  refine wpAnyH_take (i := 4) (v := .pointer (some ⟨w.heap.size + 1, 0, none⟩)) rfl (by kernel_rfl) (by kernel_rfl) (by kernel_rfl) (fun _ _ _ h => h) (Or.inl ⟨by kernel_rfl, ?_⟩) (by assumption) ?_
  · (intro w hSw; (try dsimp only at hSw); go_simp)
  simp only [Act.put]
  refine wpAnyH_take (i := 5) (v := .agg #[.int .i64 N, .slice A ps.length c]) rfl (by kernel_rfl) (by kernel_rfl) (by kernel_rfl) (fun _ _ _ h => h) (Or.inl ⟨by kernel_rfl, ?_⟩) (by assumption) ?_
  · (intro w hSw; (try dsimp only at hSw); go_simp)
  simp only [Act.put]
  refine wpAnyH_take (i := 7) (v := .pointer (some ⟨w.heap.size + 1, 0, none⟩)) rfl (by kernel_rfl) (by kernel_rfl) (by kernel_rfl) (fun _ _ _ h => h) (Or.inl ⟨by kernel_rfl, ?_⟩) (by assumption) ?_
  · (intro w hSw; (try dsimp only at hSw); go_simp)
  simp only [Act.put]
  refine wpAnyH_take (i := 8) (v := .agg #[.int .i64 N, .slice A ps.length c]) rfl (by kernel_rfl) (by kernel_rfl) (by kernel_rfl) (fun _ _ _ h => h) (Or.inl ⟨by kernel_rfl, ?_⟩) (by assumption) ?_
  · (intro w hSw; (try dsimp only at hSw); go_simp)
  simp only [Act.put]
  refine wpAnyH_take (i := 10) (v := .pointer (some ⟨w.heap.size + 1, 0, none⟩)) rfl (by kernel_rfl) (by kernel_rfl) (by kernel_rfl) (fun _ _ _ h => h) (Or.inl ⟨by kernel_rfl, ?_⟩) (by assumption) ?_
  · (intro w hSw; (try dsimp only at hSw); go_simp)
  simp only [Act.put, List.getElem_toArray, List.getElem_cons_succ, List.getElem_cons_zero]
  have HI0x := Lib.hid (HI0.out.quiet (Below.refl _ _).drew)
  clear HI0 c0 c1
  refine wpAnyH_ready (rs := [3]) (by kernel_rfl) (by simp) ?_
  refine AllReadyH.cons rfl (fun K hK => ?_) AllReadyH.nil
  go_simp
  go_at_call 55
  refine (node_draw (w.heap.size + 1) (w.heap.size + 1) a n cap 1000 N A ps.length c _ (by omega) (by omega) HI0x.out.st).mono ?_
  rintro e v0 ⟨⟨z0, rfl⟩, hs, hg⟩
  have HI1 := Lib.hid (HI0x.out.call hs hg)
  clear hs hg
  obtain ⟨x0, y0⟩ := HI1.out.box.cell
  refine hK.out _ _ (by exact ⟨x0, y0⟩) (fun hHeld => ?_)
  clear hK K
  refine wpAnyH_ready (rs := [6]) (by kernel_rfl) (by simp) ?_
  refine AllReadyH.cons rfl (fun K hK => ?_) AllReadyH.nil
  go_simp
  go_at_call 56
  refine (demands_draw (w.heap.size + 1) (w.heap.size + 1) a n cap 1004 N A ps.length c _ (by omega) hN9 HI1.out.st (by have := HI1.out.box.lt; omega)).mono ?_
  rintro e v1 ⟨q1, c1, l1, rfl, hl1, ho, hs, hg⟩
  have HO1_1 := Lib.hid (own_low (B' := w.heap.size + 2) ho (by have := HI1.out.box.lt; omega))
  clear ho
  have HI2 := Lib.hid (HI1.out.call hs hg)
  clear hs hg
  obtain ⟨x1, y1⟩ := HI2.out.box.cell
  refine hK.out _ _ (by exact ⟨x1, y1⟩) (fun hHeld => ?_)
  clear hK K
  refine wpAnyH_ready (rs := [9]) (by kernel_rfl) (by simp) ?_
  refine AllReadyH.cons rfl (fun K hK => ?_) AllReadyH.nil
  go_simp
  go_at_call 82
  refine (heights_draw (w.heap.size + 1) (w.heap.size + 1) a n cap 1104 N A ps.length c _ (by omega) hN9 HI2.out.st (by have := HI2.out.box.lt; omega)).mono ?_
  rintro e v2 ⟨q2, c2, l2, rfl, hl2, ho, hs, hg⟩
  have HO2_2 := Lib.hid (own_low (B' := w.heap.size + 2) ho (by have := HI2.out.box.lt; omega))
  have HO1_2 := Lib.hid (own_call HO1_1.out hg (by omega))
  clear ho
  have HI3 := Lib.hid (HI2.out.call hs hg)
  clear hs hg
  obtain ⟨x2, y2⟩ := HI3.out.box.cell
  refine hK.out _ _ (by exact ⟨x2, y2⟩) (fun hHeld => ?_)
  clear hK K
  refine wpAnyH_ready (rs := [11]) (by kernel_rfl) (by simp) ?_
  refine AllReadyH.cons rfl (fun K hK => ?_) AllReadyH.nil
  go_simp
  go_at_call 74
  refine (head_draw (w.heap.size + 1) (w.heap.size + 1) a n cap 1204 _ (by omega) HI3.out.st).mono ?_
  rintro e v3 ⟨⟨z3, rfl⟩, hs, hg⟩
  have HO1_3 := Lib.hid (own_call HO1_2.out hg (by omega))
  have HO2_3 := Lib.hid (own_call HO2_2.out hg (by omega))
  have HI4 := Lib.hid (HI3.out.call hs hg)
  clear hs hg
  obtain ⟨x3, y3⟩ := HI4.out.box.cell
  obtain ⟨s0, s1⟩ := HI4.out.res.cell
  have sf := HI4.out.res.frozen
  have sz := HI4.out.res.lt
  refine hK.out _ _ (by exact ⟨x3, y3⟩) (fun hHeld => ?_)
  clear hK K
  have hD := Lib.hid (HI4.out.done (.int .i64 N) (.slice A ps.length c))
  refine wpAnyH_ready (rs := [12]) (by kernel_rfl) (by simp) ?_
  refine AllReadyH.cons rfl (fun K hK => ?_) AllReadyH.nil
  go_simp
  refine hK.out _ _ (by first | assumption | go_keep | exact (((HI4.out.box.other (p := ⟨w.heap.size, 0, none⟩) (.int .i64 N) (by show w1.heap.size ≠ w.heap.size; omega)).other (p := ⟨w.heap.size, 1, none⟩) (.slice A ps.length c) (by show w1.heap.size ≠ w.heap.size; omega)).cell)) (fun hHeld => ?_)
  clear hK K
  refine wpAnyH_ready (rs := [13]) (by kernel_rfl) (by simp) ?_
  refine AllReadyH.cons rfl (fun K hK => ?_) AllReadyH.nil
  go_simp
  refine hK.out _ _ (by first | assumption | go_keep | exact (((HI4.out.box.other (p := ⟨w.heap.size, 0, none⟩) (.int .i64 N) (by show w1.heap.size ≠ w.heap.size; omega)).other (p := ⟨w.heap.size, 1, none⟩) (.slice A ps.length c) (by show w1.heap.size ≠ w.heap.size; omega)).cell)) (fun hHeld => ?_)
  clear hK K
  refine wpAnyH_ready (rs := [14]) (by kernel_rfl) (by simp) ?_
  refine AllReadyH.cons rfl (fun K hK => ?_) AllReadyH.nil
  go_simp
  refine hK.out _ _ (by first | assumption | go_keep | exact (((HI4.out.box.other (p := ⟨w.heap.size, 0, none⟩) (.int .i64 N) (by show w1.heap.size ≠ w.heap.size; omega)).other (p := ⟨w.heap.size, 1, none⟩) (.slice A ps.length c) (by show w1.heap.size ≠ w.heap.size; omega)).cell)) (fun hHeld => ?_)
  clear hK K
  refine wpAnyH_ready (rs := [15]) (by kernel_rfl) (by simp) ?_
  refine AllReadyH.cons rfl (fun K hK => ?_) AllReadyH.nil
  go_simp
  refine hK.out _ _ (by first | assumption | go_keep | exact (((HI4.out.box.other (p := ⟨w.heap.size, 0, none⟩) (.int .i64 N) (by show w1.heap.size ≠ w.heap.size; omega)).other (p := ⟨w.heap.size, 1, none⟩) (.slice A ps.length c) (by show w1.heap.size ≠ w.heap.size; omega)).cell)) (fun hHeld => ?_)
  clear hK K
  refine wpAnyH_ready (rs := [16]) (by kernel_rfl) (by simp) ?_
  refine AllReadyH.cons rfl (fun K hK => ?_) AllReadyH.nil
  go_simp
  refine hK.out _ _ (by first | assumption | go_keep | exact (((HI4.out.box.other (p := ⟨w.heap.size, 0, none⟩) (.int .i64 N) (by show w1.heap.size ≠ w.heap.size; omega)).other (p := ⟨w.heap.size, 1, none⟩) (.slice A ps.length c) (by show w1.heap.size ≠ w.heap.size; omega)).cell)) (fun hHeld => ?_)
  clear hK K
  refine wpAnyH_done (by kernel_rfl) ?_ _
  clear hHeld
  go_wp2_with fail
  refine bodyPost_ret (v := .tuple #[nv N A ps.length c, .int .i64 z0, .slice (some ⟨q1, 0, none⟩) l1.length c1, .slice (some ⟨q2, 0, none⟩) l2.length c2, .int .i64 z3]) (by simp [results, Try.results25, go_sem, s0, s1]) rfl ⟨N, A, c, ps, z0, q1, c1, l1, q2, c2, l2, z3, rfl, hD.out.1, hl1, own_two (own_low HO1_3.out (by omega)), hl2, own_two (own_low HO2_3.out (by omega)), hD.out.2⟩
set_option maxHeartbeats 4000000 in
set_option maxRecDepth 100000 in
theorem dweak_any (a : Option Addr) (n cap : Nat) (w : World) (h : S1.Cd w.heap.size a n w) (hn : n ≤ 65536) :
    Calls Try.prog 29 #[.slice a n cap] w fun e w' => ∃ (N : Int) (A : Option Addr) (c : Nat) (ps : List Pp) (z0 : Int) (q1 c1 : Nat) (l1 : List Int) (z2 : Int) (q3 c3 : Nat) (l3 : List Int) (z4 : Int), e = .returned (.tuple #[nv N A ps.length c, .int .i64 z0, .slice (some ⟨q1, 0, none⟩) l1.length c1, .int .i64 z2, .slice (some ⟨q3, 0, none⟩) l3.length c3, .int .i64 z4]) ∧ TNet (w.heap.size + 1) w' N A c ps ∧ l1.length ≤ 10 ∧ IOwn w' (w.heap.size + 1) (.slice (some ⟨q1, 0, none⟩) l1.length c1) l1 ∧ l3.length ≤ 10 ∧ IOwn w' (w.heap.size + 1) (.slice (some ⟨q3, 0, none⟩) l3.length c3) l3 ∧ Below w.heap.size w w' := by
  have HST := Lib.hid (cur_start cap (nb 0 none 0 0) h hn)
  clear h
  go_enter Try.func29, Try.ntmps29
  refine Hid.out ?_
  refine Lib.hid ?_
  go_wp2_with (first | (go_at_call 54; refine (tree_draw (w.heap.size + 1) (w.heap.size + 1) a n cap 0 _ (by omega) HST.out (by simp)).mono ?_; rintro e w1 ⟨N, A, c, ps, rfl, hd, hs, hg⟩; refine Hid.out ?_) | fail)
  have hz1 : w.heap.size + 2 ≤ w1.heap.size := by have := hg.size; simp at this; omega
  have HI0 := Lib.hid (show DI w (w1.alloc (nb N A ps.length c)) a n cap 1000 w1.heap.size N A c ps from
    ⟨S1.st_new (hs.more (by omega)) _, (below2 hg (by omega)).trans ((alloc_below w1 _).mono (by omega)), (hd.low (by simp)).on (alloc_below _ _), TN.made w1 _ _, (((TN.made w (.int .i64 0) (.slice none 0 0)).below (alloc_below _ _)).grown hg (by omega)).below (alloc_below _ _), by omega⟩)
  clear hd hs hg HST
  refine Lib.hid ?_
  go_upto_region 3 with (fail)
  obtain ⟨wa, hwa⟩ : ∃ wa, w1.alloc (nb N A ps.length c) = wa := ⟨_, rfl⟩
  rw [hwa] at HI0 ⊢
  clear hwa
  have hN9 := HI0.out.net.n9
  have hT9 : w.heap.size + 1 < w1.heap.size := HI0.out.tw
  obtain ⟨c0, c1⟩ := HI0.out.box.cell
  have hy0 := HI0.out.box.lt
  refine wp_region_held_drew (S := fun w' => w'.cell? ⟨w1.heap.size, 0, none⟩ = some (.int .i64 N) ∧ w'.cell? ⟨w1.heap.size, 1, none⟩ = some (.slice A ps.length c)) (by kernel_rfl) (by exact ⟨c0, c1⟩) (fun hHeld => ?_)
  refine wpAnyH_take (i := 0) (v := .agg #[.int .i64 N, .slice A ps.length c]) rfl (by kernel_rfl) (by kernel_rfl) (by kernel_rfl) (fun _ _ _ h => h) (Or.inl ⟨by kernel_rfl, ?_⟩) (by assumption) ?_
  · (intro w hSw; (try dsimp only at hSw); go_simp)
  simp only [Act.put, List.setIfInBounds_toArray]
  refine wpAnyH_take (i := 1) (v := .pointer (some ⟨w.heap.size + 1, 0, none⟩)) rfl (by kernel_rfl) (by kernel_rfl) (by kernel_rfl) (fun _ _ _ h => h) (Or.inl ⟨by kernel_rfl, ?_⟩) (by assumption) ?_
  · (intro w hSw; (try dsimp only at hSw); go_simp)
  simp only [Act.put]
  refine wpAnyH_take (i := 2) (v := .agg #[.int .i64 N, .slice A ps.length c]) rfl (by kernel_rfl) (by kernel_rfl) (by kernel_rfl) (fun _ _ _ h => h) (Or.inl ⟨by kernel_rfl, ?_⟩) (by assumption) ?_
  · (intro w hSw; (try dsimp only at hSw); go_simp)
  simp only [Act.put]
  refine wpAnyH_take (i := 4) (v := .pointer (some ⟨w.heap.size + 1, 0, none⟩)) rfl (by kernel_rfl) (by kernel_rfl) (by kernel_rfl) (fun _ _ _ h => h) (Or.inl ⟨by kernel_rfl, ?_⟩) (by assumption) ?_
  · (intro w hSw; (try dsimp only at hSw); go_simp)
  simp only [Act.put]
  refine wpAnyH_take (i := 5) (v := .agg #[.int .i64 N, .slice A ps.length c]) rfl (by kernel_rfl) (by kernel_rfl) (by kernel_rfl) (fun _ _ _ h => h) (Or.inl ⟨by kernel_rfl, ?_⟩) (by assumption) ?_
  · (intro w hSw; (try dsimp only at hSw); go_simp)
  simp only [Act.put]
  refine wpAnyH_take (i := 7) (v := .pointer (some ⟨w.heap.size + 1, 0, none⟩)) rfl (by kernel_rfl) (by kernel_rfl) (by kernel_rfl) (fun _ _ _ h => h) (Or.inl ⟨by kernel_rfl, ?_⟩) (by assumption) ?_
  · (intro w hSw; (try dsimp only at hSw); go_simp)
  simp only [Act.put]
  refine wpAnyH_take (i := 9) (v := .pointer (some ⟨w.heap.size + 1, 0, none⟩)) rfl (by kernel_rfl) (by kernel_rfl) (by kernel_rfl) (fun _ _ _ h => h) (Or.inl ⟨by kernel_rfl, ?_⟩) (by assumption) ?_
  · (intro w hSw; (try dsimp only at hSw); go_simp)
  simp only [Act.put, List.getElem_toArray, List.getElem_cons_succ, List.getElem_cons_zero]
  refine wpAnyH_take (i := 10) (v := .agg #[.int .i64 N, .slice A ps.length c]) rfl (by kernel_rfl) (by kernel_rfl) (by kernel_rfl) (fun _ _ _ h => h) (Or.inl ⟨by kernel_rfl, ?_⟩) (by assumption) ?_
  · (intro w hSw; (try dsimp only at hSw); go_simp)
  simp only [Act.put, List.getElem_toArray, List.getElem_cons_succ, List.getElem_cons_zero]
  refine wpAnyH_take (i := 12) (v := .pointer (some ⟨w.heap.size + 1, 0, none⟩)) rfl (by kernel_rfl) (by kernel_rfl) (by kernel_rfl) (fun _ _ _ h => h) (Or.inl ⟨by kernel_rfl, ?_⟩) (by assumption) ?_
  · (intro w hSw; (try dsimp only at hSw); go_simp)
  simp only [Act.put, List.getElem_toArray, List.getElem_cons_succ, List.getElem_cons_zero]
  have HI0x := Lib.hid (HI0.out.quiet (Below.refl _ _).drew)
  clear HI0 c0 c1
  refine wpAnyH_ready (rs := [3]) (by kernel_rfl) (by simp) ?_
  refine AllReadyH.cons rfl (fun K hK => ?_) AllReadyH.nil
  go_simp
  go_at_call 55
  refine (node_draw (w.heap.size + 1) (w.heap.size + 1) a n cap 1000 N A ps.length c _ (by omega) (by omega) HI0x.out.st).mono ?_
  rintro e v0 ⟨⟨z0, rfl⟩, hs, hg⟩
  have HI1 := Lib.hid (HI0x.out.call hs hg)
  clear hs hg
  obtain ⟨x0, y0⟩ := HI1.out.box.cell
  refine hK.out _ _ (by exact ⟨x0, y0⟩) (fun hHeld => ?_)
  clear hK K
  refine wpAnyH_ready (rs := [6]) (by kernel_rfl) (by simp) ?_
  refine AllReadyH.cons rfl (fun K hK => ?_) AllReadyH.nil
  go_simp
  go_at_call 56
  refine (demands_draw (w.heap.size + 1) (w.heap.size + 1) a n cap 1004 N A ps.length c _ (by omega) hN9 HI1.out.st (by have := HI1.out.box.lt; omega)).mono ?_
  rintro e v1 ⟨q1, c1, l1, rfl, hl1, ho, hs, hg⟩
  have HO1_1 := Lib.hid (own_low (B' := w.heap.size + 2) ho (by have := HI1.out.box.lt; omega))
  clear ho
  have HI2 := Lib.hid (HI1.out.call hs hg)
  clear hs hg
  obtain ⟨x1, y1⟩ := HI2.out.box.cell
  refine hK.out _ _ (by exact ⟨x1, y1⟩) (fun hHeld => ?_)
  clear hK K
  refine wpAnyH_ready (rs := [8]) (by kernel_rfl) (by simp) ?_
  refine AllReadyH.cons rfl (fun K hK => ?_) AllReadyH.nil
  go_simp
  go_at_call 74
  refine (head_draw (w.heap.size + 1) (w.heap.size + 1) a n cap 1104 _ (by omega) HI2.out.st).mono ?_
  rintro e v2 ⟨⟨z2, rfl⟩, hs, hg⟩
  have HO1_2 := Lib.hid (own_call HO1_1.out hg (by omega))
  have HI3 := Lib.hid (HI2.out.call hs hg)
  clear hs hg
  obtain ⟨x2, y2⟩ := HI3.out.box.cell
  refine hK.out _ _ (by exact ⟨x2, y2⟩) (fun hHeld => ?_)
  clear hK K
  refine wpAnyH_ready (rs := [11]) (by kernel_rfl) (by simp) ?_
  refine AllReadyH.cons rfl (fun K hK => ?_) AllReadyH.nil
  go_simp
  go_at_call 82
  refine (heights_draw (w.heap.size + 1) (w.heap.size + 1) a n cap 1106 N A ps.length c _ (by omega) hN9 HI3.out.st (by have := HI3.out.box.lt; omega)).mono ?_
  rintro e v3 ⟨q3, c3, l3, rfl, hl3, ho, hs, hg⟩
  have HO3_3 := Lib.hid (own_low (B' := w.heap.size + 2) ho (by have := HI3.out.box.lt; omega))
  have HO1_3 := Lib.hid (own_call HO1_2.out hg (by omega))
  clear ho
  have HI4 := Lib.hid (HI3.out.call hs hg)
  clear hs hg
  obtain ⟨x3, y3⟩ := HI4.out.box.cell
  refine hK.out _ _ (by exact ⟨x3, y3⟩) (fun hHeld => ?_)
  clear hK K
  refine wpAnyH_ready (rs := [13]) (by kernel_rfl) (by simp) ?_
  refine AllReadyH.cons rfl (fun K hK => ?_) AllReadyH.nil
  go_simp
  go_at_call 74
  refine (head_draw (w.heap.size + 1) (w.heap.size + 1) a n cap 1206 _ (by omega) HI4.out.st).mono ?_
  rintro e v4 ⟨⟨z4, rfl⟩, hs, hg⟩
  have HO1_4 := Lib.hid (own_call HO1_3.out hg (by omega))
  have HO3_4 := Lib.hid (own_call HO3_3.out hg (by omega))
  have HI5 := Lib.hid (HI4.out.call hs hg)
  clear hs hg
  obtain ⟨x4, y4⟩ := HI5.out.box.cell
  obtain ⟨s0, s1⟩ := HI5.out.res.cell
  have sf := HI5.out.res.frozen
  have sz := HI5.out.res.lt
  refine hK.out _ _ (by exact ⟨x4, y4⟩) (fun hHeld => ?_)
  clear hK K
  have hD := Lib.hid (HI5.out.done (.int .i64 N) (.slice A ps.length c))
  refine wpAnyH_ready (rs := [14]) (by kernel_rfl) (by simp) ?_
  refine AllReadyH.cons rfl (fun K hK => ?_) AllReadyH.nil
  go_simp
  refine hK.out _ _ (by first | assumption | go_keep | exact (((HI5.out.box.other (p := ⟨w.heap.size, 0, none⟩) (.int .i64 N) (by show w1.heap.size ≠ w.heap.size; omega)).other (p := ⟨w.heap.size, 1, none⟩) (.slice A ps.length c) (by show w1.heap.size ≠ w.heap.size; omega)).cell)) (fun hHeld => ?_)
  clear hK K
  refine wpAnyH_ready (rs := [15]) (by kernel_rfl) (by simp) ?_
  refine AllReadyH.cons rfl (fun K hK => ?_) AllReadyH.nil
  go_simp
  refine hK.out _ _ (by first | assumption | go_keep | exact (((HI5.out.box.other (p := ⟨w.heap.size, 0, none⟩) (.int .i64 N) (by show w1.heap.size ≠ w.heap.size; omega)).other (p := ⟨w.heap.size, 1, none⟩) (.slice A ps.length c) (by show w1.heap.size ≠ w.heap.size; omega)).cell)) (fun hHeld => ?_)
  clear hK K
  refine wpAnyH_ready (rs := [16]) (by kernel_rfl) (by simp) ?_
  refine AllReadyH.cons rfl (fun K hK => ?_) AllReadyH.nil
  go_simp
  refine hK.out _ _ (by first | assumption | go_keep | exact (((HI5.out.box.other (p := ⟨w.heap.size, 0, none⟩) (.int .i64 N) (by show w1.heap.size ≠ w.heap.size; omega)).other (p := ⟨w.heap.size, 1, none⟩) (.slice A ps.length c) (by show w1.heap.size ≠ w.heap.size; omega)).cell)) (fun hHeld => ?_)
  clear hK K
  refine wpAnyH_ready (rs := [17]) (by kernel_rfl) (by simp) ?_
  refine AllReadyH.cons rfl (fun K hK => ?_) AllReadyH.nil
  go_simp
  refine hK.out _ _ (by first | assumption | go_keep | exact (((HI5.out.box.other (p := ⟨w.heap.size, 0, none⟩) (.int .i64 N) (by show w1.heap.size ≠ w.heap.size; omega)).other (p := ⟨w.heap.size, 1, none⟩) (.slice A ps.length c) (by show w1.heap.size ≠ w.heap.size; omega)).cell)) (fun hHeld => ?_)
  clear hK K
  refine wpAnyH_ready (rs := [18]) (by kernel_rfl) (by simp) ?_
  refine AllReadyH.cons rfl (fun K hK => ?_) AllReadyH.nil
  go_simp
  refine hK.out _ _ (by first | assumption | go_keep | exact (((HI5.out.box.other (p := ⟨w.heap.size, 0, none⟩) (.int .i64 N) (by show w1.heap.size ≠ w.heap.size; omega)).other (p := ⟨w.heap.size, 1, none⟩) (.slice A ps.length c) (by show w1.heap.size ≠ w.heap.size; omega)).cell)) (fun hHeld => ?_)
  clear hK K
  refine wpAnyH_ready (rs := [19]) (by kernel_rfl) (by simp) ?_
  refine AllReadyH.cons rfl (fun K hK => ?_) AllReadyH.nil
  go_simp
  refine hK.out _ _ (by first | assumption | go_keep | exact (((HI5.out.box.other (p := ⟨w.heap.size, 0, none⟩) (.int .i64 N) (by show w1.heap.size ≠ w.heap.size; omega)).other (p := ⟨w.heap.size, 1, none⟩) (.slice A ps.length c) (by show w1.heap.size ≠ w.heap.size; omega)).cell)) (fun hHeld => ?_)
  clear hK K
  refine wpAnyH_done (by kernel_rfl) ?_ _
  clear hHeld
  go_wp2_with fail
  refine bodyPost_ret (v := .tuple #[nv N A ps.length c, .int .i64 z0, .slice (some ⟨q1, 0, none⟩) l1.length c1, .int .i64 z2, .slice (some ⟨q3, 0, none⟩) l3.length c3, .int .i64 z4]) (by simp [results, Try.results29, go_sem, s0, s1]) rfl ⟨N, A, c, ps, z0, q1, c1, l1, z2, q3, c3, l3, z4, rfl, hD.out.1, hl1, own_two (own_low HO1_4.out (by omega)), hl3, own_two (own_low HO3_4.out (by omega)), hD.out.2⟩
end Go.Proofs.Ytlkomipjamelkab.S2
