/- The model's RingFlows: contracts. Conditions: each theorem's own premises. -/
import Derived.Test.YtgjogjmfpbinfaaKQ
import Derived.Test.YtgjogjmfpbinfaaKS
import Derived.Test.YtgjogjmfpbinfaaKR
import Derived.Test.YtgjogjmfpbinfaaKT
import Derived.Test.YtgjogjmfpbinfaaKN
import Derived.Shelf.RegionOpenPlain
import Derived.Shelf.Spec.SlicesInsert
import Derived.Lib.AppendZerosOnto
import Derived.Test.YtgjogjmfpbinfaaKU
import Derived.Deep.DeepCutAuto
import Derived.Test.YtgjogjmfpbinfaaKW
import Derived.Test.YtgjogjmfpbinfaaKV
namespace Go.Proofs.Ytgjogjmfpbinfaa.S2
open Go.RowKit P2

set_option maxHeartbeats 1000000 in
theorem sup_no (n : Int) (A : Option Addr) (cap : Nat) (ps : List Pp) (AD : Option Addr) (dc : Nat) (dm : List Int) (w : World) (h : PAt w A ps) (hm : ps.length ≤ maxLen) (hd : IAt w AD dm) (hdl : dm.length ≤ 1048576) (hv : demB n ps dm = false) :
    Calls Try.prog 81 #[nv n A ps.length cap, .slice AD dm.length dc] w fun e w' => e = .returned (.tuple #[.int .i64 0, .bool false]) ∧ Below w.heap.size w w' := by
  have H := Lib.hid (fun w' (hb : Below w.heap.size w w') => dem_v hv A cap AD dc w' (h.kept hb (Nat.le_refl _)) hm (hd.kept hb (Nat.le_refl _)) hdl)
  clear h hd hv
  go_enter Try.func81, Try.ntmps81
  go_wp2_with (go_at_call 166; refine (H.out _ ((Below.refl _ _).alloc (Nat.le_refl _) _)).mono ?_; rintro e w1 ⟨rfl, hb1⟩)
  go_ret2
  exact ⟨rfl, below_alloc_call hb1⟩
set_option maxHeartbeats 1000000 in
theorem sup_yes (n : Int) (A : Option Addr) (cap : Nat) (ps : List Pp) (AD : Option Addr) (dc : Nat) (dm : List Int) (w : World) (h : PAt w A ps) (hm : ps.length ≤ maxLen) (hd : IAt w AD dm) (hdl : dm.length ≤ 1048576) (hv : demB n ps dm = true) :
    Calls Try.prog 81 #[nv n A ps.length cap, .slice AD dm.length dc] w fun e w' => e = .returned (.tuple #[.int .i64 (sumL dm), .bool true]) ∧ Below w.heap.size w w' := by
  obtain ⟨hg, hdn, hr⟩ := demB_of hv
  have hd8 : dm.length ≤ 8 := by have := hg.2.1; omega
  have H := Lib.hid (fun w' (hb : Below w.heap.size w w') => dem_v hv A cap AD dc w' (h.kept hb (Nat.le_refl _)) hm (hd.kept hb (Nat.le_refl _)) hdl)
  have HA := Lib.hid (fun w' (hb : Below w.heap.size w w') => hd.kept hb (Nat.le_refl _))
  have HB := Lib.hid (fun k (hk : k ≤ dm.length) => sum_in hr (by omega) (by omega) hk (by omega))
  have HE := Lib.hid (fun k (hk : k < dm.length) => allR_at hr hk)
  clear h hd hv hr hg hdn hm
  go_enter Try.func81, Try.ntmps81
  go_wp2_with (go_at_call 166; refine (H.out _ ((Below.refl _ _).alloc (Nat.le_refl _) _)).mono ?_; rintro e w1 ⟨rfl, hb1⟩)
  have hB := Lib.hid (below_alloc_call hb1)
  clear hb1 H
  go_loop [6, 15] (fun s i => ∃ k : Nat, k ≤ dm.length ∧ i = .int .i64 (k : Int) ∧ s = .int .i64 (sumK (lA dm) k)) (fun _ i => dm.length - (intOf i).toNat)
  case atStart => exact ⟨0, Nat.zero_le _, rfl, rfl⟩
  case round =>
    obtain ⟨k, hk, rfl, rfl⟩ := hrel
    obtain ⟨hs0, hs1⟩ := HB.out k hk
    by_cases hlt : k < dm.length
    · obtain ⟨bb, off, hA, hbl, h0⟩ := (HA.out _ hB.out).at_ hlt
      subst hA
      have hk0 : (0 : Int) ≤ (k : Int) := by omega
      have hkn : (k : Int) < (dm.length : Int) := by omega
      have hy0 : 0 ≤ dm.getD k 0 := (HE.out k hlt).1
      have hy1 : dm.getD k 0 ≤ 1000 := (HE.out k hlt).2
      have hsn := Lib.hid (show sumK (lA dm) (k + 1) = sumK (lA dm) k + dm.getD k 0 from rfl)
      generalize dm.getD k 0 = y at *
      generalize sumK (lA dm) k = s at *
      go_wp2
      go_round
      case rel => exact ⟨k + 1, by omega, by go_num, by rw [hsn.out]⟩
      case measure => simp [intOf]; omega
    · have hkk : k = dm.length := by omega
      have hf := Lib.hid (show sumK (lA dm) k = sumL dm by rw [hkk]; rfl)
      clear hkk
      go_wp2
      go_ret2
      exact ⟨by rw [hf.out]; rfl, hB.out⟩
end Go.Proofs.Ytgjogjmfpbinfaa.S2

namespace Go.Proofs.Ytgjogjmfpbinfaa.S2
open Go.RowKit P2

theorem sumG_nn {g : Int → Int} : ∀ {l : List Int}, (∀ v, v ∈ l → 0 ≤ g v) → 0 ≤ sumG g l
  | [], _ => Int.le_refl _
  | x :: l, h => by
    have h1 := h x (by simp)
    have h2 := sumG_nn (l := l) fun v hv => h v (by simp [hv])
    show 0 ≤ g x + sumG g l
    omega
theorem sumG_filter {g : Int → Int} {p : Int → Bool} : ∀ {l : List Int}, (∀ v, v ∈ l → 0 ≤ g v) → sumG g (l.filter p) ≤ sumG g l
  | [], _ => Int.le_refl _
  | x :: l, h => by
    have h1 := h x (by simp)
    have h2 := sumG_filter (p := p) (l := l) fun v hv => h v (by simp [hv])
    have e : sumG g (x :: l) = g x + sumG g l := rfl
    cases hp : p x with
    | false => rw [List.filter_cons_of_neg (by simp [hp])]; omega
    | true =>
      rw [List.filter_cons_of_pos hp]
      show g x + sumG g (l.filter p) ≤ _
      omega
theorem sumG_up (dm : List Int) : ∀ k, sumG (tk dm) (upL k) = sumK (lA dm) k
  | 0 => rfl
  | k + 1 => by
    rw [upL_snoc, sumG_app, sumG_up dm k]
    have e : tk dm ((k : Int) + 1) = lA dm k := by
      unfold tk lA
      rw [show ((k : Int) + 1 - 1).toNat = k by omega]
    show sumK (lA dm) k + (tk dm ((k : Int) + 1) + 0) = sumK (lA dm) k + lA dm k
    omega
/-- No flow of a tree exceeds the supply. -/
theorem flow_sum {N : Nat} {ps : List Pp} {s : Int} {dm : List Int} (hr : allR 0 1000 dm = true) (hl : dm.length = N) (i : Nat) : -(sumL dm) ≤ flowA N ps s dm i ∧ flowA N ps s dm i ≤ sumL dm := by
  have hnn : ∀ v, v ∈ upL N → 0 ≤ tk dm v := fun v hv => (tk_in hr hl (upL_mem.1 hv).1 (upL_mem.1 hv).2).1
  have h1 : sumG (tk dm) (dnL N ps (pAt ps i) s) ≤ sumL dm := by
    have := sumG_filter (p := dnB ps (pAt ps i) s) hnn
    rw [sumG_up] at this
    unfold sumL
    rw [hl]
    exact this
  have h2 : 0 ≤ sumG (tk dm) (dnL N ps (pAt ps i) s) := sumG_nn fun v hv => hnn v (List.mem_filter.1 hv).1
  unfold flowA
  split <;> omega

/-- A list with a 0 put in at a place. -/
def insL (l : List Int) (i : Nat) : List Int := l.take i ++ 0 :: l.drop i
theorem insL_len {l : List Int} {i : Nat} (h : i ≤ l.length) : (insL l i).length = l.length + 1 := by
  simp [insL]; omega
theorem insL_in {l : List Int} {b : Int} (hb : 0 ≤ b) (h : ∀ x, x ∈ l → -b ≤ x ∧ x ≤ b) (i k : Nat) : -b ≤ lA (insL l i) k ∧ lA (insL l i) k ≤ b := by
  have hm : ∀ x, x ∈ insL l i → -b ≤ x ∧ x ≤ b := by
    intro x hx
    rcases List.mem_append.1 hx with h1 | h1
    · exact h x (List.mem_of_mem_take h1)
    · rcases List.mem_cons.1 h1 with h2 | h2
      · subst h2; omega
      · exact h x (List.mem_of_mem_drop h2)
  by_cases hk : k < (insL l i).length
  · have e : lA (insL l i) k = (insL l i)[k] := by simp [lA, List.getD, hk]
    rw [e]; exact hm _ (List.getElem_mem hk)
  · have e : lA (insL l i) k = 0 := by unfold lA; rw [List.getD_eq_getElem?_getD, List.getElem?_eq_none (by omega)]; rfl
    rw [e]; omega
/-- The flows of the ring without its first pipe of the loop, with 0 there. -/
noncomputable def rfF (N : Nat) (ps : List Pp) (t : Int) (dm : List Int) : List Int := insL (tfL N (wo ps (fst0 N ps)) t dm) (fst0 N ps)
theorem rfT_len {N : Nat} {ps : List Pp} (h : Rg N ps) (t : Int) (dm : List Int) : (tfL N (wo ps (fst0 N ps)) t dm).length = ps.length - 1 := by
  rw [tfL_len, wo_len _ _ h.lp.lt]
theorem rfF_len {N : Nat} {ps : List Pp} (h : Rg N ps) (t : Int) (dm : List Int) : (rfF N ps t dm).length = ps.length := by
  have h1 := h.lp.lt
  have h2 := rfT_len h t dm
  unfold rfF
  rw [insL_len (by omega), h2]
  omega
theorem sumL_nn {dm : List Int} (hr : allR 0 1000 dm = true) : 0 ≤ sumL dm := by
  unfold sumL
  have : ∀ k, k ≤ dm.length → 0 ≤ sumK (lA dm) k := by
    intro k
    induction k with
    | zero => intro _; exact Int.le_refl _
    | succ k ih =>
      intro hk
      have h1 := ih (by omega)
      have h2 := (allR_at hr (i := k) (by omega)).1
      show 0 ≤ sumK (lA dm) k + lA dm k
      unfold lA at h1 ⊢
      omega
  exact this _ (Nat.le_refl _)
theorem rfF_in {N : Nat} {ps : List Pp} (t : Int) {dm : List Int} (hr : allR 0 1000 dm = true) (hl : dm.length = N) (k : Nat) : -(sumL dm) ≤ lA (rfF N ps t dm) k ∧ lA (rfF N ps t dm) k ≤ sumL dm := by
  refine insL_in (sumL_nn hr) (fun x hx => ?_) _ _
  obtain ⟨i, _, rfl⟩ := List.mem_map.1 hx
  exact flow_sum hr hl i
theorem tu_in {fl sg : List Int} {x b c : Int} (hf : ∀ i, -b ≤ lA fl i ∧ lA fl i ≤ b) (hs : ∀ i, Sg (lA sg i)) (h1 : -c ≤ x) (h2 : x ≤ c) {i : Nat} (hi : i < fl.length) : -(b + c) ≤ lA (tuL fl sg x) i ∧ lA (tuL fl sg x) i ≤ b + c := by
  rw [tuL_at hi]
  have h3 := sg_mul (hs i) h1 h2
  have h4 := hf i
  omega
theorem rf_flo {N : Nat} {ps : List Pp} (t : Int) {dm : List Int} {x : Int} (hg : goodB N ps = true) (h : Rg N ps) (hr : allR 0 1000 dm = true) (hl : dm.length = N) (hS : sumL dm ≤ 200) (h1 : -200 ≤ x) (h2 : x ≤ 200) : floB N ps (tuL (rfF N ps t dm) (sgL N ps) x) = true ∧ allR (-2000) 2000 (tuL (rfF N ps t dm) (sgL N ps) x) = true := by
  have h0 := sumL_nn hr
  have hin : ∀ j, j < (tuL (rfF N ps t dm) (sgL N ps) x).length → -400 ≤ lA (tuL (rfF N ps t dm) (sgL N ps) x) j ∧ lA (tuL (rfF N ps t dm) (sgL N ps) x) j ≤ 400 := fun j hj => by
    rw [tuL_len] at hj
    have := tu_in (sg := sgL N ps) (rfF_in (N := N) (ps := ps) t hr hl) (fun i => sgL_in N ps i) h1 h2 hj
    omega
  have hlen : (tuL (rfF N ps t dm) (sgL N ps) x).length = ps.length := by rw [tuL_len, rfF_len h]
  constructor
  · unfold floB
    rw [hg, Bool.true_and]
    unfold amtB
    rw [Bool.and_eq_true, decide_eq_true_eq]
    exact ⟨by rw [hlen], allR_mk fun j hj => by
      have := hin j hj
      unfold lA at this
      simp only [inR, decide_eq_true_eq]
      omega⟩
  · exact allR_mk fun j hj => by
      have := hin j hj
      unfold lA at this
      simp only [inR, decide_eq_true_eq]
      omega
/-- By how much the flows are turned in the end, behind k more tries. -/
def bxI (E : Int → Int) (S : Nat) : Nat → Int
  | 0 => -(S : Int)
  | k + 1 => if E (-(S : Int) + 1 + k) < E (bxI E S k) then -(S : Int) + 1 + k else bxI E S k
theorem bxI_in (E : Int → Int) (S : Nat) : ∀ k, k ≤ 2 * S → -(S : Int) ≤ bxI E S k ∧ bxI E S k ≤ S
  | 0, _ => by simp only [bxI]; omega
  | k + 1, h => by
    have := bxI_in E S k (by omega)
    simp only [bxI]
    split <;> omega
/-- The energy of the flows turned by x. -/
noncomputable def rfE (N : Nat) (ps : List Pp) (t : Int) (dm : List Int) (x : Int) : Int := enA ps (tuL (rfF N ps t dm) (sgL N ps) x)
noncomputable def rfA (N : Nat) (ps : List Pp) (t : Int) (dm : List Int) : List Int := tuL (rfF N ps t dm) (sgL N ps) (bxI (rfE N ps t dm) (sumL dm).toNat (2 * (sumL dm).toNat))
theorem rfA_len {N : Nat} {ps : List Pp} (h : Rg N ps) (t : Int) (dm : List Int) : (rfA N ps t dm).length = ps.length := by unfold rfA; rw [tuL_len, rfF_len h]
/-- The first pipe of a loop is not the last pipe. -/
theorem Rg.more {N : Nat} {ps : List Pp} (h : Rg N ps) : fst0 N ps + 1 < ps.length := by
  have hK : 0 < kW N ps := by
    refine Nat.pos_of_ne_zero fun h0 => ?_
    have h1 := h.lp.wy.last
    have h2 := h.lp.st
    rw [h0] at h1
    have h3 := good_pp h.lp.good (pAt_mem h.lp.lt)
    exact h3.2.2.2.2.2.2.1 (h1.symm.trans h2)
  obtain ⟨hm, hne⟩ := h.lp.ne hK
  obtain ⟨hi, he⟩ := ix_in h.lp.good hm
  have hb : brB ps (ix ps (eW N ps 0)) = false := (h.lp.cyc hi).2 (.inr ⟨0, hK, he.symm⟩)
  have h4 : ¬ ix ps (eW N ps 0) < fst0 N ps := fun hlt => by have := h.low _ hlt; rw [hb] at this; cases this
  have h5 : ix ps (eW N ps 0) ≠ fst0 N ps := fun e => hne (by rw [← he, e])
  omega
end Go.Proofs.Ytgjogjmfpbinfaa.S2

namespace Go.Proofs.Ytgjogjmfpbinfaa.S2
open Go.RowKit P2
open Go.Lib hiding intOf

theorem below_cells {B b : Nat} {a : World} (hb : B ≤ b) : ∀ (vs : List Value) (o : Nat) (w : World), Below B a w → Below B a (w.setCells b o vs)
  | [], _, _, h => h
  | v :: r, o, w, h => by
    rw [World.setCells]
    exact below_cells hb r (o + 1) _ (h.setCell (p := ⟨b, o, none⟩) hb v)
theorem insL_lo {l : List Int} {i j : Nat} (hi : i ≤ l.length) (h : j < i) : (insL l i).getD j 0 = l.getD j 0 := by
  unfold insL
  rw [List.getD_eq_getElem?_getD, List.getElem?_append_left (by simp; omega), List.getElem?_take, if_pos h, List.getD_eq_getElem?_getD]
theorem insL_mid {l : List Int} {i : Nat} (hi : i ≤ l.length) : (insL l i).getD i 0 = 0 := by
  unfold insL
  rw [List.getD_eq_getElem?_getD, List.getElem?_append_right (by simp; omega)]
  have e : i - (l.take i).length = 0 := by simp; omega
  rw [e]; rfl
theorem insL_hi {l : List Int} {i j : Nat} (hi : i ≤ l.length) : (insL l i).getD (i + 1 + j) 0 = l.getD (i + j) 0 := by
  unfold insL
  rw [List.getD_eq_getElem?_getD, List.getElem?_append_right (by simp; omega)]
  have e : i + 1 + j - (l.take i).length = j + 1 := by simp; omega
  rw [e, List.getElem?_cons_succ, List.getElem?_drop, List.getD_eq_getElem?_getD]

set_option maxHeartbeats 4000000 in
set_option maxRecDepth 100000 in
theorem ins_mid (b n i vb vc : Nat) (l : List Int) (hl : l.length = n) (hi : i < n) (h10 : n ≤ 1000) (w : World) (hA : ∀ j, j < n → w.cell? ⟨b, j, none⟩ = some (iv (l.getD j 0))) (hv : w.cell? ⟨vb, 0, none⟩ = some (iv 0)) :
    Calls Try.prog 134 #[.slice (some ⟨b, 0, none⟩) n n, .int .i64 i, .slice (some ⟨vb, 0, none⟩) 1 vc] w fun e w' =>
      e = .returned (.slice (some ⟨w.heap.size, 0, none⟩) (n + 1) (grownCap w (n + 1) n 3)) ∧
      w' = (((w.alloc (.cells (((l.map iv).take i).toArray ++ Builtin.zeroCells (Value.int .i64 0).cells (n + 1 - i) ++ Builtin.zeroCells (Value.int .i64 0).cells (grownCap w (n + 1) n 3 - (n + 1))) 3)).drew.setCells w.heap.size i [iv 0]).drew).setCells w.heap.size (i + 1) ((l.map iv).drop i) := by
  have hcs : ∀ j v, (l.map iv)[j]? = some v → w.cell? ⟨b, j, none⟩ = some v := fun j v hj => by
    have hjl : j < l.length := by
      have := List.getElem?_eq_some_iff.1 hj
      obtain ⟨h, _⟩ := this
      simpa using h
    rw [hA j (by omega)]
    rw [List.getElem?_map, List.getElem?_eq_getElem hjl] at hj
    simp [List.getD, hjl] at hj ⊢
    exact hj
  have hvs : ∀ j v, [iv 0][j]? = some v → w.cell? ⟨vb, j, none⟩ = some v := fun j v hj => by
    match j, hj with
    | 0, hj => rw [hv]; simpa using hj
    | j + 1, hj => simp at hj
  have hcl : (l.map iv).length = n := by simp [hl]
  have h1c : ∀ v ∈ l.map iv, v.oneCell' = true := fun v hm => by obtain ⟨x, _, rfl⟩ := List.mem_map.1 hm; rfl
  have h1v : ∀ v ∈ [iv 0], v.oneCell' = true := fun v hm => by simp at hm; subst hm; rfl
  generalize l.map iv = cs at *
  clear hA hv hl
  obtain ⟨i0, hi0, hz0, hzs, hzb⟩ := info_parts infoI
  have hz2 : ¬ ((i : Int) = (n : Int)) := by omega
  have hz3 : (n : Int) < (n : Int) + 1 := by omega
  have hsz : (Try.prog.info? 3).map (·.size) = some 1 := by rw [hi0]; simp [hzs]
  have hbw : b < w.heap.size := block_lt_of_cell (hcs 0 _ (List.getElem?_eq_getElem (by omega)))
  have hvw : vb < w.heap.size := block_lt_of_cell (hvs 0 _ rfl)
  have hkk : (n : Int) + 1 - (i : Int) = ((n + 1 - i : Nat) : Int) := by omega
  have hik : i + (n + 1 - i) = n + 1 := by omega
  have hold : (Builtin.firstCells i0.size i (.slice (some ⟨b, 0, none⟩) i n)).run Try.prog w.drew = .ok (cs.take i).toArray w.drew := by
    rw [hzs]
    exact run_firstCells_some w.drew 1 i ⟨b, 0, none⟩ i n (cs.take i) (by rw [List.length_take]; omega) (fun j v hj => by
      rw [Addr.add_lit, Nat.zero_add]
      rw [List.getElem?_take] at hj
      split at hj
      · exact hcs j v hj
      · cases hj)
  have hrz : ∀ ty, (Builtin.append_ #[34, 3] ty #[.slice (some ⟨b, 0, none⟩) i n, .int .i64 ((n : Int) + 1 - (i : Int))]).run Try.prog w =
      .ok (.slice (some ⟨w.heap.size, 0, none⟩) (n + 1) (grownCap w (n + 1) n 3)) (w.drew.alloc (.cells ((cs.take i).toArray ++ Builtin.zeroCells (Value.int .i64 0).cells (n + 1 - i) ++ Builtin.zeroCells (Value.int .i64 0).cells (grownCap w (n + 1) n 3 - (n + 1))) 3)) := fun ty => by
    have h := Lib.run_append_grow_zeros w 34 3 ty 3 i0 _ .i64 .i64 Try.underlying34 Try.underlying3 hi0 hz0 (some ⟨b, 0, none⟩) i n (cs.take i) hold (n + 1 - i) (by omega) (by omega) (by omega) (by omega) (by rw [hzb]; omega) (by rw [hzb, hik]; exact growslice_fits (by omega) (by omega))
    rw [hik] at h
    rw [hkk]
    exact h
  obtain ⟨G, hG⟩ : ∃ G, G = grownCap w (n + 1) n 3 := ⟨_, rfl⟩
  obtain ⟨ROW, hROW⟩ : ∃ ROW : Array Value, ROW = (cs.take i).toArray ++ Builtin.zeroCells (Value.int .i64 0).cells (n + 1 - i) ++ Builtin.zeroCells (Value.int .i64 0).cells (G - (n + 1)) := ⟨_, rfl⟩
  rw [← hG] at hrz ⊢
  rw [← hROW] at hrz ⊢
  have hRl : n + 1 ≤ ROW.size := by
    rw [hROW]
    simp [Builtin.zeroCells, Value.cells]
    omega
  obtain ⟨W1, hW1⟩ : ∃ W1, W1 = w.drew.alloc (.cells ROW 3) := ⟨_, rfl⟩
  rw [← hW1] at hrz
  have hN : ∀ j, j < n + 1 → (W1.cell? ⟨w.heap.size, j, none⟩).isSome = true := fun j hj => by
    rw [hW1, World.cell?_alloc_at (w := w.drew) ROW _ w.heap.size j rfl, Array.getElem?_eq_getElem (by omega)]; rfl
  have hNf : ∀ j, W1.frozen? ⟨w.heap.size, j, none⟩ = false := fun j => by rw [hW1]; exact World.frozen?_alloc_at (w := w.drew) ROW _ w.heap.size j rfl
  have hOb : ∀ j v, w.cell? ⟨b, j, none⟩ = some v → W1.cell? ⟨b, j, none⟩ = some v := fun j v h => by rw [hW1, World.cell?_alloc_past (w := w.drew) _ b j hbw]; exact h
  have hOv : ∀ j v, w.cell? ⟨vb, j, none⟩ = some v → W1.cell? ⟨vb, j, none⟩ = some v := fun j v h => by rw [hW1, World.cell?_alloc_past (w := w.drew) _ vb j hvw]; exact h
  have hcpA : ∀ (W : World), (∀ x, W.cell? x = W1.cell? x) → (∀ x, W.frozen? x = W1.frozen? x) → ∀ ty dc, (Builtin.copy_ #[34, 34] ty #[.slice (some ⟨w.heap.size, i, none⟩) (n + 1 - i) dc, .slice (some ⟨vb, 0, none⟩) 1 vc]).run Try.prog W = .ok (goInt [iv 0].length) (W.setCells w.heap.size i [iv 0]) := fun W hWc hWf ty dc =>
    run_copy_cells W _ _ ty 3 w.heap.size i (n + 1 - i) dc ⟨vb, 0, none⟩ 1 vc [iv 0] Try.underlying34 hsz (by simp only [List.length_singleton, Nat.min_def]; split <;> omega)
      (fun j v hj => by rw [Addr.add_lit, Nat.zero_add, hWc]; exact hOv _ v (hvs j v hj))
      (fun j hj => by rw [hWc]; exact hN _ (by simp at hj; omega)) (fun j hj => by rw [hWf]; exact hNf _) h1v
  have hGn : n + 1 ≤ G := by rw [hG]; exact grownCap_ge w _ _ _
  have hG63 : G ≤ 9223372036854775807 := by
    have := grownCap_le_maxLen w (n + 1) n 3 (by unfold maxLen; omega)
    rw [← hG] at this
    unfold maxLen at this
    omega
  have hGi : ¬ (G = i) := by omega
  have hGim : ¬ (G = i + 1) := by omega
  have hci : ¬ (n = i) := by omega
  have hbN : b ≠ w.heap.size := by omega
  have hdl : (cs.drop i).length = n - i := by rw [List.length_drop, hcl]
  have hcpB : ∀ (W : World), (∀ x, W.cell? x = (W1.setCells w.heap.size i [iv 0]).cell? x) → (∀ x, W.frozen? x = (W1.setCells w.heap.size i [iv 0]).frozen? x) → ∀ ty dc sc, (Builtin.copy_ #[34, 34] ty #[.slice (some ⟨w.heap.size, i + 1, none⟩) (n + 1 - (i + 1)) dc, .slice (some ⟨b, i, none⟩) (n - i) sc]).run Try.prog W = .ok (goInt (cs.drop i).length) (W.setCells w.heap.size (i + 1) (cs.drop i)) := fun W hWc hWf ty dc sc =>
    run_copy_cells W _ _ ty 3 w.heap.size (i + 1) (n + 1 - (i + 1)) dc ⟨b, i, none⟩ (n - i) sc (cs.drop i) Try.underlying34 hsz (by rw [hdl]; simp only [Nat.min_def]; split <;> omega)
      (fun j v hj => by
        rw [Addr.add_lit, hWc, World.cell?_setCells_out _ _ _ _ _ (fun h _ => absurd h hbN)]
        exact hOb _ v (hcs (i + j) v (by rwa [List.getElem?_drop] at hj)))
      (fun j hj => by rw [hWc]; exact isSome_setCells _ _ _ _ (fun t ht => hN _ (by simp at ht; omega)) _ (hN _ (by omega)))
      (fun j hj => by rw [hWf, World.frozen?_setCells]; exact hNf _) (fun v hv => h1c v (List.mem_of_mem_drop hv))
  subst hW1
  have hE1 : ∀ x, ((w.alloc (.cells ROW 3)).drew).cell? x = (w.drew.alloc (.cells ROW 3)).cell? x := fun x => rfl
  have hE2 : ∀ x, ((w.alloc (.cells ROW 3)).drew).frozen? x = (w.drew.alloc (.cells ROW 3)).frozen? x := fun x => rfl
  have hF1 : ∀ x, (((w.alloc (.cells ROW 3)).drew.setCells w.heap.size i [iv 0]).drew).cell? x = ((w.drew.alloc (.cells ROW 3)).setCells w.heap.size i [iv 0]).cell? x := fun x => rfl
  have hF2 : ∀ x, (((w.alloc (.cells ROW 3)).drew.setCells w.heap.size i [iv 0]).drew).frozen? x = ((w.drew.alloc (.cells ROW 3)).setCells w.heap.size i [iv 0]).frozen? x := fun x => rfl
  have hw1 : IntKind.i64.wrap ((i : Int) + 1) = (i : Int) + 1 := by rw [IntKind.wrap_i64]; omega
  have hw2 : IntKind.i64.wrap ((n : Int) + 1) = (n : Int) + 1 := by rw [IntKind.wrap_i64]; omega
  have hw3 : IntKind.i64.wrap ((n : Int) + 1 - (i : Int)) = (n : Int) + 1 - (i : Int) := by rw [IntKind.wrap_i64]; omega
  have hb1 : (0 : Int) ≤ (i : Int) + 1 := by omega
  have hin : i ≤ n := by omega
  have htn : ((i : Int) + 1).toNat = i + 1 := by omega
  have hb3 : (i : Int) ≤ (n : Int) := by omega
  have mixed : Try.prog.follows Departure.mixedOrders = true := by kernel_rfl
  clear hkk hik hold hROW hG hRl
  go_enter Try.func134, Try.ntmps134
  go_wp2_with (first
    | (at_builtin; refine Lib.wpList_append_run _ rfl _ _ _ _ rfl _ _ rfl rfl _ _ (hrz _) ?_)
    | (at_builtin; refine wpList_copy_runI _ rfl _ _ 34 34 rfl _ _ rfl rfl (hcpA _ hE1 hE2 _ _) ?_)
    | (at_builtin; refine wpList_copy_runI _ rfl _ _ 34 34 rfl _ _ rfl rfl (hcpB _ (fun _ => rfl) (fun _ => rfl) _ _ _) ?_))
  go_region_law_o (refine step_copy_runI rfl _ _ 34 34 rfl (.slice (some ⟨w.heap.size, i + 1, none⟩) (n + 1 - (i + 1)) (G - (i + 1))) (.slice (some ⟨b, i, none⟩) (n - i) (n - i)) (by simp [Act.eval, Act.put]) (by simp [Act.eval, Act.put]) (hcpB _ hF1 hF2 3 (G - (i + 1)) (n - i)) ?_)
  go_wp2
  go_ret
  exact ⟨rfl, rfl⟩

set_option maxHeartbeats 1000000 in
theorem ins_any (l : List Int) (n i : Nat) (hl : l.length = n) (hi : i < n) (h10 : n ≤ 1000) (b vb vc : Nat) (w : World) (h : IAt w (some ⟨b, 0, none⟩) l) (hv : w.cell? ⟨vb, 0, none⟩ = some (iv 0)) :
    Calls Try.prog 134 #[.slice (some ⟨b, 0, none⟩) n n, .int .i64 i, .slice (some ⟨vb, 0, none⟩) 1 vc] w fun e w' =>
      ∃ g2 c2, e = .returned (.slice (some ⟨g2, 0, none⟩) (n + 1) c2) ∧ w.heap.size ≤ g2 ∧ g2 < w'.heap.size ∧ IAt w' (some ⟨g2, 0, none⟩) (insL l i) ∧ Below w.heap.size w w' := by
  have hA : ∀ j, j < n → w.cell? ⟨b, j, none⟩ = some (iv (l.getD j 0)) := fun j hj => by
    obtain ⟨b', off, he, _, hc⟩ := h.at_ (i := j) (by omega)
    simp only [Option.some.injEq, Addr.mk.injEq, and_true] at he
    obtain ⟨rfl, rfl⟩ := he
    rw [Nat.zero_add] at hc
    exact hc
  refine (ins_mid b n i vb vc l hl hi h10 w hA hv).mono ?_
  rintro e w' ⟨rfl, rfl⟩
  obtain ⟨Z1, hZ1⟩ : ∃ Z, Builtin.zeroCells (Value.int .i64 0).cells (n + 1 - i) = Z := ⟨_, rfl⟩
  obtain ⟨Z2, hZ2⟩ : ∃ Z, Builtin.zeroCells (Value.int .i64 0).cells (grownCap w (n + 1) n 3 - (n + 1)) = Z := ⟨_, rfl⟩
  have hz1 : Z1.size = n + 1 - i := by rw [← hZ1]; simp [Builtin.zeroCells, Value.cells]
  rw [hZ1, hZ2]
  obtain ⟨cs, hcs⟩ : ∃ cs, l.map iv = cs := ⟨_, rfl⟩
  have hcl : cs.length = n := by rw [← hcs]; simp [hl]
  have hca : ∀ j, j < n → cs[j]? = some (iv (l.getD j 0)) := fun j hj => by
    rw [← hcs, List.getElem?_map, List.getElem?_eq_getElem (by omega)]
    simp [List.getD, show j < l.length by omega]
  rw [hcs]
  have htl : (cs.take i).toArray.size = i := by simp; omega
  have hRs : n + 1 ≤ ((cs.take i).toArray ++ Z1 ++ Z2).size := by simp [hz1]; omega
  have hR0 : ∀ j, j < i → ((cs.take i).toArray ++ Z1 ++ Z2)[j]? = some (iv (l.getD j 0)) := fun j hj => by
    rw [Array.getElem?_append_left (by simp [hz1]; omega), Array.getElem?_append_left (by omega), List.getElem?_toArray, List.getElem?_take, if_pos hj]
    exact hca j (by omega)
  generalize ((cs.take i).toArray ++ Z1 ++ Z2) = ROW at *
  have hc1 : ∀ j, (w.alloc (.cells ROW 3)).drew.cell? ⟨w.heap.size, j, none⟩ = ROW[j]? := fun j => World.cell?_alloc_at ROW _ w.heap.size j rfl
  have hs1 : ∀ j, j < n + 1 → ((w.alloc (.cells ROW 3)).drew.cell? ⟨w.heap.size, j, none⟩).isSome = true := fun j hj => by
    rw [hc1, Array.getElem?_eq_getElem (by omega)]; rfl
  have hB1 : Below w.heap.size w (w.alloc (.cells ROW 3)).drew := ((Below.refl _ _).alloc (Nat.le_refl _) _).drew
  generalize (w.alloc (.cells ROW 3)).drew = W1 at *
  have hB2 := below_cells (Nat.le_refl w.heap.size) [iv 0] i _ hB1
  have hlo2 : ∀ j, j < i → (W1.setCells w.heap.size i [iv 0]).cell? ⟨w.heap.size, j, none⟩ = some (iv (l.getD j 0)) := fun j hj => by
    rw [World.cell?_setCells_out _ _ _ _ _ (fun _ _ => Or.inl hj), hc1]
    exact hR0 j hj
  have hmi2 : (W1.setCells w.heap.size i [iv 0]).cell? ⟨w.heap.size, i, none⟩ = some (iv 0) :=
    World.cell?_setCells_in w.heap.size [iv 0] i W1 (fun t ht => hs1 _ (by simp at ht; omega)) 0 (by simp)
  have hs2 : ∀ j, j < n + 1 → ((W1.setCells w.heap.size i [iv 0]).cell? ⟨w.heap.size, j, none⟩).isSome = true := fun j hj => isSome_setCells _ _ _ _ (fun t ht => hs1 _ (by simp at ht; omega)) _ (hs1 _ hj)
  generalize (W1.setCells w.heap.size i [iv 0]) = W2 at *
  have hB3 := below_cells (Nat.le_refl w.heap.size) (cs.drop i) (i + 1) _ hB2.drew
  have hdl : (cs.drop i).length = n - i := by rw [List.length_drop, hcl]
  have hall : ∀ j, j < n + 1 → (W2.drew.setCells w.heap.size (i + 1) (cs.drop i)).cell? ⟨w.heap.size, j, none⟩ = some (iv ((insL l i).getD j 0)) := fun j hj => by
    by_cases h1 : j < i
    · rw [World.cell?_setCells_out _ _ _ _ _ (fun _ _ => Or.inl (by show j < i + 1; omega)), insL_lo (by omega) h1]
      exact hlo2 j h1
    · by_cases h2 : j = i
      · subst h2
        rw [World.cell?_setCells_out _ _ _ _ _ (fun _ _ => Or.inl (by show j < j + 1; omega)), insL_mid (by omega)]
        exact hmi2
      · obtain ⟨t, rfl⟩ : ∃ t, j = i + 1 + t := ⟨j - (i + 1), by omega⟩
        have hx := World.cell?_setCells_in w.heap.size (cs.drop i) (i + 1) W2.drew (fun t ht => hs2 _ (by omega)) t (by omega)
        rw [hx, insL_hi (by omega)]
        have hy := hca (i + t) (by omega)
        rw [← List.getElem?_eq_getElem, List.getElem?_drop]
        exact hy
  have hlt : w.heap.size < (W2.drew.setCells w.heap.size (i + 1) (cs.drop i)).heap.size := block_lt_of_cell (hall 0 (by omega))
  refine ⟨_, _, rfl, Nat.le_refl _, hlt, .inr ⟨w.heap.size, 0, rfl, hlt, fun j hj => ?_⟩, hB3⟩
  rw [insL_len (by omega), hl] at hj
  rw [Nat.zero_add]
  exact hall j hj
end Go.Proofs.Ytgjogjmfpbinfaa.S2

namespace Go.Proofs.Ytgjogjmfpbinfaa.S2
open Go.RowKit P2

/-- A row of P numbers of the call's own. -/
def IOwnP (w : World) (B : Nat) (v : Value) (P : Nat) (l : List Int) : Prop := w.ownsRow B 3 1 v P (l.map iv)
theorem IOwnP.iat {w : World} {B P cap : Nat} {A : Option Addr} {l : List Int} (h : IOwnP w B (.slice A P cap) P l) (hl : l.length = P) : IAt w A l := by
  subst hl; exact IOwn.iat h
theorem IOwnP.on {A B : World} {base P : Nat} {v : Value} {l : List Int} (h : IOwnP A base v P l) (hb : Below A.heap.size A B) : IOwnP B base v P l := own_on h hb
theorem IOwnP.low {w : World} {B B' P : Nat} {v : Value} {l : List Int} (h : IOwnP w B v P l) (hl : l.length = P) (hB : B' ≤ B) : IOwnP w B' v P l := by
  subst hl; exact own_lower h hB
/-- The signs that signsAround gives. -/
def GivesS (w : World) (P : Nat) (sg : List Int) (e : Ending) (w' : World) : Prop :=
  ∃ g c, e = .returned (.tuple #[.slice (some ⟨g, 0, none⟩) P c, .bool true]) ∧ w.heap.size ≤ g ∧ g < w'.heap.size ∧ IAt w' (some ⟨g, 0, none⟩) sg ∧ Below w.heap.size w w'

theorem boxI1 (w : World) (x : Int) : (w.alloc (.cells #[.int .i64 x] 3)).cell? ⟨w.heap.size, 0, none⟩ = some (iv x) := by
  rw [World.cell?_alloc_at _ _ _ _ rfl]; rfl
set_option maxHeartbeats 2000000 in
theorem rf_no1 (N : Int) (A : Option Addr) (cap P : Nat) (x : Int) (AD : Option Addr) (DL dc : Nat) (w : World) (hT : ∀ w', Below w.heap.size w w' → Calls Try.prog 119 #[nv N A P cap] w' (GivesI w' [] false)) :
    Calls Try.prog 34 #[nv N A P cap, .int .i64 x, .slice AD DL dc] w (GivesI w [] false) := by
  have H := Lib.hid hT
  clear hT
  go_enter Try.func34, Try.ntmps34
  go_wp2_with (go_at_call 119; refine (H.out _ ((Below.refl _ _).alloc (Nat.le_refl _) _)).mono ?_; rintro e w1 ⟨g, c, rfl, hg, hO, hb1⟩)
  go_ret2
  exact gives_none (below_alloc_call hb1)
set_option maxHeartbeats 2000000 in
theorem rf_no2 (N : Int) (A : Option Addr) (cap P : Nat) (x : Int) (AD : Option Addr) (DL dc : Nat) (sg : List Int) (S : Int) (u : Bool) (hu : u = false ∨ 200 < S) (w : World)
    (H1 : ∀ w', Below w.heap.size w w' → Calls Try.prog 119 #[nv N A P cap] w' (GivesS w' P sg))
    (H2 : ∀ w', Below w.heap.size w w' → Calls Try.prog 81 #[nv N A P cap, .slice AD DL dc] w' fun e w2 => e = .returned (.tuple #[.int .i64 S, .bool u]) ∧ Below w'.heap.size w' w2) :
    Calls Try.prog 34 #[nv N A P cap, .int .i64 x, .slice AD DL dc] w (GivesI w [] false) := by
  have K1 := Lib.hid H1
  have K2 := Lib.hid H2
  clear H1 H2
  cases u with
  | false =>
    clear hu
    go_enter Try.func34, Try.ntmps34
    go_wp2_with (first
      | (go_at_call 119; refine (K1.out _ ((Below.refl _ _).alloc (Nat.le_refl _) _)).mono ?_; rintro e w1 ⟨gs, cs, rfl, hgs, hgl, hO, hb1⟩; have HX1 := Lib.hid (show Below (w.heap.size + 1) (w.alloc (nb N A P cap)) w1 by simpa using hb1); obtain ⟨b0, b1⟩ := box2 HX1.out; have hy1 := box_lt HX1.out; have HO1 := Lib.hid hO; clear hb1 hO)
      | (go_at_call 81; refine (K2.out _ (below_box HX1.out)).mono ?_; rintro e w2 ⟨rfl, hb2⟩; have HX2 := Lib.hid (on_call HX1.out hb2); clear b0 b1; obtain ⟨b0, b1⟩ := box2 HX2.out; have hy2 := box_lt HX2.out; have HO2 := Lib.hid (HO1.out.kept hb2 (Nat.le_refl _)); clear hb2))
    go_ret2
    exact gives_none (below_box HX2.out)
  | true =>
    have hS : 200 < S := by rcases hu with h | h; cases h; exact h
    have d0 : decide (200 < S) = true := decide_eq_true hS
    clear hu
    go_enter Try.func34, Try.ntmps34
    go_wp2_with (first
      | (go_at_call 119; refine (K1.out _ ((Below.refl _ _).alloc (Nat.le_refl _) _)).mono ?_; rintro e w1 ⟨gs, cs, rfl, hgs, hgl, hO, hb1⟩; have HX1 := Lib.hid (show Below (w.heap.size + 1) (w.alloc (nb N A P cap)) w1 by simpa using hb1); obtain ⟨b0, b1⟩ := box2 HX1.out; have hy1 := box_lt HX1.out; have HO1 := Lib.hid hO; clear hb1 hO)
      | (go_at_call 81; refine (K2.out _ (below_box HX1.out)).mono ?_; rintro e w2 ⟨rfl, hb2⟩; have HX2 := Lib.hid (on_call HX1.out hb2); clear b0 b1; obtain ⟨b0, b1⟩ := box2 HX2.out; have hy2 := box_lt HX2.out; have HO2 := Lib.hid (HO1.out.kept hb2 (Nat.le_refl _)); clear hb2))
    go_ret2
    exact gives_none (below_box HX2.out)
set_option maxHeartbeats 2000000 in
theorem rf_no3 (N : Int) (A : Option Addr) (cap P n0 i0 S : Nat) (x : Int) (AD : Option Addr) (DL dc : Nat) (sg : List Int) (qs : List Pp) (hS : S ≤ 200) (w : World)
    (H1 : ∀ w', Below w.heap.size w w' → Calls Try.prog 119 #[nv N A P cap] w' (GivesS w' P sg))
    (H2 : ∀ w', Below w.heap.size w w' → Calls Try.prog 81 #[nv N A P cap, .slice AD DL dc] w' fun e w2 => e = .returned (.tuple #[.int .i64 (S : Nat), .bool true]) ∧ Below w'.heap.size w' w2)
    (H3 : ∀ g c w', IAt w' (some ⟨g, 0, none⟩) sg → Calls Try.prog 132 #[.slice (some ⟨g, 0, none⟩) P c, .int .i64 1] w' fun e w2 => e = .returned (.int .i64 (i0 : Int)) ∧ w2 = w')
    (H4 : ∀ w', Below w.heap.size w w' → Calls Try.prog 133 #[nv N A P cap, .int .i64 (i0 : Int)] w' fun e w2 => ∃ A2 c, e = .returned (nv N A2 n0 c) ∧ PAt w2 A2 qs ∧ Below w'.heap.size w' w2)
    (H5 : ∀ A2 c w', Below w.heap.size w w' → PAt w' A2 qs → Calls Try.prog 61 #[nv N A2 n0 c, .int .i64 x, .slice AD DL dc] w' (GivesI w' [] false)) :
    Calls Try.prog 34 #[nv N A P cap, .int .i64 x, .slice AD DL dc] w (GivesI w [] false) := by
  have K1 := Lib.hid H1
  have K2 := Lib.hid H2
  have K3 := Lib.hid H3
  have K4 := Lib.hid H4
  have K5 := Lib.hid H5
  have hS2 : ¬ (200 < (S : Int)) := by omega
  have d0 : decide (200 < (S : Int)) = false := decide_eq_false hS2
  clear H1 H2 H3 H4 H5
  go_enter Try.func34, Try.ntmps34
  go_wp2_with (first
    | (go_at_call 119; refine (K1.out _ ((Below.refl _ _).alloc (Nat.le_refl _) _)).mono ?_; rintro e w1 ⟨gs, cs, rfl, hgs, hgl, hO, hb1⟩; have HX1 := Lib.hid (show Below (w.heap.size + 1) (w.alloc (nb N A P cap)) w1 by simpa using hb1); obtain ⟨b0, b1⟩ := box2 HX1.out; have hy1 := box_lt HX1.out; have HO1 := Lib.hid hO; clear hb1 hO)
    | (go_at_call 81; refine (K2.out _ (below_box HX1.out)).mono ?_; rintro e w2 ⟨rfl, hb2⟩; have HX2 := Lib.hid (on_call HX1.out hb2); clear b0 b1; obtain ⟨b0, b1⟩ := box2 HX2.out; have hy2 := box_lt HX2.out; have HO2 := Lib.hid (HO1.out.kept hb2 (Nat.le_refl _)); clear hb2)
    | (go_at_call 132; refine (K3.out _ _ _ HO2.out).mono ?_; rintro e w3 ⟨rfl, hw3⟩; replace hw3 := hw3.symm; subst hw3)
    | (go_at_call 133; refine (K4.out _ (below_box HX2.out)).mono ?_; rintro e w4 ⟨A2, c2, rfl, hp2, hb4⟩; have HX4 := Lib.hid (on_call HX2.out hb4); clear b0 b1; obtain ⟨b0, b1⟩ := box2 HX4.out; have hy4 := box_lt HX4.out; have HO4 := Lib.hid (HO2.out.kept hb4 (Nat.le_refl _)); have HP4 := Lib.hid hp2; clear hb4 hp2)
    | (go_at_call 61; refine (K5.out _ _ _ (below_box HX4.out) HP4.out).mono ?_; rintro e w5 ⟨gt, ct, rfl, hgt, hOt, hb5⟩; have HX5 := Lib.hid (on_call HX4.out hb5)))
  go_ret2
  exact gives_none (below_box HX5.out)

set_option maxHeartbeats 4000000 in
set_option maxRecDepth 100000 in
theorem rf_walk (N : Int) (A : Option Addr) (cap P n0 i0 S : Nat) (x : Int) (AD : Option Addr) (DL dc : Nat) (sg L0 F : List Int) (qs : List Pp) (U : Int → List Int) (E : Int → Int) (hU : ∀ y, (U y).length = P) (hS : S ≤ 200) (w : World)
    (H1 : ∀ w', Below w.heap.size w w' → Calls Try.prog 119 #[nv N A P cap] w' (GivesS w' P sg))
    (H2 : ∀ w', Below w.heap.size w w' → Calls Try.prog 81 #[nv N A P cap, .slice AD DL dc] w' fun e w2 => e = .returned (.tuple #[.int .i64 (S : Nat), .bool true]) ∧ Below w'.heap.size w' w2)
    (H3 : ∀ g c w', IAt w' (some ⟨g, 0, none⟩) sg → Calls Try.prog 132 #[.slice (some ⟨g, 0, none⟩) P c, .int .i64 1] w' fun e w2 => e = .returned (.int .i64 (i0 : Int)) ∧ w2 = w')
    (H4 : ∀ w', Below w.heap.size w w' → Calls Try.prog 133 #[nv N A P cap, .int .i64 (i0 : Int)] w' fun e w2 => ∃ A2 c, e = .returned (nv N A2 n0 c) ∧ PAt w2 A2 qs ∧ Below w'.heap.size w' w2)
    (H5 : ∀ A2 c w', Below w.heap.size w w' → PAt w' A2 qs → Calls Try.prog 61 #[nv N A2 n0 c, .int .i64 x, .slice AD DL dc] w' fun e w2 => ∃ g, e = .returned (.tuple #[.slice (some ⟨g, 0, none⟩) n0 n0, .bool true]) ∧ w'.heap.size ≤ g ∧ g < w2.heap.size ∧ IAt w2 (some ⟨g, 0, none⟩) L0 ∧ Below w'.heap.size w' w2)
    (H6 : ∀ g b c w', IAt w' (some ⟨g, 0, none⟩) L0 → w'.cell? ⟨b, 0, none⟩ = some (iv 0) → Calls Try.prog 134 #[.slice (some ⟨g, 0, none⟩) n0 n0, .int .i64 (i0 : Int), .slice (some ⟨b, 0, none⟩) 1 c] w' fun e w2 => ∃ g2 c2, e = .returned (.slice (some ⟨g2, 0, none⟩) P c2) ∧ w'.heap.size ≤ g2 ∧ g2 < w2.heap.size ∧ IAt w2 (some ⟨g2, 0, none⟩) F ∧ Below w'.heap.size w' w2)
    (H7 : ∀ g c g2 c2 (y : Int) w', -(S : Int) ≤ y → y ≤ S → IAt w' (some ⟨g, 0, none⟩) F → IAt w' (some ⟨g2, 0, none⟩) sg → Calls Try.prog 125 #[.slice (some ⟨g, 0, none⟩) P c, .slice (some ⟨g2, 0, none⟩) P c2, .int .i64 y] w' fun e w2 => (∃ g3, e = .returned (.slice (some ⟨g3, 0, none⟩) P P) ∧ w'.heap.size ≤ g3 ∧ IOwnP w2 w'.heap.size (.slice (some ⟨g3, 0, none⟩) P P) P (U y)) ∧ Below w'.heap.size w' w2)
    (H8 : ∀ g (y : Int) w', Below w.heap.size w w' → -(S : Int) ≤ y → y ≤ S → IAt w' (some ⟨g, 0, none⟩) (U y) → Calls Try.prog 53 #[nv N A P cap, .slice (some ⟨g, 0, none⟩) P P] w' fun e w2 => e = .returned (.tuple #[.int .i64 (E y), .bool true]) ∧ Below w'.heap.size w' w2) :
    Calls Try.prog 34 #[nv N A P cap, .int .i64 x, .slice AD DL dc] w (GivesI w (U (bxI E S (2 * S))) true) := by
  have K1 := Lib.hid H1
  have K2 := Lib.hid H2
  have K3 := Lib.hid H3
  have K4 := Lib.hid H4
  have K5 := Lib.hid H5
  have K6 := Lib.hid H6
  have K7 := Lib.hid H7
  have K8 := Lib.hid H8
  have KU := Lib.hid hU
  have KB := Lib.hid (bxI_in E S)
  have hS2 : ¬ (200 < (S : Int)) := by omega
  have d0 : decide (200 < (S : Int)) = false := decide_eq_false hS2
  have wn : IntKind.i64.wrap (-(S : Int)) = -(S : Int) := w64 _ (by omega)
  have wn1 : IntKind.i64.wrap (-(S : Int) + 1) = -(S : Int) + 1 := w64 _ (by omega)
  clear H1 H2 H3 H4 H5 H6 H7 H8 hU
  go_enter Try.func34, Try.ntmps34
  go_wp2_with (first
    | (go_at_call 119; refine (K1.out _ ((Below.refl _ _).alloc (Nat.le_refl _) _)).mono ?_; rintro e w1 ⟨gs, cs, rfl, hgs, hgl, hO, hb1⟩; have HX1 := Lib.hid (show Below (w.heap.size + 1) (w.alloc (nb N A P cap)) w1 by simpa using hb1); obtain ⟨b0, b1⟩ := box2 HX1.out; have hy1 := box_lt HX1.out; have HO1 := Lib.hid hO; clear hb1 hO)
    | (go_at_call 81; refine (K2.out _ (below_box HX1.out)).mono ?_; rintro e w2 ⟨rfl, hb2⟩; have HX2 := Lib.hid (on_call HX1.out hb2); clear b0 b1; obtain ⟨b0, b1⟩ := box2 HX2.out; have hy2 := box_lt HX2.out; have HO2 := Lib.hid (HO1.out.kept hb2 (Nat.le_refl _)); clear hb2)
    | (go_at_call 132; refine (K3.out _ _ _ HO2.out).mono ?_; rintro e w3 ⟨rfl, hw3⟩; replace hw3 := hw3.symm; subst hw3)
    | (go_at_call 133; refine (K4.out _ (below_box HX2.out)).mono ?_; rintro e w4 ⟨A2, c2, rfl, hp2, hb4⟩; have HX4 := Lib.hid (on_call HX2.out hb4); clear b0 b1; obtain ⟨b0, b1⟩ := box2 HX4.out; have hy4 := box_lt HX4.out; have HO4 := Lib.hid (HO2.out.kept hb4 (Nat.le_refl _)); have HP4 := Lib.hid hp2; clear hb4 hp2)
    | (go_at_call 61; refine (K5.out _ _ _ (below_box HX4.out) HP4.out).mono ?_; rintro e w5 ⟨gt, rfl, hgt, hgtl, hit, hb5⟩; have HX5 := Lib.hid (on_call HX4.out hb5); clear b0 b1; obtain ⟨b0, b1⟩ := box2 HX5.out; have hy5 := box_lt HX5.out; have HO5 := Lib.hid (HO4.out.kept hb5 (Nat.le_refl _)); have HT5 := Lib.hid hit; clear hb5 hit)
    | (go_at_call 134; refine (K6.out _ _ _ _ (HT5.out.kept (alloc_below w5 (.cells #[.int .i64 0] 3)) (Nat.le_refl _)) (boxI1 w5 0)).mono ?_; rintro e w6 ⟨gF, cF, rfl, hgF, hgFl, hF, hb6⟩; have hb65 := (alloc_below w5 (.cells #[.int .i64 0] 3)).trans (hb6.mono (by simp)); have HX6 := Lib.hid (on_call HX5.out hb65); clear b0 b1; obtain ⟨b0, b1⟩ := box2 HX6.out; have hy6 := box_lt HX6.out; have HO6 := Lib.hid (HO5.out.kept hb65 (Nat.le_refl _)); have HF6 := Lib.hid hF; clear hb6 hb65 hF)
    | (go_at_call 125; refine (K7.out _ _ _ _ _ _ (Int.le_refl _) (by omega) HF6.out HO6.out).mono ?_; rintro e w7 ⟨⟨gb, rfl, hgb, hOb⟩, hb7⟩; have HX7 := Lib.hid (on_call HX6.out hb7); clear b0 b1; obtain ⟨b0, b1⟩ := box2 HX7.out; have hy7 := box_lt HX7.out; have HO7 := Lib.hid (HO6.out.kept hb7 (Nat.le_refl _)); have HF7 := Lib.hid (HF6.out.kept hb7 (Nat.le_refl _)); have HU7 := Lib.hid hOb; clear hb7 hOb)
    | (go_at_call 53; refine (K8.out _ _ _ (below_box HX7.out) (Int.le_refl _) (by omega) (HU7.out.iat (KU.out _))).mono ?_; rintro e w8 ⟨rfl, hb8⟩; have HX8 := Lib.hid (on_call HX7.out hb8); clear b0 b1; obtain ⟨b0, b1⟩ := box2 HX8.out; have hy8 := box_lt HX8.out; have HO8 := Lib.hid (HO7.out.kept hb8 (Nat.le_refl _)); have HF8 := Lib.hid (HF7.out.kept hb8 (Nat.le_refl _)); have HU8 := Lib.hid (HU7.out.on hb8); clear hb8))
  have HB0 := Lib.hid (Below.refl w8.heap.size w8)
  have hg8 : w.heap.size ≤ gb := by omega
  have HUL := Lib.hid (IOwnP.low HU8.out (KU.out _) (show w.heap.size ≤ w6.heap.size by omega))
  clear K1 K2 K3 K4 K5 K6 HX1 HX2 HX4 HX5 HX6 HX7 HO1 HO2 HO4 HO5 HO6 HO7 HF6 HF7 HU7 HU8 HT5 HP4 b0 b1 wn wn1
  go_loopw [13, 14, 16] (fun b l y wr => ∃ (k g : Nat), k ≤ 2 * S ∧ y = .int .i64 (-(S : Int) + 1 + (k : Int)) ∧ b = .slice (some ⟨g, 0, none⟩) P P ∧ l = .int .i64 (E (bxI E S k)) ∧ w.heap.size ≤ g ∧ Hid (IOwnP wr w.heap.size (.slice (some ⟨g, 0, none⟩) P P) P (U (bxI E S k))) ∧ Hid (Below w8.heap.size w8 wr)) (fun _ _ y _ => (2 * (S : Int) - (intOf y + S - 1)).toNat)
  case atStart => exact ⟨0, gb, by omega, by simp, rfl, rfl, hg8, HUL, HB0⟩
  case round =>
    clear HB0 HUL
    obtain ⟨k, g, hk, rfl, rfl, rfl, hgw, hown, hB⟩ := hrel
    have hb := on_call HX8.out hB.out
    by_cases hlt : k < 2 * S
    · obtain ⟨c0, c1⟩ := box2 hb
      have hz := box_lt hb
      have HXr := Lib.hid hb
      have HFr := Lib.hid (HF8.out.kept hB.out (Nat.le_refl _))
      have HOr := Lib.hid (HO8.out.kept hB.out (Nat.le_refl _))
      have hq := KB.out k hk
      have hle : decide (-(S : Int) + 1 + (k : Int) ≤ (S : Int)) = true := decide_eq_true (by omega)
      have hy1 : -(S : Int) ≤ -(S : Int) + 1 + (k : Int) := by omega
      have hy2 : -(S : Int) + 1 + (k : Int) ≤ S := by omega
      have wk : IntKind.i64.wrap (-(S : Int) + 1 + (k : Int) + 1) = -(S : Int) + 1 + (k : Int) + 1 := w64 _ (by omega)
      have HN := Lib.hid (show bxI E S (k + 1) = if E (-(S : Int) + 1 + k) < E (bxI E S k) then -(S : Int) + 1 + k else bxI E S k from rfl)
      have HYK := Lib.hid (show -(S : Int) + 1 + (k : Int) + 1 = -(S : Int) + 1 + ((k + 1 : Nat) : Int) by omega)
      clear hb
      generalize bxI E S k = q at *
      obtain ⟨y, hy⟩ : ∃ y, -(S : Int) + 1 + (k : Int) = y := ⟨_, rfl⟩
      rw [hy] at hle hy1 hy2 wk HN HYK ⊢
      have HY := Lib.hid hy
      clear hy
      by_cases he : E y < E q
      · have hd : decide (E y < E q) = true := decide_eq_true he
        have HN2 := Lib.hid (show bxI E S (k + 1) = y by rw [HN.out, if_pos he])
        clear HN he
        go_wp2_with (first
          | (go_at_call 125; refine (K7.out _ _ _ _ _ _ hy1 hy2 HFr.out HOr.out).mono ?_; rintro e v7 ⟨⟨g2, rfl, hg2, hO2⟩, hb7⟩; have HY7 := Lib.hid (on_call HXr.out hb7); clear c0 c1; obtain ⟨c0, c1⟩ := box2 HY7.out; have hz7 := box_lt HY7.out; have HU2 := Lib.hid hO2; have HB7 := Lib.hid (hB.out.trans (hb7.mono hB.out.size)); clear hO2 hb7)
          | (go_at_call 53; refine (K8.out _ _ _ (below_box HY7.out) hy1 hy2 (HU2.out.iat (KU.out _))).mono ?_; rintro e v8 ⟨rfl, hb8⟩; have HY8 := Lib.hid (on_call HY7.out hb8); clear c0 c1; obtain ⟨c0, c1⟩ := box2 HY8.out; have hz8 := box_lt HY8.out; have HU3 := Lib.hid (HU2.out.on hb8); have HB8 := Lib.hid (HB7.out.trans (hb8.mono HB7.out.size)); clear hb8))
        go_roundw
        case rel => exact ⟨k + 1, g2, by omega, by rw [HYK.out], rfl, by rw [HN2.out], by have := box_lt HXr.out; omega, by rw [HN2.out]; exact Lib.hid (IOwnP.low HU3.out (KU.out _) (by have := box_lt HXr.out; omega)), HB8⟩
        case measure => simp only [intOf]; have := HY.out; omega
      · have hd : decide (E y < E q) = false := decide_eq_false he
        have HN2 := Lib.hid (show bxI E S (k + 1) = q by rw [HN.out, if_neg he])
        clear HN he
        go_wp2_with (first
          | (go_at_call 125; refine (K7.out _ _ _ _ _ _ hy1 hy2 HFr.out HOr.out).mono ?_; rintro e v7 ⟨⟨g2, rfl, hg2, hO2⟩, hb7⟩; have HY7 := Lib.hid (on_call HXr.out hb7); clear c0 c1; obtain ⟨c0, c1⟩ := box2 HY7.out; have hz7 := box_lt HY7.out; have HU2 := Lib.hid hO2; have HW2 := Lib.hid (hown.out.on hb7); have HB7 := Lib.hid (hB.out.trans (hb7.mono hB.out.size)); clear hO2 hb7)
          | (go_at_call 53; refine (K8.out _ _ _ (below_box HY7.out) hy1 hy2 (HU2.out.iat (KU.out _))).mono ?_; rintro e v8 ⟨rfl, hb8⟩; have HY8 := Lib.hid (on_call HY7.out hb8); clear c0 c1; obtain ⟨c0, c1⟩ := box2 HY8.out; have hz8 := box_lt HY8.out; have HW3 := Lib.hid (HW2.out.on hb8); have HB8 := Lib.hid (HB7.out.trans (hb8.mono HB7.out.size)); clear hb8))
        go_roundw
        case rel => exact ⟨k + 1, g, by omega, by rw [HYK.out], rfl, by rw [HN2.out], hgw, by rw [HN2.out]; exact HW3, HB8⟩
        case measure => simp only [intOf]; have := HY.out; omega
    · have e : k = 2 * S := by omega
      subst e
      have hle : decide (-(S : Int) + 1 + ((2 * S : Nat) : Int) ≤ (S : Int)) = false := decide_eq_false (by omega)
      have HBX := Lib.hid (below_box hb)
      clear hb
      go_wp2
      go_ret2
      exact ⟨g, P, by rw [KU.out]; rfl, hgw, by have := hown.out; unfold IOwn; rw [KU.out]; exact this, HBX.out⟩
end Go.Proofs.Ytgjogjmfpbinfaa.S2

namespace Go.Proofs.Ytgjogjmfpbinfaa.S2
open Go.RowKit P2

/-- A new slice of numbers behind the world w. -/
def FIn (w wx : World) (P : Nat) (F : List Int) (s : Value) : Prop := ∃ g c, s = .slice (some ⟨g, 0, none⟩) P c ∧ g < wx.heap.size ∧ IAt wx (some ⟨g, 0, none⟩) F ∧ Below w.heap.size w wx
theorem fin_of {w w4 : World} {v : Value} {l : List Int} {i P : Nat} (ho : IOwn w4 w.heap.size v ([] ++ l.take i ++ [0] ++ l.drop i)) (hv : v ≠ .slice none 0 0) (hb : Below w.heap.size w w4) (hl : l.length + 1 = P) (hi : i ≤ l.length) : FIn w w4 P (insL l i) v := by
  have e : [] ++ l.take i ++ [0] ++ l.drop i = insL l i := by simp [insL]
  rw [e] at ho
  obtain ⟨g, c, rfl, hg⟩ := own_slice ho hv
  have hlen : (insL l i).length = P := by rw [insL_len hi]; exact hl
  exact ⟨g, c, by rw [hlen], (World.ownsRow.lt ho g rfl).2, ho.iat, hb⟩
set_option maxHeartbeats 2000000 in
theorem srf_no1 (N : Int) (A : Option Addr) (cap P : Nat) (x : Int) (AD : Option Addr) (DL dc : Nat) (w : World)
    (H1 : ∀ w', Below w.heap.size w w' → Calls Try.prog 126 #[nv N A P cap, .int .i64 x] w' fun e w2 => e = .returned (.bool false) ∧ Below w'.heap.size w' w2) :
    Calls Try.prog 33 #[nv N A P cap, .int .i64 x, .slice AD DL dc] w (GivesA w [] false) := by
  have K1 := Lib.hid H1
  clear H1
  go_enter Try.func33, Try.ntmps33
  go_wp2_with (first
    | (go_at_call 126; refine (K1.out _ ((Below.refl _ _).alloc (Nat.le_refl _) _)).mono ?_; rintro e w1 ⟨rfl, hb1⟩; have HX1 := Lib.hid (show Below (w.heap.size + 1) (w.alloc (nb N A P cap)) w1 by simpa using hb1); obtain ⟨b0, b1⟩ := box2 HX1.out; have hy1 := box_lt HX1.out; clear hb1)
    | fail)
  go_ret2
  exact gives_noneA (below_box HX1.out)
set_option maxHeartbeats 2000000 in
theorem srf_no2 (N : Int) (A : Option Addr) (cap P : Nat) (x : Int) (AD : Option Addr) (DL dc : Nat) (w : World)
    (H1 : ∀ w', Below w.heap.size w w' → Calls Try.prog 126 #[nv N A P cap, .int .i64 x] w' fun e w2 => e = .returned (.bool true) ∧ Below w'.heap.size w' w2)
    (H2 : ∀ w', Below w.heap.size w w' → Calls Try.prog 113 #[nv N A P cap] w' fun e w2 => e = .returned (.bool false) ∧ Below w'.heap.size w' w2) :
    Calls Try.prog 33 #[nv N A P cap, .int .i64 x, .slice AD DL dc] w (GivesA w [] false) := by
  have K1 := Lib.hid H1
  have K2 := Lib.hid H2
  clear H1 H2
  go_enter Try.func33, Try.ntmps33
  go_wp2_with (first
    | (go_at_call 126; refine (K1.out _ ((Below.refl _ _).alloc (Nat.le_refl _) _)).mono ?_; rintro e w1 ⟨rfl, hb1⟩; have HX1 := Lib.hid (show Below (w.heap.size + 1) (w.alloc (nb N A P cap)) w1 by simpa using hb1); obtain ⟨b0, b1⟩ := box2 HX1.out; have hy1 := box_lt HX1.out; clear hb1)
    | (go_at_call 113; refine (K2.out _ (below_box HX1.out)).mono ?_; rintro e w2 ⟨rfl, hb2⟩; have HX2 := Lib.hid (on_call HX1.out hb2); clear b0 b1; obtain ⟨b0, b1⟩ := box2 HX2.out; have hy2 := box_lt HX2.out; clear hb2)
    | fail)
  go_ret2
  exact gives_noneA (below_box HX2.out)
set_option maxHeartbeats 2000000 in
theorem srf_no3 (N : Int) (A : Option Addr) (cap P : Nat) (x : Int) (AD : Option Addr) (DL dc : Nat) (w : World)
    (H1 : ∀ w', Below w.heap.size w w' → Calls Try.prog 126 #[nv N A P cap, .int .i64 x] w' fun e w2 => e = .returned (.bool true) ∧ Below w'.heap.size w' w2)
    (H2 : ∀ w', Below w.heap.size w w' → Calls Try.prog 113 #[nv N A P cap] w' fun e w2 => e = .returned (.bool true) ∧ Below w'.heap.size w' w2)
    (H3 : ∀ w', Below w.heap.size w w' → Calls Try.prog 127 #[nv N A P cap, .slice AD DL dc] w' fun e w2 => e = .returned (.bool false) ∧ Below w'.heap.size w' w2) :
    Calls Try.prog 33 #[nv N A P cap, .int .i64 x, .slice AD DL dc] w (GivesA w [] false) := by
  have K1 := Lib.hid H1
  have K2 := Lib.hid H2
  have K3 := Lib.hid H3
  clear H1 H2 H3
  go_enter Try.func33, Try.ntmps33
  go_wp2_with (first
    | (go_at_call 126; refine (K1.out _ ((Below.refl _ _).alloc (Nat.le_refl _) _)).mono ?_; rintro e w1 ⟨rfl, hb1⟩; have HX1 := Lib.hid (show Below (w.heap.size + 1) (w.alloc (nb N A P cap)) w1 by simpa using hb1); obtain ⟨b0, b1⟩ := box2 HX1.out; have hy1 := box_lt HX1.out; clear hb1)
    | (go_at_call 113; refine (K2.out _ (below_box HX1.out)).mono ?_; rintro e w2 ⟨rfl, hb2⟩; have HX2 := Lib.hid (on_call HX1.out hb2); clear b0 b1; obtain ⟨b0, b1⟩ := box2 HX2.out; have hy2 := box_lt HX2.out; clear hb2)
    | (go_at_call 127; refine (K3.out _ (below_box HX2.out)).mono ?_; rintro e w3 ⟨rfl, hb3⟩; have HX3 := Lib.hid (on_call HX2.out hb3); clear b0 b1; obtain ⟨b0, b1⟩ := box2 HX3.out; have hy3 := box_lt HX3.out; clear hb3)
    | fail)
  go_ret2
  exact gives_noneA (below_box HX3.out)
set_option maxHeartbeats 2000000 in
theorem srf_no4 (N : Int) (A : Option Addr) (cap P : Nat) (x : Int) (AD : Option Addr) (DL dc : Nat) (S : Int) (hS : 200 < S) (w : World)
    (H1 : ∀ w', Below w.heap.size w w' → Calls Try.prog 126 #[nv N A P cap, .int .i64 x] w' fun e w2 => e = .returned (.bool true) ∧ Below w'.heap.size w' w2)
    (H2 : ∀ w', Below w.heap.size w w' → Calls Try.prog 113 #[nv N A P cap] w' fun e w2 => e = .returned (.bool true) ∧ Below w'.heap.size w' w2)
    (H3 : ∀ w', Below w.heap.size w w' → Calls Try.prog 127 #[nv N A P cap, .slice AD DL dc] w' fun e w2 => e = .returned (.bool true) ∧ Below w'.heap.size w' w2)
    (H4 : ∀ w', Below w.heap.size w w' → Calls Try.prog 128 #[.slice AD DL dc] w' fun e w2 => e = .returned (.int .i64 (S : Int)) ∧ w2 = w') :
    Calls Try.prog 33 #[nv N A P cap, .int .i64 x, .slice AD DL dc] w (GivesA w [] false) := by
  have K1 := Lib.hid H1
  have K2 := Lib.hid H2
  have K3 := Lib.hid H3
  have K4 := Lib.hid H4
  have d0 : decide (200 < S) = true := decide_eq_true hS
  clear hS
  clear H1 H2 H3 H4
  go_enter Try.func33, Try.ntmps33
  go_wp2_with (first
    | (go_at_call 126; refine (K1.out _ ((Below.refl _ _).alloc (Nat.le_refl _) _)).mono ?_; rintro e w1 ⟨rfl, hb1⟩; have HX1 := Lib.hid (show Below (w.heap.size + 1) (w.alloc (nb N A P cap)) w1 by simpa using hb1); obtain ⟨b0, b1⟩ := box2 HX1.out; have hy1 := box_lt HX1.out; clear hb1)
    | (go_at_call 113; refine (K2.out _ (below_box HX1.out)).mono ?_; rintro e w2 ⟨rfl, hb2⟩; have HX2 := Lib.hid (on_call HX1.out hb2); clear b0 b1; obtain ⟨b0, b1⟩ := box2 HX2.out; have hy2 := box_lt HX2.out; clear hb2)
    | (go_at_call 127; refine (K3.out _ (below_box HX2.out)).mono ?_; rintro e w3 ⟨rfl, hb3⟩; have HX3 := Lib.hid (on_call HX2.out hb3); clear b0 b1; obtain ⟨b0, b1⟩ := box2 HX3.out; have hy3 := box_lt HX3.out; clear hb3)
    | (go_at_call 128; refine (K4.out _ (below_box HX3.out)).mono ?_; rintro e w4 ⟨rfl, hw4⟩; replace hw4 := hw4.symm; subst hw4)
    | fail)
  go_ret2
  exact gives_noneA (below_box HX3.out)

set_option maxHeartbeats 8000000 in
set_option maxRecDepth 100000 in
theorem srf_walk (N : Int) (A : Option Addr) (cap P n0 i0 S : Nat) (x : Int) (AD : Option Addr) (DL dc : Nat) (sg L0 : List Int) (qs : List Pp) (U : Int → List Int) (E : Int → Int) (hU : ∀ y, (U y).length = P) (hS : S ≤ 200) (hP : P = n0 + 1) (hP10 : P ≤ 10) (hi0 : i0 < n0) (hsl : sg.length = P) (hl0 : L0.length = n0) (hs0 : ∀ j, j < i0 → sg.getD j 0 = 0) (hs1 : sg.getD i0 0 = 1) (w : World)
    (H1 : ∀ w', Below w.heap.size w w' → Calls Try.prog 126 #[nv N A P cap, .int .i64 x] w' fun e w2 => e = .returned (.bool true) ∧ Below w'.heap.size w' w2)
    (H2 : ∀ w', Below w.heap.size w w' → Calls Try.prog 113 #[nv N A P cap] w' fun e w2 => e = .returned (.bool true) ∧ Below w'.heap.size w' w2)
    (H3 : ∀ w', Below w.heap.size w w' → Calls Try.prog 127 #[nv N A P cap, .slice AD DL dc] w' fun e w2 => e = .returned (.bool true) ∧ Below w'.heap.size w' w2)
    (H4 : ∀ w', Below w.heap.size w w' → Calls Try.prog 128 #[.slice AD DL dc] w' fun e w2 => e = .returned (.int .i64 (S : Int)) ∧ w2 = w')
    (H5 : ∀ w', Below w.heap.size w w' → Calls Try.prog 118 #[nv N A P cap] w' fun e w2 => ∃ g c, e = .returned (.slice (some ⟨g, 0, none⟩) P c) ∧ w'.heap.size ≤ g ∧ g < w2.heap.size ∧ IAt w2 (some ⟨g, 0, none⟩) sg ∧ Below w'.heap.size w' w2)
    (H6 : ∀ w', Below w.heap.size w w' → Calls Try.prog 130 #[nv N A P cap, .int .i64 (i0 : Int)] w' fun e w2 => ∃ A2 c, e = .returned (nv N A2 n0 c) ∧ PAt w2 A2 qs ∧ n0 ≤ c ∧ Below w'.heap.size w' w2)
    (H7 : ∀ A2 c w', n0 ≤ c → Below w.heap.size w w' → PAt w' A2 qs → Calls Try.prog 129 #[nv N A2 n0 c, .int .i64 x, .slice AD DL dc] w' fun e w2 => ∃ g o c2, e = .returned (.slice (some ⟨g, o, none⟩) n0 c2) ∧ w'.heap.size ≤ g ∧ g < w2.heap.size ∧ n0 ≤ c2 ∧ c2 ≤ maxLen ∧ IAt w2 (some ⟨g, o, none⟩) L0 ∧ Below w'.heap.size w' w2)
    (H8 : ∀ g c g2 c2 (y : Int) w', -(S : Int) ≤ y → y ≤ S → IAt w' (some ⟨g, 0, none⟩) sg → IAt w' (some ⟨g2, 0, none⟩) (insL L0 i0) → Calls Try.prog 123 #[.slice (some ⟨g, 0, none⟩) P c, .slice (some ⟨g2, 0, none⟩) P c2, .int .i64 y] w' fun e w2 => ∃ g3 c3, e = .returned (.slice (some ⟨g3, 0, none⟩) P c3) ∧ w'.heap.size ≤ g3 ∧ IOwnP w2 w'.heap.size (.slice (some ⟨g3, 0, none⟩) P c3) P (U y) ∧ Below w'.heap.size w' w2)
    (H9 : ∀ g c (y : Int) w', Below w.heap.size w w' → -(S : Int) ≤ y → y ≤ S → IAt w' (some ⟨g, 0, none⟩) (U y) → Calls Try.prog 131 #[nv N A P cap, .slice (some ⟨g, 0, none⟩) P c] w' fun e w2 => e = .returned (.int .i64 (E y)) ∧ Below w'.heap.size w' w2) :
    Calls Try.prog 33 #[nv N A P cap, .int .i64 x, .slice AD DL dc] w (GivesI w (U (bxI E S (2 * S))) true) := by
  have K1 := Lib.hid H1
  have K2 := Lib.hid H2
  have K3 := Lib.hid H3
  have K4 := Lib.hid H4
  have K5 := Lib.hid H5
  have K6 := Lib.hid H6
  have K7 := Lib.hid H7
  have K8 := Lib.hid H8
  have K9 := Lib.hid H9
  have KU := Lib.hid hU
  have KB := Lib.hid (bxI_in E S)
  have KSL := Lib.hid hsl
  have KL0 := Lib.hid hl0
  have KS0 := Lib.hid hs0
  have KS1 := Lib.hid hs1
  have KP := Lib.hid hP
  obtain ⟨ii, hi, hz0, hz1, hz2⟩ := info_parts infoI
  have d0 : decide (200 < (S : Int)) = false := decide_eq_false (by omega)
  have wn : IntKind.i64.wrap (-(S : Int)) = -(S : Int) := w64 _ (by omega)
  have wn1 : IntKind.i64.wrap (-(S : Int) + 1) = -(S : Int) + 1 := w64 _ (by omega)
  clear H1 H2 H3 H4 H5 H6 H7 H8 H9 hU hsl hl0 hs0 hs1 hP
  go_enter Try.func33, Try.ntmps33
  go_wp2_with (first
    | (go_at_call 126; refine (K1.out _ ((Below.refl _ _).alloc (Nat.le_refl _) _)).mono ?_; rintro e w1 ⟨rfl, hb1⟩; have HX1 := Lib.hid (show Below (w.heap.size + 1) (w.alloc (nb N A P cap)) w1 by simpa using hb1); obtain ⟨b0, b1⟩ := box2 HX1.out; have hy1 := box_lt HX1.out; clear hb1)
    | (go_at_call 113; refine (K2.out _ (below_box HX1.out)).mono ?_; rintro e w2 ⟨rfl, hb2⟩; have HX2 := Lib.hid (on_call HX1.out hb2); clear b0 b1; obtain ⟨b0, b1⟩ := box2 HX2.out; have hy2 := box_lt HX2.out; clear hb2)
    | (go_at_call 127; refine (K3.out _ (below_box HX2.out)).mono ?_; rintro e w3 ⟨rfl, hb3⟩; have HX3 := Lib.hid (on_call HX2.out hb3); clear b0 b1; obtain ⟨b0, b1⟩ := box2 HX3.out; have hy3 := box_lt HX3.out; clear hb3)
    | (go_at_call 128; refine (K4.out _ (below_box HX3.out)).mono ?_; rintro e w4 ⟨rfl, hw4⟩; replace hw4 := hw4.symm; subst hw4)
    | (go_at_call 118; refine (K5.out _ (below_box HX3.out)).mono ?_; rintro e w5 ⟨gs, cs, rfl, hgs, hgl, hit, hb5⟩; have HX5 := Lib.hid (on_call HX3.out hb5); clear b0 b1; obtain ⟨b0, b1⟩ := box2 HX5.out; have hy5 := box_lt HX5.out; have HO5 := Lib.hid hit; clear hb5 hit)
    | fail)
  clear K1 K2 K3 HX1 HX2 HX3 hy1 hy2 hy3
  go_loopw [9] (fun i wr => ∃ k : Nat, k ≤ i0 ∧ i = .int .i64 (k : Int) ∧ wr = w5) (fun i _ => i0 - (intOf i).toNat)
  case atStart => exact ⟨0, Nat.zero_le _, rfl, rfl⟩
  case round =>
    obtain ⟨k, hk, rfl, hw⟩ := hrel
    replace hw := hw.symm
    subst hw
    obtain ⟨b, o, hA, hbl, p0⟩ := HO5.out.at_ (i := k) (by rw [KSL.out, KP.out]; omega)
    simp only [Option.some.injEq, Addr.mk.injEq, and_true] at hA
    obtain ⟨rfl, rfl⟩ := hA
    rw [Nat.zero_add] at p0
    have hk0 : (0 : Int) ≤ (k : Int) := by omega
    have hkn : (k : Int) < (P : Int) := by rw [KP.out]; omega
    by_cases hlt : k < i0
    · rw [KS0.out k hlt] at p0
      go_wp2
      go_roundw
      case rel => exact ⟨k + 1, by omega, by go_num, trivial⟩
      case measure => simp [intOf]; omega
    · have e : i0 = k := by omega
      subst e
      rw [KS1.out] at p0
      clear hk hlt
      go_wp2_with (first
        | (go_at_call 130; refine (K6.out _ (below_box HX5.out)).mono ?_; rintro e w6 ⟨A2, c2, rfl, hp2, hc2, hb6⟩; have HX6 := Lib.hid (on_call HX5.out hb6); clear b0 b1; obtain ⟨b0, b1⟩ := box2 HX6.out; have hy6 := box_lt HX6.out; have HO6 := Lib.hid (HO5.out.kept hb6 (Nat.le_refl _)); have HP6 := Lib.hid hp2; clear hb6 hp2)
        | (go_at_call 129; refine (K7.out _ _ _ hc2 (below_box HX6.out) HP6.out).mono ?_; rintro e w7 ⟨gt, off, ct, rfl, hgt, hgtl, hcn, hcm, hit, hb7⟩; have HX7 := Lib.hid (on_call HX6.out hb7); clear b0 b1; obtain ⟨b0, b1⟩ := box2 HX7.out; have hy7 := box_lt HX7.out; have HO7 := Lib.hid (HO6.out.kept hb7 (Nat.le_refl _)); have HT7 := Lib.hid hit; clear hb7 hit)
        | fail)
      have HC := Lib.hid (show ∀ i, i < L0.length → w7.cell? ⟨gt, off + i, none⟩ = some (iv (L0.getD i 0)) from fun i hi => by
        obtain ⟨b', o', he, _, hc⟩ := HT7.out.at_ hi
        simp only [Option.some.injEq, Addr.mk.injEq, and_true] at he
        obtain ⟨rfl, rfl⟩ := he
        exact hc)
      have hcm' : (ct : Int) ≤ 9223372036854775807 := by unfold maxLen at hcm; omega
      have HCM := Lib.hid hcm
      have hik : (i0 : Int) ≤ (n0 : Int) := by omega
      have hikc : (i0 : Int) ≤ (ct : Int) := by omega
      have hck : ¬ ct = i0 := by omega
      have hkc' : i0 ≤ ct := by omega
      have hin : i0 ≤ n0 := by omega
      have hn09 : n0 ≤ 9 := by rw [KP.out] at hP10; omega
      clear hcm p0 hP10 HP6 K5 K6 K7 HX5 HX6 HO5 HO6 hy5 hy6
      go_upto_region 8 with (fail)
      go_cut [11] (fun s wx => FIn w7 wx P (insL L0 i0) s)
      case first =>
        refine wp_region_held_drew (S := fun _ => True) (by kernel_rfl) trivial (fun hHeld => ?_)
        refine wpAnyH_take (i := 1) (v := .slice (some ⟨gt, off, none⟩) n0 ct) rfl (by kernel_rfl) (by kernel_rfl) (by kernel_rfl) (fun _ _ _ h => h) (Or.inl ⟨by rfl, ?_⟩) (by assumption) ?_
        · (intro w hSw; go_simp)
        simp only [Act.put, List.setIfInBounds_toArray]
        refine wpAnyH_take (i := 2) (v := .int .i64 (i0 : Int)) rfl (by kernel_rfl) (by kernel_rfl) (by kernel_rfl) (fun _ _ _ h => h) (Or.inl ⟨by rfl, ?_⟩) (by assumption) ?_
        · (intro w hSw; go_simp)
        simp only [Act.put]
        refine wpAnyH_take (i := 3) (v := .slice (some ⟨gt, off, none⟩) i0 ct) rfl (by kernel_rfl) (by kernel_rfl) (by kernel_rfl) (fun _ _ _ h => h) (Or.inl ⟨by rfl, ?_⟩) (by assumption) ?_
        · (intro w hSw; go_simp)
        simp only [Act.put]
        refine wpAnyH_take (i := 7) (v := .slice (some ⟨gt, off, none⟩) n0 ct) rfl (by kernel_rfl) (by kernel_rfl) (by kernel_rfl) (fun _ _ _ h => h) (Or.inl ⟨by rfl, ?_⟩) (by assumption) ?_
        · (intro w hSw; go_simp)
        simp only [Act.put]
        refine wpAnyH_take (i := 8) (v := .int .i64 (i0 : Int)) rfl (by kernel_rfl) (by kernel_rfl) (by kernel_rfl) (fun _ _ _ h => h) (Or.inl ⟨by rfl, ?_⟩) (by assumption) ?_
        · (intro w hSw; go_simp)
        simp only [Act.put]
        refine wpAnyH_take (i := 9) (v := .slice (some ⟨gt, off + i0, none⟩) (n0 - i0) (ct - i0)) rfl (by kernel_rfl) (by kernel_rfl) (by kernel_rfl) (fun _ _ _ h => h) (Or.inl ⟨by rfl, ?_⟩) (by assumption) ?_
        · (intro w hSw; go_simp)
        simp only [Act.put]
        refine wpAnyH_ready (rs := [0, 5]) (by kernel_rfl) (by simp) ?_
        refine AllReadyH.cons rfl (fun K hK => ?_) (AllReadyH.cons rfl (fun K hK => ?_) AllReadyH.nil)
        · go_simp
          refine hK.out _ _ trivial (fun hHeld => ?_)
          clear hK K
          refine wpAnyH_ready (rs := [4, 5]) (by kernel_rfl) (by simp) ?_
          refine AllReadyH.cons rfl (fun K hK => ?_) (AllReadyH.cons rfl (fun K hK => ?_) AllReadyH.nil)
          · have hBW := Lib.hid (((Below.refl w7.heap.size w7).alloc (Nat.le_refl _) (.cells #[] 3)).drew)
            refine step_append_row _ (by rfl) _ _ _ (by rfl) ii Try.underlying34 hi hz0 hz1 hz2 w7.heap.size (.slice (some ⟨w7.heap.size, 0, none⟩) 0 0) ([]) (by simp [go_sem]) (own_empty w7 w7.heap.size (Nat.le_refl _)) (by simp) (⟨gt, off, none⟩) (i0) (ct) (L0.take i0) (by simp [go_sem]) (by simp; have := KL0.out; omega) (fun j hj => cell_take hBW.out HC hgtl j hj) (by simp; have := KL0.out; omega) (hBW.out.size) ?_
            intro v1 x2 hO1 hg1 hn1
            refine hK.out _ _ trivial (fun hHeld => ?_)
            clear hK K
            simp only [Act.put]
            have hB2 := Lib.hid (hBW.out.grown hg1 hBW.out.size (fun q hq => by simp [Value.ownBlock] at hq; omega))
            refine wpAnyH_ready (rs := [5]) (by kernel_rfl) (by simp) ?_
            refine AllReadyH.cons rfl (fun K hK => ?_) AllReadyH.nil
            go_simp
            refine hK.out _ _ trivial (fun hHeld => ?_)
            clear hK K
            refine wpAnyH_ready (rs := [6]) (by kernel_rfl) (by simp) ?_
            refine AllReadyH.cons rfl (fun K hK => ?_) AllReadyH.nil
            refine step_append_row _ (by rfl) _ _ _ (by rfl) ii Try.underlying34 hi hz0 hz1 hz2 w7.heap.size (v1) ([] ++ L0.take i0) (by simp [go_sem]) (hO1.on ((Below.refl x2.heap.size x2).alloc (Nat.le_refl _) (.cells #[iv 0] 3))) (hn1) (⟨x2.heap.size, 0, none⟩) (1) (1) ([0]) (by simp [go_sem]) (rfl) (fun j hj => by (have e : j = 0 := by simpa using hj); subst e; exact cell_one x2 (iv 0) 3) (by simp; have := KL0.out; omega) (by have := hB2.out.size; simp; omega) ?_
            intro v2 x3 hO2 hg2 hn2
            refine hK.out _ _ trivial (fun hHeld => ?_)
            clear hK K
            simp only [Act.put]
            have hB3 := Lib.hid ((hB2.out.alloc hB2.out.size (.cells #[iv 0] 3)).grown hg2 (by have := hB2.out.size; simp; omega) (fun q hq => (World.ownsRow.lt hO1 q hq).1))
            refine wpAnyH_ready (rs := [10]) (by kernel_rfl) (by simp) ?_
            refine AllReadyH.cons rfl (fun K hK => ?_) AllReadyH.nil
            refine step_append_row _ (by rfl) _ _ _ (by rfl) ii Try.underlying34 hi hz0 hz1 hz2 w7.heap.size (v2) ([] ++ L0.take i0 ++ [0]) (by simp [go_sem]) (hO2) (hn2) (⟨gt, off + i0, none⟩) (n0 - i0) (ct - i0) (L0.drop i0) (by simp [go_sem]) (by simp; have := KL0.out; omega) (fun j hj => cell_drop hB3.out HC hgtl (.inl rfl) j hj) (by simp; have := KL0.out; omega) (hB3.out.size) ?_
            intro v3 x4 hO3 hg3 hn3
            refine hK.out _ _ trivial (fun hHeld => ?_)
            clear hK K
            simp only [Act.put]
            have hB4 := Lib.hid (hB3.out.grown hg3 hB3.out.size (fun q hq => (World.ownsRow.lt hO2 q hq).1))
            refine wpAnyH_ready (rs := [11]) (by kernel_rfl) (by simp) ?_
            refine AllReadyH.cons rfl (fun K hK => ?_) AllReadyH.nil
            go_simp
            refine hK.out _ _ trivial (fun hHeld => ?_)
            clear hK K
            refine wpAnyH_done (by kernel_rfl) ?_ _
            go_wp2_with fail
            go_meet
            exact fin_of hO3 hn3 hB4.out (by have := KL0.out; have := KP.out; omega) (by have := KL0.out; omega)
          · go_simp
            refine hK.out _ _ trivial (fun hHeld => ?_)
            clear hK K
            refine wpAnyH_ready (rs := [4]) (by kernel_rfl) (by simp) ?_
            have hBW := Lib.hid ((((Below.refl w7.heap.size w7).alloc (Nat.le_refl _) (.cells #[] 3)).alloc (by simp) (.cells #[iv 0] 3)).drew)
            refine AllReadyH.cons rfl (fun K hK => ?_) AllReadyH.nil
            refine step_append_row _ (by rfl) _ _ _ (by rfl) ii Try.underlying34 hi hz0 hz1 hz2 w7.heap.size (.slice (some ⟨w7.heap.size, 0, none⟩) 0 0) ([]) (by simp [go_sem]) ((own_empty w7 w7.heap.size (Nat.le_refl _)).on (((Below.refl _ _).alloc (Nat.le_refl _) (.cells #[iv 0] 3)).drew)) (by simp) (⟨gt, off, none⟩) (i0) (ct) (L0.take i0) (by simp [go_sem]) (by simp; have := KL0.out; omega) (fun j hj => cell_take hBW.out HC hgtl j hj) (by simp; have := KL0.out; omega) (hBW.out.size) ?_
            intro v1 x2 hO1 hg1 hn1
            refine hK.out _ _ trivial (fun hHeld => ?_)
            clear hK K
            simp only [Act.put]
            have hB2 := Lib.hid (hBW.out.grown hg1 hBW.out.size (fun q hq => by simp [Value.ownBlock] at hq; omega))
            refine wpAnyH_ready (rs := [6]) (by kernel_rfl) (by simp) ?_
            refine AllReadyH.cons rfl (fun K hK => ?_) AllReadyH.nil
            refine step_append_row _ (by rfl) _ _ _ (by rfl) ii Try.underlying34 hi hz0 hz1 hz2 w7.heap.size (v1) ([] ++ L0.take i0) (by simp [go_sem]) (hO1) (hn1) (⟨w7.heap.size + 1, 0, none⟩) (1) (1) ([0]) (by simp [go_sem]) (rfl) (fun j hj => by (have e : j = 0 := by simpa using hj); subst e; exact (hg1.cell_far ⟨w7.heap.size + 1, 0, none⟩ (by simp) (by simp [Value.ownBlock])).trans (cell_new1 w7 (.cells #[] 3) (iv 0) 3)) (by simp; have := KL0.out; omega) (by have := hB2.out.size; simp; omega) ?_
            intro v2 x3 hO2 hg2 hn2
            refine hK.out _ _ trivial (fun hHeld => ?_)
            clear hK K
            simp only [Act.put]
            have hB3 := Lib.hid (hB2.out.grown hg2 (by have := hB2.out.size; simp; omega) (fun q hq => (World.ownsRow.lt hO1 q hq).1))
            refine wpAnyH_ready (rs := [10]) (by kernel_rfl) (by simp) ?_
            refine AllReadyH.cons rfl (fun K hK => ?_) AllReadyH.nil
            refine step_append_row _ (by rfl) _ _ _ (by rfl) ii Try.underlying34 hi hz0 hz1 hz2 w7.heap.size (v2) ([] ++ L0.take i0 ++ [0]) (by simp [go_sem]) (hO2) (hn2) (⟨gt, off + i0, none⟩) (n0 - i0) (ct - i0) (L0.drop i0) (by simp [go_sem]) (by simp; have := KL0.out; omega) (fun j hj => cell_drop hB3.out HC hgtl (.inl rfl) j hj) (by simp; have := KL0.out; omega) (hB3.out.size) ?_
            intro v3 x4 hO3 hg3 hn3
            refine hK.out _ _ trivial (fun hHeld => ?_)
            clear hK K
            simp only [Act.put]
            have hB4 := Lib.hid (hB3.out.grown hg3 hB3.out.size (fun q hq => (World.ownsRow.lt hO2 q hq).1))
            refine wpAnyH_ready (rs := [11]) (by kernel_rfl) (by simp) ?_
            refine AllReadyH.cons rfl (fun K hK => ?_) AllReadyH.nil
            go_simp
            refine hK.out _ _ trivial (fun hHeld => ?_)
            clear hK K
            refine wpAnyH_done (by kernel_rfl) ?_ _
            go_wp2_with fail
            go_meet
            exact fin_of hO3 hn3 hB4.out (by have := KL0.out; have := KP.out; omega) (by have := KL0.out; omega)
        · go_simp
          refine hK.out _ _ trivial (fun hHeld => ?_)
          clear hK K
          refine wpAnyH_ready (rs := [0]) (by kernel_rfl) (by simp) ?_
          refine AllReadyH.cons rfl (fun K hK => ?_) AllReadyH.nil
          go_simp
          refine hK.out _ _ trivial (fun hHeld => ?_)
          clear hK K
          refine wpAnyH_ready (rs := [4]) (by kernel_rfl) (by simp) ?_
          have hBW := Lib.hid ((((Below.refl w7.heap.size w7).alloc (Nat.le_refl _) (.cells #[iv 0] 3)).alloc (by simp) (.cells #[] 3)).drew)
          refine AllReadyH.cons rfl (fun K hK => ?_) AllReadyH.nil
          refine step_append_row _ (by rfl) _ _ _ (by rfl) ii Try.underlying34 hi hz0 hz1 hz2 w7.heap.size (.slice (some ⟨w7.heap.size + 1, 0, none⟩) 0 0) ([]) (by simp [go_sem]) (own_empty1 w7 (.cells #[iv 0] 3)) (by simp) (⟨gt, off, none⟩) (i0) (ct) (L0.take i0) (by simp [go_sem]) (by simp; have := KL0.out; omega) (fun j hj => cell_take hBW.out HC hgtl j hj) (by simp; have := KL0.out; omega) (hBW.out.size) ?_
          intro v1 x2 hO1 hg1 hn1
          refine hK.out _ _ trivial (fun hHeld => ?_)
          clear hK K
          simp only [Act.put]
          have hB2 := Lib.hid (hBW.out.grown hg1 hBW.out.size (fun q hq => by simp [Value.ownBlock] at hq; omega))
          refine wpAnyH_ready (rs := [6]) (by kernel_rfl) (by simp) ?_
          refine AllReadyH.cons rfl (fun K hK => ?_) AllReadyH.nil
          refine step_append_row _ (by rfl) _ _ _ (by rfl) ii Try.underlying34 hi hz0 hz1 hz2 w7.heap.size (v1) ([] ++ L0.take i0) (by simp [go_sem]) (hO1) (hn1) (⟨w7.heap.size, 0, none⟩) (1) (1) ([0]) (by simp [go_sem]) (rfl) (fun j hj => by (have e : j = 0 := by simpa using hj); subst e; exact (hg1.cell_far ⟨w7.heap.size, 0, none⟩ (by simp; omega) (by simp [Value.ownBlock])).trans (cell_new0 w7 (iv 0) 3 (.cells #[] 3))) (by simp; have := KL0.out; omega) (by have := hB2.out.size; simp; omega) ?_
          intro v2 x3 hO2 hg2 hn2
          refine hK.out _ _ trivial (fun hHeld => ?_)
          clear hK K
          simp only [Act.put]
          have hB3 := Lib.hid (hB2.out.grown hg2 (by have := hB2.out.size; simp; omega) (fun q hq => (World.ownsRow.lt hO1 q hq).1))
          refine wpAnyH_ready (rs := [10]) (by kernel_rfl) (by simp) ?_
          refine AllReadyH.cons rfl (fun K hK => ?_) AllReadyH.nil
          refine step_append_row _ (by rfl) _ _ _ (by rfl) ii Try.underlying34 hi hz0 hz1 hz2 w7.heap.size (v2) ([] ++ L0.take i0 ++ [0]) (by simp [go_sem]) (hO2) (hn2) (⟨gt, off + i0, none⟩) (n0 - i0) (ct - i0) (L0.drop i0) (by simp [go_sem]) (by simp; have := KL0.out; omega) (fun j hj => cell_drop hB3.out HC hgtl (.inl rfl) j hj) (by simp; have := KL0.out; omega) (hB3.out.size) ?_
          intro v3 x4 hO3 hg3 hn3
          refine hK.out _ _ trivial (fun hHeld => ?_)
          clear hK K
          simp only [Act.put]
          have hB4 := Lib.hid (hB3.out.grown hg3 hB3.out.size (fun q hq => (World.ownsRow.lt hO2 q hq).1))
          refine wpAnyH_ready (rs := [11]) (by kernel_rfl) (by simp) ?_
          refine AllReadyH.cons rfl (fun K hK => ?_) AllReadyH.nil
          go_simp
          refine hK.out _ _ trivial (fun hHeld => ?_)
          clear hK K
          refine wpAnyH_done (by kernel_rfl) ?_ _
          go_wp2_with fail
          go_meet
          exact fin_of hO3 hn3 hB4.out (by have := KL0.out; have := KP.out; omega) (by have := KL0.out; omega)
      case rest =>
        obtain ⟨gF, cF, rfl, hgF, hit, hbF⟩ := hcut
        have HX8 := Lib.hid (on_call HX7.out hbF)
        obtain ⟨b0, b1⟩ := box2 HX8.out
        have hy8 := box_lt HX8.out
        have HF8 := Lib.hid hit
        have HO8 := Lib.hid (HO7.out.kept hbF (Nat.le_refl _))
        clear hit hbF HC
        go_wp2_with (first
          | (go_at_call 128; refine (K4.out _ (below_box HX8.out)).mono ?_; rintro e w8 ⟨rfl, hw8⟩; replace hw8 := hw8.symm; subst hw8)
          | (go_at_call 123; refine (K8.out _ _ _ _ _ _ (Int.le_refl _) (by omega) HO8.out HF8.out).mono ?_; rintro e w9 ⟨gb, cb, rfl, hgb, hOb, hb9⟩; have HX9 := Lib.hid (on_call HX8.out hb9); clear b0 b1; obtain ⟨b0, b1⟩ := box2 HX9.out; have hy9 := box_lt HX9.out; have HO9 := Lib.hid (HO8.out.kept hb9 (Nat.le_refl _)); have HF9 := Lib.hid (HF8.out.kept hb9 (Nat.le_refl _)); have HU9 := Lib.hid hOb; clear hb9 hOb)
          | fail)
        have HB0 := Lib.hid (Below.refl w9.heap.size w9)
        have hgw := box_lt HX8.out
        have hg9 : w.heap.size ≤ gb := by omega
        have HUL := Lib.hid (IOwnP.low HU9.out (KU.out _) (show w.heap.size ≤ wc.heap.size by omega))
        clear K4 HX7 HX8 HO7 HO8 HF8 HU9 HT7 b0 b1 wn wn1 hgw
        go_loopw [13, 14] (fun b y wr => ∃ (k g c : Nat), k ≤ 2 * S ∧ y = .int .i64 (-(S : Int) + 1 + (k : Int)) ∧ b = .slice (some ⟨g, 0, none⟩) P c ∧ w.heap.size ≤ g ∧ Hid (IOwnP wr w.heap.size (.slice (some ⟨g, 0, none⟩) P c) P (U (bxI E S k))) ∧ Hid (Below w9.heap.size w9 wr)) (fun _ y _ => (2 * (S : Int) - (intOf y + S - 1)).toNat)
        case atStart => exact ⟨0, gb, cb, by omega, by simp, rfl, hg9, HUL, HB0⟩
        case round =>
          clear HB0 HUL
          obtain ⟨k, g, c, hk, rfl, rfl, hgw, hown, hB⟩ := hrel
          have hb := on_call HX9.out hB.out
          by_cases hlt : k < 2 * S
          · obtain ⟨c0, c1⟩ := box2 hb
            have hz := box_lt hb
            have HXr := Lib.hid hb
            have HFr := Lib.hid (HF9.out.kept hB.out (Nat.le_refl _))
            have HOr := Lib.hid (HO9.out.kept hB.out (Nat.le_refl _))
            have hq := KB.out k hk
            have hle : decide (-(S : Int) + 1 + (k : Int) ≤ (S : Int)) = true := decide_eq_true (by omega)
            have hy1 : -(S : Int) ≤ -(S : Int) + 1 + (k : Int) := by omega
            have hy2 : -(S : Int) + 1 + (k : Int) ≤ S := by omega
            have wk : IntKind.i64.wrap (-(S : Int) + 1 + (k : Int) + 1) = -(S : Int) + 1 + (k : Int) + 1 := w64 _ (by omega)
            have HN := Lib.hid (show bxI E S (k + 1) = if E (-(S : Int) + 1 + k) < E (bxI E S k) then -(S : Int) + 1 + k else bxI E S k from rfl)
            have HYK := Lib.hid (show -(S : Int) + 1 + (k : Int) + 1 = -(S : Int) + 1 + ((k + 1 : Nat) : Int) by omega)
            clear hb
            generalize bxI E S k = q at *
            obtain ⟨y, hy⟩ : ∃ y, -(S : Int) + 1 + (k : Int) = y := ⟨_, rfl⟩
            rw [hy] at hle hy1 hy2 wk HN HYK ⊢
            have HY := Lib.hid hy
            clear hy
            go_wp2_with (first
              | (go_at_call 123; refine (K8.out _ _ _ _ _ _ hy1 hy2 HOr.out HFr.out).mono ?_; rintro e v7 ⟨g3, c3, rfl, hg3, hO2, hb7⟩; have HY7 := Lib.hid (on_call HXr.out hb7); clear c0 c1; obtain ⟨c0, c1⟩ := box2 HY7.out; have hz7 := box_lt HY7.out; have HU2 := Lib.hid hO2; have HW2 := Lib.hid (hown.out.on hb7); have HB7 := Lib.hid (hB.out.trans (hb7.mono hB.out.size)); clear hO2 hb7)
              | fail)
            have HE1 := Lib.hid (fun w' (hb' : Below v7.heap.size v7 w') => K9.out g3 c3 y w' ((below_box HY7.out).trans (hb'.mono (Nat.le_of_lt hz7))) hy1 hy2 ((HU2.out.iat (KU.out _)).kept hb' (Nat.le_refl _)))
            have HE2 := Lib.hid (fun w' (hb' : Below v7.heap.size v7 w') => K9.out g c q w' ((below_box HY7.out).trans (hb'.mono (Nat.le_of_lt hz7))) hq.1 hq.2 ((HW2.out.iat (KU.out _)).kept hb' (Nat.le_refl _)))
            by_cases he : E y < E q
            · have hd : decide (E y < E q) = true := decide_eq_true he
              have HN2 := Lib.hid (show bxI E S (k + 1) = y by rw [HN.out, if_pos he])
              clear HN he
              have hG := @cell_g
              refine region_below (by kernel_rfl) (by kernel_rfl) ?_
              repeat (first
                | go_big_quiet_step ((go_at_call_of 131 (Value.slice (some ⟨g3, 0, none⟩) P c3); exact met_at HE1.out))
                | go_big_quiet_step ((go_at_call 131; exact met_at HE2.out)))
              refine wpQuiet_nil ?_
              intro v8 hb8
              have hz8 : v7.heap.size ≤ v8.heap.size := hb8.size
              have HB8 := Lib.hid (HB7.out.trans (hb8.mono HB7.out.size))
              have HU3 := Lib.hid (HU2.out.on hb8)
              have HW3 := Lib.hid (HW2.out.on hb8)
              clear hG hb8 c0 c1
              go_wp2
              go_roundw
              case rel => exact ⟨k + 1, g3, c3, by omega, by rw [HYK.out], rfl, by have := box_lt HXr.out; omega, by rw [HN2.out]; exact Lib.hid (IOwnP.low HU3.out (KU.out _) (by have := box_lt HXr.out; omega)), HB8⟩
              case measure => simp only [intOf]; have := HY.out; omega
            · have hd : decide (E y < E q) = false := decide_eq_false he
              have HN2 := Lib.hid (show bxI E S (k + 1) = q by rw [HN.out, if_neg he])
              clear HN he
              have hG := @cell_g
              refine region_below (by kernel_rfl) (by kernel_rfl) ?_
              repeat (first
                | go_big_quiet_step ((go_at_call_of 131 (Value.slice (some ⟨g3, 0, none⟩) P c3); exact met_at HE1.out))
                | go_big_quiet_step ((go_at_call 131; exact met_at HE2.out)))
              refine wpQuiet_nil ?_
              intro v8 hb8
              have hz8 : v7.heap.size ≤ v8.heap.size := hb8.size
              have HB8 := Lib.hid (HB7.out.trans (hb8.mono HB7.out.size))
              have HU3 := Lib.hid (HU2.out.on hb8)
              have HW3 := Lib.hid (HW2.out.on hb8)
              clear hG hb8 c0 c1
              go_wp2
              go_roundw
              case rel => exact ⟨k + 1, g, c, by omega, by rw [HYK.out], rfl, hgw, by rw [HN2.out]; exact HW3, HB8⟩
              case measure => simp only [intOf]; have := HY.out; omega
          · have e : k = 2 * S := by omega
            subst e
            have hle : decide (-(S : Int) + 1 + ((2 * S : Nat) : Int) ≤ (S : Int)) = false := decide_eq_false (by omega)
            have HBX := Lib.hid (below_box hb)
            clear hb
            go_wp2
            go_ret2
            exact ⟨g, c, by rw [KU.out]; rfl, hgw, by have := hown.out; unfold IOwn; rw [KU.out]; exact this, HBX.out⟩
end Go.Proofs.Ytgjogjmfpbinfaa.S2
