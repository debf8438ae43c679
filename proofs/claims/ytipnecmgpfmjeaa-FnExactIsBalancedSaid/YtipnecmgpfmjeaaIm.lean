/- The imbalances at all nodes, as the program gathers them: contracts. Conditions: each theorem's own premises. -/
import Derived.Test.YtipnecmgpfmjeaaSup
import Derived.Test.YtipnecmgpfmjeaaDistOne
import Derived.StillTailTactics
namespace Go.Proofs.Ytipnecmgpfmjeaa.S2
open Go.RowKit P2

/-- Behind k demands. -/
def dS (s : Nat) (dm : List Int) (k v : Nat) : Int := (if v = s then sumK (lA dm) k else 0) - (if 1 ≤ v ∧ v ≤ k then lA dm (v - 1) else 0)
def fT (ps : List Pp) (fl : List Int) (v i : Nat) : Int := (if (pAt ps i).to = (v : Int) then lA fl i else 0) - (if (pAt ps i).fr = (v : Int) then lA fl i else 0)
/-- Behind all demands and k pipes. -/
def iS (s : Nat) (dm : List Int) (ps : List Pp) (fl : List Int) (k v : Nat) : Int := dS s dm dm.length v + sumK (fT ps fl v) k
/-- The imbalance at a node. -/
def imbA (s : Nat) (dm : List Int) (ps : List Pp) (fl : List Int) (v : Nat) : Int := iS s dm ps fl ps.length v

theorem dS_step (s : Nat) (dm : List Int) (k v : Nat) :
    upd (upd (dS s dm k) s (dS s dm k s + lA dm k)) (k + 1) (upd (dS s dm k) s (dS s dm k s + lA dm k) (k + 1) - lA dm k) v = dS s dm (k + 1) v := by
  have e : sumK (lA dm) (k + 1) = sumK (lA dm) k + lA dm k := rfl
  unfold upd dS
  rw [e]
  by_cases h1 : v = k + 1
  · subst h1
    rw [if_pos rfl]
    have e2 : k + 1 - 1 = k := by omega
    by_cases h2 : k + 1 = s
    · subst h2
      simp
      omega
    · rw [if_neg h2]
      simp [h2, e2]
      rw [if_neg (by omega)]; omega
  · rw [if_neg h1]
    by_cases h2 : v = s
    · subst h2
      simp
      by_cases h3 : 1 ≤ v ∧ v ≤ k
      · rw [if_pos h3, if_pos ⟨h3.1, by omega⟩]; omega
      · rw [if_neg h3, if_neg (by omega)]; omega
    · simp only [if_neg h2]
      by_cases h3 : 1 ≤ v ∧ v ≤ k
      · rw [if_pos h3, if_pos ⟨h3.1, by omega⟩]
      · rw [if_neg h3, if_neg (by omega)]
theorem dS_zero (s : Nat) (dm : List Int) (v : Nat) : dS s dm 0 v = 0 := by
  unfold dS
  rw [if_neg (show ¬ (1 ≤ v ∧ v ≤ 0) by omega)]
  split <;> simp [sumK]
theorem iS_step {s : Nat} {dm : List Int} {ps : List Pp} {fl : List Int} {k a c : Nat} (ha : (pAt ps k).fr = (a : Int)) (hc : (pAt ps k).to = (c : Int)) (hne : a ≠ c) (v : Nat) :
    upd (upd (iS s dm ps fl k) a (iS s dm ps fl k a - lA fl k)) c (iS s dm ps fl k c + lA fl k) v = iS s dm ps fl (k + 1) v := by
  have e : iS s dm ps fl (k + 1) v = iS s dm ps fl k v + fT ps fl v k := by unfold iS; rw [sumK]; omega
  rw [e]
  unfold upd fT
  rw [ha, hc]
  by_cases h1 : v = c
  · subst h1
    rw [if_pos rfl, if_pos rfl, if_neg (by omega)]; omega
  · rw [if_neg h1, if_neg (show ¬ (c : Int) = (v : Int) by omega)]
    by_cases h2 : v = a
    · subst h2
      rw [if_pos rfl, if_pos rfl]; omega
    · rw [if_neg h2, if_neg (show ¬ (a : Int) = (v : Int) by omega)]; omega
theorem dS_in {s : Nat} {dm : List Int} (hr : allR 0 1000 dm = true) (hl : dm.length ≤ 8) {k : Nat} (hk : k ≤ dm.length) (v : Nat) : -90000 ≤ dS s dm k v ∧ dS s dm k v ≤ 90000 := by
  have h1 := sum_in hr (by omega) (by omega) hk (by omega)
  have h2 : 1 ≤ v ∧ v ≤ k → 0 ≤ lA dm (v - 1) ∧ lA dm (v - 1) ≤ 1000 := fun h => allR_at hr (i := v - 1) (by omega)
  unfold dS
  split <;> split <;> first | omega | (have := h2 (by assumption); omega)
theorem iS_in {s : Nat} {dm : List Int} {ps : List Pp} {fl : List Int} (hr : allR 0 1000 dm = true) (hl : dm.length ≤ 8) (hf : allR (-8000) 8000 fl = true) (hfl : fl.length ≤ 10) {k : Nat} (hk : k ≤ fl.length) (v : Nat) : -300000 ≤ iS s dm ps fl k v ∧ iS s dm ps fl k v ≤ 300000 := by
  have h1 := dS_in (s := s) hr hl (Nat.le_refl _) v
  have h2 := sumK_le (f := fT ps fl v) (B := 16000) (by omega) (k := k) (fun i hi => by
    have := allR_at hf (i := i) (by omega)
    unfold fT lA
    split <;> split <;> omega)
  have h3 : (k : Int) ≤ 10 := by omega
  have h4 : (16000 : Int) * k ≤ 16000 * 10 := Int.mul_le_mul_of_nonneg_left h3 (by omega)
  unfold iS
  omega

/-- Nine numbers lie in block g. -/
def AR (w : World) (g : Nat) (S : Nat → Int) : Prop := w.heap[g]? = some (.cells ((List.range 9).map fun i => iv (S i)).toArray 90 (0, 0))
theorem AR.lt {w : World} {g : Nat} {S : Nat → Int} (h : AR w g S) : g < w.heap.size := (Array.getElem?_eq_some_iff.1 h).1
theorem AR.cell {w : World} {g : Nat} {S : Nat → Int} (h : AR w g S) {v : Nat} (hv : v < 9) : w.cell? ⟨g, v, none⟩ = some (iv (S v)) := by
  rw [cell_of_row w g v _ 90 (0, 0) h]
  simp [hv]
theorem AR.frozen {w : World} {g : Nat} {S : Nat → Int} (h : AR w g S) (o : Nat) : w.frozen? ⟨g, o, none⟩ = false := by
  unfold AR at h
  simp [World.frozen?, h]
theorem AR.congr {w : World} {g : Nat} {S T : Nat → Int} (h : AR w g S) (e : ∀ v, S v = T v) : AR w g T := by rwa [show T = S from funext fun v => (e v).symm]
theorem AR.set {w : World} {g : Nat} {S : Nat → Int} (h : AR w g S) (v : Nat) (x : Int) : AR (w.setCell ⟨g, v, none⟩ (iv x)) g (upd S v x) := by
  unfold AR at h ⊢
  have e : ((List.range 9).map fun i => iv (upd S v x i)) = ((List.range 9).map fun i => iv (S i)).set v (iv x) := by
    refine List.ext_getElem (by simp) fun i h1 h2 => ?_
    rw [List.getElem_set]
    simp only [List.getElem_map, List.getElem_range, upd]
    by_cases hi : i = v
    · simp [hi]
    · rw [if_neg hi, if_neg (fun h => hi h.symm)]
  rw [e]
  simp [World.setCell, Array.getElem?_modify, h]
theorem AR.kept {w w' : World} {g : Nat} {S : Nat → Int} (h : AR w g S) (hb : w'.heap[g]? = w.heap[g]?) : AR w' g S := hb.trans h
theorem AR.below {w w' : World} {g : Nat} {S : Nat → Int} (h : AR w g S) (hb : Below w.heap.size w w') : AR w' g S := h.kept (hb.block g h.lt)
theorem AR.other {w : World} {g : Nat} {S : Nat → Int} (h : AR w g S) {p : Addr} (x : Value) (hp : g ≠ p.block) : AR (w.setCell p x) g S := h.kept (Below.heap_setCell _ _ _ _ (by intro e; exact hp (by rw [e])))
theorem AR.made (w : World) : AR (w.alloc (.cells #[.int .i64 0, .int .i64 0, .int .i64 0, .int .i64 0, .int .i64 0, .int .i64 0, .int .i64 0, .int .i64 0, .int .i64 0] 90)) w.heap.size (fun _ => 0) := by
  unfold AR
  rw [show (List.map (fun _ => iv 0) (List.range 9)).toArray = #[.int .i64 0, .int .i64 0, .int .i64 0, .int .i64 0, .int .i64 0, .int .i64 0, .int .i64 0, .int .i64 0, .int .i64 0] from rfl]
  simpa using (MapKept.heap_alloc w (.cells #[.int .i64 0, .int .i64 0, .int .i64 0, .int .i64 0, .int .i64 0, .int .i64 0, .int .i64 0, .int .i64 0, .int .i64 0] 90)).1
/-- As a value. -/
abbrev av (S : Nat → Int) : Value := .agg #[iv (S 0), iv (S 1), iv (S 2), iv (S 3), iv (S 4), iv (S 5), iv (S 6), iv (S 7), iv (S 8)]
theorem below_set9 {B : Nat} {w0 w1 : World} {g : Nat} (h : Below B w0 w1) (hg : B ≤ g) (x0 x1 x2 x3 x4 x5 x6 x7 x8 : Value) :
    Below B w0 (((((((((w1.setCell ⟨g, 0, none⟩ x0).setCell ⟨g, 1, none⟩ x1).setCell ⟨g, 2, none⟩ x2).setCell ⟨g, 3, none⟩ x3).setCell ⟨g, 4, none⟩ x4).setCell ⟨g, 5, none⟩ x5).setCell ⟨g, 6, none⟩ x6).setCell ⟨g, 7, none⟩ x7).setCell ⟨g, 8, none⟩ x8) :=
  ((((((((h.setCell (p := ⟨g, 0, none⟩) hg _).setCell (p := ⟨g, 1, none⟩) hg _).setCell (p := ⟨g, 2, none⟩) hg _).setCell (p := ⟨g, 3, none⟩) hg _).setCell (p := ⟨g, 4, none⟩) hg _).setCell (p := ⟨g, 5, none⟩) hg _).setCell (p := ⟨g, 6, none⟩) hg _).setCell (p := ⟨g, 7, none⟩) hg _).setCell (p := ⟨g, 8, none⟩) hg _
end Go.Proofs.Ytipnecmgpfmjeaa.S2
