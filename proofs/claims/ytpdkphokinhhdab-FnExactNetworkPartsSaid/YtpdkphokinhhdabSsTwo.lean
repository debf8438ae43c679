/- Slices of slices of ints that the call owns: marks, and marks found again: contracts. Conditions: each theorem's own premises. -/
import Derived.Test.YtpdkphokinhhdabSsOne
namespace Go.Proofs.Ytpdkphokinhhdab.S2
open Go.RowKit Go.Sort P2

theorem grown_cell {w w1 : World} {g i : Nat} {v : Value} (h : w.grownBy w1 (some g)) : w.grownBy (w1.setCell ⟨g, i, none⟩ v) (some g) := by
  refine ⟨h.os, h.tape, h.output, by simpa using h.size, fun k hk hne => ?_⟩
  rw [Below.heap_setCell w1 ⟨g, i, none⟩ v k (fun e => hne (by rw [e]))]
  exact h.block k hk hne

set_option maxHeartbeats 1000000 in
theorem markints_far (B g cap m : Nat) (l : List Int) (w : World) (h : IOwn w B (.slice (some ⟨g, 0, none⟩) l.length cap) l) (hn : l.length ≤ 1048576) (hm : m ≤ 1048576) :
    Calls Try.prog 61 #[.slice (some ⟨g, 0, none⟩) l.length cap, .int .i64 (m : Int)] w fun e w' => e = .returned (.int .i64 ((m + l.length : Nat) : Int)) ∧ IOwn w' B (.slice (some ⟨g, 0, none⟩) l.length cap) (marksI m l.length) ∧ w.grownBy w' (some g) := by
  have hB := (World.ownsRow.lt h g rfl).1
  unfold IOwn at h ⊢
  rw [marksI_len]
  have hx : (l.map iv).length = l.length := by simp
  have HF := Lib.hid (show mkI m (l.map iv) l.length = (marksI m l.length).map iv by have := mkI_full m (l.map iv); rwa [hx] at this)
  have HX := Lib.hid hx
  clear hx
  generalize l.length = n at *
  generalize l.map iv = xs at *
  go_enter Try.func61, Try.ntmps61
  go_wp2
  go_loopw [1, 5] (fun k i wr => ∃ j : Nat, j ≤ n ∧ k = .int .i64 ((m + j : Nat) : Int) ∧ i = .int .i64 j ∧ wr.ownsRow B 3 1 (.slice (some ⟨g, 0, none⟩) n cap) n (mkI m xs j) ∧ w.grownBy wr (some g)) (fun _ i _ => n - (intOf i).toNat)
  case atStart => exact ⟨0, Nat.zero_le _, rfl, rfl, by rw [mkI_zero]; exact h, World.grownBy.refl _ _⟩
  case round =>
    obtain ⟨j, hj, rfl, rfl, hown, hb⟩ := hrel
    clear h
    by_cases hlt : j < n
    · have hset := Lib.hid (mkI_set m xs j (by rw [HX.out]; exact hlt))
      obtain ⟨u, hu⟩ := mkI_has m xs j (by rw [HX.out]; exact hlt)
      have hcell := (hown.cellAt j (by omega)).trans hu
      have hfz := hown.frozenAt j
      have HO := Lib.hid hown
      have hjn : m + j + 1 = m + (j + 1) := by omega
      clear hown hu
      go_wp2
      have hst := HO.out.stored j (iv ((m + j : Nat) : Int))
      rw [hset.out] at hst
      go_roundw
      case rel => exact ⟨j + 1, by omega, by go_num, by go_num, hst.1, grown_cell hb⟩
      case measure => simp [intOf]; omega
    · have hjn : j = n := by omega
      subst hjn
      go_wp2
      go_ret
      exact ⟨rfl, by rw [← HF.out]; exact hown, hb⟩

/-- The rows ls of the call's own, each in a block of its own. -/
structure SOwn (w : World) (B b cap : Nat) (q : Nat → Nat × Nat) (ls : List (List Int)) : Prop where
  row : b < w.heap.size ∧ B ≤ b ∧ ∀ i, i < ls.length → w.cell? ⟨b, i, none⟩ = some (.slice (some ⟨(q i).1, 0, none⟩) (rw_ ls i).length (q i).2)
  own : ∀ i, i < ls.length → IOwn w B (.slice (some ⟨(q i).1, 0, none⟩) (rw_ ls i).length (q i).2) (rw_ ls i)
  dis : ∀ i j, i < j → j < ls.length → (q i).1 ≠ (q j).1
  out : ∀ i, i < ls.length → (q i).1 ≠ b
theorem SOwn.sat {w : World} {B b cap : Nat} {q : Nat → Nat × Nat} {ls : List (List Int)} (h : SOwn w B b cap q ls) : SAt w (some ⟨b, 0, none⟩) ls :=
  .inr ⟨b, 0, rfl, h.row.1, fun i hi => ⟨_, _, by rw [Nat.zero_add]; exact h.row.2.2 i hi, (h.own i hi).iat⟩⟩
theorem SOwn.on {w w' : World} {B b cap : Nat} {q : Nat → Nat × Nat} {ls : List (List Int)} (h : SOwn w B b cap q ls) (hb : Below w.heap.size w w') : SOwn w' B b cap q ls :=
  ⟨⟨Nat.lt_of_lt_of_le h.row.1 hb.size, h.row.2.1, fun i hi => (hb.cell (p := ⟨b, i, none⟩) h.row.1).trans (h.row.2.2 i hi)⟩, fun i hi => (h.own i hi).on hb, h.dis, h.out⟩

/-- Where the marks of row i start. -/
def totR (ls : List (List Int)) : Nat → Nat
  | 0 => 0
  | i + 1 => totR ls i + (rw_ ls i).length
theorem totR_le {ls : List (List Int)} (hr : ∀ i, i < ls.length → (rw_ ls i).length ≤ 100) : ∀ i, i ≤ ls.length → totR ls i ≤ 100 * i := by
  intro i
  induction i with
  | zero => intro _; simp [totR]
  | succ i ih => intro h; have a := ih (by omega); have b := hr i (by omega); simp only [totR]; omega
/-- The rows of marks. -/
def marksS (m : Nat) (ls : List (List Int)) : List (List Int) := (List.range ls.length).map fun i => marksI (m + totR ls i) (rw_ ls i).length
theorem marksS_len (m : Nat) (ls : List (List Int)) : (marksS m ls).length = ls.length := by simp [marksS]
theorem marksS_at (m : Nat) (ls : List (List Int)) (i : Nat) (h : i < ls.length) : rw_ (marksS m ls) i = marksI (m + totR ls i) (rw_ ls i).length := by simp [rw_, marksS, List.getD, h]

theorem own_far {w w' : World} {B g c : Nat} {l : List Int} {b : Nat} (h : IOwn w B (.slice (some ⟨g, 0, none⟩) l.length c) l) (hg : w.grownBy w' (some b)) (hne : g ≠ b) : IOwn w' B (.slice (some ⟨g, 0, none⟩) l.length c) l := by
  have hl := (World.ownsRow.lt h g rfl).2
  refine ⟨h.1, ?_⟩
  rcases h.2 with ⟨hv, _⟩ | ⟨g', cap', cur, hv, hb, hgt, rest⟩
  · cases hv
  · refine .inr ⟨g', cap', cur, hv, hb, ?_, rest⟩
    injection hv with hA
    injection hA with hA
    injection hA with e1
    subst e1
    rw [hg.block g hl (by simp; omega)]; exact hgt

/-- Rows 0 to j are marked, the others as they were. -/
def MkInv (B b m : Nat) (q : Nat → Nat × Nat) (ls : List (List Int)) (w : World) (j : Nat) (wr : World) : Prop :=
  b < wr.heap.size ∧ (∀ i, i < ls.length → wr.cell? ⟨b, i, none⟩ = some (.slice (some ⟨(q i).1, 0, none⟩) (rw_ ls i).length (q i).2)) ∧
    (∀ i, i < j → IOwn wr B (.slice (some ⟨(q i).1, 0, none⟩) (rw_ ls i).length (q i).2) (marksI (m + totR ls i) (rw_ ls i).length)) ∧
    (∀ i, j ≤ i → i < ls.length → IOwn wr B (.slice (some ⟨(q i).1, 0, none⟩) (rw_ ls i).length (q i).2) (rw_ ls i)) ∧ Below B w wr

set_option maxHeartbeats 2000000 in
set_option maxRecDepth 100000 in
theorem markss_any (B b cap m : Nat) (q : Nat → Nat × Nat) (ls : List (List Int)) (w : World) (h : SOwn w B b cap q ls) (hn : ls.length ≤ 1000) (hr : ∀ i, i < ls.length → (rw_ ls i).length ≤ 100) (hm : m ≤ 1000) :
    Calls Try.prog 32 #[.slice (some ⟨b, 0, none⟩) ls.length cap, .int .i64 (m : Int)] w fun e w' => e = .returned (.int .i64 ((m + totR ls ls.length : Nat) : Int)) ∧ SAt w' (some ⟨b, 0, none⟩) (marksS m ls) ∧ Below B w w' := by
  have HH := Lib.hid h
  have HR := Lib.hid hr
  have HT := Lib.hid (totR_le hr)
  have hBb := h.row.2.1
  clear h hr
  go_enter Try.func32, Try.ntmps32
  go_wp2
  go_loopw [1, 5] (fun k i wr => ∃ j : Nat, j ≤ ls.length ∧ k = .int .i64 ((m + totR ls j : Nat) : Int) ∧ i = .int .i64 j ∧
      Hid (MkInv B b m q ls w j wr)) (fun _ i _ => ls.length - (intOf i).toNat)
  case atStart => exact ⟨0, Nat.zero_le _, rfl, rfl, Lib.hid ⟨HH.out.row.1, HH.out.row.2.2, fun i hi => absurd hi (by omega), fun i _ hi => HH.out.own i hi, Below.refl _ _⟩⟩
  case round =>
    obtain ⟨j, hj, rfl, rfl, hinv⟩ := hrel
    by_cases hlt : j < ls.length
    · obtain ⟨hbl, hrow, hdone, hleft, hbel⟩ := hinv.out
      have hc := hrow j hlt
      have hrj := HR.out j hlt
      have htj := HT.out j hj
      have HM := Lib.hid (markints_far B (q j).1 (q j).2 (m + totR ls j) (rw_ ls j) wr (hleft j (Nat.le_refl _) hlt) (by omega) (by omega))
      have HN := Lib.hid (fun (w' : World) (ho : IOwn w' B (.slice (some ⟨(q j).1, 0, none⟩) (rw_ ls j).length (q j).2) (marksI (m + totR ls j) (rw_ ls j).length)) (hg : wr.grownBy w' (some (q j).1)) => show MkInv B b m q ls w (j + 1) w' from by
        have hqB := (World.ownsRow.lt (hleft j (Nat.le_refl _) hlt) (q j).1 rfl).1
        refine ⟨Nat.lt_of_lt_of_le hbl hg.size, fun i hi => hg.cell (hrow i hi) (by simp; exact fun e => HH.out.out j hlt e.symm), fun i hi => ?_, fun i h1 h2 => own_far (hleft i (by omega) h2) hg (fun e => HH.out.dis j i (by omega) h2 e.symm), hbel.grown hg (Nat.le_trans HH.out.row.2.1 (by omega)) (fun g hg' => by simp at hg'; omega)⟩
        by_cases e : i = j
        · subst e; exact ho
        · have hl := marksI_len (m + totR ls i) (rw_ ls i).length
          have hd := hdone i (by omega)
          rw [← hl] at hd ⊢
          rw [hl] at hd
          exact by simpa [marksI_len] using own_far (l := marksI (m + totR ls i) (rw_ ls i).length) (by rw [marksI_len]; exact hdone i (by omega)) hg (HH.out.dis i j (by omega) hlt))
      have htn : totR ls (j + 1) = totR ls j + (rw_ ls j).length := rfl
      clear hrow hdone hleft hbel hinv
      have hj0 : (0 : Int) ≤ (j : Int) := by omega
      have hjn : (j : Int) < (ls.length : Int) := by omega
      have hMB : m + totR ls j ≤ 101000 := by omega
      have HME := Lib.hid (show m + totR ls (j + 1) = m + totR ls j + (rw_ ls j).length by rw [htn, Nat.add_assoc])
      clear htn htj
      generalize m + totR ls j = M at *
      generalize rw_ ls j = LJ at *
      generalize (q j).1 = gj at *
      generalize (q j).2 = cj at *
      go_wp2_with (go_at_call 61; refine HM.out.mono ?_; rintro e w1 ⟨rfl, ho, hg⟩)
      go_roundw
      case rel => exact ⟨j + 1, by omega, by have h9 := HME.out; congr 1; omega, by go_num, Lib.hid (HN.out _ ho hg)⟩
      case measure => simp [intOf]; omega
    · have hjn : j = ls.length := by omega
      subst hjn
      obtain ⟨hbl, hrow, hdone, _, hbel⟩ := hinv.out
      have hsat : SAt wr (some ⟨b, 0, none⟩) (marksS m ls) := .inr ⟨b, 0, rfl, hbl, fun i hi => by
        rw [marksS_len] at hi
        rw [marksS_at m ls i hi, marksI_len, Nat.zero_add]
        exact ⟨_, _, hrow i hi, IOwn.iat (B := B) (cap := (q i).2) (by rw [marksI_len]; exact hdone i hi)⟩⟩
      clear hrow hdone hinv
      go_wp2
      go_ret
      exact ⟨rfl, hsat, hbel⟩

set_option maxHeartbeats 2000000 in
theorem heldss_any (A : Option Addr) (cap m : Nat) (ls : List (List Int)) (w : World) (h : SAt w A (marksS m ls)) (hn : ls.length ≤ 1000) (hr : ∀ i, i < ls.length → (rw_ ls i).length ≤ 100) (hm : m ≤ 1000) :
    Calls Try.prog 33 #[.slice A ls.length cap, .int .i64 (m : Int)] w fun e w' => e = .returned (.int .i64 ((m + totR ls ls.length : Nat) : Int)) ∧ Below w.heap.size w w' := by
  have HA := Lib.hid h
  have HR := Lib.hid hr
  have HT := Lib.hid (totR_le hr)
  clear h hr
  go_enter Try.func33, Try.ntmps33
  go_wp2
  go_loopw [1, 5] (fun k i wr => ∃ j : Nat, j ≤ ls.length ∧ k = .int .i64 ((m + totR ls j : Nat) : Int) ∧ i = .int .i64 j ∧ Below w.heap.size w wr) (fun _ i _ => ls.length - (intOf i).toNat)
  case atStart => exact ⟨0, Nat.zero_le _, rfl, rfl, Below.refl _ _⟩
  case round =>
    obtain ⟨j, hj, rfl, rfl, hb⟩ := hrel
    by_cases hlt : j < ls.length
    · obtain ⟨b, off, B, c, hA, hbl, h0, hI⟩ := (HA.out.kept hb (Nat.le_refl _)).at_ (i := j) (by rw [marksS_len]; exact hlt)
      subst hA
      rw [marksS_at m ls j hlt] at h0 hI
      rw [marksI_len] at h0
      have hrj := HR.out j hlt
      have htj := HT.out j hj
      have HQ := Lib.hid (heldints_any B c (m + totR ls j) (rw_ ls j).length wr hI (by omega) (by omega))
      have htn : totR ls (j + 1) = totR ls j + (rw_ ls j).length := rfl
      have hj0 : (0 : Int) ≤ (j : Int) := by omega
      have hjn : (j : Int) < (ls.length : Int) := by omega
      have hMB : m + totR ls j ≤ 101000 := by omega
      have HME := Lib.hid (show m + totR ls (j + 1) = m + totR ls j + (rw_ ls j).length by rw [htn, Nat.add_assoc])
      clear hI htn htj
      generalize m + totR ls j = M at *
      generalize rw_ ls j = LJ at *
      go_wp2_with (go_at_call 62; refine HQ.out.mono ?_; rintro e w1 ⟨rfl, hb1⟩)
      go_roundw
      case rel => exact ⟨j + 1, by omega, by have h9 := HME.out; congr 1; omega, by go_num, hb.trans (hb1.mono hb.size)⟩
      case measure => simp [intOf]; omega
    · have hjn : j = ls.length := by omega
      subst hjn
      go_wp2
      go_ret
      exact ⟨rfl, hb⟩
end Go.Proofs.Ytpdkphokinhhdab.S2
