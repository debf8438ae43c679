/- SupplyOf of the program and of the model: contracts. Conditions: each theorem's own premises. -/
import Derived.Test.YtipnecmgpfmjeaaTrS
namespace Go.Proofs.Ytipnecmgpfmjeaa.S2
open Go.RowKit P2

/-- A small list: as many numbers as there are nodes, or pipes. -/
theorem amt_len {l : List Int} {n a b : Int} (h : amtB l n a b = true) : (l.length : Int) = n ∧ allR a b l = true := by
  unfold amtB at h
  rw [Bool.and_eq_true, decide_eq_true_eq] at h
  exact h
theorem demB_of {n : Int} {ps : List Pp} {dm : List Int} (h : demB n ps dm = true) : P2.Good n ps ∧ (dm.length : Int) = n ∧ allR 0 1000 dm = true := by
  unfold demB at h
  rw [Bool.and_eq_true] at h
  exact ⟨good_of h.1, amt_len h.2⟩
theorem floB_of {n : Int} {ps : List Pp} {fl : List Int} (h : floB n ps fl = true) : P2.Good n ps ∧ fl.length = ps.length ∧ allR (-8000) 8000 fl = true := by
  unfold floB at h
  rw [Bool.and_eq_true] at h
  have := amt_len h.2
  exact ⟨good_of h.1, by omega, this.2⟩

set_option maxHeartbeats 1000000 in
theorem sup_no (n : Int) (A : Option Addr) (cap : Nat) (ps : List Pp) (AD : Option Addr) (dc : Nat) (dm : List Int) (w : World) (h : PAt w A ps) (hm : ps.length ≤ maxLen) (hd : IAt w AD dm) (hdl : dm.length ≤ 1048576) (hv : demB n ps dm = false) :
    Calls Try.prog 20 #[nv n A ps.length cap, .slice AD dm.length dc] w fun e w' => e = .returned (.tuple #[.int .i64 0, .bool false]) ∧ Below w.heap.size w w' := by
  have H := Lib.hid (fun w' (hb : Below w.heap.size w w') => dem_v hv A cap AD dc w' (h.kept hb (Nat.le_refl _)) hm (hd.kept hb (Nat.le_refl _)) hdl)
  clear h hd hv
  go_enter Try.func20, Try.ntmps20
  go_wp2_with (go_at_call 54; refine (H.out _ ((Below.refl _ _).alloc (Nat.le_refl _) _)).mono ?_; rintro e w1 ⟨rfl, hb1⟩)
  go_ret2
  exact ⟨rfl, below_alloc_call hb1⟩
set_option maxHeartbeats 1000000 in
theorem sup_yes (n : Int) (A : Option Addr) (cap : Nat) (ps : List Pp) (AD : Option Addr) (dc : Nat) (dm : List Int) (w : World) (h : PAt w A ps) (hm : ps.length ≤ maxLen) (hd : IAt w AD dm) (hdl : dm.length ≤ 1048576) (hv : demB n ps dm = true) :
    Calls Try.prog 20 #[nv n A ps.length cap, .slice AD dm.length dc] w fun e w' => e = .returned (.tuple #[.int .i64 (sumL dm), .bool true]) ∧ Below w.heap.size w w' := by
  obtain ⟨hg, hdn, hr⟩ := demB_of hv
  have hd8 : dm.length ≤ 8 := by have := hg.2.1; omega
  have H := Lib.hid (fun w' (hb : Below w.heap.size w w') => dem_v hv A cap AD dc w' (h.kept hb (Nat.le_refl _)) hm (hd.kept hb (Nat.le_refl _)) hdl)
  have HA := Lib.hid (fun w' (hb : Below w.heap.size w w') => hd.kept hb (Nat.le_refl _))
  have HB := Lib.hid (fun k (hk : k ≤ dm.length) => sum_in hr (by omega) (by omega) hk (by omega))
  have HE := Lib.hid (fun k (hk : k < dm.length) => allR_at hr hk)
  clear h hd hv hr hg hdn hm
  go_enter Try.func20, Try.ntmps20
  go_wp2_with (go_at_call 54; refine (H.out _ ((Below.refl _ _).alloc (Nat.le_refl _) _)).mono ?_; rintro e w1 ⟨rfl, hb1⟩)
  have hB := Lib.hid (below_alloc_call hb1)
  clear hb1 H
  go_loop [6, 15] (fun s i => ∃ k : Nat, k ≤ dm.length ∧ i = .int .i64 (k : Int) ∧ s = .int .i64 (sumK (lA dm) k)) (fun _ i => dm.length - (intOf i).toNat)
  case atStart => exact ⟨0, Nat.zero_le _, rfl, rfl⟩
  case round =>
    obtain ⟨k, hk, rfl, rfl⟩ := hrel
    obtain ⟨hs0, hs1⟩ := HB.out k hk
    by_cases hlt : k < dm.length
    · obtain ⟨bb, off, hA, hbl, h0⟩ := (HA.out _ hB.out).at_ hlt
      subst hA
      have hk0 : (0 : Int) ≤ (k : Int) := by omega
      have hkn : (k : Int) < (dm.length : Int) := by omega
      have hy0 : 0 ≤ dm.getD k 0 := (HE.out k hlt).1
      have hy1 : dm.getD k 0 ≤ 1000 := (HE.out k hlt).2
      have hsn := Lib.hid (show sumK (lA dm) (k + 1) = sumK (lA dm) k + dm.getD k 0 from rfl)
      generalize dm.getD k 0 = y at *
      generalize sumK (lA dm) k = s at *
      go_wp2
      go_round
      case rel => exact ⟨k + 1, by omega, by go_num, by rw [hsn.out]⟩
      case measure => simp [intOf]; omega
    · have hkk : k = dm.length := by omega
      have hf := Lib.hid (show sumK (lA dm) k = sumL dm by rw [hkk]; rfl)
      clear hkk
      go_wp2
      go_ret2
      exact ⟨by rw [hf.out]; rfl, hB.out⟩
set_option maxHeartbeats 1000000 in
theorem ssup_no (n : Int) (A : Option Addr) (cap : Nat) (ps : List Pp) (AD : Option Addr) (dc : Nat) (dm : List Int) (w : World) (h : PAt w A ps) (hm : ps.length ≤ maxLen) (hd : IAt w AD dm) (hdl : dm.length ≤ 1048576) (hv : demB n ps dm = false) :
    Calls Try.prog 49 #[nv n A ps.length cap, .slice AD dm.length dc] w fun e w' => e = .returned (.tuple #[.int .i64 0, .bool false]) ∧ Below w.heap.size w w' := by
  unfold demB at hv
  cases hg : goodB n ps with
  | false =>
    have H := Lib.hid (fun w' (hb : Below w.heap.size w w') => sgood_v hg A cap w' (h.kept hb (Nat.le_refl _)) hm)
    clear h hd hv hg
    go_enter Try.func49, Try.ntmps49
    go_wp2_with (go_at_call 75; refine (H.out _ ((Below.refl _ _).alloc (Nat.le_refl _) _)).mono ?_; rintro e w1 ⟨rfl, hb1⟩)
    go_ret2
    exact ⟨rfl, below_alloc_call hb1⟩
  | true =>
    rw [hg, Bool.true_and] at hv
    have H := Lib.hid (fun w' (hb : Below w.heap.size w w') => sgood_v hg A cap w' (h.kept hb (Nat.le_refl _)) hm)
    have HD := Lib.hid (fun w' (hb : Below w.heap.size w w') => sdem_v hv A ps.length cap AD dc w' (hd.kept hb (Nat.le_refl _)) hdl)
    clear h hd hv hg
    go_enter Try.func49, Try.ntmps49
    go_wp2_with (first
      | (go_at_call 75; refine (H.out _ ((Below.refl _ _).alloc (Nat.le_refl _) _)).mono ?_; rintro e w1 ⟨rfl, hb1⟩; obtain ⟨hc1, hf1⟩ := bcell hb1; have hz1 := hb1.size; simp at hz1; have hb2 := Lib.hid (below_alloc_call hb1))
      | (go_at_call 58; refine (HD.out _ hb2.out).mono ?_; rintro e w2 ⟨rfl, hb3⟩))
    go_ret2
    exact ⟨rfl, hb2.out.trans (hb3.mono hb2.out.size)⟩
set_option maxHeartbeats 1000000 in
theorem ssup_yes (n : Int) (A : Option Addr) (cap : Nat) (ps : List Pp) (AD : Option Addr) (dc : Nat) (dm : List Int) (w : World) (h : PAt w A ps) (hm : ps.length ≤ maxLen) (hd : IAt w AD dm) (hdl : dm.length ≤ 1048576) (hv : demB n ps dm = true) :
    Calls Try.prog 49 #[nv n A ps.length cap, .slice AD dm.length dc] w fun e w' => e = .returned (.tuple #[.int .i64 (sumL dm), .bool true]) ∧ Below w.heap.size w w' := by
  obtain ⟨hgd, hdn, hr⟩ := demB_of hv
  unfold demB at hv
  rw [Bool.and_eq_true] at hv
  have hd8 : dm.length ≤ 8 := by have := hgd.2.1; omega
  have H := Lib.hid (fun w' (hb : Below w.heap.size w w') => sgood_v hv.1 A cap w' (h.kept hb (Nat.le_refl _)) hm)
  have HD := Lib.hid (fun w' (hb : Below w.heap.size w w') => sdem_v hv.2 A ps.length cap AD dc w' (hd.kept hb (Nat.le_refl _)) hdl)
  have HS := Lib.hid (fun w' (hb : Below w.heap.size w w') => ssum_any AD dc dm 0 1000 w' (hd.kept hb (Nat.le_refl _)) (by omega) hr (by omega) (by omega))
  clear h hd hv hr hgd hdn hm
  go_enter Try.func49, Try.ntmps49
  go_wp2_with (first
    | (go_at_call 75; refine (H.out _ ((Below.refl _ _).alloc (Nat.le_refl _) _)).mono ?_; rintro e w1 ⟨rfl, hb1⟩; obtain ⟨hc1, hf1⟩ := bcell hb1; have hz1 := hb1.size; simp at hz1; have hb2 := Lib.hid (below_alloc_call hb1))
    | (go_at_call 58; refine (HD.out _ hb2.out).mono ?_; rintro e w2 ⟨rfl, hb3⟩; have hb4 := Lib.hid (hb2.out.trans (hb3.mono hb2.out.size)))
    | (go_at_call 91; refine (HS.out _ hb4.out).mono ?_; rintro e w3 ⟨rfl, hw⟩; replace hw := hw.symm; subst hw))
  go_ret2
  exact ⟨rfl, hb4.out⟩
end Go.Proofs.Ytipnecmgpfmjeaa.S2
