/- SupplyOf of the program and of the model: contracts. Conditions: each theorem's own premises. -/
import Derived.Test.YtjfpimldiokpbabAmB
namespace Go.Proofs.Ytjfpimldiokpbab.S2
open Go.RowKit P2

set_option maxHeartbeats 1000000 in
theorem sup_no (n : Int) (A : Option Addr) (cap : Nat) (ps : List Pp) (AD : Option Addr) (dc : Nat) (dm : List Int) (w : World) (h : PAt w A ps) (hm : ps.length ≤ maxLen) (hd : IAt w AD dm) (hdl : dm.length ≤ 1048576) (hv : demB n ps dm = false) :
    Calls Try.prog 26 #[nv n A ps.length cap, .slice AD dm.length dc] w fun e w' => e = .returned (.tuple #[.int .i64 0, .bool false]) ∧ Below w.heap.size w w' := by
  have H := Lib.hid (fun w' (hb : Below w.heap.size w w') => dem_v hv A cap AD dc w' (h.kept hb (Nat.le_refl _)) hm (hd.kept hb (Nat.le_refl _)) hdl)
  clear h hd hv
  go_enter Try.func26, Try.ntmps26
  go_wp2_with (go_at_call 88; refine (H.out _ ((Below.refl _ _).alloc (Nat.le_refl _) _)).mono ?_; rintro e w1 ⟨rfl, hb1⟩)
  go_ret2
  exact ⟨rfl, below_alloc_call hb1⟩
set_option maxHeartbeats 1000000 in
theorem sup_yes (n : Int) (A : Option Addr) (cap : Nat) (ps : List Pp) (AD : Option Addr) (dc : Nat) (dm : List Int) (w : World) (h : PAt w A ps) (hm : ps.length ≤ maxLen) (hd : IAt w AD dm) (hdl : dm.length ≤ 1048576) (hv : demB n ps dm = true) :
    Calls Try.prog 26 #[nv n A ps.length cap, .slice AD dm.length dc] w fun e w' => e = .returned (.tuple #[.int .i64 (sumL dm), .bool true]) ∧ Below w.heap.size w w' := by
  obtain ⟨hg, hdn, hr⟩ := demB_of hv
  have hd8 : dm.length ≤ 8 := by have := hg.2.1; omega
  have H := Lib.hid (fun w' (hb : Below w.heap.size w w') => dem_v hv A cap AD dc w' (h.kept hb (Nat.le_refl _)) hm (hd.kept hb (Nat.le_refl _)) hdl)
  have HA := Lib.hid (fun w' (hb : Below w.heap.size w w') => hd.kept hb (Nat.le_refl _))
  have HB := Lib.hid (fun k (hk : k ≤ dm.length) => sum_in hr (by omega) (by omega) hk (by omega))
  have HE := Lib.hid (fun k (hk : k < dm.length) => allR_at hr hk)
  clear h hd hv hr hg hdn hm
  go_enter Try.func26, Try.ntmps26
  go_wp2_with (go_at_call 88; refine (H.out _ ((Below.refl _ _).alloc (Nat.le_refl _) _)).mono ?_; rintro e w1 ⟨rfl, hb1⟩)
  have hB := Lib.hid (below_alloc_call hb1)
  clear hb1 H
  go_loop [6, 15] (fun s i => ∃ k : Nat, k ≤ dm.length ∧ i = .int .i64 (k : Int) ∧ s = .int .i64 (sumK (lA dm) k)) (fun _ i => dm.length - (intOf i).toNat)
  case atStart => exact ⟨0, Nat.zero_le _, rfl, rfl⟩
  case round =>
    obtain ⟨k, hk, rfl, rfl⟩ := hrel
    obtain ⟨hs0, hs1⟩ := HB.out k hk
    by_cases hlt : k < dm.length
    · obtain ⟨bb, off, hA, hbl, h0⟩ := (HA.out _ hB.out).at_ hlt
      subst hA
      have hk0 : (0 : Int) ≤ (k : Int) := by omega
      have hkn : (k : Int) < (dm.length : Int) := by omega
      have hy0 : 0 ≤ dm.getD k 0 := (HE.out k hlt).1
      have hy1 : dm.getD k 0 ≤ 1000 := (HE.out k hlt).2
      have hsn := Lib.hid (show sumK (lA dm) (k + 1) = sumK (lA dm) k + dm.getD k 0 from rfl)
      generalize dm.getD k 0 = y at *
      generalize sumK (lA dm) k = s at *
      go_wp2
      go_round
      case rel => exact ⟨k + 1, by omega, by go_num, by rw [hsn.out]⟩
      case measure => simp [intOf]; omega
    · have hkk : k = dm.length := by omega
      have hf := Lib.hid (show sumK (lA dm) k = sumL dm by rw [hkk]; rfl)
      clear hkk
      go_wp2
      go_ret2
      exact ⟨by rw [hf.out]; rfl, hB.out⟩
end Go.Proofs.Ytjfpimldiokpbab.S2
