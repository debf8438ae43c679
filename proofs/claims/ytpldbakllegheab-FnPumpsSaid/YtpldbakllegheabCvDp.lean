/- How the law FnPumps draws its working point: contracts. Conditions: each theorem's own premises. -/
import Derived.Test.YtpldbakllegheabCvDr
namespace Go.Proofs.Ytpldbakllegheab.S7
open Go.RowKit Go.Sort P7

set_option maxHeartbeats 4000000 in
set_option maxRecDepth 100000 in
theorem near7_any (B g : Nat) (a : Option Addr) (n cap KC : Nat) (w : World) (hK : KC ≤ 800000) (h : S1.St B g a n cap KC w) :
    Calls Try.prog 40 #[.pointer (some ⟨g, 0, none⟩)] w fun e w' => (∃ z : Int, e = .returned (.int .i64 z)) ∧ S1.St B g a n cap (KC + 4) w' ∧ w.grownBy w' (some g) := by
  have HS := Lib.hid h
  have hgl : g < w.heap.size := by obtain ⟨k, sd, hk, hg⟩ := h.cur; exact (Array.getElem?_eq_some_iff.1 hg).1
  clear h
  go_enter Try.func40, Try.ntmps40
  have hti := S1.ti_new w [0, 1, 5, 10, 17, 40, 45, 49, 90, 97, 100, 993, 1000, -1, 1001] 3
  go_wp2_with fail
  refine (S1.pick_any B g a n cap KC 24 _ (by omega) (by omega) (by omega) (S1.st_new HS.out _)).mono ?_
  rintro e p0 ⟨r0, rfl, hr0, hr1, hsp, hgp⟩
  obtain ⟨t0, rfl⟩ : ∃ t : Nat, r0 = (t : Int) := ⟨r0.toNat, by omega⟩
  obtain ⟨d0, hd0⟩ : ∃ d : Nat, (t0 : Int) / 11 = (d : Int) := ⟨t0 / 11, by omega⟩
  have hd02 : d0 ≤ 2 := by omega
  obtain ⟨N0, hN0⟩ : ∃ N : Nat, 13 + (d0 : Int) = (N : Int) := ⟨13 + d0, by omega⟩
  have hN00 : 1 ≤ N0 := by omega
  have hN01 : N0 ≤ 15 := by omega
  have htj := S1.ti_take (S1.ti_grown hti hgp (by omega)) (show N0 ≤ ([0, 1, 5, 10, 17, 40, 45, 49, 90, 97, 100, 993, 1000, -1, 1001] : List Int).length by simp; omega)
  have HG := Lib.hid (S1.grown_trans (World.grownBy_alloc w (.cells (([0, 1, 5, 10, 17, 40, 45, 49, 90, 97, 100, 993, 1000, -1, 1001] : List Int).map (Value.int .i64)).toArray 3) (some g)) hgp)
  go_wp2_with fail
  refine (S1.among_any B g a n cap (KC + 2) w.heap.size N0 15 (([0, 1, 5, 10, 17, 40, 45, 49, 90, 97, 100, 993, 1000, -1, 1001] : List Int).take N0) _ (by rw [List.length_take]; simp; omega) (by omega) (by rw [List.length_take]; simp; omega) (by rw [List.length_take]; simp; omega) hsp htj (by omega)).mono ?_
  rintro e q0 ⟨⟨z0, rfl⟩, hsq, hgq⟩
  have HS1 := Lib.hid hsq
  have HG1 := Lib.hid (S1.grown_trans HG.out hgq)
  clear hti htj hsp hgp hsq hgq HG HS hN0
  go_wp2_with fail
  go_ret
  exact ⟨⟨z0, rfl⟩, HS1.out, HG1.out⟩

set_option maxHeartbeats 2000000 in
set_option maxRecDepth 100000 in
theorem dwork_any (a : Option Addr) (n cap : Nat) (w : World) (hc : S1.Cd w.heap.size a n w) (hn : n ≤ 65536) :
    Calls Try.prog 9 #[.slice a n cap] w fun e w' => (∃ (gv cv : Nat) (cs : List Cp) (z y : Int), e = .returned (.tuple #[.slice (some ⟨gv, 0, none⟩) cs.length cv, .int .i64 z, .int .i64 y]) ∧ (1 ≤ cs.length ∧ cs.length ≤ 7) ∧ (cs.length ≤ cv ∧ cv ≤ maxLen) ∧ CAt w' (some ⟨gv, 0, none⟩) cs) ∧ Below w.heap.size w w' := by
  have HS0 := Lib.hid (S1.st_start cap hc hn)
  clear hc
  go_enter Try.func9, Try.ntmps9
  refine Hid.out ?_
  refine Lib.hid ?_
  go_wp2_with (first | (go_at_call 39; refine (curve_any w.heap.size w.heap.size a n cap 0 _ (by omega) HS0.out (by simp)).mono ?_; rintro e w1 ⟨gv, cv, cs, rfl, hgv, hl, hcc, hat, hs, hg⟩; refine Hid.out ?_) | fail)
  have hgv1 : w.heap.size < gv := by have := hgv.1; simp at this; omega
  have hgv2 := hgv.2
  have HA := Lib.hid hat
  have HS := Lib.hid hs
  have HB := Lib.hid (S1.below_of_start hg)
  have hz1 : w.heap.size < w1.heap.size := by omega
  clear hgv hat hs hg HS0
  refine Lib.hid ?_
  go_wp2_with (first | (go_at_call 40; refine (near7_any w.heap.size w.heap.size a n cap 60 _ (by omega) HS.out).mono ?_; rintro e w2 ⟨⟨z, rfl⟩, hs, hg⟩; refine Hid.out ?_) | fail)
  have HA2 := Lib.hid (HA.out.far hg (by omega))
  have HS2 := Lib.hid hs
  have HB2 := Lib.hid (HB.out.trans (S1.grown_below hg (Nat.le_refl _) (by omega)))
  have hz2 : w1.heap.size ≤ w2.heap.size := hg.size
  have hgv3 : gv < w2.heap.size := by omega
  clear hs hg HA HB HS
  have hti := S1.ti_new w2 ([0, 1, 2, 10, 1000, -1, 1001] : List Int) 3
  refine Lib.hid ?_
  go_wp2_with (first | (go_at_call 42; refine (S1.pick_any w.heap.size w.heap.size a n cap 64 24 _ (by omega) (by omega) (by omega) (S1.st_new HS2.out _)).mono ?_; rintro e p0 ⟨r0, rfl, hr0, hr1, hsp, hgp⟩; refine Hid.out ?_) | fail)
  obtain ⟨t0, rfl⟩ : ∃ t : Nat, r0 = (t : Int) := ⟨r0.toNat, by omega⟩
  obtain ⟨d0, hd0⟩ : ∃ d : Nat, (t0 : Int) / 11 = (d : Int) := ⟨t0 / 11, by omega⟩
  have hd02 : d0 ≤ 2 := by omega
  obtain ⟨N0, hN0⟩ : ∃ N : Nat, 5 + (d0 : Int) = (N : Int) := ⟨5 + d0, by omega⟩
  have hN00 : 1 ≤ N0 := by omega
  have hN01 : N0 ≤ 7 := by omega
  have htj := S1.ti_take (S1.ti_grown hti hgp (by omega)) (show N0 ≤ ([0, 1, 2, 10, 1000, -1, 1001] : List Int).length by simp; omega)
  have HG := Lib.hid (S1.grown_trans (World.grownBy_alloc w2 (.cells (([0, 1, 2, 10, 1000, -1, 1001] : List Int).map (Value.int .i64)).toArray 3) (some w.heap.size)) hgp)
  refine Lib.hid ?_
  go_wp2_with (first | (go_at_call 41; refine (S1.among_any w.heap.size w.heap.size a n cap 66 w2.heap.size N0 7 (([0, 1, 2, 10, 1000, -1, 1001] : List Int).take N0) _ (by rw [List.length_take]; simp; omega) (by omega) (by rw [List.length_take]; simp; omega) (by rw [List.length_take]; simp; omega) hsp htj (by omega)).mono ?_; rintro e q0 ⟨⟨z0, rfl⟩, hsq, hgq⟩; refine Hid.out ?_) | fail)
  have HG1 := Lib.hid (S1.grown_trans HG.out hgq)
  have HA3 := Lib.hid (HA2.out.far HG1.out (by omega))
  have HB3 := Lib.hid (HB2.out.trans (S1.grown_below HG1.out (Nat.le_refl _) (by omega)))
  clear hti htj hsp hgp hsq hgq HG hN0
  refine Lib.hid ?_
  go_wp2_with fail
  go_ret3
  exact ⟨⟨gv, cv, cs, z, z0, rfl, hl, hcc, HA3.out⟩, HB3.out⟩
end Go.Proofs.Ytpldbakllegheab.S7
