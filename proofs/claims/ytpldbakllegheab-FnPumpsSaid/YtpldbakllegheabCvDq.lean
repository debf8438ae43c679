/- How the law FnPumps draws its lists of curves: contracts. Conditions: each theorem's own premises. -/
import Derived.Test.YtpldbakllegheabCvCrs
import Derived.Test.YtpldbakllegheabCvDp
namespace Go.Proofs.Ytpldbakllegheab.S7
open Go.RowKit Go.Sort P7

set_option maxHeartbeats 2000000 in
set_option maxRecDepth 100000 in
theorem dpar_any (a : Option Addr) (n cap : Nat) (w : World) (hc : S1.Cd w.heap.size a n w) (hn : n ≤ 65536) :
    Calls Try.prog 15 #[.slice a n cap] w fun e w' => (∃ (gv cv : Nat) (ls : List (List Cp)) (z : Int), e = .returned (.tuple #[.slice (some ⟨gv, 0, none⟩) ls.length cv, .int .i64 z]) ∧ ls.length ≤ 5 ∧ (ls.length ≤ cv ∧ cv ≤ maxLen) ∧ SDr w' w.heap.size gv ls) ∧ Below w.heap.size w w' := by
  have HS0 := Lib.hid (S1.st_start cap hc hn)
  clear hc
  go_enter Try.func15, Try.ntmps15
  refine Hid.out ?_
  refine Lib.hid ?_
  go_wp2_with (first | (go_at_call 48; refine (curves_any w.heap.size w.heap.size a n cap 0 _ (by omega) HS0.out (by simp)).mono ?_; rintro e w1 ⟨gv, cv, ls, rfl, hgv, hl, hcc, hat, hs, hg⟩; refine Hid.out ?_) | fail)
  have hgv1 : w.heap.size < gv := by have := hgv; simp at this; omega
  have hgv2 := hat.1
  have HA := Lib.hid hat
  have HS := Lib.hid hs
  have HB := Lib.hid (S1.below_of_start hg)
  have hz1 : w.heap.size < w1.heap.size := by omega
  clear hgv hat hs hg HS0
  refine Lib.hid ?_
  go_wp2_with (first | (go_at_call 40; refine (near7_any w.heap.size w.heap.size a n cap 400 _ (by omega) HS.out).mono ?_; rintro e w2 ⟨⟨z, rfl⟩, hs, hg⟩; refine Hid.out ?_) | fail)
  have HA2 := Lib.hid (HA.out.call hg)
  have HB2 := Lib.hid (HB.out.trans (S1.grown_below hg (Nat.le_refl _) (by omega)))
  clear hs hg HA HB HS
  refine Lib.hid ?_
  go_wp2_with fail
  go_ret2
  exact ⟨⟨gv, cv, ls, z, rfl, hl, hcc, HA2.out⟩, HB2.out⟩

set_option maxHeartbeats 2000000 in
set_option maxRecDepth 100000 in
theorem dser_any (a : Option Addr) (n cap : Nat) (w : World) (hc : S1.Cd w.heap.size a n w) (hn : n ≤ 65536) :
    Calls Try.prog 18 #[.slice a n cap] w fun e w' => (∃ (gv cv : Nat) (ls : List (List Cp)) (z : Int), e = .returned (.tuple #[.slice (some ⟨gv, 0, none⟩) ls.length cv, .int .i64 z]) ∧ ls.length ≤ 5 ∧ (ls.length ≤ cv ∧ cv ≤ maxLen) ∧ SDr w' w.heap.size gv ls) ∧ Below w.heap.size w w' := by
  have HS0 := Lib.hid (S1.st_start cap hc hn)
  clear hc
  go_enter Try.func18, Try.ntmps18
  refine Hid.out ?_
  refine Lib.hid ?_
  go_wp2_with (first | (go_at_call 48; refine (curves_any w.heap.size w.heap.size a n cap 0 _ (by omega) HS0.out (by simp)).mono ?_; rintro e w1 ⟨gv, cv, ls, rfl, hgv, hl, hcc, hat, hs, hg⟩; refine Hid.out ?_) | fail)
  have hgv1 : w.heap.size < gv := by have := hgv; simp at this; omega
  have hgv2 := hat.1
  have HA := Lib.hid hat
  have HS := Lib.hid hs
  have HB := Lib.hid (S1.below_of_start hg)
  have hz1 : w.heap.size < w1.heap.size := by omega
  clear hgv hat hs hg HS0
  refine Lib.hid ?_
  go_wp2_with (first | (go_at_call 41; refine (S1.among_any w.heap.size w.heap.size a n cap 400 w1.heap.size 7 7 [0, 1, 2, 5, 11, 20, (-1)] _ rfl (by omega) (by simp) (by simp) (S1.st_new HS.out _) (fun j hj => S1.ti_new w1 [0, 1, 2, 5, 11, 20, (-1)] 3 j hj) (by omega)).mono ?_; rintro e w2 ⟨⟨z, rfl⟩, hs, hg⟩; refine Hid.out ?_) | fail)
  have HA2 := Lib.hid ((HA.out.alloc _).call hg)
  have HB2 := Lib.hid (below_on HB.out hg (Nat.le_refl _))
  clear hs hg HA HB HS
  refine Lib.hid ?_
  go_wp2_with fail
  go_ret2
  exact ⟨⟨gv, cv, ls, z, rfl, hl, hcc, HA2.out⟩, HB2.out⟩
end Go.Proofs.Ytpldbakllegheab.S7
