/- The walk of the law FnExactIsRing: contracts. Conditions: each theorem's own premises. -/
import Derived.Test.YtgjogjmfpbinfaaNetKit
import Derived.Deep.DeepCutAuto
namespace Go.Proofs.Ytgjogjmfpbinfaa.S2
open Go.RowKit P2

set_option maxHeartbeats 16000000 in
set_option maxRecDepth 100000 in
theorem walkIsRing (n : Int) (A : Option Addr) (cap : Nat) (ps : List Pp) (w : World) (h : PAt w A ps) (hm : ps.length ≤ maxLen) (sv0 : Bool) (sv1 : Bool)
    (hs : ∀ (A : Option Addr) (cap : Nat) (w : World), PAt w A ps → ps.length ≤ 1048576 → ps.length = cap → Calls Try.prog 20 #[nv n A ps.length cap] w (fun e w' => e = .returned (.tuple #[.bool sv0, .bool sv1]) ∧ Below w.heap.size w w'))
    (hi : ∀ (A : Option Addr) (cap : Nat) (w : World), PAt w A ps → ps.length ≤ 1048576 → ps.length = cap → Calls Try.prog 22 #[nv n A ps.length cap] w (fun e w' => e = .returned (.tuple #[.bool sv0, .bool sv1]) ∧ Below w.heap.size w w')) :
    Calls Try.prog 3 #[nv n A ps.length cap] w fun e w' => e = .returned (.bool true) ∧ Below w.heap.size w w' := by
  have HA := Lib.hid h
  have HM := Lib.hid hm
  have HS := Lib.hid hs
  have HI := Lib.hid hi
  clear h hm hs hi
  go_enter Try.func3, Try.ntmps3
  go_wp2_with (go_at_call 19; refine (sznet_le n A ps.length cap _ HM.out).mono ?_; rintro e w1 ⟨⟨r, rfl, hr⟩, hb1⟩; refine Hid.out ?_)
  have hB1 : Below (w.heap.size + 1) (w.alloc (.cells #[.int .i64 n, .slice A ps.length cap] 24)) w1 := by simpa using hb1
  clear hb1
  obtain ⟨b0, b1⟩ := box2 hB1
  have hz1 : w.heap.size < w1.heap.size := box_lt hB1
  by_cases hr0 : r < 0
  · refine Lib.hid ?_
    go_wp2
    go_ret
    exact ⟨rfl, below_box hB1⟩
  have hlen : ps.length ≤ 1048576 := by rcases hr with h | h; exact absurd h hr0; exact h.2.2
  clear hr
  refine Lib.hid ?_
  go_wp2_with (first | (go_at_call 21; refine (tonet_any n A cap ps _ (HA.out.kept (below_box hB1) (Nat.le_refl _)) hlen).mono ?_; rintro e w2 ⟨⟨ga, rfl, hga, hrowa⟩, hb2⟩; refine Hid.out ?_) | fail)
  have hz2 := hb2.size
  have hB2 := on_call hB1 hb2
  clear b0 b1
  obtain ⟨b0, b1⟩ := box2 hB2
  clear hB1 hb2
  have hla := hrowa.lt
  have Ta_2 := Lib.hid hrowa.at_
  clear hrowa
  refine Lib.hid ?_
  go_wp2_with (first | (go_at_call 20; refine (HS.out _ _ _ Ta_2.out hlen rfl).mono ?_; rintro e w3 ⟨rfl, hb3⟩; refine Hid.out ?_) | fail)
  have hz3 := hb3.size
  have hB3 := on_call hB2 hb3
  have Ta_3 := Lib.hid (Ta_2.out.kept hb3 (Nat.le_refl _))
  clear b0 b1
  obtain ⟨b0, b1⟩ := box2 hB3
  clear hB2 Ta_2 hb3
  clear Ta_3
  refine Lib.hid ?_
  go_wp2_with (first | (go_at_call 21; refine (tonet_any n A cap ps _ (HA.out.kept (below_box hB3) (Nat.le_refl _)) hlen).mono ?_; rintro e w4 ⟨⟨gx, rfl, hgx, hrowx⟩, hb4⟩; refine Hid.out ?_) | fail)
  have hz4 := hb4.size
  have hB4 := on_call hB3 hb4
  clear b0 b1
  obtain ⟨b0, b1⟩ := box2 hB4
  clear hB3 hb4
  have hlx := hrowx.lt
  have Rx_4 := Lib.hid hrowx
  clear hrowx
  have hb4a := alloc_below w4 (.cells #[.int .i64 n, .slice (some ⟨gx, 0, none⟩) ps.length ps.length] 30)
  have hz4a : w4.heap.size < (w4.alloc (.cells #[.int .i64 n, .slice (some ⟨gx, 0, none⟩) ps.length ps.length] 30)).heap.size := by simp
  have hB4a := on_call hB4 hb4a
  have Rx_4a := Lib.hid (Rx_4.out.kept hb4a (by omega))
  have hqn : w.heap.size < w4.heap.size := by omega
  refine Lib.hid ?_
  go_wp2_with (first | (go_at_call 22; refine (HI.out _ _ _ Rx_4a.out.at_ hlen rfl).mono ?_; rintro e w5 ⟨rfl, hb5⟩; refine Hid.out ?_) | fail)
  replace hb5 : Below (w4.alloc (.cells #[.int .i64 n, .slice (some ⟨gx, 0, none⟩) ps.length ps.length] 30)).heap.size (w4.alloc (.cells #[.int .i64 n, .slice (some ⟨gx, 0, none⟩) ps.length ps.length] 30)) w5 := hb5
  have Bx0_5 := (hb5.cell (p := ⟨w4.heap.size, 0, none⟩) (by dsimp only; omega)).trans (boxA0 (w := w4))
  have Bx1_5 := (hb5.cell (p := ⟨w4.heap.size, 1, none⟩) (by dsimp only; omega)).trans (boxA1 (w := w4))
  have hz5 := hb5.size
  have hB5 := on_call hB4a hb5
  have Rx_5 := Lib.hid (Rx_4a.out.kept hb5 (by omega))
  clear b0 b1
  obtain ⟨b0, b1⟩ := box2 hB5
  clear hB4a Rx_4a hb5
  clear hB4 Rx_4 hqn hb4a
  refine Lib.hid ?_
  go_upto_region 10 with (fail)
  go_cut [39] (fun st wx => st = .bool false ∧ Hid (Below w5.heap.size w5 wx))
  case first =>
    have hA7 := Lib.hid (HA.out.kept (below_box hB5) (Nat.le_refl _))
    have hat7 := Lib.hid Rx_5.out.at_
    have hx4 : w4.heap.size < w5.heap.size := by omega
    go_region_with (first
      | (go_at_call 21; refine (tonet_any n A cap ps w5.drew hA7.out hlen).mono ?_; rintro e wqa ⟨⟨gqa, rfl, hgqa, hrowqa⟩, hbqa⟩; have HBqa := Lib.hid hbqa; have hatqa := Lib.hid hrowqa.at_; have hatqb := Lib.hid (PAt.kept (w := w5.drew) hat7.out hbqa (Nat.le_refl _)); have z0 := (hbqa.cell (p := ⟨w4.heap.size, 0, none⟩) hx4).trans Bx0_5; have z1 := (hbqa.cell (p := ⟨w4.heap.size, 1, none⟩) hx4).trans Bx1_5; clear hgqa hrowqa hbqa)
      | (go_at_call 23; refine (eqnet_same n _ _ _ _ ps wqa hatqb.out hatqa.out hlen).mono ?_; rintro e wqb ⟨rfl, hbqb⟩))
    all_goals
      go_wp2_with fail
      go_meet
      exact ⟨rfl, Lib.hid ((Below.refl w5.heap.size w5).drew.trans (HBqa.out.trans (hbqb.mono HBqa.out.size)))⟩
  case rest =>
    obtain ⟨rfl, hbc⟩ := hcut
    obtain ⟨w6, hwb⟩ : ∃ w6, w6 = wc := ⟨_, rfl⟩
    subst hwb
    have hb6 := hbc.out
    clear hbc
    have hz6 := hb6.size
    have hB6 := on_call hB5 hb6
    have Rx_6 := Lib.hid (Rx_5.out.kept hb6 (by omega))
    have Bx0_6 := (hb6.cell (p := ⟨w4.heap.size, 0, none⟩) (by dsimp only; omega)).trans Bx0_5
    have Bx1_6 := (hb6.cell (p := ⟨w4.heap.size, 1, none⟩) (by dsimp only; omega)).trans Bx1_5
    clear b0 b1
    obtain ⟨b0, b1⟩ := box2 hB6
    clear hB5 Rx_5 Bx0_5 Bx1_5 hb6
    refine Lib.hid ?_
    go_wp2_with fail
    go_ret
    exact ⟨rfl, (below_box hB6)⟩
end Go.Proofs.Ytgjogjmfpbinfaa.S2
