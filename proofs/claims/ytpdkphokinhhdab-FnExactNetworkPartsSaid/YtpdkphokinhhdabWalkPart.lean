/- The walk of the law FnExactNetworkParts: contracts. Conditions: each theorem's own premises. -/
import Derived.Test.YtpdkphokinhhdabSsThree
namespace Go.Proofs.Ytpdkphokinhhdab.S2
open Go.RowKit P2

set_option maxHeartbeats 8000000 in
set_option maxRecDepth 100000 in
theorem walkNetworkParts (n : Int) (A : Option Addr) (cap : Nat) (ps : List Pp) (w : World) (h : PAt w A ps) (hm : ps.length ≤ maxLen) (L : List (List Int)) (ok : Bool) (hL : L.length ≤ 1000) (hR : ∀ i, i < L.length → (rw_ L i).length ≤ 100)
    (hs : ∀ (A : Option Addr) (cap : Nat) (w : World), PAt w A ps → Calls Try.prog 20 #[nv n A ps.length cap] w (GivesQ w L ok))
    (hi : ∀ (A : Option Addr) (cap : Nat) (w : World), PAt w A ps → Calls Try.prog 19 #[nv n A ps.length cap] w (GivesP w L ok)) :
    Calls Try.prog 5 #[nv n A ps.length cap] w fun e w' => e = .returned (.bool true) ∧ Below w.heap.size w w' := by
  have HA := Lib.hid h
  have HS := Lib.hid hs
  have HI := Lib.hid hi
  have HM := Lib.hid hm
  have HR := Lib.hid hR
  have HR2 := Lib.hid (fun i hi => Nat.le_trans (hR i hi) (by omega) : ∀ i, i < L.length → (rw_ L i).length ≤ 1000)
  clear h hs hi hm hR
  go_enter Try.func5, Try.ntmps5
  go_wp2_with (go_at_call 27; refine (sznet_any n A ps.length cap _ HM.out).mono ?_; rintro e w1 ⟨⟨r, rfl, hr⟩, hb1⟩; refine Hid.out ?_)
  have hB1 : Below (w.heap.size + 1) (w.alloc (.cells #[.int .i64 n, .slice A ps.length cap] 49)) w1 := by simpa using hb1
  clear hb1
  obtain ⟨b0, b1⟩ := box2 hB1
  by_cases hr0 : r < 0
  · refine Lib.hid ?_
    go_wp2
    go_ret
    exact ⟨rfl, below_box hB1⟩
  · have hlen : ps.length ≤ 1048576 := by rcases hr with h | h; exact absurd h hr0; exact h.2
    refine Lib.hid ?_
    clear hr
    -- the model's answer
    go_wp2_with (first | (go_at_call 28; refine (tonet_any n A cap ps _ (HA.out.kept (below_box hB1) (Nat.le_refl _)) hlen).mono ?_; rintro e w2 ⟨⟨g, rfl, hg, hrow2⟩, hb2⟩; refine Hid.out ?_) | fail)
    have hB2 := on_call hB1 hb2
    have hat2 := Lib.hid hrow2.at_
    clear b0 b1 hB1 hb2 hrow2 hg
    obtain ⟨b0, b1⟩ := box2 hB2
    refine Lib.hid ?_
    go_wp2_with (first | (go_at_call 20; refine (HS.out _ _ _ hat2.out).mono ?_; rintro e w3 ⟨gS, capS, rfl, hgS, hoS, hb3, hgS3⟩; refine Hid.out ?_) | fail)
    have hB3 := on_call hB2 hb3
    obtain ⟨T, hTT⟩ : ∃ T, T = w3.heap.size := ⟨_, rfl⟩
    have hS3 := Lib.hid (show SB T w3 (some ⟨gS, 0, none⟩) L by rw [hTT]; exact hoS.sb)
    have hwl3 := box_lt hB3
    clear b0 b1 hB2 hb3 hat2 hoS hgS
    obtain ⟨b0, b1⟩ := box2 hB3
    refine Lib.hid ?_
    -- the program's answer
    go_wp2_with (first | (go_at_call 28; refine (tonet_any n A cap ps _ (HA.out.kept (below_box hB3) (Nat.le_refl _)) hlen).mono ?_; rintro e w4 ⟨⟨gX, rfl, hgX, hrow4⟩, hb4⟩; refine Hid.out ?_) | fail)
    have hB4 := on_call hB3 hb4
    have hS4 := Lib.hid (hS3.out.low hb4 (by omega))
    have hz4 := hb4.size
    clear b0 b1 hB3 hb4 hS3
    obtain ⟨b0, b1⟩ := box2 hB4
    have hgX4 := hrow4.lt
    have hwl4 := box_lt hB4
    have hTX : T ≤ gX := by omega
    have hrow5 := Lib.hid (hrow4.alloc (.cells #[.int .i64 n, .slice (some ⟨gX, 0, none⟩) ps.length ps.length] 26))
    have hB5 := hB4.alloc hwl4 (.cells #[.int .i64 n, .slice (some ⟨gX, 0, none⟩) ps.length ps.length] 26)
    have hS5 := Lib.hid (hS4.out.low (((Below.refl w4.heap.size w4)).alloc (Nat.le_refl _) (.cells #[.int .i64 n, .slice (some ⟨gX, 0, none⟩) ps.length ps.length] 26)) (by omega))
    refine Lib.hid ?_
    go_wp2_with (first | (go_at_call 19; refine (HI.out _ _ _ (PRow.at_ hrow5.out)).mono ?_; rintro e w6 ⟨gI, capI, qI, rfl, hgI, hoI, hb6⟩; refine Hid.out ?_) | fail)
    have hz6 := hb6.size
    obtain ⟨y0, y1⟩ := box2 (w := w4) (by simpa using hb6)
    have hB6 := on_call hB5 hb6
    have hrow6 := Lib.hid (PRow.kept hrow5.out hb6 (by simp; omega))
    have hS6 := Lib.hid (hS5.out.low hb6 (by simp; omega))
    have hO6 := Lib.hid hoI
    simp at hz6 hgI
    clear b0 b1 hB4 hB5 hb6 hrow4 hrow5 hS4 hS5 hoI
    obtain ⟨b0, b1⟩ := box2 hB6
    refine Lib.hid ?_
    go_wp2_with (first | (go_at_call 29; refine (eqss_same _ _ _ _ L w6 hO6.out.sat (hS6.out.sat (by omega)) hL HR2.out).mono ?_; rintro e w7 ⟨rfl, hb7⟩; refine Hid.out ?_) | fail)
    have hz7 := hb7.size
    have hB7 := on_call hB6 hb7
    have y0' := (hb7.cell (p := ⟨w4.heap.size, 0, none⟩) (by show w4.heap.size < w6.heap.size; omega)).trans y0
    have y1' := (hb7.cell (p := ⟨w4.heap.size, 1, none⟩) (by show w4.heap.size < w6.heap.size; omega)).trans y1
    have hrow7 := Lib.hid (PRow.kept hrow6.out hb7 (by omega))
    have hS7 := Lib.hid (hS6.out.low hb7 (by omega))
    have hO7 := Lib.hid (hO6.out.on hb7)
    clear b0 b1 y0 y1 hB6 hb7 hrow6 hS6 hO6
    obtain ⟨b0, b1⟩ := box2 hB7
    have hwl7 := box_lt hB7
    have hx4 : w4.heap.size < w7.heap.size := by omega
    refine Lib.hid ?_
    -- the argument as it was
    go_upto_region 10 with (fail)
    go_cut [45] (fun st wx => st = .bool false ∧ Hid (Below w7.heap.size w7 wx))
    case first =>
      have hA7 := Lib.hid (HA.out.kept (below_box hB7) (Nat.le_refl _))
      have hat7 := Lib.hid hrow7.out.at_
      have hgX7 : gX < w7.heap.size := by omega
      go_region_with (first
        | (go_at_call 28; refine (tonet_any n A cap ps w7.drew hA7.out hlen).mono ?_; rintro e w8 ⟨⟨g8, rfl, hg8, hrow8⟩, hb8⟩; have HB8 := Lib.hid hb8; have hat8 := Lib.hid hrow8.at_; have hat8' := Lib.hid (PAt.kept (w := w7.drew) hat7.out hb8 (Nat.le_refl _)); have z0 := (hb8.cell (p := ⟨w4.heap.size, 0, none⟩) hx4).trans y0'; have z1 := (hb8.cell (p := ⟨w4.heap.size, 1, none⟩) hx4).trans y1'; clear hg8 hrow8 hb8)
        | (go_at_call 30; refine (eqnet_same n _ _ _ _ ps w8 hat8'.out hat8.out hlen).mono ?_; rintro e w9 ⟨rfl, hb9⟩))
      all_goals
        go_wp2_with fail
        go_meet
        exact ⟨rfl, Lib.hid ((Below.refl w7.heap.size w7).drew.trans (HB8.out.trans (hb9.mono HB8.out.size)))⟩
    case rest =>
      obtain ⟨rfl, hbc⟩ := hcut
      have hB9 := on_call hB7 hbc.out
      have hz9 := hbc.out.size
      have y0 := (hbc.out.cell (p := ⟨w4.heap.size, 0, none⟩) hx4).trans y0'
      have y1 := (hbc.out.cell (p := ⟨w4.heap.size, 1, none⟩) hx4).trans y1'
      have hrow9 := Lib.hid (PRow.kept hrow7.out hbc.out (by omega))
      have hS9 := Lib.hid (hS7.out.low hbc.out (by omega))
      have hO9 := Lib.hid (hO7.out.on hbc.out)
      clear b0 b1 y0' y1' hB7 hbc hrow7 hS7 hO7
      obtain ⟨b0, b1⟩ := box2 hB9
      -- the argument's pipes are marked
      go_wp2_with (first | (go_at_call 31; refine (marknet_any n gX 1 ps wc hrow9.out hlen (by omega)).mono ?_; rintro e w10 ⟨rfl, wm, hbm, hgm⟩; refine Hid.out ?_) | fail)
      have hB10 := (on_call hB9 hbm).grown hgm (by have := box_lt hB9; have := hbm.size; omega) (fun k hk => by simp at hk; omega)
      have hz10 := Nat.le_trans hbm.size hgm.size
      have hS10 := Lib.hid ((hS9.out.low hbm (by omega)).far hgm (by omega))
      have hO10 := Lib.hid ((hO9.out.on hbm).far hgm (by simp; omega))
      clear b0 b1 y0 y1 hB9 hbm hgm hrow9 hS9 hO9
      obtain ⟨b0, b1⟩ := box2 hB10
      refine Lib.hid ?_
      go_wp2_with (first | (go_at_call 29; refine (eqss_same _ _ _ _ L w10 hO10.out.sat (hS10.out.sat (by omega)) hL HR2.out).mono ?_; rintro e w11 ⟨rfl, hb11⟩; refine Hid.out ?_) | fail)
      have hz11 := hb11.size
      have hB11 := on_call hB10 hb11
      have hS11 := Lib.hid (hS10.out.low hb11 (by omega))
      have hO11 := Lib.hid (hO10.out.on hb11)
      clear b0 b1 hB10 hb11 hS10 hO10
      obtain ⟨b0, b1⟩ := box2 hB11
      refine Lib.hid ?_
      -- the answer is marked
      go_wp2_with (first | (go_at_call 32; refine (markss_any _ gI capI 1 qI L w11 hO11.out hL HR.out (by omega)).mono ?_; rintro e w12 ⟨rfl, ho12, hb12⟩; refine Hid.out ?_) | fail)
      have hz12 := hb12.size
      have hB12 := hB11.trans (hb12.mono (by simp; omega))
      have hS12 := Lib.hid (hS11.out.low hb12 (by simp; omega))
      have hI12 := Lib.hid ho12
      clear b0 b1 hB11 hb12 hS11 hO11 ho12
      obtain ⟨b0, b1⟩ := box2 hB12
      refine Lib.hid ?_
      go_wp2_with (first | (go_at_call 33; refine (heldss_any _ _ 1 L w12 hI12.out hL HR.out (by omega)).mono ?_; rintro e w13 ⟨rfl, hb13⟩; refine Hid.out ?_) | fail)
      have hz13 := hb13.size
      have hB13 := on_call hB12 hb13
      have hS13 := Lib.hid (hS12.out.low hb13 (by omega))
      have hI13 := Lib.hid (hI12.out.kept hb13 (Nat.le_refl _))
      clear b0 b1 hB12 hb13 hS12 hI12
      obtain ⟨b0, b1⟩ := box2 hB13
      refine Lib.hid ?_
      -- once more
      go_wp2_with (first | (go_at_call 28; refine (tonet_any n A cap ps _ (HA.out.kept (below_box hB13) (Nat.le_refl _)) hlen).mono ?_; rintro e w14 ⟨⟨g14, rfl, hg14, hrow14⟩, hb14⟩; refine Hid.out ?_) | fail)
      have hz14 := hb14.size
      have hB14 := on_call hB13 hb14
      have hat14 := Lib.hid hrow14.at_
      have hS14 := Lib.hid (hS13.out.low hb14 (by omega))
      have hI14 := Lib.hid (hI13.out.kept hb14 (Nat.le_refl _))
      clear b0 b1 hB13 hb14 hrow14 hg14 hS13 hI13
      refine Lib.hid ?_
      go_wp2_with (first | (go_at_call 19; refine (HI.out _ _ _ hat14.out).mono ?_; rintro e w15 ⟨gJ, capJ, qJ, rfl, hgJ, hoJ, hb15⟩; refine Hid.out ?_) | fail)
      have hz15 := hb15.size
      have hB15 := on_call hB14 hb15
      have hS15 := Lib.hid (hS14.out.low hb15 (by omega))
      have hI15 := Lib.hid (hI14.out.kept hb15 (Nat.le_refl _))
      have hJ15 := Lib.hid hoJ.sat
      clear hB14 hb15 hat14 hoJ hS14 hI14
      refine Lib.hid ?_
      go_wp2_with (first | (go_at_call 29; refine (eqss_same _ _ _ _ L w15 hJ15.out (hS15.out.sat (by omega)) hL HR2.out).mono ?_; rintro e w16 ⟨rfl, hb16⟩; refine Hid.out ?_) | fail)
      have hz16 := hb16.size
      have hB16 := on_call hB15 hb16
      have hI16 := Lib.hid (hI15.out.kept hb16 (Nat.le_refl _))
      clear hB15 hb16 hS15 hI15 hJ15
      refine Lib.hid ?_
      go_wp2_with (first | (go_at_call 33; refine (heldss_any _ _ 1 L w16 hI16.out hL HR.out (by omega)).mono ?_; rintro e w17 ⟨rfl, hb17⟩) | fail)
      go_ret
      exact ⟨rfl, below_box (on_call hB16 hb17)⟩
theorem walkExactNetworkParts (n : Int) (A : Option Addr) (cap : Nat) (ps : List Pp) (w : World) (h : PAt w A ps) (hm : ps.length ≤ maxLen) :
    Calls Try.prog 5 #[nv n A ps.length cap] w fun e w' => e = .returned (.bool true) ∧ Below w.heap.size w w' := by
  obtain ⟨L, ok, hL, hR, hs, hi⟩ := parts_both n ps hm
  exact walkNetworkParts n A cap ps w h hm L ok hL hR hs hi
end Go.Proofs.Ytpdkphokinhhdab.S2
