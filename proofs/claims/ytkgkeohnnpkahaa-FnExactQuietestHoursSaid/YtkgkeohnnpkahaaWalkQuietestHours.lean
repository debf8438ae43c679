/- The walk of the law FnExactQuietestHours: contracts. Conditions: each theorem's own premises. -/
import Derived.Test.YtkgkeohnnpkahaaPfLaw
import Derived.Deep.DeepCutAuto
namespace Go.Proofs.Ytkgkeohnnpkahaa.S6
open Go.RowKit P6

set_option maxHeartbeats 16000000 in
set_option maxRecDepth 100000 in
theorem walkQuietestHours (A0 : Option Addr) (c0 : Nat) (l0 : List Int) (x1 : Int) (w : World) (h0 : IAt w A0 l0) (hm0 : l0.length ≤ maxLen) (v0 : Int) (v1 : Int) (v2 : Bool)
    (hs : ∀ (A0 : Option Addr) (c0 : Nat) (w : World), IAt w A0 l0 → l0.length ≤ 1048576 → Calls Try.prog 27 #[dv A0 l0.length c0, .int .i64 x1] w fun e w' => e = .returned (.tuple #[.int .i64 v0, .int .i64 v1, .bool v2]) ∧ Below w.heap.size w w')
    (hi : ∀ (A0 : Option Addr) (c0 : Nat) (w : World), IAt w A0 l0 → l0.length ≤ 1048576 → Calls Try.prog 26 #[dv A0 l0.length c0, .int .i64 x1] w fun e w' => e = .returned (.tuple #[.int .i64 v0, .int .i64 v1, .bool v2]) ∧ Below w.heap.size w w') :
    Calls Try.prog 9 #[dv A0 l0.length c0, .int .i64 x1] w fun e w' => e = .returned (.bool true) ∧ Below w.heap.size w w' := by
  have HS := Lib.hid hs
  have HI := Lib.hid hi
  have HA0 := Lib.hid h0
  have HM0 := Lib.hid hm0
  clear hs hi h0 hm0
  go_enter Try.func9, Try.ntmps9
  go_wp2_with (go_at_call 44; refine (szprof_any A0 l0.length c0 1048576 _ HM0.out (by omega) (by omega)).mono ?_; rintro e w1 ⟨⟨r0, rfl, hr0⟩, hb1⟩; refine Hid.out ?_)
  have hB1 : Below (w.heap.size + 1) (w.alloc (.cells #[.slice A0 l0.length c0] 49)) w1 := by simpa using hb1
  clear hb1
  have b0 := box1 hB1
  by_cases hr00 : r0 < 0
  · refine Lib.hid ?_
    go_wp2
    go_ret
    exact ⟨rfl, (below_box hB1)⟩
  have hlen0 : l0.length ≤ 1048576 := by rcases hr0 with h | h; exact absurd h hr00; exact h.2.2
  clear hr0
  have hz1 : w.heap.size < w1.heap.size := box_lt hB1
  refine Lib.hid ?_
  go_wp2_with (first | (go_at_call 46; refine (toprof_any A0 c0 l0 _ (HA0.out.kept (below_box hB1) (Nat.le_refl _)) hlen0).mono ?_; rintro e w2 ⟨⟨ga0, rfl, hga0, hOa0⟩, hb2⟩; refine Hid.out ?_) | fail)
  have hz2 := hb2.size
  have hB2 := on_base hB1 (by simp) hb2
  clear b0
  have b0 := box1 hB2
  clear hB1 hb2
  have Oa0_2 := Lib.hid hOa0
  have hla0 := iown_lt' hOa0
  clear hOa0
  refine Lib.hid ?_
  go_wp2_with (first | (go_at_call 27; refine (HS.out _ _ _ Oa0_2.out.iat hlen0).mono ?_; rintro e w3 ⟨rfl, hb3⟩; refine Hid.out ?_) | fail)
  have hz3 := hb3.size
  have hB3 := on_base hB2 (by simp) hb3
  have Oa0_3 := Lib.hid (Oa0_2.out.on hb3)
  clear b0
  have b0 := box1 hB3
  clear hB2 Oa0_2 hb3
  clear Oa0_3
  refine Lib.hid ?_
  go_wp2_with (first | (go_at_call 46; refine (toprof_any A0 c0 l0 _ (HA0.out.kept (below_box hB3) (Nat.le_refl _)) hlen0).mono ?_; rintro e w4 ⟨⟨gx0, rfl, hgx0, hOx0⟩, hb4⟩; refine Hid.out ?_) | fail)
  have hz4 := hb4.size
  have hB4 := on_base hB3 (by simp) hb4
  clear b0
  have b0 := box1 hB4
  clear hB3 hb4
  have Ox0_4 := Lib.hid hOx0
  have hlx0 := iown_lt' hOx0
  clear hOx0
  have hb4a := alloc_below w4 (.cells #[.slice (some ⟨gx0, 0, none⟩) l0.length l0.length] 26)
  have hz4a := alloc_size w4 (.cells #[.slice (some ⟨gx0, 0, none⟩) l0.length l0.length] 26)
  have hB4a := on_base hB4 (by simp) hb4a
  have Ox0_4a := Lib.hid (Ox0_4.out.on hb4a)
  refine Lib.hid ?_
  go_wp2_with (first | (go_at_call 26; refine (HI.out _ _ _ Ox0_4a.out.iat hlen0).mono ?_; rintro e w5 ⟨rfl, hb5⟩; refine Hid.out ?_) | fail)
  replace hb5 : Below (w4.alloc (.cells #[.slice (some ⟨gx0, 0, none⟩) l0.length l0.length] 26)).heap.size (w4.alloc (.cells #[.slice (some ⟨gx0, 0, none⟩) l0.length l0.length] 26)) w5 := hb5
  have Cx0_5 := (hb5.cell (p := ⟨w4.heap.size, 0, none⟩) (by dsimp only; omega)).trans (box_at (w := w4))
  have hz5 := hb5.size
  have hB5 := on_base hB4a (by simp) hb5
  have Ox0_5 := Lib.hid (Ox0_4a.out.on hb5)
  clear b0
  have b0 := box1 hB5
  clear hB4a Ox0_4a hb5
  clear hB4 Ox0_4 hb4a
  refine Lib.hid ?_
  go_upto_region 10 with (fail)
  go_cut [52] (fun st wx => st = .bool false ∧ Hid (Below w5.heap.size w5 wx))
  case first =>
    have hA7 := Lib.hid (HA0.out.kept (below_box hB5) (Nat.le_refl _))
    have hat7 := Lib.hid Ox0_5.out.iat
    have hx4 : w4.heap.size < w5.heap.size := by omega
    go_region_with (first
      | (go_at_call 46; refine (toprof_any A0 c0 l0 w5.drew hA7.out hlen0).mono ?_; rintro e wqa ⟨⟨gqa, rfl, hgqa, hrowqa⟩, hbqa⟩; have HBqa := Lib.hid hbqa; have hatqa := Lib.hid hrowqa.iat; have hatqb := Lib.hid (IAt.kept (w := w5.drew) hat7.out hbqa (Nat.le_refl _)); have z0 := (hbqa.cell (p := ⟨w4.heap.size, 0, none⟩) hx4).trans Cx0_5; clear hgqa hrowqa hbqa)
      | (go_at_call 47; refine (eqprof_same _ _ _ _ l0 wqa hatqb.out hatqa.out hlen0).mono ?_; rintro e wqb ⟨rfl, hbqb⟩))
    all_goals
      go_wp2_with fail
      go_meet
      exact ⟨rfl, Lib.hid ((Below.refl w5.heap.size w5).drew.trans (HBqa.out.trans (hbqb.mono HBqa.out.size)))⟩
  case rest =>
    obtain ⟨rfl, hbc⟩ := hcut
    obtain ⟨w6, hwb⟩ : ∃ w6, w6 = wc := ⟨_, rfl⟩
    subst hwb
    have hb6 := hbc.out
    clear hbc
    have hz6 := hb6.size
    have hB6 := on_base hB5 (by simp) hb6
    have Ox0_6 := Lib.hid (Ox0_5.out.on hb6)
    have Cx0_6 := (hb6.cell (p := ⟨w4.heap.size, 0, none⟩) (by dsimp only; omega)).trans Cx0_5
    clear b0
    have b0 := box1 hB6
    clear hB5 Ox0_5 Cx0_5 hb6
    refine Lib.hid ?_
    go_wp2_with fail
    go_ret
    exact ⟨rfl, (below_box hB6)⟩
end Go.Proofs.Ytkgkeohnnpkahaa.S6
