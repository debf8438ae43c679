/- The walk of the law FnExactSeriesHead: contracts. Conditions: each theorem's own premises. -/
import Derived.Test.YtmehhojnefoedaaCvSs
import Derived.Deep.DeepCutAuto
namespace Go.Proofs.Ytmehhojnefoedaa.S7
open Go.RowKit P7

set_option maxHeartbeats 16000000 in
set_option maxRecDepth 100000 in
theorem walkSeriesHead (A0 : Option Addr) (c0 : Nat) (l0 : List (List Cp)) (x1 : Int) (w : World) (h0 : SAt w A0 l0) (hm0 : l0.length ≤ maxLen) (hr0 : ∀ i, i < l0.length → (rw_ l0 i).length ≤ maxLen) (v0 : Int) (v1 : Int) (v2 : Bool)
    (hs : ∀ (A0 : Option Addr) (c0 : Nat) (w : World), SCp w A0 l0 → l0.length ≤ 1048576 → Calls Try.prog 28 #[.slice A0 l0.length c0, .int .i64 x1] w fun e w' => e = .returned (.tuple #[.int .i64 v0, .int .i64 v1, .bool v2]) ∧ Below w.heap.size w w')
    (hi : ∀ (A0 : Option Addr) (c0 : Nat) (w : World), SCp w A0 l0 → l0.length ≤ 1048576 → Calls Try.prog 29 #[.slice A0 l0.length c0, .int .i64 x1] w fun e w' => e = .returned (.tuple #[.int .i64 v0, .int .i64 v1, .bool v2]) ∧ Below w.heap.size w w') :
    Calls Try.prog 7 #[.slice A0 l0.length c0, .int .i64 x1] w fun e w' => e = .returned (.bool true) ∧ Below w.heap.size w w' := by
  have HS := Lib.hid hs
  have HI := Lib.hid hi
  have HA0 := Lib.hid h0
  have HM0 := Lib.hid hm0
  have HR0 := Lib.hid hr0
  clear hs hi h0 hm0 hr0
  have hB0 := Below.refl w.heap.size w
  go_enter Try.func7, Try.ntmps7
  refine Hid.out ?_
  refine Lib.hid ?_
  go_wp2_with (first | (go_at_call 23; refine (szss_any A0 c0 l0 1048576 _ (HA0.out.kept hB0 (Nat.le_refl _)) HM0.out HR0.out (by omega) (by omega)).mono ?_; rintro e w1 ⟨⟨q0, rfl, hq0⟩, hb1⟩; refine Hid.out ?_) | fail)
  have hz1 := hb1.size
  have hB1 := on_base hB0 (Nat.le_refl _) hb1
  clear hb1
  by_cases hq00 : q0 < 0
  · refine Lib.hid ?_
    go_wp2
    go_ret
    exact ⟨rfl, hB1⟩
  have hlen0 : l0.length ≤ 1048576 := by rcases hq0 with h | h; exact absurd h hq00; exact h.2.2.1
  have hq09 : q0 ≤ 1048576 := by rcases hq0 with h | h; exact absurd h hq00; exact Int.le_trans h.2.1 (by omega)
  have HRR0 := Lib.hid (show ∀ i, i < l0.length → (rw_ l0 i).length ≤ 1048576 by rcases hq0 with h | h; exact absurd h hq00; exact h.2.2.2)
  clear hq0
  refine Lib.hid ?_
  go_wp2_with (first | (go_at_call 25; refine (toss_any A0 c0 l0 _ (HA0.out.kept hB1 (Nat.le_refl _)) hlen0 HRR0.out).mono ?_; rintro e w2 ⟨⟨ga0, rfl, hga0, hOa0⟩, hb2⟩; refine Hid.out ?_) | fail)
  have hz2 := hb2.size
  have hB2 := on_base hB1 (Nat.le_refl _) hb2
  clear hB1 hb2
  have Ta0_2 := Lib.hid hOa0
  clear hOa0 hga0
  refine Lib.hid ?_
  go_wp2_with (first | (go_at_call 28; refine (HS.out _ _ _ Ta0_2.out hlen0).mono ?_; rintro e w3 ⟨rfl, hb3⟩; refine Hid.out ?_) | fail)
  have hz3 := hb3.size
  have hB3 := on_base hB2 (Nat.le_refl _) hb3
  have Ta0_3 := Lib.hid (Ta0_2.out.kept hb3 (Nat.le_refl _))
  clear hB2 Ta0_2 hb3
  clear Ta0_3
  refine Lib.hid ?_
  go_wp2_with (first | (go_at_call 25; refine (toss_any A0 c0 l0 _ (HA0.out.kept hB3 (Nat.le_refl _)) hlen0 HRR0.out).mono ?_; rintro e w4 ⟨⟨gx0, rfl, hgx0, hOx0⟩, hb4⟩; refine Hid.out ?_) | fail)
  have hz4 := hb4.size
  have hB4 := on_base hB3 (Nat.le_refl _) hb4
  clear hB3 hb4
  have Tx0_4 := Lib.hid hOx0
  clear hOx0 hgx0
  refine Lib.hid ?_
  go_wp2_with (first | (go_at_call 29; refine (HI.out _ _ _ Tx0_4.out hlen0).mono ?_; rintro e w5 ⟨rfl, hb5⟩; refine Hid.out ?_) | fail)
  have hz5 := hb5.size
  have hB5 := on_base hB4 (Nat.le_refl _) hb5
  have Tx0_5 := Lib.hid (Tx0_4.out.kept hb5 (Nat.le_refl _))
  clear hB4 Tx0_4 hb5
  refine Lib.hid ?_
  go_wp2_with (first | (go_at_call 25; refine (toss_any A0 c0 l0 _ (HA0.out.kept hB5 (Nat.le_refl _)) hlen0 HRR0.out).mono ?_; rintro e w6 ⟨⟨gy0, rfl, hgy0, hOy0⟩, hb6⟩; refine Hid.out ?_) | fail)
  have hz6 := hb6.size
  have hB6 := on_base hB5 (Nat.le_refl _) hb6
  have Tx0_6 := Lib.hid (Tx0_5.out.kept hb6 (Nat.le_refl _))
  clear hB5 Tx0_5 hb6
  have Ty0_6 := Lib.hid hOy0
  clear hOy0 hgy0
  refine Lib.hid ?_
  go_wp2_with (first | (go_at_call 27; refine (eqss_same _ _ _ _ l0 _ Tx0_6.out.sat Ty0_6.out.sat hlen0 HRR0.out).mono ?_; rintro e w7 ⟨rfl, hb7⟩; refine Hid.out ?_) | fail)
  have hz7 := hb7.size
  have hB7 := on_base hB6 (Nat.le_refl _) hb7
  have Tx0_7 := Lib.hid (Tx0_6.out.kept hb7 (Nat.le_refl _))
  have Ty0_7 := Lib.hid (Ty0_6.out.kept hb7 (Nat.le_refl _))
  clear hB6 Tx0_6 Ty0_6 hb7
  clear Ty0_7
  refine Lib.hid ?_
  go_wp2_with fail
  go_ret
  exact ⟨rfl, hB7⟩
end Go.Proofs.Ytmehhojnefoedaa.S7
