/- The walk of the law FnExactSuitingLevels: contracts. Conditions: each theorem's own premises. -/
import Derived.Test.YtjfpimldiokpbaaZnLaw
import Derived.Deep.DeepCutAuto
namespace Go.Proofs.Ytjfpimldiokpbaa.S12
open Go.RowKit P12

set_option maxHeartbeats 16000000 in
set_option maxRecDepth 100000 in
theorem walkSuitingLevels (a b : Int) (AC0 : Option Addr) (cc0 : Nat) (cu0 : List Int) (w : World) (hc0 : IAt w AC0 cu0) (hmc0 : cu0.length ≤ maxLen) (sv0 : Int) (sv1 : Int) (sv2 : Bool)
    (hs : ∀ (AC0 : Option Addr) (cc0 : Nat) (w : World), IAt w AC0 cu0 → cu0.length ≤ 1048576 → Calls Try.prog 23 #[.slice AC0 cu0.length cc0, rv a b] w (fun e w' => e = .returned (.tuple #[.int .i64 sv0, .int .i64 sv1, .bool sv2]) ∧ Below w.heap.size w w'))
    (hi : ∀ (AC0 : Option Addr) (cc0 : Nat) (w : World), IAt w AC0 cu0 → cu0.length ≤ 1048576 → Calls Try.prog 24 #[.slice AC0 cu0.length cc0, rv a b] w (fun e w' => e = .returned (.tuple #[.int .i64 sv0, .int .i64 sv1, .bool sv2]) ∧ Below w.heap.size w w')) :
    Calls Try.prog 5 #[.slice AC0 cu0.length cc0, rv a b] w fun e w' => e = .returned (.bool true) ∧ Below w.heap.size w w' := by
  have HS := Lib.hid hs
  have HI := Lib.hid hi
  have HC0 := Lib.hid hc0
  have HMC0 := Lib.hid hmc0
  clear hs hi hc0 hmc0
  by_cases hci0 : 1048576 < cu0.length
  · have hlm0 : cu0.length ≤ 9223372036854775807 := by have := HMC0.out; unfold maxLen at this; omega
    go_enter Try.func5, Try.ntmps5
    go_wp2
    go_ret
    exact ⟨rfl, alloc_below w _⟩
  have hcl0 : cu0.length ≤ 1048576 := by omega
  clear hci0
  go_enter Try.func5, Try.ntmps5
  refine Hid.out ?_
  have hB1 := alloc_below w (rb 23 a b)
  have hz1 := hB1.size
  have hw0 := new_lt w (rb 23 a b)
  have Qa_1 := Lib.hid (BT.new w 23 a b)
  obtain ⟨_, ba0, ba1⟩ := Qa_1.out
  refine Lib.hid ?_
  go_upto_region 3 with (fail)
  go_cut [5, 6, 7] (fun s0 s1 s2 wx => s0 = .int .i64 sv0 ∧ s1 = .int .i64 sv1 ∧ s2 = .bool sv2 ∧ Hid (Below (w.alloc (rb 23 a b)).heap.size (w.alloc (rb 23 a b)) wx))
  case first =>
    have hc7 := Lib.hid (HC0.out.kept hB1 (Nat.le_refl _))
    have hG7 := @cell_g
    go_region_with (first
      | (go_at_call 18; refine (toints_any AC0 cc0 cu0 (w.alloc (rb 23 a b)).drew hc7.out hcl0).mono ?_; rintro e wqa ⟨⟨gq, rfl, hgq, hOq⟩, hbqa⟩; have HBqa := Lib.hid hbqa; have HOq := Lib.hid hOq; have z0 := (hbqa.cell (p := ⟨w.heap.size, 0, none⟩) (show w.heap.size < (w.alloc (rb 23 a b)).heap.size by omega)).trans ba0; have z1 := (hbqa.cell (p := ⟨w.heap.size, 1, none⟩) (show w.heap.size < (w.alloc (rb 23 a b)).heap.size by omega)).trans ba1; have hzq : w.heap.size < wqa.heap.size := Nat.lt_of_lt_of_le (show w.heap.size < (w.alloc (rb 23 a b)).heap.size by omega) hbqa.size; clear hOq hbqa hgq)
      | (go_at_call 15; refine (torl_any a b _).mono ?_; rintro e wqb ⟨rfl, hbqb⟩; have HBqb := Lib.hid (HBqa.out.trans (hbqb.mono HBqa.out.size)); have HIq := Lib.hid (HOq.out.on hbqb).iat; clear hbqb)
      | (go_at_call 23; refine (HS.out _ _ _ HIq.out hcl0).mono ?_; rintro e wqc ⟨rfl, hbqc⟩; have HBqc := Lib.hid (HBqb.out.trans (hbqc.mono HBqb.out.size)); have hsq : (w.alloc (rb 23 a b)).heap.size ≤ wqb.heap.size := HBqb.out.size; clear hbqc))
    all_goals
      go_wp2_with fail
      go_meet
      exact ⟨rfl, rfl, rfl, Lib.hid ((Below.refl (w.alloc (rb 23 a b)).heap.size (w.alloc (rb 23 a b))).drew.trans HBqc.out)⟩
  case rest =>
    obtain ⟨rfl, rfl, rfl, hbc⟩ := hcut
    obtain ⟨w2, hwb⟩ : ∃ w2, w2 = wc := ⟨_, rfl⟩
    subst hwb
    have hb2 := hbc.out
    clear hbc
    clear ba0 ba1
    have hz2 := hb2.size
    have hB2 := hB1.trans (hb2.mono hB1.size)
    have Qa_2 := Lib.hid (Qa_1.out.kept hb2)
    clear hB1 Qa_1 hb2
    refine Hid.out ?_
    obtain ⟨_, ba0, ba1⟩ := Qa_2.out
    refine Lib.hid ?_
    go_wp2_with (first | (go_at_call 18; refine (toints_any AC0 cc0 cu0 _ (HC0.out.kept hB2 (Nat.le_refl _)) hcl0).mono ?_; rintro e w3 ⟨⟨gz0, rfl, hgz0, hOz0⟩, hb3⟩; refine Hid.out ?_) | fail)
    clear ba0 ba1
    have hz3 := hb3.size
    have hB3 := hB2.trans (hb3.mono hB2.size)
    have Qa_3 := Lib.hid (Qa_2.out.kept hb3)
    clear hB2 Qa_2 hb3
    have hlz0 := iown_lt' hOz0
    have Iz0_3 := Lib.hid hOz0
    clear hOz0
    obtain ⟨_, ba0, ba1⟩ := Qa_3.out
    refine Lib.hid ?_
    go_wp2_with (first | (go_at_call 15; refine (torl_any a b _).mono ?_; rintro e w4 ⟨rfl, hb4⟩; refine Hid.out ?_) | fail)
    clear ba0 ba1
    have hz4 := hb4.size
    have hB4 := hB3.trans (hb4.mono hB3.size)
    have Qa_4 := Lib.hid (Qa_3.out.kept hb4)
    have Iz0_4 := Lib.hid (Iz0_3.out.on hb4)
    clear hB3 Qa_3 Iz0_3 hb4
    obtain ⟨_, ba0, ba1⟩ := Qa_4.out
    refine Lib.hid ?_
    go_wp2_with (first | (go_at_call 24; refine (HI.out _ _ _ Iz0_4.out.iat hcl0).mono ?_; rintro e w5 ⟨rfl, hb5⟩; refine Hid.out ?_) | fail)
    clear ba0 ba1
    have hz5 := hb5.size
    have hB5 := hB4.trans (hb5.mono hB4.size)
    have Qa_5 := Lib.hid (Qa_4.out.kept hb5)
    have Iz0_5 := Lib.hid (Iz0_4.out.on hb5)
    clear hB4 Qa_4 Iz0_4 hb5
    obtain ⟨_, ba0, ba1⟩ := Qa_5.out
    refine Lib.hid ?_
    go_wp2_with (first | (go_at_call 18; refine (toints_any AC0 cc0 cu0 _ (HC0.out.kept hB5 (Nat.le_refl _)) hcl0).mono ?_; rintro e w6 ⟨⟨gu0, rfl, hgu0, hOu0⟩, hb6⟩; refine Hid.out ?_) | fail)
    clear ba0 ba1
    have hz6 := hb6.size
    have hB6 := hB5.trans (hb6.mono hB5.size)
    have Qa_6 := Lib.hid (Qa_5.out.kept hb6)
    have Iz0_6 := Lib.hid (Iz0_5.out.on hb6)
    clear hB5 Qa_5 Iz0_5 hb6
    have hlu0 := iown_lt' hOu0
    have Iu0_6 := Lib.hid hOu0
    clear hOu0
    obtain ⟨_, ba0, ba1⟩ := Qa_6.out
    refine Lib.hid ?_
    go_wp2_with (first | (go_at_call 20; refine (eqints_same _ _ _ _ cu0 _ Iz0_6.out.iat Iu0_6.out.iat hcl0).mono ?_; rintro e w7 ⟨rfl, hb7⟩; refine Hid.out ?_) | fail)
    clear ba0 ba1
    have hz7 := hb7.size
    have hB7 := hB6.trans (hb7.mono hB6.size)
    have Qa_7 := Lib.hid (Qa_6.out.kept hb7)
    have Iz0_7 := Lib.hid (Iz0_6.out.on hb7)
    have Iu0_7 := Lib.hid (Iu0_6.out.on hb7)
    clear hB6 Qa_6 Iz0_6 Iu0_6 hb7
    clear Iu0_7
    refine Lib.hid ?_
    go_wp2_with fail
    go_ret
    exact ⟨rfl, hB7⟩
end Go.Proofs.Ytjfpimldiokpbaa.S12
