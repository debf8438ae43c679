/- The walk of the law FnExactStepTank: contracts. Conditions: each theorem's own premises. -/
import Derived.Test.YtikppgbipdflbaaTkLaw
import Derived.Deep.DeepCutAuto
namespace Go.Proofs.Ytikppgbipdflbaa.S11
open Go.RowKit P11

set_option maxHeartbeats 16000000 in
set_option maxRecDepth 100000 in
theorem walkStepTank (L a b : Int) (x1 : Int) (x2 : Int) (w : World) (L0 a0 b0 : Int) (sv0 : Int) (sv1 : Int) (sv2 : Bool)
    (hs : ∀ (w : World), Calls Try.prog 13 #[tv L a b, .int .i64 x1, .int .i64 x2] w (fun e w' => e = .returned (.tuple #[tv L0 a0 b0, .int .i64 sv0, .int .i64 sv1, .bool sv2]) ∧ Below w.heap.size w w'))
    (hi : ∀ (w : World), Calls Try.prog 14 #[tv L a b, .int .i64 x1, .int .i64 x2] w (fun e w' => e = .returned (.tuple #[tv L0 a0 b0, .int .i64 sv0, .int .i64 sv1, .bool sv2]) ∧ Below w.heap.size w w')) :
    Calls Try.prog 4 #[tv L a b, .int .i64 x1, .int .i64 x2] w fun e w' => e = .returned (.bool true) ∧ Below w.heap.size w w' := by
  have HS := Lib.hid hs
  have HI := Lib.hid hi
  clear hs hi
  go_enter Try.func4, Try.ntmps4
  refine Hid.out ?_
  have hB1 := alloc_below w (tb 23 L a b)
  have hz1 := hB1.size
  have hw0 := new_lt w (tb 23 L a b)
  have Qa_1 := Lib.hid (BT.new w 23 L a b)
  obtain ⟨_, ba0, ba1, ba2⟩ := Qa_1.out
  refine Lib.hid ?_
  go_wp2_with (first | (go_at_call 11; refine (totk_any L a b _).mono ?_; rintro e w2 ⟨rfl, hb2⟩; refine Hid.out ?_) | fail)
  clear ba0 ba1 ba2
  have hz2 := hb2.size
  have hB2 := hB1.trans (hb2.mono hB1.size)
  have Qa_2 := Lib.hid (Qa_1.out.kept hb2)
  clear hB1 Qa_1 hb2
  obtain ⟨_, ba0, ba1, ba2⟩ := Qa_2.out
  refine Lib.hid ?_
  go_wp2_with (first | (go_at_call 13; refine (HS.out _).mono ?_; rintro e w3 ⟨rfl, hb3⟩; refine Hid.out ?_) | fail)
  clear ba0 ba1 ba2
  have hz3 := hb3.size
  have hB3 := hB2.trans (hb3.mono hB2.size)
  have Qa_3 := Lib.hid (Qa_2.out.kept hb3)
  clear hB2 Qa_2 hb3
  have hb3a := alloc_below w3 (tb 25 L0 a0 b0)
  have Qnw := Lib.hid (BT.new w3 25 L0 a0 b0)
  have hzzw := new_lt w3 (tb 25 L0 a0 b0)
  have hz3a := hb3a.size
  have hB3a := hB3.trans (hb3a.mono hB3.size)
  have Qa_3a := Lib.hid (Qa_3.out.kept hb3a)
  clear hB3 Qa_3 hb3a
  have Qw_3a := Qnw
  clear Qnw
  obtain ⟨_, ba0, ba1, ba2⟩ := Qa_3a.out
  refine Lib.hid ?_
  go_wp2_with (first | (go_at_call 11; refine (totk_any L a b _).mono ?_; rintro e w4 ⟨rfl, hb4⟩; refine Hid.out ?_) | fail)
  clear ba0 ba1 ba2
  have hz4 := hb4.size
  have hB4 := hB3a.trans (hb4.mono hB3a.size)
  have Qa_4 := Lib.hid (Qa_3a.out.kept hb4)
  have Qw_4 := Lib.hid (Qw_3a.out.kept hb4)
  clear hB3a Qa_3a Qw_3a hb4
  obtain ⟨_, ba0, ba1, ba2⟩ := Qa_4.out
  refine Lib.hid ?_
  go_wp2_with (first | (go_at_call 14; refine (HI.out _).mono ?_; rintro e w5 ⟨rfl, hb5⟩; refine Hid.out ?_) | fail)
  clear ba0 ba1 ba2
  have hz5 := hb5.size
  have hB5 := hB4.trans (hb5.mono hB4.size)
  have Qa_5 := Lib.hid (Qa_4.out.kept hb5)
  have Qw_5 := Lib.hid (Qw_4.out.kept hb5)
  clear hB4 Qa_4 Qw_4 hb5
  have hb5a := alloc_below w5 (tb 25 L0 a0 b0)
  have Qng := Lib.hid (BT.new w5 25 L0 a0 b0)
  have hzzg := new_lt w5 (tb 25 L0 a0 b0)
  have hz5a := hb5a.size
  have hB5a := hB5.trans (hb5a.mono hB5.size)
  have Qa_5a := Lib.hid (Qa_5.out.kept hb5a)
  have Qw_5a := Lib.hid (Qw_5.out.kept hb5a)
  clear hB5 Qa_5 Qw_5 hb5a
  have Qg_5a := Qng
  clear Qng
  obtain ⟨_, ba0, ba1, ba2⟩ := Qa_5a.out
  obtain ⟨_, bw0, bw1, bw2⟩ := Qw_5a.out
  obtain ⟨_, bg0, bg1, bg2⟩ := Qg_5a.out
  refine Lib.hid ?_
  go_wp2_with (first | (go_at_call 15; refine (eqtk_same L0 a0 b0 _).mono ?_; rintro e w6 ⟨rfl, hb6⟩; refine Hid.out ?_) | fail)
  clear ba0 ba1 ba2 bw0 bw1 bw2 bg0 bg1 bg2
  have hz6 := hb6.size
  have hB6 := hB5a.trans (hb6.mono hB5a.size)
  have Qa_6 := Lib.hid (Qa_5a.out.kept hb6)
  have Qw_6 := Lib.hid (Qw_5a.out.kept hb6)
  have Qg_6 := Lib.hid (Qg_5a.out.kept hb6)
  clear hB5a Qa_5a Qw_5a Qg_5a hb6
  refine Lib.hid ?_
  go_wp2_with fail
  go_ret
  exact ⟨rfl, hB6⟩
end Go.Proofs.Ytikppgbipdflbaa.S11
