/- The walk of the law FnExactReducerFor: contracts. Conditions: each theorem's own premises. -/
import Derived.Test.YtjfpimldiokpbaaZnLaw
import Derived.Deep.DeepCutAuto
namespace Go.Proofs.Ytjfpimldiokpbaa.S12
open Go.RowKit P12

set_option maxHeartbeats 16000000 in
set_option maxRecDepth 100000 in
theorem walkReducerFor (a b : Int) (x0 : Int) (x2 : Int) (w : World) (sv0 : Int) (sv1 : Bool)
    (hs : ∀ (w : World), Calls Try.prog 33 #[.int .i64 x0, rv a b, .int .i64 x2] w (fun e w' => e = .returned (.tuple #[.int .i64 sv0, .bool sv1]) ∧ Below w.heap.size w w'))
    (hi : ∀ (w : World), Calls Try.prog 34 #[.int .i64 x0, rv a b, .int .i64 x2] w (fun e w' => e = .returned (.tuple #[.int .i64 sv0, .bool sv1]) ∧ Below w.heap.size w w')) :
    Calls Try.prog 10 #[.int .i64 x0, rv a b, .int .i64 x2] w fun e w' => e = .returned (.bool true) ∧ Below w.heap.size w w' := by
  have HS := Lib.hid hs
  have HI := Lib.hid hi
  clear hs hi
  go_enter Try.func10, Try.ntmps10
  refine Hid.out ?_
  have hB1 := alloc_below w (rb 23 a b)
  have hz1 := hB1.size
  have hw0 := new_lt w (rb 23 a b)
  have Qa_1 := Lib.hid (BT.new w 23 a b)
  obtain ⟨_, ba0, ba1⟩ := Qa_1.out
  refine Lib.hid ?_
  go_wp2_with (first | (go_at_call 15; refine (torl_any a b _).mono ?_; rintro e w2 ⟨rfl, hb2⟩; refine Hid.out ?_) | fail)
  clear ba0 ba1
  have hz2 := hb2.size
  have hB2 := hB1.trans (hb2.mono hB1.size)
  have Qa_2 := Lib.hid (Qa_1.out.kept hb2)
  clear hB1 Qa_1 hb2
  obtain ⟨_, ba0, ba1⟩ := Qa_2.out
  refine Lib.hid ?_
  go_wp2_with (first | (go_at_call 33; refine (HS.out _).mono ?_; rintro e w3 ⟨rfl, hb3⟩; refine Hid.out ?_) | fail)
  clear ba0 ba1
  have hz3 := hb3.size
  have hB3 := hB2.trans (hb3.mono hB2.size)
  have Qa_3 := Lib.hid (Qa_2.out.kept hb3)
  clear hB2 Qa_2 hb3
  obtain ⟨_, ba0, ba1⟩ := Qa_3.out
  refine Lib.hid ?_
  go_wp2_with (first | (go_at_call 15; refine (torl_any a b _).mono ?_; rintro e w4 ⟨rfl, hb4⟩; refine Hid.out ?_) | fail)
  clear ba0 ba1
  have hz4 := hb4.size
  have hB4 := hB3.trans (hb4.mono hB3.size)
  have Qa_4 := Lib.hid (Qa_3.out.kept hb4)
  clear hB3 Qa_3 hb4
  obtain ⟨_, ba0, ba1⟩ := Qa_4.out
  refine Lib.hid ?_
  go_wp2_with (first | (go_at_call 34; refine (HI.out _).mono ?_; rintro e w5 ⟨rfl, hb5⟩; refine Hid.out ?_) | fail)
  clear ba0 ba1
  have hz5 := hb5.size
  have hB5 := hB4.trans (hb5.mono hB4.size)
  have Qa_5 := Lib.hid (Qa_4.out.kept hb5)
  clear hB4 Qa_4 hb5
  refine Lib.hid ?_
  go_wp2_with fail
  go_ret
  exact ⟨rfl, hB5⟩
end Go.Proofs.Ytjfpimldiokpbaa.S12
