/- The law FnExactSplitString returns true for every string and every separator, and leaves its arguments as they were. No conditions. -/
import Derived.Test.YtcheogmnhooffaaRows
import Derived.Test.YtcheogmnhooffaaSplitTwo
import Derived.WalkKit
import Derived.ProofKit
import Derived.OpenShut
import Derived.ShutString
import Derived.ChangeOld
import Derived.Below
namespace Go.Proofs.Ytcheogmnhooffaa.fnExactSplitString
open Go.ChangeShapes Go.WideShapes Go.ChangeAt Go.RowKit P1 S1
open Go.ChangeMaps (open_string shut_string)
set_option linter.unusedVariables false

def Split (s sep : ByteArray) (ss : List ByteArray) (ok : Bool) (f : Nat) : Prop :=
  ∀ w : World, Calls Try.prog f #[.string s, .string sep] w fun e w' => Gives w ss ok e w'

theorem mark1 (ss : List ByteArray) (B g cap : Nat) (r : Int) (w : World) (hr : ((1 + ss.length : Nat) : Int) = r) (hn : ss.length ≤ 4001) (h : w.ownsRow B 9 1 (.slice (some ⟨g, 0, none⟩) ss.length cap) ss.length (ss.map Value.string)) :
    Calls Try.prog 19 #[.slice (some ⟨g, 0, none⟩) ss.length cap, .int .i64 1] w fun e w' => e = .returned (.int .i64 r) ∧ (At w' g 0 (marks 1 ss.length) ∧ Below B w w') :=
  (mark_row B g cap ss.length 1 (ss.map Value.string) (by simp) w h (by omega) (by omega)).mono fun _ _ ⟨he, ho, hb⟩ =>
    ⟨by rw [he, hr], by
      have hl := marks_len 1 ss.length
      exact at_own (ss := marks 1 ss.length) (cap := cap) (B := B) (by rw [hl]; exact ho), hb⟩
theorem held1 (ss : List ByteArray) (g cap : Nat) (r : Int) (w : World) (hr : ((1 + ss.length : Nat) : Int) = r) (hn : ss.length ≤ 4001) (h : At w g 0 (marks 1 ss.length)) :
    Calls Try.prog 20 #[.slice (some ⟨g, 0, none⟩) ss.length cap, .int .i64 1] w fun e w' => e = .returned (.int .i64 r) ∧ Below w.heap.size w w' :=
  (held_row g cap ss.length 1 w h (by omega) (by omega)).mono fun _ _ ⟨he, hb⟩ => ⟨by rw [he, hr], hb⟩

set_option maxHeartbeats 4000000 in
theorem walk_at (s sep : ByteArray) (ss : List ByteArray) (ok : Bool) (w : World) (h0 : s.size ≤ 1048576) (h1 : sep.size ≤ 1048576) (hn : ss.length ≤ 4001)
    (hs : Split s sep ss ok 17) (hi : Split s sep ss ok 10) :
    Calls Try.prog 4 #[.string s, .string sep] w fun e w' => e = .returned (.bool true) ∧ Below w.heap.size w w' := by
  have HS := Lib.hid hs
  have HI := Lib.hid hi
  clear hs hi
  have hokb : (ok == ok) = true := beq_self_eq_true ok
  obtain ⟨r, hr⟩ : ∃ r : Int, ((1 + ss.length : Nat) : Int) = r := ⟨_, rfl⟩
  have hpos : ¬ r < 0 := by omega
  have hrr : (r == r) = true := beq_self_eq_true r
  have HM := Lib.hid (fun B g cap (w : World) h => mark1 ss B g cap r w hr hn h)
  have HH := Lib.hid (fun g cap (w : World) h => held1 ss g cap r w hr hn h)
  clear hr
  go_enter Try.func4, Try.ntmps4
  go_wp2_with (go_at_call 17; refine (HS.out _).mono ?_; rintro e w1 ⟨g0, c0, rfl, ho1, hb1⟩; refine Hid.out ?_)
  have A0 := Lib.hid (at_own ho1)
  have B1 := Lib.hid hb1
  clear ho1 hb1
  refine Lib.hid ?_
  go_wp2_with (go_at_call 10; refine (HI.out _).mono ?_; rintro e w2 ⟨g1, c1, rfl, ho2, hb2⟩; refine Hid.out ?_)
  have hlt1 := (ho2.lt g1 rfl).1
  have A1 := Lib.hid (at_own ho2)
  have O2 := Lib.hid ho2
  have A0' := Lib.hid (A0.out.later hb2)
  have hz1 := A0.out.1
  have B2 := Lib.hid (B1.out.trans (hb2.mono B1.out.size))
  clear ho2 hb2
  refine Lib.hid ?_
  go_wp2_with (go_at_call 18; refine (eq_at g1 0 _ g0 0 _ ss _ A1.out A0'.out (by omega)).mono ?_; rintro e w3 ⟨rfl, hb3⟩; refine Hid.out ?_)
  have A0 := Lib.hid (A0'.out.later hb3)
  have O3 := Lib.hid (own_on O2.out hb3)
  have B3 := Lib.hid (B2.out.trans (hb3.mono B2.out.size))
  clear hb3 A0' A1 O2
  refine Lib.hid ?_
  go_wp2_with (go_at_call 19; refine (HM.out _ _ _ _ O3.out).mono ?_; rintro e w4 ⟨rfl, hm4, hb4⟩; refine Hid.out ?_)
  have A0' := Lib.hid (at_kept A0.out hb4 hz1)
  have M4 := Lib.hid hm4
  have B4 := Lib.hid (B3.out.trans (hb4.mono B1.out.size))
  clear hb4 hm4 A0 O3
  refine Lib.hid ?_
  go_wp2_with (go_at_call 20; refine (HH.out _ _ _ M4.out).mono ?_; rintro e w5 ⟨rfl, hb5⟩; refine Hid.out ?_)
  have A5 := Lib.hid (A0'.out.later hb5)
  have M5 := Lib.hid (M4.out.later hb5)
  have B5 := Lib.hid (B4.out.trans (hb5.mono B4.out.size))
  clear hb5 A0' M4
  refine Lib.hid ?_
  go_wp2_with (go_at_call 10; refine (HI.out _).mono ?_; rintro e w6 ⟨g2, c2, rfl, ho6, hb6⟩; refine Hid.out ?_)
  have A6 := Lib.hid (A5.out.later hb6)
  have M6 := Lib.hid (M5.out.later hb6)
  have H6 := Lib.hid (at_own ho6)
  have B6 := Lib.hid (B5.out.trans (hb6.mono B5.out.size))
  clear hb6 ho6 A5 M5
  refine Lib.hid ?_
  go_wp2_with (go_at_call 18; refine (eq_at g2 0 _ g0 0 _ ss _ H6.out A6.out (by omega)).mono ?_; rintro e w7 ⟨rfl, hb7⟩; refine Hid.out ?_)
  have M7 := Lib.hid (M6.out.later hb7)
  have B7 := Lib.hid (B6.out.trans (hb7.mono B6.out.size))
  clear hb7 A6 M6 H6
  refine Lib.hid ?_
  go_wp2_with (go_at_call 20; refine (HH.out _ _ _ M7.out).mono ?_; rintro e w8 ⟨rfl, hb8⟩)
  go_ret
  exact ⟨rfl, B7.out.trans (hb8.mono B7.out.size)⟩

theorem walk_long (s sep : ByteArray) (w : World) (h : 1048576 < s.size ∨ 1048576 < sep.size) :
    Calls Try.prog 4 #[.string s, .string sep] w fun e w' => e = .returned (.bool true) ∧ Below w.heap.size w w' := by
  by_cases h0 : 1048576 < s.size
  · go_enter Try.func4, Try.ntmps4
    go_wp2_with fail
    go_ret
    exact ⟨rfl, Below.refl _ _⟩
  · have h1 : 1048576 < sep.size := by rcases h with h | h; exact absurd h h0; exact h
    have h0' : s.size ≤ 1048576 := by omega
    go_enter Try.func4, Try.ntmps4
    go_wp2_with fail
    go_ret
    exact ⟨rfl, Below.refl _ _⟩

theorem one_byte (sep : ByteArray) (h : sep.size = 1) : ∃ c, sep = ⟨#[c]⟩ := by
  obtain ⟨⟨l⟩⟩ := sep
  match l, h with
  | [c], _ => exact ⟨c, rfl⟩

theorem walk (s sep : ByteArray) (w : World) :
    Calls Try.prog 4 #[.string s, .string sep] w fun e w' => e = .returned (.bool true) ∧ Below w.heap.size w w' := by
  by_cases h0 : s.size ≤ 1048576
  · by_cases h1 : sep.size ≤ 1048576
    · by_cases hy : s.size ≤ 4000 ∧ sep.size = 1
      · obtain ⟨c, rfl⟩ := one_byte sep hy.2
        exact walk_at s _ (pieces c s) true w h0 h1 (pieces_few c s hy.1) (fun w => ssplit_yes s c w hy.1) (fun w => split_yes s c w hy.1)
      · have hno : 4000 < s.size ∨ sep.size ≠ 1 := by omega
        exact walk_at s sep [] false w h0 h1 (by simp) (fun w => ssplit_no s sep w hno) (fun w => split_no_impl s sep w hno)
    · exact walk_long s sep w (by omega)
  · exact walk_long s sep w (by omega)

theorem own : ownKnob Try.prog.godebug = none := by kernel_rfl

set_option maxRecDepth 100000 in
theorem lifted (os : Os) (started : os.Started) (H : Type) (enc : TypeId × Value → H) :
    ReturnsInHanded {} Try.checked os 4 .any (Rows.fnExactSplitStringSpec.pre6 enc Try.prog Try.f4 Rows.fnExactSplitStringRow.domain false) (Rows.fnExactSplitStringSpec.post enc Try.prog Try.f4 false true false false) := by
  refine returnsInHanded_of_change (C := Try.checked) own started (by kernel_rfl) Try.func4
    (ChangeSpec.witness6 (enc := enc) (C := Try.checked) false ⟨#[], #[.string ByteArray.empty, .string ByteArray.empty], []⟩ 8 (by kernel_rfl) (by kernel_rfl) (by kernel_rfl) (by kernel_rfl)) ?_
  intro W base args ds gs before hval0 hW hcnd _
  have hval : ∀ (j : Nat) t v, Try.f4.params[j]? = some t → args[j]? = some v → Value.okWide Try.prog W .any base t v := hval0
  have hW' := hW
  obtain ⟨p, q, hA0, hV, rfl, hfz, hnd⟩ := hW
  have hA : DataW.TrodAll enc Try.prog W 0 (fun _ => true) true Try.f4.params.toList args.toList ds p := hA0
  rw [Try.params4] at hA hval
  obtain ⟨v0, v1, d0, d1, p0, p1, rfl, rfl, rfl, h0, h1⟩ := trodAll_two hA
  obtain ⟨rfl, rfl⟩ := trodVars_none hV
  obtain ⟨a0, rfl, rfl, rfl, w0⟩ := open_string Try.underlying9 (hval 0 9 v0 rfl rfl) h0
  obtain ⟨a1, rfl, rfl, rfl, w1⟩ := open_string Try.underlying9 (hval 1 9 v1 rfl rfl) h1
  clear hA0 hval0
  refine (walk a0 a1 W).mono fun e W' ⟨he, bel⟩ => ?_
  subst he
  exact ⟨_, rfl, _, _, _, [], _, [], hW', trodAll_mk1 (shut_bool Try.underlying4 _), trodAll_mk2 (shut_string Try.underlying9 w0) (shut_string Try.underlying9 w1), rfl, bel.frame _, fun h => by cases h⟩

theorem proved : Rows.FnExactSplitStringSaid :=
  OpenClaim.holds_of_wide 4 Try.f4 rfl rfl rfl rfl rfl rfl rfl ⟨rfl, rfl, rfl, rfl, rfl⟩ rfl rfl rfl rfl rfl (by kernel_rfl) Try.func4 (by kernel_rfl)
    (of_decide_eq_true (by kernel_rfl)) (by unfold Func.isWrapper; first | (rw [if_pos (by decide +kernel)]; kernel_rfl) | (rw [if_neg (by decide +kernel)]; exact ⟨rfl, rfl⟩))
    (fun os started H enc _ => lifted os started H enc)
end Go.Proofs.Ytcheogmnhooffaa.fnExactSplitString
namespace Go.Proofs.Ytcheogmnhooffaa
theorem FnExactSplitString_holds : Rows.FnExactSplitStringSaid := fnExactSplitString.proved
#print axioms FnExactSplitString_holds
end Go.Proofs.Ytcheogmnhooffaa
