/- What a call gives that returns a tariff; the zero tariff compared and marked: contracts. Conditions: each theorem's own premises. -/
import Derived.Test.YtidlpoambmeiiaaTaLaw
namespace Go.Proofs.Ytidlpoambmeiiaa.S14
open Go.RowKit P14

/-- A tariff beside a bool, its blocks in a row of the call's own. -/
def GivesT (w : World) (t : Ta) (ok : Bool) (e : Ending) (w' : World) : Prop :=
  ∃ g cap, e = .returned (.tuple #[tv t (some ⟨g, 0, none⟩) cap, .bool ok]) ∧ w.heap.size ≤ g ∧ COwn w' w.heap.size (.slice (some ⟨g, 0, none⟩) t.bs.length cap) t.bs ∧ Below w.heap.size w w'
/-- The zero tariff and false. -/
def GivesTN (w : World) (e : Ending) (w' : World) : Prop := e = .returned (.tuple #[tv ⟨0, []⟩ none 0, .bool false]) ∧ Below w.heap.size w w'
theorem tat_nil {w : World} {A : Option Addr} : TAt w ⟨0, []⟩ A := ⟨.inl rfl, by simp⟩
theorem markc_nil (m : Int) (w : World) :
    Calls Try.prog 70 #[.slice none 0 0, .int .i64 m] w fun e w' => e = .returned (.int .i64 m) ∧ w' = w := by
  go_enter Try.func70, Try.ntmps70
  go_wp2
  go_loop [1, 5] (fun k i => k = .int .i64 m ∧ i = .int .i64 0) (fun _ _ => 0)
  case atStart => exact ⟨rfl, rfl⟩
  case round =>
    obtain ⟨rfl, rfl⟩ := hrel
    go_wp2
    go_ret
    exact ⟨rfl, rfl⟩
theorem heldc_nil (m : Int) (w : World) :
    Calls Try.prog 73 #[.slice none 0 0, .int .i64 m] w fun e w' => e = .returned (.int .i64 m) ∧ w' = w := by
  go_enter Try.func73, Try.ntmps73
  go_wp2
  go_loop [1, 5] (fun k i => k = .int .i64 m ∧ i = .int .i64 0) (fun _ _ => 0)
  case atStart => exact ⟨rfl, rfl⟩
  case round =>
    obtain ⟨rfl, rfl⟩ := hrel
    go_wp2
    go_ret
    exact ⟨rfl, rfl⟩
theorem marktar_nil (m : Int) (w : World) :
    Calls Try.prog 35 #[tv ⟨0, []⟩ none 0, .int .i64 m] w fun e w' => e = .returned (.int .i64 m) ∧ Below w.heap.size w w' := by
  have H := Lib.hid (fun w => markc_nil m w)
  have HB0 := Lib.hid (alloc_below w (tb 29 ⟨0, []⟩ none 0))
  go_enter Try.func35, Try.ntmps35
  go_wp2_with (first | (go_at_call 70; refine (H.out _).mono ?_; rintro e w1 ⟨rfl, hw⟩; replace hw := hw.symm; subst hw; refine Hid.out ?_) | fail)
  refine Lib.hid ?_
  go_wp2_with fail
  go_ret
  exact ⟨rfl, HB0.out⟩
theorem heldtar_nil (m : Int) (w : World) (hm : 0 ≤ m) :
    Calls Try.prog 40 #[tv ⟨0, []⟩ none 0, .int .i64 m] w fun e w' => e = .returned (.int .i64 m) ∧ Below w.heap.size w w' := by
  have H := Lib.hid (fun w => heldc_nil m w)
  have HB0 := Lib.hid (alloc_below w (tb 29 ⟨0, []⟩ none 0))
  have hnn : ¬ m < 0 := by omega
  go_enter Try.func40, Try.ntmps40
  go_wp2_with (first | (go_at_call 73; refine (H.out _).mono ?_; rintro e w1 ⟨rfl, hw⟩; replace hw := hw.symm; subst hw; refine Hid.out ?_) | fail)
  refine Lib.hid ?_
  go_wp2_with fail
  go_ret
  exact ⟨rfl, HB0.out⟩
end Go.Proofs.Ytidlpoambmeiiaa.S14
