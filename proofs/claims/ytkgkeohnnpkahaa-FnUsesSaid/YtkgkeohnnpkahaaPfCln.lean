/- Copies of a row of 24 numbers, the program's slices.Clone and the model's l1Own: contracts. Conditions: each theorem's own premises. -/
import Derived.Test.YtkgkeohnnpkahaaPfShf
import Derived.Test.YtkgkeohnnpkahaaPfPeak
import Derived.Test.YtkgkeohnnpkahaaShelf
namespace Go.Proofs.Ytkgkeohnnpkahaa.S6
open Go.RowKit P6

/-- A row of 24 numbers of the call's own. -/
def GivesR (w : World) (l : List Int) (e : Ending) (w' : World) : Prop :=
  ∃ g cap, e = .returned (.slice (some ⟨g, 0, none⟩) 24 cap) ∧ w.heap.size ≤ g ∧ IOwn w' w.heap.size (.slice (some ⟨g, 0, none⟩) 24 cap) l ∧ Below w.heap.size w w'
theorem clone_any (A : Option Addr) (cap : Nat) (l : List Int) (w : World) (h : IAt w A l) (hl : l.length = 24) :
    Calls Try.prog 63 #[.slice A 24 cap] w (GivesR w l) := by
  obtain ⟨b, off, hA, hbl, hc⟩ := at_of h hl
  subst hA
  refine (Try.slices_Clone_int b off 24 cap l w (by omega) (by omega) (fun j hj => hc j (by omega))).mono ?_
  rintro e w' ⟨v', rfl, ho, hn, hb⟩
  rw [List.take_of_length_le (by omega)] at ho
  obtain ⟨g, cap', hv, hg, _⟩ := World.ownsRow.form ho (by omega)
  subst hv
  refine ⟨g, cap', rfl, hg, ?_, hb⟩
  unfold IOwn
  rw [hl]
  exact ho
set_option maxHeartbeats 2000000 in
theorem own_any (A : Option Addr) (cap : Nat) (l : List Int) (w : World) (h : IAt w A l) (hl : l.length = 24) :
    Calls Try.prog 66 #[.slice A 24 cap] w (GivesR w l) := by
  obtain ⟨b, off, hA, hbl, hc⟩ := at_of h hl
  subst hA
  obtain ⟨i0, hi, hz0, hz1, hz2⟩ := info_parts infoI
  have HC := Lib.hid hc
  have HL := Lib.hid hl
  have ho := own_empty w w.heap.size (Nat.le_refl _)
  unfold IOwn at ho
  clear h hl hc
  go_enter Try.func66, Try.ntmps66
  go_wp2_with (at_builtin; go_must (refine wpList_append_lies _ rfl _ _ 24 rfl w.heap.size 3 i0 (.int .i64 0) 1 8 Try.underlying24 hi hz0 hz1 hz2 rfl (by decide) _ _ _ rfl ho ⟨b, off, none⟩ 24 cap (l.map iv) rfl ?d0 ?d1 ?d2 (by omega) ?d3 ?d4 ?d5 (w.heap.size + 1) (by simp) ?_))
  case d0 => simp [HL.out]
  case d1 =>
    intro j u hj
    have hj24 : j < 24 := by
      have := (List.getElem?_eq_some_iff.1 hj).1
      simp [HL.out] at this
      omega
    rw [add_plus, World.cell?_alloc_past _ _ _ hbl, HC.out j hj24]
    have e : (l.map iv)[j]? = some (iv (at0 l j)) := by simp [at0, List.getD, List.getElem?_eq_getElem (show j < l.length by rw [HL.out]; exact hj24)]
    rw [e] at hj
    exact hj
  case d2 => intro u hu; obtain ⟨x, _, rfl⟩ := List.mem_map.1 hu; rfl
  case d3 => unfold maxLen; simp
  case d4 => simp
  case d5 => simp
  intro g capg w1 hown hgrow hor hlt
  have hg := (World.ownsRow.lt hown g rfl).1
  have hB := (alloc_below w (.cells #[] 3)).grown hgrow (by simp) (fun k hk => (World.ownsRow.lt ho k hk).1)
  have HO := Lib.hid hown
  clear hgrow hor hown
  go_wp2_with fail
  go_ret
  refine ⟨g, capg, rfl, hg, ?_, hB⟩
  unfold IOwn
  rw [HL.out]
  simpa using HO.out
end Go.Proofs.Ytkgkeohnnpkahaa.S6
