/- The working point and the flow at a head, the program's: contracts. Conditions: each theorem's own premises. -/
import Derived.Test.YtpldbakllegheabCvHead
namespace Go.Proofs.Ytpldbakllegheab.S7
open Go.RowKit P7

open Classical in
/-- What WorkingPoint tells. -/
noncomputable def wA (cs : List Cp) (l s : Int) : Int × Int × Bool := if h : ∃ k, WK cs l s k then (lowN (wNum cs l s h.choose) (wDen cs l s h.choose), lowD (wNum cs l s h.choose) (wDen cs l s h.choose), true) else (0, 0, false)
theorem wA_yes {cs : List Cp} {l s : Int} {k : Nat} (h : WK cs l s k) : wA cs l s = (lowN (wNum cs l s k) (wDen cs l s k), lowD (wNum cs l s k) (wDen cs l s k), true) := by
  have hx : ∃ k, WK cs l s k := ⟨k, h⟩
  unfold wA
  rw [dif_pos hx, hx.choose_spec.uniq h]
theorem wA_no {cs : List Cp} {l s : Int} (h : ∀ k, ¬ WK cs l s k) : wA cs l s = (0, 0, false) := by
  unfold wA
  rw [dif_neg (fun ⟨k, hk⟩ => h k hk)]
abbrev WPost (cs : List Cp) (l s : Int) (w : World) : Ending → World → Prop := Gives3 (wA cs l s).1 (wA cs l s).2.1 (wA cs l s).2.2 w
theorem wpost_yes {cs : List Cp} {l s : Int} {k : Nat} {w w' : World} (h : WK cs l s k) (hb : Below w.heap.size w w') : WPost cs l s w (.returned (ret3 (lowN (wNum cs l s k) (wDen cs l s k)) (lowD (wNum cs l s k) (wDen cs l s k)) true)) w' := by
  unfold WPost; rw [wA_yes h]; exact ⟨rfl, hb⟩
theorem wpost_no {cs : List Cp} {l s : Int} {w w' : World} (h : ∀ k, ¬ WK cs l s k) (hb : Below w.heap.size w w') : WPost cs l s w (.returned (ret3 0 0 false)) w' := by
  unfold WPost; rw [wA_no h]; exact ⟨rfl, hb⟩
theorem excess_any (x y l s : Int) (w : World) (hx : 0 ≤ x ∧ x ≤ 1000) (hy : 0 ≤ y ∧ y ≤ 1000) (hl : 0 ≤ l ∧ l ≤ 1000) (hs : 0 ≤ s ∧ s ≤ 1000) :
    Calls Try.prog 44 #[.agg #[.int .i64 x, .int .i64 y], .int .i64 l, .int .i64 s] w fun e w' => e = .returned (.int .i64 (y - l - s * x)) ∧ Below w.heap.size w w' := by
  have m := mul_le hs.1 hs.2 hx.1 hx.2
  have wM : IntKind.i64.wrap (s * x) = s * x := w64 _ (by omega)
  obtain ⟨hx0, hx9⟩ := hx
  obtain ⟨hy0, hy9⟩ := hy
  obtain ⟨hl0, hl9⟩ := hl
  have wS : IntKind.i64.wrap (y - l - s * x) = y - l - s * x := w64 _ (by omega)
  go_enter Try.func44, Try.ntmps44
  go_wp2
  go_ret
  exact ⟨rfl, (Below.refl _ _).alloc (Nat.le_refl _) _⟩

set_option maxHeartbeats 4000000 in
theorem work_no (A : Option Addr) (cap : Nat) (cs : List Cp) (l s : Int) (w : World) (h : CAt w A cs) (hm : cs.length ≤ 1048576) (hn : (gB cs && vB l && vB s) = false) :
    Calls Try.prog 10 #[.slice A cs.length cap, .int .i64 l, .int .i64 s] w (WPost cs l s w) := by
  have hfin := Lib.hid (show ∀ k, ¬ WK cs l s k from fun k hk => by
    rw [gB_mk hk.1, vB_iff.2 hk.2.1, vB_iff.2 hk.2.2.1] at hn; cases hn)
  obtain ⟨v, hv⟩ : ∃ v, gB cs = v := ⟨_, rfl⟩
  obtain ⟨v1, hv1⟩ : ∃ v, vB l = v := ⟨_, rfl⟩
  obtain ⟨v2, hv2⟩ : ∃ v, vB s = v := ⟨_, rfl⟩
  have HV := Lib.hid (valid_w hv A cap w h hm)
  have H1 := Lib.hid (fun w => val_eq l v1 hv1 w)
  have H2 := Lib.hid (fun w => val_eq s v2 hv2 w)
  rw [hv, hv1, hv2] at hn
  clear h hv hv1 hv2
  go_enter Try.func10, Try.ntmps10
  cases v <;> cases v1 <;> cases v2 <;> first | (exact absurd hn (by decide)) | skip
  all_goals
    clear hn
    go_wp2_with (first
      | (go_at_call 23; refine HV.out.mono ?_; rintro e w1 ⟨rfl, hb1⟩)
      | (go_at_call 43; refine (H1.out _).mono ?_; rintro e w1x ⟨rfl, hw⟩; replace hw := hw.symm; subst hw)
      | (go_at_call 43; refine (H2.out _).mono ?_; rintro e w1x ⟨rfl, hw⟩; replace hw := hw.symm; subst hw))
    go_ret3
    exact wpost_no hfin.out hb1

end Go.Proofs.Ytpldbakllegheab.S7
