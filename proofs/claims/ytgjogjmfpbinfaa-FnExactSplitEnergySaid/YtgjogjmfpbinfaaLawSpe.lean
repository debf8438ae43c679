/- The law FnExactSplitEnergy holds of the program: for every list of sizes and of parts SplitEnergy answers as its model and writes into no argument. Condition: the arguments are laid out as the row says. -/
import Derived.Test.YtgjogjmfpbinfaaRows
import Derived.Test.YtgjogjmfpbinfaaOpenOne
import Derived.Test.YtgjogjmfpbinfaaBothSpe
import Derived.WalkKit
import Derived.ProofKit
import Derived.OpenShut
import Derived.ChangeOld
import Derived.Below
namespace Go.Proofs.Ytgjogjmfpbinfaa.fnExactSplitEnergy
open Go.ChangeShapes Go.WideShapes Go.ChangeAt Go.RowKit P2 S2
set_option linter.unusedVariables false

theorem own : ownKnob Try.prog.godebug = none := by kernel_rfl
theorem laidOut : laidOutB Try.prog = true := by kernel_rfl

set_option maxRecDepth 100000 in
theorem lifted (os : Os) (started : os.Started) (H : Type) (enc : TypeId × Value → H) :
    ReturnsInHanded {} Try.checked os 9 .any (Rows.fnExactSplitEnergySpec.pre6 enc Try.prog Try.f9 Rows.fnExactSplitEnergyRow.domain false) (Rows.fnExactSplitEnergySpec.post enc Try.prog Try.f9 false true false false) := by
  refine returnsInHanded_of_change (C := Try.checked) own started (by kernel_rfl) Try.func9
    (ChangeSpec.witness6 (enc := enc) (C := Try.checked) false ⟨#[], #[.slice none 0 0, .slice none 0 0], []⟩ 8 (by kernel_rfl) (by kernel_rfl) (by kernel_rfl) (by kernel_rfl)) ?_
  intro W base args ds gs before hval0 hW hcnd _
  have hval : ∀ (j : Nat) t v, Try.f9.params[j]? = some t → args[j]? = some v → Value.okWide Try.prog W .any base t v := hval0
  have hW' := hW
  obtain ⟨p, q, hA0, hV, rfl, hfz, hnd⟩ := hW
  have hA : DataW.TrodAll enc Try.prog W 0 (fun _ => true) true Try.f9.params.toList args.toList ds p := hA0
  rw [Try.params9] at hA hval
  obtain ⟨v0, v1, d0, d1, p0, p1, rfl, rfl, rfl, h0, h1⟩ := trodAll_two hA
  obtain ⟨rfl, rfl⟩ := trodVars_none hV
  have k0 := h0
  have lt0 : ∀ x ∈ p0, x.block < W.heap.size := by obtain ⟨m, hm⟩ := k0; exact DataW.trod_lt m _ _ _ hm
  obtain ⟨A0, cap0, cu0, rfl, at0, mx0⟩ := intsarg_open (hval 0 34 v0 rfl rfl) h0
  have k1 := h1
  have lt1 : ∀ x ∈ p1, x.block < W.heap.size := by obtain ⟨m, hm⟩ := k1; exact DataW.trod_lt m _ _ _ hm
  obtain ⟨A1, cap1, cu1, rfl, at1, mx1⟩ := intsarg_open (hval 1 34 v1 rfl rfl) h1
  clear hA0 hval0
  refine (law_spe A0 cap0 cu0 A1 cap1 cu1 W at0 mx0 at1 mx1).mono fun e W' ⟨he, bel⟩ => ?_
  subst he
  exact ⟨_, rfl, _, _, _, [], _, [], hW', trodAll_mk1 (shut_bool Try.underlying4 _), trodAll_mk2 (Below.trod laidOut (by kernel_rfl) (of_decide_eq_true (by kernel_rfl)) k0 bel lt0) (Below.trod laidOut (by kernel_rfl) (of_decide_eq_true (by kernel_rfl)) k1 bel lt1), rfl, bel.frame _, fun h => by cases h⟩

theorem andB {a b : Bool} (h : a = true) (g : b = true) : (a && b) = true := by rw [h, g]; rfl
theorem heavy : ((Rows.fnExactSplitEnergyRow.inPlace == Try.pinned.checked.prog.inPlace 9) && ((Rows.fnExactSplitEnergyRow.unfollowed == Try.pinned.checked.prog.unfollowed 9) && ((Rows.fnExactSplitEnergyRow.recurses == Try.pinned.checked.prog.recurses 9) && (Rows.fnExactSplitEnergyRow.named == Try.pinned.checked.prog.varsNamed 9)))) = true := by kernel_rfl
set_option maxHeartbeats 4000000 in
theorem closed : joinedFacts Try.pinned.checked.prog 9 Try.f9 Rows.fnExactSplitEnergySpec Rows.fnExactSplitEnergyRow = true := by
  unfold joinedFacts
  simp only [Bool.and_assoc]
  have h := heavy
  rw [Bool.and_eq_true, Bool.and_eq_true, Bool.and_eq_true] at h
  obtain ⟨h1, h2, h3, h4⟩ := h
  iterate 9 refine andB (by as_aux_lemma => kernel_rfl) ?_
  refine andB (by with_reducible exact h1) (andB (by with_reducible exact h2) (andB (by with_reducible exact h3) (andB (by with_reducible exact h4) ?_)))
  as_aux_lemma => kernel_rfl
theorem named : Try.pinned.checked.prog.funcNamed Rows.fnExactSplitEnergyRow.func = some 9 := by kernel_rfl
theorem instd : Try.f9.isInstance Try.pinned.checked.prog Rows.fnExactSplitEnergyRow.origin Rows.fnExactSplitEnergyRow.targs := of_decide_eq_true (by kernel_rfl)
theorem proved : Rows.FnExactSplitEnergySaid :=
  OpenClaim.holds_of_wide 9 Try.f9 rfl rfl rfl rfl rfl rfl rfl ⟨rfl, rfl, rfl, rfl, rfl⟩ rfl rfl rfl rfl rfl named Try.func9 closed
    instd (by unfold Func.isWrapper; first | (rw [if_pos (by decide +kernel)]; kernel_rfl) | (rw [if_neg (by decide +kernel)]; exact ⟨rfl, rfl⟩))
    (fun os started H enc _ => lifted os started H enc)
end Go.Proofs.Ytgjogjmfpbinfaa.fnExactSplitEnergy
namespace Go.Proofs.Ytgjogjmfpbinfaa
theorem FnExactSplitEnergy_holds : Rows.FnExactSplitEnergySaid := fnExactSplitEnergy.proved
#print axioms FnExactSplitEnergy_holds
end Go.Proofs.Ytgjogjmfpbinfaa
