/- The law FnTariffs holds of the program: the next cubic meter costs its price, the parts of a cost are the cost, and a simpler tariff costs the same. Condition: the argument is laid out as the row says. -/
import Derived.Test.YtidlpoambmeiiaaRows
import Derived.Test.YtidlpoambmeiiaaPfCode
import Derived.Test.YtidlpoambmeiiaaWalkTariffs
import Derived.WalkKit
import Derived.ProofKit
import Derived.OpenShut
import Derived.ChangeOld
import Derived.Below
namespace Go.Proofs.Ytidlpoambmeiiaa.fnTariffs
open Go.ChangeShapes Go.WideShapes Go.ChangeAt Go.RowKit P14 S14
set_option linter.unusedVariables false

theorem own : ownKnob Try.prog.godebug = none := by kernel_rfl
theorem laidOut : laidOutB Try.prog = true := by kernel_rfl

set_option maxRecDepth 100000 in
theorem lifted (os : Os) (started : os.Started) (H : Type) (enc : TypeId × Value → H) :
    ReturnsInHanded {} Try.checked os 13 .any (Rows.fnTariffsSpec.pre6 enc Try.prog Try.f13 Rows.fnTariffsRow.domain false) (Rows.fnTariffsSpec.post enc Try.prog Try.f13 false true false false) := by
  refine returnsInHanded_of_change (C := Try.checked) own started (by kernel_rfl) Try.func13
    (ChangeSpec.witness6 (enc := enc) (C := Try.checked) false ⟨#[], #[.slice none 0 0], []⟩ 8 (by kernel_rfl) (by kernel_rfl) (by kernel_rfl) (by kernel_rfl)) ?_
  intro W base args ds gs before hval0 hW hcnd _
  have hval : ∀ (j : Nat) t v, Try.f13.params[j]? = some t → args[j]? = some v → Value.okWide Try.prog W .any base t v := hval0
  have hW' := hW
  obtain ⟨p, q, hA0, hV, rfl, hfz, hnd⟩ := hW
  have hA : DataW.TrodAll enc Try.prog W 0 (fun _ => true) true Try.f13.params.toList args.toList ds p := hA0
  rw [Try.params13] at hA hval
  obtain ⟨v0, d0, rfl, rfl, h0⟩ := trodAll_one hA
  obtain ⟨rfl, rfl⟩ := trodVars_none hV
  have k0 := h0
  have lt0 : ∀ x ∈ p, x.block < W.heap.size := by obtain ⟨m, hm⟩ := k0; exact DataW.trod_lt m _ _ _ hm
  obtain ⟨A0, len0, cap0, rfl, cd0⟩ := S1.code_open (hval 0 51 v0 rfl rfl) h0
  clear hA0 hval0
  refine (walkTariffs A0 len0 cap0 W cd0).mono fun e W' ⟨he, bel⟩ => ?_
  subst he
  exact ⟨_, rfl, _, _, _, [], _, [], hW', trodAll_mk1 (shut_bool Try.underlying4 _), trodAll_mk1 (Below.trod laidOut (by kernel_rfl) (of_decide_eq_true (by kernel_rfl)) k0 bel lt0), rfl, bel.frame _, fun h => by cases h⟩

theorem andB {a b : Bool} (h : a = true) (g : b = true) : (a && b) = true := by rw [h, g]; rfl
theorem heavy : ((Rows.fnTariffsRow.inPlace == Try.pinned.checked.prog.inPlace 13) && ((Rows.fnTariffsRow.unfollowed == Try.pinned.checked.prog.unfollowed 13) && ((Rows.fnTariffsRow.recurses == Try.pinned.checked.prog.recurses 13) && (Rows.fnTariffsRow.named == Try.pinned.checked.prog.varsNamed 13)))) = true := by kernel_rfl
set_option maxHeartbeats 4000000 in
theorem closed : joinedFacts Try.pinned.checked.prog 13 Try.f13 Rows.fnTariffsSpec Rows.fnTariffsRow = true := by
  unfold joinedFacts
  simp only [Bool.and_assoc]
  have h := heavy
  rw [Bool.and_eq_true, Bool.and_eq_true, Bool.and_eq_true] at h
  obtain ⟨h1, h2, h3, h4⟩ := h
  iterate 9 refine andB (by as_aux_lemma => kernel_rfl) ?_
  refine andB (by with_reducible exact h1) (andB (by with_reducible exact h2) (andB (by with_reducible exact h3) (andB (by with_reducible exact h4) ?_)))
  as_aux_lemma => kernel_rfl
theorem named : Try.pinned.checked.prog.funcNamed Rows.fnTariffsRow.func = some 13 := by kernel_rfl
theorem instd : Try.f13.isInstance Try.pinned.checked.prog Rows.fnTariffsRow.origin Rows.fnTariffsRow.targs := of_decide_eq_true (by kernel_rfl)
theorem proved : Rows.FnTariffsSaid :=
  OpenClaim.holds_of_wide 13 Try.f13 rfl rfl rfl rfl rfl rfl rfl ⟨rfl, rfl, rfl, rfl, rfl⟩ rfl rfl rfl rfl rfl named Try.func13 closed
    instd (by unfold Func.isWrapper; first | (rw [if_pos (by decide +kernel)]; kernel_rfl) | (rw [if_neg (by decide +kernel)]; exact ⟨rfl, rfl⟩))
    (fun os started H enc _ => lifted os started H enc)
end Go.Proofs.Ytidlpoambmeiiaa.fnTariffs
namespace Go.Proofs.Ytidlpoambmeiiaa
theorem FnTariffs_holds : Rows.FnTariffsSaid := fnTariffs.proved
#print axioms FnTariffs_holds
end Go.Proofs.Ytidlpoambmeiiaa
