/- What the model's and the program's VerifyChecksum return: contracts. Conditions: each theorem's own premises. -/
import Derived.Test.YtcheogmnhooffaaDoorAppOne
import Derived.Test.YtcheogmnhooffaaDoorSplitOne
namespace Go.Proofs.YtcheogmnhooffaaDoor.S1
open Go.RowKit P1

/-- What a slice of the call's own holds, cell by cell. -/
theorem OwnStrs.at {B : Nat} {v : Value} {ps : List (List UInt8)} {w : World} (h : OwnStrs B v ps w) (hne : ps ≠ []) :
    ∃ g cap, v = .slice (some ⟨g, 0, none⟩) ps.length cap ∧ B ≤ g ∧ ∀ (j : Nat) (hj : j < ps.length), w.cell? ⟨g, j, none⟩ = some (strV ps[j]) := by
  have hc := fun g (hg : v.ownBlock = some g) => World.ownsRow.cells h hg
  rcases h.2 with ⟨_, h0⟩ | ⟨g, cap, cur, rfl, hb, _, _⟩
  · exact absurd (List.length_eq_zero_iff.1 h0) hne
  · refine ⟨g, cap, rfl, hb, fun j hj => ?_⟩
    have := hc g rfl j (strV ps[j]) (by simp [hj])
    by_cases h0 : j = 0
    · subst h0; simpa [Addr.add] using this
    · simpa [Addr.add, h0] using this
theorem head_at (l : List (List UInt8)) (h : 0 < l.length) : l[0] = l.headD [] := by
  cases l with
  | nil => simp at h
  | cons a r => rfl

def bodyB (s : ByteArray) : ByteArray := ⟨(bodyOf s.data.toList).toArray⟩
theorem bodyB_list (s : ByteArray) : (bodyB s).data.toList = bodyOf s.data.toList := by simp [bodyB]
theorem body_le (l : List UInt8) : (bodyOf l).length ≤ l.length := (List.takeWhile_sublist _).length_le
theorem bodyB_size (s : ByteArray) : (bodyB s).size ≤ s.size := by
  have h := body_le s.data.toList
  have e1 : s.data.toList.length = s.size := by simp
  have e2 : (bodyB s).size = (bodyOf s.data.toList).length := by simp [bodyB, ByteArray.size]
  omega

/-- The text and true, or nothing and false. -/
def verV (l : List UInt8) : Value := .tuple #[.string ⟨((verL l).getD []).toArray⟩, .bool (verL l).isSome]
theorem verV_some (s : ByteArray) (h1 : s.size ≤ 4000) (h2 : (sealB (bodyB s)).toList = s.toList) : verV s.data.toList = .tuple #[.string (bodyB s), .bool true] := by
  rw [Lib.toList_data, Lib.toList_data] at h2
  have e : (sealB (bodyB s)).data.toList = sealL (bodyOf s.data.toList) := by rw [← bodyB_list]; simp [sealB]
  rw [e] at h2
  have e2 : s.data.toList.length = s.size := by simp
  have hv : verL s.data.toList = some (bodyOf s.data.toList) := by unfold verL; rw [if_pos ⟨by rw [e2]; exact h1, h2⟩]
  unfold verV
  rw [hv]; rfl
theorem verV_none (s : ByteArray) (h : ¬ (s.size ≤ 4000 ∧ (sealB (bodyB s)).toList = s.toList)) : verV s.data.toList = .tuple #[.string ⟨#[]⟩, .bool false] := by
  have hv : verL s.data.toList = none := by
    unfold verL
    rw [if_neg]
    rintro ⟨a, b⟩
    refine h ⟨by simpa using a, ?_⟩
    rw [Lib.toList_data, Lib.toList_data]
    have e : (sealB (bodyB s)).data.toList = sealL (bodyOf s.data.toList) := by rw [← bodyB_list]; simp [sealB]
    rw [e, b]
  unfold verV
  rw [hv]; rfl

/-- VerifyChecksum of the model. -/
theorem sver_any (s : ByteArray) (w : World) (hs : s.size ≤ 1048576) :
    Calls Tryd.prog 20 #[.string s] w fun e w' => e = .returned (verV s.data.toList) ∧ Below w.heap.size w w' := by
  by_cases h1 : s.size ≤ 4000
  · have H1 := Lib.hid (fun w => split_any s 35 35 c35 w hs)
    have hbs := bodyB_size s
    have H2 := Lib.hid (fun w => seal_any (bodyB s) w (by omega))
    have hhead : Hid ((splitL 35 s.data.toList).headD [] = bodyOf s.data.toList) := Lib.hid (splitL_head _)
    have hne := Lib.hid (splitL_ne 35 s.data.toList)
    have hbb : Hid (strV (bodyOf s.data.toList) = .string (bodyB s)) := Lib.hid rfl
    by_cases he : ((sealB (bodyB s)).toList == s.toList) = true
    · have hfin := Lib.hid (verV_some s h1 (beq_iff_eq.1 he))
      generalize bodyB s = T at *
      generalize sealB T = Z at *
      go_enter Tryd.func20, Tryd.ntmps20
      go_wp2_with (go_at_call 37; refine (H1.out _).mono ?_; rintro e w1 ⟨v, rfl, hown, hb⟩; refine Hid.out ?_)
      obtain ⟨g, cap, rfl, _, hcell⟩ := hown.at hne.out
      have hpos : 0 < (splitL 35 s.data.toList).length := List.length_pos_iff.2 hne.out
      have hc0 : w1.cell? ⟨g, 0, none⟩ = some (.string T) := by
        rw [hcell 0 hpos, ← hbb.out, ← hhead.out, head_at _ hpos]
      clear hcell hown
      generalize (splitL 35 s.data.toList).length = n at *
      refine Lib.hid ?_
      go_wp2_with (go_at_call 34; refine (H2.out _).mono ?_; rintro e w2 ⟨rfl, d, rfl⟩)
      go_ret2
      exact ⟨congrArg Ending.returned hfin.out.symm, below_drewN hb d⟩
    · have hfin := Lib.hid (verV_none s (fun h => he (beq_iff_eq.2 h.2)))
      rw [Bool.not_eq_true] at he
      generalize bodyB s = T at *
      generalize sealB T = Z at *
      go_enter Tryd.func20, Tryd.ntmps20
      go_wp2_with (go_at_call 37; refine (H1.out _).mono ?_; rintro e w1 ⟨v, rfl, hown, hb⟩; refine Hid.out ?_)
      obtain ⟨g, cap, rfl, _, hcell⟩ := hown.at hne.out
      have hpos : 0 < (splitL 35 s.data.toList).length := List.length_pos_iff.2 hne.out
      have hc0 : w1.cell? ⟨g, 0, none⟩ = some (.string T) := by
        rw [hcell 0 hpos, ← hbb.out, ← hhead.out, head_at _ hpos]
      clear hcell hown
      generalize (splitL 35 s.data.toList).length = n at *
      refine Lib.hid ?_
      go_wp2_with (go_at_call 34; refine (H2.out _).mono ?_; rintro e w2 ⟨rfl, d, rfl⟩)
      go_ret2
      exact ⟨congrArg Ending.returned hfin.out.symm, below_drewN hb d⟩
  · have hfin := Lib.hid (verV_none s (fun h => h1 h.1))
    go_enter Tryd.func20, Tryd.ntmps20
    go_wp2_with fail
    go_ret2
    exact ⟨congrArg Ending.returned hfin.out.symm, Below.refl _ _⟩
end Go.Proofs.YtcheogmnhooffaaDoor.S1
