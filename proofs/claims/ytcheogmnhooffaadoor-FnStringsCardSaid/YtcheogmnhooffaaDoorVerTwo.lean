/- What the program's VerifyChecksum returns, and the library's Cut and Clone as it calls them: contracts. Conditions: each theorem's own premises. -/
import Derived.Test.YtcheogmnhooffaaDoorVerOne
namespace Go.Proofs.YtcheogmnhooffaaDoor.S1
open Go.RowKit P1

theorem body_take (l : List UInt8) (o : Nat) (h : l[o]? = some 35) (hn : ∀ k, k < o → l[k]? ≠ some 35) : bodyOf l = l.take o := by
  have hlt : o < l.length := (List.getElem?_eq_some_iff.1 h).1
  have e : l = l.take o ++ 35 :: l.drop (o + 1) := by
    conv => lhs; rw [← List.take_append_drop o l]
    rw [List.drop_eq_getElem_cons hlt, (List.getElem?_eq_some_iff.1 h).2]
  conv => lhs; rw [e]
  refine takeWhile_stop _ _ fun hm => ?_
  obtain ⟨k, hk, hk2⟩ := List.getElem_of_mem hm
  have hko : k < o := by have := List.length_take_le o l; rw [List.length_take] at hk; omega
  refine hn k hko ?_
  rw [List.getElem_take] at hk2
  exact List.getElem?_eq_some_iff.2 ⟨by omega, hk2⟩

/-- strings.Cut at the byte 35: found. -/
theorem lcut_yes (s : ByteArray) (w : World) (hs : s.size ≤ 1048576) (h : stB s.data.toList 35 = true) :
    Calls Tryd.prog 44 #[.string s, .string ⟨#[35]⟩] w fun e w' => (∃ x, e = .returned (.tuple #[.string (bodyB s), .string x, .bool true])) ∧ ∃ d, w' = w.drewN d := by
  obtain ⟨o, ho⟩ : ∃ o : Nat, Lib.indexByte s.data.toList 35 = (o : Int) := by
    rw [← index_mem] at h
    have := of_decide_eq_true h
    exact ⟨_, (Int.toNat_of_nonneg this).symm⟩
  have hsome := Lib.indexByte_some ho
  have hlt : o < s.size := by have := (List.getElem?_eq_some_iff.1 hsome.1).1; simpa using this
  have hbody : s.extract 0 o = bodyB s := by
    apply ByteArray.ext
    rw [← Array.toList_inj, Lib.extract_data, bodyB_list, body_take _ _ hsome.1 hsome.2]
    simp
  have H := Lib.hid (fun w => Tryd.stringslite_Index_one s 35 w)
  rw [ho] at H
  have hw1 : IntKind.i64.wrap ((o : Int) + 1) = (o : Int) + 1 := IntWalk.i64_in _ (by omega)
  have hs1 : ∀ wx : World, (Instr.slice 9 (.string s) none (some (.int .i64 (o : Int))) none).run Tryd.prog wx = .ok (.string (bodyB s)) wx := fun wx => by
    rw [run_slice_string_to_if wx 9 s .i64 _ Tryd.underlying9, if_pos (by omega), Int.toNat_natCast, hbody]
  have hs2 : ∀ wx : World, (Instr.slice 9 (.string s) (some (.int .i64 ((o : Int) + 1))) none none).run Tryd.prog wx = .ok (.string (s.extract (o + 1) s.size)) wx := fun wx => by
    rw [run_slice_string_from_if wx 9 s .i64 _ Tryd.underlying9, if_pos (by omega), show ((o : Int) + 1).toNat = o + 1 by omega]
  clear ho hsome hbody h
  generalize bodyB s = T at *
  go_enter Tryd.func44, Tryd.ntmps44
  go_wp2_with (go_at_call 52; refine (H.out _).mono ?_; rintro e w' ⟨rfl, rfl⟩)
  go_quiet (fail)
  go_wp2
  go_ret3
  exact ⟨⟨_, rfl⟩, nq, rfl⟩
theorem lcut_no (s : ByteArray) (w : World) (h : stB s.data.toList 35 = false) :
    Calls Tryd.prog 44 #[.string s, .string ⟨#[35]⟩] w fun e w' => e = .returned (.tuple #[.string s, .string ⟨#[]⟩, .bool false]) ∧ w' = w := by
  have ho : Lib.indexByte s.data.toList 35 = -1 := by
    rw [← index_mem] at h
    have h1 := of_decide_eq_false h
    have h2 := Lib.indexByte_ge s.data.toList 35
    omega
  have H := Lib.hid (fun w => Tryd.stringslite_Index_one s 35 w)
  rw [ho] at H
  clear ho h
  go_enter Tryd.func44, Tryd.ntmps44
  go_wp2_with (go_at_call 52; refine (H.out _).mono ?_; rintro e w' ⟨rfl, rfl⟩)
  go_ret3
  exact ⟨rfl, rfl⟩

theorem cut_yes (s : ByteArray) (w : World) (hs : s.size ≤ 1048576) (h : stB s.data.toList 35 = true) :
    Calls Tryd.prog 35 #[.string s, .string ⟨#[35]⟩] w fun e w' => (∃ x, e = .returned (.tuple #[.string (bodyB s), .string x, .bool true])) ∧ ∃ d, w' = w.drewN d := by
  have H := Lib.hid (fun w => lcut_yes s w hs h)
  clear h
  generalize bodyB s = T at *
  go_enter Tryd.func35, Tryd.ntmps35
  go_wp2_with (go_at_call 44; refine (H.out _).mono ?_; rintro e w' ⟨⟨x, rfl⟩, d, rfl⟩)
  go_ret3
  exact ⟨⟨_, rfl⟩, d, rfl⟩
theorem cut_no (s : ByteArray) (w : World) (h : stB s.data.toList 35 = false) :
    Calls Tryd.prog 35 #[.string s, .string ⟨#[35]⟩] w fun e w' => e = .returned (.tuple #[.string s, .string ⟨#[]⟩, .bool false]) ∧ w' = w := by
  have H := Lib.hid (fun w => lcut_no s w h)
  clear h
  go_enter Tryd.func35, Tryd.ntmps35
  go_wp2_with (go_at_call 44; refine (H.out _).mono ?_; rintro e w' ⟨rfl, rfl⟩)
  go_ret3
  exact ⟨rfl, rfl⟩

/-- strings.Clone. -/
theorem clone_any (s : ByteArray) (w : World) (hs : s.size ≤ 1048576) :
    Calls Tryd.prog 36 #[.string s] w fun e w' => e = .returned (.string s) ∧ Below w.heap.size w w' := by
  go_enter Tryd.func36, Tryd.ntmps36
  go_wp2_with (go_at_call 45; refine (Tryd.stringslite_Clone s _ (by omega)).mono ?_; rintro e w' ⟨rfl, hb⟩)
  go_ret
  exact ⟨rfl, hb⟩

theorem mem_seal (s : ByteArray) (h : stB s.data.toList 35 = false) : (sealB (bodyB s)).toList ≠ s.toList := by
  intro e
  have hno : (35 : UInt8) ∉ s.data.toList := of_decide_eq_false h
  rw [Lib.toList_data, Lib.toList_data] at e
  rw [← e] at hno
  simp [sealB, sealL] at hno

/-- VerifyChecksum of the program. -/
theorem ver_any (s : ByteArray) (hs : s.size ≤ 1048576) (w : World) (ht : Tab w) :
    Calls Tryd.prog 18 #[.string s] w fun e w' => e = .returned (verV s.data.toList) ∧ Below w.heap.size w w' := by
  by_cases hm : stB s.data.toList 35 = true
  · have H1 := Lib.hid (fun w => cut_yes s w hs hm)
    have hbs := bodyB_size s
    have HT := Lib.hid ht
    by_cases ha : AppOk (bodyB s)
    · have H2 := Lib.hid (fun w ht => app_yes (bodyB s) w ht ha)
      by_cases he : ((sealB (bodyB s)).toList == s.toList) = true
      · have hsz : s.size ≤ 4000 := by
          have e1 := congrArg List.length (beq_iff_eq.1 he)
          rw [Lib.toList_data, Lib.toList_data] at e1
          have e2 := ha.fits
          simp at e1
          omega
        have hfin := Lib.hid (verV_some s hsz (beq_iff_eq.1 he))
        have H3 := Lib.hid (fun w => clone_any (bodyB s) w (by omega))
        clear hm ha ht hbs hsz
        generalize bodyB s = T at *
        generalize sealB T = Z at *
        go_enter Tryd.func18, Tryd.ntmps18
        go_wp2_with (go_at_call 35; refine (H1.out _).mono ?_; rintro e w1 ⟨⟨x, rfl⟩, d, rfl⟩; refine Hid.out ?_)
        refine Lib.hid ?_
        have ht1 := Lib.hid (HT.out.later (below_drewN (Below.refl _ w) d))
        go_wp2_with (first | (go_at_call 16; refine (H2.out _ ht1.out).mono ?_; rintro e w2 ⟨rfl, hb⟩) | (go_at_call 36; refine (H3.out _).mono ?_; rintro e w3 ⟨rfl, hb3⟩))
        go_ret2
        exact ⟨congrArg Ending.returned hfin.out.symm, ((below_drewN (Below.refl _ w) d).trans hb).trans (hb3.mono hb.size)⟩
      · have hfin := Lib.hid (verV_none s (fun h => he (beq_iff_eq.2 h.2)))
        rw [Bool.not_eq_true] at he
        clear hm ha ht hbs
        generalize bodyB s = T at *
        generalize sealB T = Z at *
        go_enter Tryd.func18, Tryd.ntmps18
        go_wp2_with (go_at_call 35; refine (H1.out _).mono ?_; rintro e w1 ⟨⟨x, rfl⟩, d, rfl⟩; refine Hid.out ?_)
        refine Lib.hid ?_
        have ht1 := Lib.hid (HT.out.later (below_drewN (Below.refl _ w) d))
        go_wp2_with (go_at_call 16; refine (H2.out _ ht1.out).mono ?_; rintro e w2 ⟨rfl, hb⟩)
        go_ret2
        exact ⟨congrArg Ending.returned hfin.out.symm, (below_drewN (Below.refl _ w) d).trans hb⟩
    · have H2 := Lib.hid (fun w ht => app_no (bodyB s) w ht ha)
      have hfin := Lib.hid (verV_none s (fun h => ha (by
        have e1 := congrArg List.length h.2
        rw [Lib.toList_data, Lib.toList_data] at e1
        simp at e1
        refine ⟨by omega, ?_, by omega⟩
        rw [bodyB_list]; exact decide_eq_false (bodyOf_no _))))
      clear hm ha ht hbs
      generalize bodyB s = T at *
      go_enter Tryd.func18, Tryd.ntmps18
      go_wp2_with (go_at_call 35; refine (H1.out _).mono ?_; rintro e w1 ⟨⟨x, rfl⟩, d, rfl⟩; refine Hid.out ?_)
      refine Lib.hid ?_
      have ht1 := Lib.hid (HT.out.later (below_drewN (Below.refl _ w) d))
      go_wp2_with (go_at_call 16; refine (H2.out _ ht1.out).mono ?_; rintro e w2 ⟨rfl, hb⟩)
      go_ret2
      exact ⟨congrArg Ending.returned hfin.out.symm, (below_drewN (Below.refl _ w) d).trans hb⟩
  · rw [Bool.not_eq_true] at hm
    have H1 := Lib.hid (fun w => cut_no s w hm)
    have hfin := Lib.hid (verV_none s (fun h => mem_seal s hm h.2))
    clear hm ht
    go_enter Tryd.func18, Tryd.ntmps18
    go_wp2_with (go_at_call 35; refine (H1.out _).mono ?_; rintro e w1 ⟨rfl, rfl⟩)
    go_ret2
    exact ⟨congrArg Ending.returned hfin.out.symm, Below.refl _ _⟩
end Go.Proofs.YtcheogmnhooffaaDoor.S1
