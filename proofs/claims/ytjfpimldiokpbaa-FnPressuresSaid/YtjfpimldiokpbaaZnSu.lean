/- The places that a level suits, for the program and the model: contracts. Conditions: each theorem's own premises. -/
import Derived.Test.YtjfpimldiokpbaaZnOne
namespace Go.Proofs.Ytjfpimldiokpbaa.S12
open Go.RowKit P12

/-- A fresh slice of numbers. -/
def Gives1 (w : World) (l : List Int) (e : Ending) (w' : World) : Prop :=
  ∃ g cap, e = .returned (.slice (some ⟨g, 0, none⟩) l.length cap) ∧ w.heap.size ≤ g ∧ IOwn w' w.heap.size (.slice (some ⟨g, 0, none⟩) l.length cap) l ∧ Below w.heap.size w w'
theorem own_empty' (w : World) (o : Obj) : IOwn ((w.alloc o).alloc (.cells #[] 3)) (w.heap.size + 1) (.slice (some ⟨w.heap.size + 1, 0, none⟩) 0 0) [] := by
  have := own_empty (w.alloc o) (w.heap.size + 1) (by simp)
  simpa using this
set_option maxHeartbeats 2000000 in
set_option maxRecDepth 100000 in
theorem suited_any (A : Option Addr) (cap : Nat) (l : List Int) (a b h : Int) (w : World) (hI : IAt w A l) (hq : ZAsk l a b) (hh : -5000 ≤ h ∧ h ≤ 5000) :
    Calls Try.prog 51 #[.slice A l.length cap, rv a b, .int .i64 h] w (Gives1 w (suL l a b h)) := by
  obtain ⟨h0, h1⟩ := hh
  have hn12 := hq.n
  have ha1 := hq.a1
  have hab := hq.ab
  have hb1 := hq.b1
  have HAT := Lib.hid (fun i (hi : i < l.length) => hq.toPl.at_ hi)
  have HIK := Lib.hid (fun w' (hb : Below w.heap.size w w') => hI.kept hb (Nat.le_refl _))
  have hb0 := alloc_below w (rb 25 a b)
  have HO0 := Lib.hid (own_empty' w (rb 25 a b))
  have HT0 := Lib.hid (BT.new w 25 a b)
  have HX0 := Lib.hid (show Below (w.heap.size + 1) (w.alloc (rb 25 a b)) ((w.alloc (rb 25 a b)).alloc (.cells #[] 3)) from (Below.refl _ _).alloc (by simp) _)
  obtain ⟨i0, hi, hz0, hz1, hz2⟩ := info_parts infoI
  clear hI hb0 hq
  go_enter Try.func51, Try.ntmps51
  go_wp2
  go_loopw [7, 13] (fun v i wr => ∃ k : Nat, k ≤ l.length ∧ i = .int .i64 (k : Int) ∧ Hid (IOwn wr (w.heap.size + 1) v (suF l a b h k)) ∧ Hid (v ≠ .slice none 0 0) ∧ Hid (Below (w.heap.size + 1) (w.alloc (rb 25 a b)) wr)) (fun _ i _ => l.length - (intOf i).toNat)
  case atStart => exact ⟨0, Nat.zero_le _, rfl, HO0, Lib.hid (by simp), HX0⟩
  case round =>
    clear HO0 HX0
    obtain ⟨k, hk, rfl, hown, hvn, hB⟩ := hrel
    have hzB := hB.out.size
    simp at hzB
    by_cases hlt : k < l.length
    · obtain ⟨bb, off, hA, hbl, p0⟩ := (HIK.out _ (below_box hB.out)).at_ hlt
      subst hA
      obtain ⟨_, q0, q1⟩ := HT0.out.keep hB.out (by omega)
      obtain ⟨x0, x1⟩ := HAT.out k hlt
      have hk0 : (0 : Int) ≤ (k : Int) := by omega
      have hkn : (k : Int) < (l.length : Int) := by omega
      have hfl := suF_len l a b h k
      cases hs : suB (l.getD k 0) a b h with
      | true =>
        have hsn := Lib.hid (suF_yes hs)
        have HS := Lib.hid hs
        clear hs
        generalize l.getD k 0 = y at *
        go_wp2_with (first
          | (go_at_call 54; refine (lev_any _ _ _ _ ⟨x0, x1⟩ (by omega) (by omega)).mono ?_; rintro e wx ⟨rfl, hbx⟩; have HBX := Lib.hid hbx; clear hbx)
          | (go_at_call 59; refine (has_su _ _ _ _ _).mono ?_; rintro e wy ⟨rfl, hby⟩; rw [HS.out]; have HBY := Lib.hid (HBX.out.trans (hby.mono HBX.out.size)); clear hby HBX; refine Hid.out ?_))
        have hBy := Lib.hid (hB.out.trans (HBY.out.mono (by omega)))
        have ho := hown.out.on HBY.out
        unfold IOwn at ho
        clear HBY q0 q1 p0
        refine Lib.hid ?_
        go_wp2_with (at_builtin; go_must (refine wpList_append_own _ rfl _ _ 28 rfl (w.heap.size + 1) 3 i0 (.int .i64 0) 1 8 Try.underlying28 hi hz0 hz1 hz2 rfl (by decide) _ _ _ rfl (ho.alloc _) ⟨wy.heap.size, 0, none⟩ 1 1 [iv (k : Int)] rfl rfl (cell_one_new _ _ _) (by intro u hu; simp at hu; subst hu; rfl) (by unfold maxLen; omega) (by omega) (by have := hBy.out.size; simp at this ⊢; omega) ?_); intro v' w7 hown' hgrow hnil)
        have hown3 := Lib.hid (IOwn.push hown')
        rw [← hsn.out] at hown3
        have hB7 := Lib.hid ((hBy.out.alloc (by have := hBy.out.size; simpa using this) (.cells #[iv (k : Int)] 3)).grown hgrow (by have := hBy.out.size; simp at this ⊢; omega) (fun g hg => (ho.lt g hg).1))
        have hnil3 := Lib.hid (show v' ≠ .slice none 0 0 from fun e => by simp [e] at hnil)
        clear hown' hgrow hnil ho
        go_wp2
        go_roundw
        case rel => exact ⟨k + 1, by omega, by go_num, hown3, hnil3, hB7⟩
        case measure => simp [intOf]; omega
      | false =>
        have hsn := Lib.hid (suF_no hs)
        have HS := Lib.hid hs
        clear hs
        generalize l.getD k 0 = y at *
        go_wp2_with (first
          | (go_at_call 54; refine (lev_any _ _ _ _ ⟨x0, x1⟩ (by omega) (by omega)).mono ?_; rintro e wx ⟨rfl, hbx⟩; have HBX := Lib.hid hbx; clear hbx)
          | (go_at_call 59; refine (has_su _ _ _ _ _).mono ?_; rintro e wy ⟨rfl, hby⟩; rw [HS.out]; have HBY := Lib.hid (HBX.out.trans (hby.mono HBX.out.size)); clear hby HBX; refine Hid.out ?_))
        have hBy := Lib.hid (hB.out.trans (HBY.out.mono (by omega)))
        have ho := Lib.hid (hown.out.on HBY.out)
        rw [← hsn.out] at ho
        clear HBY q0 q1 p0
        refine Lib.hid ?_
        go_wp2
        go_roundw
        case rel => exact ⟨k + 1, by omega, by go_num, ho, hvn, hBy⟩
        case measure => simp [intOf]; omega
    · have hkN : k = l.length := by omega
      have hown2 := hown.out
      rw [hkN] at hown2
      change IOwn wr (w.heap.size + 1) _ (suL l a b h) at hown2
      obtain ⟨g', capg, rfl, hg'⟩ := own_slice hown2 hvn.out
      have HO := Lib.hid hown2
      clear hkN hown2
      go_wp2
      go_ret
      exact ⟨g', capg, rfl, by omega, own_lower HO.out, below_box hB.out⟩
set_option maxHeartbeats 2000000 in
set_option maxRecDepth 100000 in
theorem ssuited_any (A : Option Addr) (cap : Nat) (l : List Int) (a b h : Int) (w : World) (hI : IAt w A l) (hq : ZAsk l a b) (hh : -5000 ≤ h ∧ h ≤ 5000) :
    Calls Try.prog 48 #[.slice A l.length cap, rv a b, .int .i64 h] w (Gives1 w (suL l a b h)) := by
  obtain ⟨h0, h1⟩ := hh
  have hn12 := hq.n
  have ha1 := hq.a1
  have hab := hq.ab
  have hb1 := hq.b1
  have HAT := Lib.hid (fun i (hi : i < l.length) => hq.toPl.at_ hi)
  have HIK := Lib.hid (fun w' (hb : Below w.heap.size w w') => hI.kept hb (Nat.le_refl _))
  have hb0 := alloc_below w (rb 25 a b)
  have HO0 := Lib.hid (own_empty' w (rb 25 a b))
  have HT0 := Lib.hid (BT.new w 25 a b)
  have HX0 := Lib.hid (show Below (w.heap.size + 1) (w.alloc (rb 25 a b)) ((w.alloc (rb 25 a b)).alloc (.cells #[] 3)) from (Below.refl _ _).alloc (by simp) _)
  obtain ⟨i0, hi, hz0, hz1, hz2⟩ := info_parts infoI
  clear hI hb0 hq
  go_enter Try.func48, Try.ntmps48
  go_wp2
  go_loopw [7, 8] (fun v i wr => ∃ k : Nat, k ≤ l.length ∧ i = .int .i64 (k : Int) ∧ Hid (IOwn wr (w.heap.size + 1) v (suF l a b h k)) ∧ Hid (v ≠ .slice none 0 0) ∧ Hid (Below (w.heap.size + 1) (w.alloc (rb 25 a b)) wr)) (fun _ i _ => l.length - (intOf i).toNat)
  case atStart => exact ⟨0, Nat.zero_le _, rfl, HO0, Lib.hid (by simp), HX0⟩
  case round =>
    clear HO0 HX0
    obtain ⟨k, hk, rfl, hown, hvn, hB⟩ := hrel
    have hzB := hB.out.size
    simp at hzB
    by_cases hlt : k < l.length
    · obtain ⟨bb, off, hA, hbl, p0⟩ := (HIK.out _ (below_box hB.out)).at_ hlt
      subst hA
      obtain ⟨_, q0, q1⟩ := HT0.out.keep hB.out (by omega)
      obtain ⟨x0, x1⟩ := HAT.out k hlt
      have hk0 : (0 : Int) ≤ (k : Int) := by omega
      have hkn : (k : Int) < (l.length : Int) := by omega
      have hfl := suF_len l a b h k
      cases hs : suB (l.getD k 0) a b h with
      | true =>
        have hsn := Lib.hid (suF_yes hs)
        have HS := Lib.hid hs
        clear hs
        generalize l.getD k 0 = y at *
        go_wp2
        have hG := @cell_g
        have hz0' : w.heap.size < wr.heap.size := by omega
        have HCL := Lib.hid (fun w' => by have := ssu_any y a b h w' ⟨x0, x1⟩ ⟨h0, h1⟩; rw [HS.out] at this; exact this)
        refine region_below (by kernel_rfl) (by kernel_rfl) ?_
        repeat (first | go_big_quiet_step ((go_at_call 60; exact met HCL.out)))
        refine wpQuiet_nil ?_
        intro wy hby
        have HBY := Lib.hid hby
        clear hby hG
        refine Hid.out ?_
        have hBy := Lib.hid (hB.out.trans (HBY.out.mono (by omega)))
        have ho := hown.out.on HBY.out
        unfold IOwn at ho
        clear HBY q0 q1 p0
        refine Lib.hid ?_
        go_wp2_with (at_builtin; go_must (refine wpList_append_own _ rfl _ _ 28 rfl (w.heap.size + 1) 3 i0 (.int .i64 0) 1 8 Try.underlying28 hi hz0 hz1 hz2 rfl (by decide) _ _ _ rfl (ho.alloc _) ⟨wy.heap.size, 0, none⟩ 1 1 [iv (k : Int)] rfl rfl (cell_one_new _ _ _) (by intro u hu; simp at hu; subst hu; rfl) (by unfold maxLen; omega) (by omega) (by have := hBy.out.size; simp at this ⊢; omega) ?_); intro v' w7 hown' hgrow hnil)
        have hown3 := Lib.hid (IOwn.push hown')
        rw [← hsn.out] at hown3
        have hB7 := Lib.hid ((hBy.out.alloc (by have := hBy.out.size; simpa using this) (.cells #[iv (k : Int)] 3)).grown hgrow (by have := hBy.out.size; simp at this ⊢; omega) (fun g hg => (ho.lt g hg).1))
        have hnil3 := Lib.hid (show v' ≠ .slice none 0 0 from fun e => by simp [e] at hnil)
        clear hown' hgrow hnil ho
        go_wp2
        go_roundw
        case rel => exact ⟨k + 1, by omega, by go_num, hown3, hnil3, hB7⟩
        case measure => simp [intOf]; omega
      | false =>
        have hsn := Lib.hid (suF_no hs)
        have HS := Lib.hid hs
        clear hs
        generalize l.getD k 0 = y at *
        go_wp2
        have hG := @cell_g
        have hz0' : w.heap.size < wr.heap.size := by omega
        have HCL := Lib.hid (fun w' => by have := ssu_any y a b h w' ⟨x0, x1⟩ ⟨h0, h1⟩; rw [HS.out] at this; exact this)
        refine region_below (by kernel_rfl) (by kernel_rfl) ?_
        repeat (first | go_big_quiet_step ((go_at_call 60; exact met HCL.out)))
        refine wpQuiet_nil ?_
        intro wy hby
        have HBY := Lib.hid hby
        clear hby hG
        refine Hid.out ?_
        have hBy := Lib.hid (hB.out.trans (HBY.out.mono (by omega)))
        have ho := Lib.hid (hown.out.on HBY.out)
        rw [← hsn.out] at ho
        clear HBY q0 q1 p0
        refine Lib.hid ?_
        go_wp2
        go_roundw
        case rel => exact ⟨k + 1, by omega, by go_num, ho, hvn, hBy⟩
        case measure => simp [intOf]; omega
    · have hkN : k = l.length := by omega
      have hown2 := hown.out
      rw [hkN] at hown2
      change IOwn wr (w.heap.size + 1) _ (suL l a b h) at hown2
      obtain ⟨g', capg, rfl, hg'⟩ := own_slice hown2 hvn.out
      have HO := Lib.hid hown2
      clear hkN hown2
      go_wp2
      go_ret
      exact ⟨g', capg, rfl, by omega, own_lower HO.out, below_box hB.out⟩
end Go.Proofs.Ytjfpimldiokpbaa.S12
