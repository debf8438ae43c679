/- The law FnExactJoinStrings returns true for every list of strings and every separator, and leaves its arguments as they were. No conditions. -/
import Derived.Test.YtcheogmnhooffaaRows
import Derived.Test.YtcheogmnhooffaaJoinTwo
import Derived.WalkKit
import Derived.ProofKit
import Derived.OpenShut
import Derived.ShutString
import Derived.ChangeOld
import Derived.Below
import Derived.SliceStrings
namespace Go.Proofs.Ytcheogmnhooffaa.fnExactJoinStrings
open Go.ChangeShapes Go.WideShapes Go.ChangeAt Go.RowKit P1 S1
open Go.ChangeMaps (open_string shut_string)
set_option linter.unusedVariables false

theorem size_le_tot : ∀ (ss : List ByteArray) (j : Nat), j < ss.length → (ss.getD j ByteArray.empty).size ≤ tot ss
  | [], j, h => by simp at h
  | s :: r, 0, _ => by simp [tot]
  | s :: r, j + 1, h => by
    have := size_le_tot r j (by simpa using h)
    have e : tot (s :: r) = s.size + tot r := by simp [tot]
    have e2 : (s :: r).getD (j + 1) ByteArray.empty = r.getD j ByteArray.empty := by simp [List.getD]
    rw [e, e2]; omega

/-! ### The callees, the world behind each call kept abstract -/
theorem sz_b (b off cap : Nat) (ss : List ByteArray) (w : World) (h : At w b off ss) (hn : ss.length ≤ maxLen) (hz : ∀ j, j < ss.length → (ss.getD j ByteArray.empty).size ≤ maxLen) :
    Calls Try.prog 21 #[.slice (some ⟨b, off, none⟩) ss.length cap, .int .i64 1048576] w fun e w' => (∃ r : Int, e = .returned (.int .i64 r) ∧ (r < 0 ∨ (0 ≤ r ∧ ss.length + tot ss ≤ 1048576))) ∧ Below w.heap.size w w' :=
  (sz_any b off cap ss w h hn hz).mono fun e w' ⟨r, he, hr, hw⟩ => ⟨⟨r, he, hr⟩, by rw [hw]; exact Below.refl _ _⟩
theorem to_b (b off cap : Nat) (ss : List ByteArray) (w : World) (h : At w b off ss) (hn : ss.length ≤ 1048576) :
    Calls Try.prog 22 #[.slice (some ⟨b, off, none⟩) ss.length cap] w fun e w' => (∃ g, e = .returned (.slice (some ⟨g, 0, none⟩) ss.length ss.length) ∧ At w' g 0 ss) ∧ Below w.heap.size w w' :=
  (to_any b off cap ss w h hn).mono fun e w' ⟨he, hw⟩ => ⟨⟨_, he, by rw [hw]; exact at_new w ss⟩, by rw [hw]; exact (Below.refl _ _).alloc (Nat.le_refl _) _⟩
theorem eq_b (b off cap b2 off2 cap2 : Nat) (ss : List ByteArray) (w : World) (h : At w b off ss) (h2 : At w b2 off2 ss) (hn : ss.length ≤ 1048576) :
    Calls Try.prog 18 #[.slice (some ⟨b, off, none⟩) ss.length cap, .slice (some ⟨b2, off2, none⟩) ss.length cap2] w fun e w' => e = .returned (.bool true) ∧ Below w.heap.size w w' :=
  (eq_same b off cap b2 off2 cap2 ss w h h2 hn).mono fun e w' ⟨he, d, hw⟩ => ⟨he, by rw [hw]; exact below_drewN (Below.refl _ _) d⟩
theorem sj_b (b off cap : Nat) (ss : List ByteArray) (c : UInt8) (w : World) (h : At w b off ss) (hn : ss.length ≤ 1048576) (h1 : 1 ≤ ss.length) (hz : ∀ j, j < ss.length → (ss.getD j ByteArray.empty).size ≤ 1048576) :
    Calls Try.prog 13 #[.slice (some ⟨b, off, none⟩) ss.length cap, .string ⟨#[c]⟩] w fun e w' => e = .returned (jnV c ss) ∧ Below w.heap.size w w' :=
  (sjoin_some b off cap ss c w h hn h1 hz).mono fun e w' ⟨he, d, hw⟩ => ⟨he, by rw [hw]; exact below_drewN (Below.refl _ _) d⟩

set_option maxHeartbeats 4000000 in
/-- Some parts, a separator of one byte. -/
theorem walk_one (b off cap : Nat) (ss : List ByteArray) (c : UInt8) (w : World) (h : At w b off ss) (h1 : 1 ≤ ss.length) (hm : ss.length ≤ maxLen) (hz : ∀ j, j < ss.length → (ss.getD j ByteArray.empty).size ≤ maxLen) :
    Calls Try.prog 5 #[.slice (some ⟨b, off, none⟩) ss.length cap, .string ⟨#[c]⟩] w fun e w' => e = .returned (.bool true) ∧ Below w.heap.size w w' := by
  have HA := Lib.hid h
  have HZ := Lib.hid hz
  have hs1 : (ByteArray.mk #[c]).size = 1 := rfl
  have HSJ := Lib.hid (fun (b off cap : Nat) (w : World) => sj_b b off cap ss c w)
  have HJ := Lib.hid (fun (b off cap : Nat) (w : World) => join_some b off cap ss c w)
  unfold jnV at HSJ HJ
  generalize (jn c (lists ss)).getD [] = t at *
  generalize (jn c (lists ss)).isSome = ok at *
  clear h hz
  unfold maxLen at hm
  go_enter Try.func5, Try.ntmps5
  go_wp2_with (go_at_call 21; refine (sz_b b off cap ss _ HA.out (by unfold maxLen; omega) HZ.out).mono ?_; rintro e w1 ⟨⟨r, rfl, hr⟩, hb1⟩; refine Hid.out ?_)
  rcases hr with hr | ⟨hr, hsz⟩
  · refine Lib.hid ?_
    go_wp2_with fail
    go_ret
    exact ⟨rfl, hb1⟩
  · have hn : ss.length ≤ 1048576 := by omega
    have hz6 := Lib.hid (fun j (hj : j < ss.length) => Nat.le_trans (size_le_tot ss j hj) (show tot ss ≤ 1048576 by omega))
    clear hsz
    have hA1 := Lib.hid (HA.out.later hb1)
    have HB1 := Lib.hid hb1
    clear hb1
    refine Lib.hid ?_
    go_wp2_with (go_at_call 22; refine (to_b b off cap ss _ hA1.out hn).mono ?_; rintro e w2 ⟨⟨g2, rfl, hg2⟩, hb2⟩; refine Hid.out ?_)
    have hG2 := Lib.hid hg2
    have hA2 := Lib.hid (hA1.out.later hb2)
    have HB2 := Lib.hid (HB1.out.trans (hb2.mono HB1.out.size))
    clear hg2 hb2
    refine Lib.hid ?_
    go_wp2_with (go_at_call 13; refine (HSJ.out g2 0 _ _ hG2.out hn h1 hz6.out).mono ?_; rintro e w3 ⟨rfl, hb3⟩; refine Hid.out ?_)
    have hA3 := Lib.hid (hA2.out.later hb3)
    have HB3 := Lib.hid (HB2.out.trans (hb3.mono HB2.out.size))
    clear hb3 hG2
    refine Lib.hid ?_
    go_wp2_with (go_at_call 22; refine (to_b b off cap ss _ hA3.out hn).mono ?_; rintro e w4 ⟨⟨g4, rfl, hg4⟩, hb4⟩; refine Hid.out ?_)
    have hG4 := Lib.hid hg4
    have hA4 := Lib.hid (hA3.out.later hb4)
    have HB4 := Lib.hid (HB3.out.trans (hb4.mono HB3.out.size))
    clear hg4 hb4
    refine Lib.hid ?_
    go_wp2_with (go_at_call 12; refine (HJ.out g4 0 _ _ hG4.out hn h1 hz6.out).mono ?_; rintro e w5 ⟨rfl, hb5⟩; refine Hid.out ?_)
    have hA5 := Lib.hid (hA4.out.later hb5)
    have hG5 := Lib.hid (hG4.out.later hb5)
    have HB5 := Lib.hid (HB4.out.trans (hb5.mono HB4.out.size))
    clear hb5
    refine Lib.hid ?_
    go_wp2_with (go_at_call 22; refine (to_b b off cap ss _ hA5.out hn).mono ?_; rintro e w6 ⟨⟨g6, rfl, hg6⟩, hb6⟩; refine Hid.out ?_)
    have hG6 := Lib.hid hg6
    have hG5' := Lib.hid (hG5.out.later hb6)
    have HB6 := Lib.hid (HB5.out.trans (hb6.mono HB5.out.size))
    clear hg6 hb6
    refine Lib.hid ?_
    go_wp2_with (go_at_call 18; refine (eq_b g4 0 _ g6 0 _ ss _ hG5'.out hG6.out hn).mono ?_; rintro e w7 ⟨rfl, hb7⟩)
    go_ret
    exact ⟨rfl, HB6.out.trans (hb7.mono HB6.out.size)⟩

set_option maxHeartbeats 4000000 in
/-- Some parts, no separator of one byte. -/
theorem walk_sep (b off cap : Nat) (ss : List ByteArray) (sep : ByteArray) (w : World) (h : At w b off ss) (h1 : 1 ≤ ss.length) (hm : ss.length ≤ maxLen) (hz : ∀ j, j < ss.length → (ss.getD j ByteArray.empty).size ≤ maxLen) (hs : sep.size ≠ 1) (hs2 : sep.size ≤ 1048576) :
    Calls Try.prog 5 #[.slice (some ⟨b, off, none⟩) ss.length cap, .string sep] w fun e w' => e = .returned (.bool true) ∧ Below w.heap.size w w' := by
  have HA := Lib.hid h
  have HZ := Lib.hid hz
  have HSJ := Lib.hid (fun (a : Option Addr) (n cap : Nat) (w : World) => sjoin_sep a n cap sep w hs)
  have HJ := Lib.hid (fun (a : Option Addr) (cap : Nat) (w : World) => join_sep a ss.length cap sep w h1 hs)
  clear h hz hs
  unfold maxLen at hm
  go_enter Try.func5, Try.ntmps5
  go_wp2_with (go_at_call 21; refine (sz_b b off cap ss _ HA.out (by unfold maxLen; omega) HZ.out).mono ?_; rintro e w1 ⟨⟨r, rfl, hr⟩, hb1⟩; refine Hid.out ?_)
  rcases hr with hr | ⟨hr, hsz⟩
  · refine Lib.hid ?_
    go_wp2_with fail
    go_ret
    exact ⟨rfl, hb1⟩
  · have hn : ss.length ≤ 1048576 := by omega
    clear hsz
    have hA1 := Lib.hid (HA.out.later hb1)
    have HB1 := Lib.hid hb1
    clear hb1
    refine Lib.hid ?_
    go_wp2_with (go_at_call 22; refine (to_b b off cap ss _ hA1.out hn).mono ?_; rintro e w2 ⟨⟨g2, rfl, hg2⟩, hb2⟩; refine Hid.out ?_)
    have hA2 := Lib.hid (hA1.out.later hb2)
    have HB2 := Lib.hid (HB1.out.trans (hb2.mono HB1.out.size))
    clear hg2 hb2
    refine Lib.hid ?_
    go_wp2_with (go_at_call 13; refine (HSJ.out _ _ _ _).mono ?_; rintro e w3 ⟨rfl, rfl⟩; refine Hid.out ?_)
    refine Lib.hid ?_
    go_wp2_with (go_at_call 22; refine (to_b b off cap ss _ hA2.out hn).mono ?_; rintro e w4 ⟨⟨g4, rfl, hg4⟩, hb4⟩; refine Hid.out ?_)
    have hG4 := Lib.hid hg4
    have hA4 := Lib.hid (hA2.out.later hb4)
    have HB4 := Lib.hid (HB2.out.trans (hb4.mono HB2.out.size))
    clear hg4 hb4
    refine Lib.hid ?_
    go_wp2_with (go_at_call 12; refine (HJ.out _ _ _).mono ?_; rintro e w5 ⟨rfl, rfl⟩; refine Hid.out ?_)
    refine Lib.hid ?_
    go_wp2_with (go_at_call 22; refine (to_b b off cap ss _ hA4.out hn).mono ?_; rintro e w6 ⟨⟨g6, rfl, hg6⟩, hb6⟩; refine Hid.out ?_)
    have hG6 := Lib.hid hg6
    have hG5' := Lib.hid (hG4.out.later hb6)
    have HB6 := Lib.hid (HB4.out.trans (hb6.mono HB4.out.size))
    clear hg6 hb6
    refine Lib.hid ?_
    go_wp2_with (go_at_call 18; refine (eq_b g4 0 _ g6 0 _ ss _ hG5'.out hG6.out hn).mono ?_; rintro e w7 ⟨rfl, hb7⟩)
    go_ret
    exact ⟨rfl, HB6.out.trans (hb7.mono HB6.out.size)⟩

theorem to_none_b (a : Option Addr) (cap : Nat) (w : World) :
    Calls Try.prog 22 #[.slice a 0 cap] w fun e w' => (∃ g, e = .returned (.slice (some ⟨g, 0, none⟩) 0 0)) ∧ Below w.heap.size w w' :=
  (to_none a cap w).mono fun e w' ⟨he, hw⟩ => ⟨⟨_, he⟩, by rw [hw]; exact (Below.refl _ _).alloc (Nat.le_refl _) _⟩
theorem sj_none_b (a : Option Addr) (cap : Nat) (sep : ByteArray) (w : World) :
    Calls Try.prog 13 #[.slice a 0 cap, .string sep] w fun e w' => e = .returned (.tuple #[.string ⟨#[]⟩, .bool false]) ∧ Below w.heap.size w w' := by
  by_cases h : sep.size = 1
  · exact (sjoin_none a cap sep w h).mono fun e w' ⟨he, hw⟩ => ⟨he, by rw [hw]; exact Below.refl _ _⟩
  · exact (sjoin_sep a 0 cap sep w h).mono fun e w' ⟨he, hw⟩ => ⟨he, by rw [hw]; exact Below.refl _ _⟩
theorem j_none_b (a : Option Addr) (cap : Nat) (sep : ByteArray) (w : World) :
    Calls Try.prog 12 #[.slice a 0 cap, .string sep] w fun e w' => e = .returned (.tuple #[.string ⟨#[]⟩, .bool false]) ∧ Below w.heap.size w w' :=
  (join_none a cap sep w).mono fun e w' ⟨he, hw⟩ => ⟨he, by rw [hw]; exact Below.refl _ _⟩
theorem sz_none_b (a : Option Addr) (cap : Nat) (w : World) :
    Calls Try.prog 21 #[.slice a 0 cap, .int .i64 1048576] w fun e w' => e = .returned (.int .i64 1048576) ∧ Below w.heap.size w w' :=
  (sz_none a cap w).mono fun e w' ⟨he, hw⟩ => ⟨he, by rw [hw]; exact Below.refl _ _⟩

set_option maxHeartbeats 4000000 in
/-- No parts. -/
theorem walk_none (a : Option Addr) (cap : Nat) (sep : ByteArray) (w : World) (hs2 : sep.size ≤ 1048576) :
    Calls Try.prog 5 #[.slice a 0 cap, .string sep] w fun e w' => e = .returned (.bool true) ∧ Below w.heap.size w w' := by
  go_enter Try.func5, Try.ntmps5
  go_wp2_with (go_at_call 21; refine (sz_none_b a cap _).mono ?_; rintro e w1 ⟨rfl, HB1⟩; refine Hid.out ?_)
  refine Lib.hid ?_
  go_wp2_with (go_at_call 22; refine (to_none_b a cap _).mono ?_; rintro e w2 ⟨⟨g2, rfl⟩, hb2⟩; refine Hid.out ?_)
  have HB2 := Lib.hid (HB1.trans (hb2.mono HB1.size))
  clear hb2 HB1
  refine Lib.hid ?_
  go_wp2_with (go_at_call 13; refine (sj_none_b _ _ _ _).mono ?_; rintro e w3 ⟨rfl, hb3⟩; refine Hid.out ?_)
  have HB3 := Lib.hid (HB2.out.trans (hb3.mono HB2.out.size))
  clear hb3 HB2
  refine Lib.hid ?_
  go_wp2_with (go_at_call 22; refine (to_none_b a cap _).mono ?_; rintro e w4 ⟨⟨g4, rfl⟩, hb4⟩; refine Hid.out ?_)
  have HB4 := Lib.hid (HB3.out.trans (hb4.mono HB3.out.size))
  clear hb4 HB3
  refine Lib.hid ?_
  go_wp2_with (go_at_call 12; refine (j_none_b _ _ _ _).mono ?_; rintro e w5 ⟨rfl, hb5⟩; refine Hid.out ?_)
  have HB5 := Lib.hid (HB4.out.trans (hb5.mono HB4.out.size))
  clear hb5 HB4
  refine Lib.hid ?_
  go_wp2_with (go_at_call 22; refine (to_none_b a cap _).mono ?_; rintro e w6 ⟨⟨g6, rfl⟩, hb6⟩; refine Hid.out ?_)
  have HB6 := Lib.hid (HB5.out.trans (hb6.mono HB5.out.size))
  clear hb6 HB5
  refine Lib.hid ?_
  go_wp2_with (go_at_call 18; refine (eq_none _ _ _ _ _).mono ?_; rintro e w7 ⟨rfl, rfl⟩)
  go_ret
  exact ⟨rfl, HB6.out⟩

theorem walk_long (a : Option Addr) (n cap : Nat) (sep : ByteArray) (w : World) (hs2 : 1048576 < sep.size) :
    Calls Try.prog 5 #[.slice a n cap, .string sep] w fun e w' => e = .returned (.bool true) ∧ Below w.heap.size w w' := by
  go_enter Try.func5, Try.ntmps5
  go_wp2_with fail
  go_ret
  exact ⟨rfl, Below.refl _ _⟩

theorem one_byte (sep : ByteArray) (h : sep.size = 1) : ∃ c, sep = ⟨#[c]⟩ := by
  obtain ⟨⟨l⟩⟩ := sep
  match l, h with
  | [c], _ => exact ⟨c, rfl⟩

/-- The law at every argument. -/
theorem walk_at (b off cap : Nat) (ss : List ByteArray) (sep : ByteArray) (w : World) (h : At w b off ss) (hm : ss.length ≤ maxLen) (hz : ∀ j, j < ss.length → (ss.getD j ByteArray.empty).size ≤ maxLen) :
    Calls Try.prog 5 #[.slice (some ⟨b, off, none⟩) ss.length cap, .string sep] w fun e w' => e = .returned (.bool true) ∧ Below w.heap.size w w' := by
  by_cases hs2 : sep.size ≤ 1048576
  · by_cases h1 : 1 ≤ ss.length
    · by_cases hs : sep.size = 1
      · obtain ⟨c, rfl⟩ := one_byte sep hs
        exact walk_one b off cap ss c w h h1 hm hz
      · exact walk_sep b off cap ss sep w h h1 hm hz hs hs2
    · have e : ss = [] := List.length_eq_zero_iff.1 (by omega)
      subst e
      exact walk_none _ cap sep w hs2
  · exact walk_long _ _ cap sep w (by omega)

theorem strs_at {W : World} {a : Addr} {ss : List ByteArray} (h : ∀ i, i < ss.length → W.cell? (a.add i) = some (.string (ss.getD i ByteArray.empty))) (hp : 0 < ss.length) :
    ∃ b off, a = ⟨b, off, none⟩ ∧ ∀ j, j < ss.length → W.cell? ⟨b, off + j, none⟩ = some (.string (ss.getD j ByteArray.empty)) := by
  obtain ⟨b, off, spot⟩ := a
  have hspot : spot = none := by simpa [Addr.add] using World.cell?_spot (h 0 hp)
  subst hspot
  exact ⟨b, off, rfl, fun j hj => by rw [← Go.WideShapes.add_plain]; exact h j hj⟩

theorem own : ownKnob Try.prog.godebug = none := by kernel_rfl
theorem laidOut : laidOutB Try.prog = true := by kernel_rfl
theorem cellsS : Try.prog.cellsOf 9 = 1 := by kernel_rfl

set_option maxRecDepth 100000 in
theorem lifted (os : Os) (started : os.Started) (H : Type) (enc : TypeId × Value → H) :
    ReturnsInHanded {} Try.checked os 5 .any (Rows.fnExactJoinStringsSpec.pre6 enc Try.prog Try.f5 Rows.fnExactJoinStringsRow.domain false) (Rows.fnExactJoinStringsSpec.post enc Try.prog Try.f5 false true false false) := by
  refine returnsInHanded_of_change (C := Try.checked) own started (by kernel_rfl) Try.func5
    (ChangeSpec.witness6 (enc := enc) (C := Try.checked) false ⟨#[], #[.slice none 0 0, .string ByteArray.empty], []⟩ 8 (by kernel_rfl) (by kernel_rfl) (by kernel_rfl) (by kernel_rfl)) ?_
  intro W base args ds gs before hval0 hW hcnd _
  have hval : ∀ (j : Nat) t v, Try.f5.params[j]? = some t → args[j]? = some v → Value.okWide Try.prog W .any base t v := hval0
  have hW' := hW
  obtain ⟨p, q, hA0, hV, rfl, hfz, hnd⟩ := hW
  have hA : DataW.TrodAll enc Try.prog W 0 (fun _ => true) true Try.f5.params.toList args.toList ds p := hA0
  rw [Try.params5] at hA hval
  obtain ⟨v0, v1, d0, d1, p0, p1, rfl, rfl, rfl, h0, h1⟩ := trodAll_two hA
  obtain ⟨rfl, rfl⟩ := trodVars_none hV
  obtain ⟨a0, len0, cap0, rfl⟩ := okWide_slice Try.underlying26 (hval 0 26 v0 rfl rfl)
  have k0 := h0
  have lt0 : ∀ x ∈ p0, x.block < W.heap.size := by obtain ⟨m, hm⟩ := k0; exact DataW.trod_lt m _ _ _ hm
  obtain ⟨a1, rfl, rfl, rfl, w1⟩ := open_string Try.underlying9 (hval 1 9 v1 rfl rfl) h1
  have walk : Calls Try.prog 5 #[.slice a0 len0 cap0, .string a1] W fun e w' => e = .returned (.bool true) ∧ Below W.heap.size W w' := by
    obtain ⟨fuel, hf⟩ := h0
    rcases open_strings Try.underlying26 Try.underlying9 cellsS hf with ⟨hcs, _⟩ | ⟨x, l, c, ss, hcs, _, hl, hm, hz, hx, hcell, hws⟩
    · simp [Value.cells] at hcs
      obtain ⟨rfl, rfl, rfl⟩ := hcs
      by_cases hs2 : a1.size ≤ 1048576
      · exact walk_none _ _ a1 W hs2
      · exact walk_long _ _ _ a1 W (by omega)
    · simp [Value.cells] at hcs
      obtain ⟨rfl, rfl, rfl⟩ := hcs
      by_cases hl0 : len0 = 0
      · subst hl0
        by_cases hs2 : a1.size ≤ 1048576
        · exact walk_none _ _ a1 W hs2
        · exact walk_long _ _ _ a1 W (by omega)
      · have hlen : len0 ≤ ss.length := by
          have : ss.length = if true = true then cap0 else len0 := hz
          simp at this
          omega
        obtain ⟨b, off, rfl, hat⟩ := strs_at hcell (by omega)
        have e : (ss.take len0).length = len0 := by rw [List.length_take]; omega
        have hg : ∀ j, j < (ss.take len0).length → (ss.take len0).getD j ByteArray.empty = ss.getD j ByteArray.empty := fun j hj => by
          rw [e] at hj
          simp only [List.getD, List.getElem?_take]
          rw [if_pos hj]
        have hA : At W b off (ss.take len0) := by
          refine ⟨?_, fun j hj => by rw [hg j hj]; exact hat j (by omega)⟩
          have h00 := hat 0 (by omega)
          refine Decidable.byContradiction fun hlt => ?_
          unfold World.cell? at h00
          rw [Array.getElem?_eq_none (by simpa using hlt)] at h00
          cases h00
        have := walk_at b off cap0 (ss.take len0) a1 W hA (by omega) (fun j hj => by
          rw [hg j hj]
          have hj' : j < ss.length := by omega
          have e2 : ss.getD j ByteArray.empty = ss[j] := by simp [List.getD, hj']
          rw [e2]
          exact hws _ (List.getElem_mem hj'))
        rw [e] at this
        exact this
  clear hA0 hval0
  refine walk.mono fun e W' ⟨he, bel⟩ => ?_
  subst he
  exact ⟨_, rfl, _, _, _, [], _, [], hW', trodAll_mk1 (shut_bool Try.underlying4 _), trodAll_mk2 (Below.trod laidOut (by kernel_rfl) (of_decide_eq_true (by kernel_rfl)) k0 bel lt0) (shut_string Try.underlying9 w1), rfl, bel.frame _, fun h => by cases h⟩

theorem proved : Rows.FnExactJoinStringsSaid :=
  OpenClaim.holds_of_wide 5 Try.f5 rfl rfl rfl rfl rfl rfl rfl ⟨rfl, rfl, rfl, rfl, rfl⟩ rfl rfl rfl rfl rfl (by kernel_rfl) Try.func5 (by kernel_rfl)
    (of_decide_eq_true (by kernel_rfl)) (by unfold Func.isWrapper; first | (rw [if_pos (by decide +kernel)]; kernel_rfl) | (rw [if_neg (by decide +kernel)]; exact ⟨rfl, rfl⟩))
    (fun os started H enc _ => lifted os started H enc)
end Go.Proofs.Ytcheogmnhooffaa.fnExactJoinStrings
namespace Go.Proofs.Ytcheogmnhooffaa
theorem FnExactJoinStrings_holds : Rows.FnExactJoinStringsSaid := fnExactJoinStrings.proved
#print axioms FnExactJoinStrings_holds
end Go.Proofs.Ytcheogmnhooffaa
