/- What the program's own FormatInt and ParseInt return: contracts, over the library's. Conditions: the library's table of powers of ten and its two error variables read as their initialisers lay them. -/
import Derived.Test.YtcheogmnhooffaaDoorShelf
import Derived.Test.YtcheogmnhooffaaDoorReadOne
import Derived.WalkSmall
import Derived.Sort.Grow
namespace Go.Proofs.YtcheogmnhooffaaDoor.S1
open Go.RowKit Go.Lib P1

def Tab (w : World) : Prop := Lib.TabIs Tryd.prog w "internal/strconv.uint64pow10" .u64 Lib.pow10Tab

theorem var_lt {w : World} {n : String} {g : Nat} {cs : Array Value} (hg : Tryd.prog.globalNamed n = some g) (h : w.var? Tryd.prog n = some cs) : g < w.heap.size := by
  unfold World.var? at h
  rw [hg] at h
  simp only [Option.bind_some] at h
  refine Decidable.byContradiction fun hlt => ?_
  rw [Array.getElem?_eq_none (by omega)] at h
  cases h

theorem Tab.later {w w' : World} (h : Tab w) (hb : Below w.heap.size w w') : Tab w' := by
  have hg : Tryd.prog.globalNamed "internal/strconv.uint64pow10" = some 3 := by kernel_rfl
  exact var?_below hb hg (var_lt hg h) h

theorem below_grow (w : World) (k : Nat) (os : Array Obj) : Below w.heap.size w (Go.Sort.grow (w.drewN k) os) :=
  ⟨rfl, rfl, rfl, by simp [Go.Sort.grow], fun b hb => by simp only [Go.Sort.grow]; exact Array.getElem?_append_left (by simpa using hb)⟩

/-- FormatInt within the bounds. -/
theorem fmt_yes (n : Int) (w : World) (h0 : -999999 ≤ n) (h1 : n ≤ 999999) (ht : Tab w) :
    Calls Tryd.prog 10 #[.int .i64 n] w fun e w' => e = .returned (.tuple #[.string ⟨(itoa n).toArray⟩, .bool true]) ∧ Below w.heap.size w w' := by
  go_enter Tryd.func10, Tryd.ntmps10
  go_wp2_with (go_at_call 23; refine (Tryd.strconv_Itoa n (by omega) (by omega) _ ht).mono ?_; rintro e w' ⟨rfl, k, os, rfl⟩)
  go_ret2
  exact ⟨rfl, below_grow w k os⟩
theorem fmt_no (n : Int) (w : World) (h : n < -999999 ∨ 999999 < n) :
    Calls Tryd.prog 10 #[.int .i64 n] w fun e w' => e = .returned (.tuple #[.string ⟨#[]⟩, .bool false]) ∧ w' = w := by
  rcases h with h | h
  · go_enter Tryd.func10, Tryd.ntmps10
    go_wp2_with fail
    go_ret2
    exact ⟨rfl, rfl⟩
  · have h' : ¬ n < -999999 := by omega
    go_enter Tryd.func10, Tryd.ntmps10
    go_wp2_with fail
    go_ret2
    exact ⟨rfl, rfl⟩

/-- What the two error variables hold: nil, or an error. -/
structure Errs (w : World) : Prop where
  syn : ∃ ev, w.cell? ⟨0, 0, none⟩ = some ev ∧ (ev = .nilIface ∨ ∃ te pe, ev = .iface te pe)
  rng : ∃ ev, w.cell? ⟨1, 0, none⟩ = some ev ∧ (ev = .nilIface ∨ ∃ te pe, ev = .iface te pe)

theorem cell_lt {w : World} {b : Nat} {v : Value} (h : w.cell? ⟨b, 0, none⟩ = some v) : b < w.heap.size := by
  refine Decidable.byContradiction fun hlt => ?_
  unfold World.cell? at h
  rw [Array.getElem?_eq_none (by simpa using hlt)] at h
  cases h

theorem Errs.later {w w' : World} (h : Errs w) (hb : Below w.heap.size w w') : Errs w' := by
  obtain ⟨⟨e1, c1, k1⟩, e2, c2, k2⟩ := h
  exact ⟨⟨e1, (hb.cell (p := ⟨_, 0, none⟩) (cell_lt c1)).trans c1, k1⟩, e2, (hb.cell (p := ⟨_, 0, none⟩) (cell_lt c2)).trans c2, k2⟩

theorem atoi_ok (s : ByteArray) (hs : s.size ≤ 1048576) (v : Int) (h : Lib.atoiAll s.data.toList = .ok v) (w : World) :
    Calls Tryd.prog 28 #[.string s] w fun e w' => e = .returned (.tuple #[.int .i64 v, .nilIface]) ∧ Below w.heap.size w w' :=
  (Tryd.strconv_Atoi_ok s (by omega) v h w).mono fun e w' ⟨he, hw⟩ => ⟨he, by
    rcases hw with rfl | ⟨t, rfl⟩
    · exact Below.refl _ _
    · exact Lib.bytesWorld_below w _ t⟩

theorem atoi_bad (s : ByteArray) (hs : s.size ≤ 1048576) (h : ∀ v, Lib.atoiAll s.data.toList ≠ .ok v) (w : World) (he : Errs w) :
    Calls Tryd.prog 28 #[.string s] w fun e w' => ∃ n N, e = .returned (.tuple #[.int .i64 n, .iface 65 (.pointer (some ⟨N, 0, none⟩))]) ∧ Below w.heap.size w w' := by
  cases hr : Lib.atoiAll s.data.toList
  · exact absurd hr (h _)
  · obtain ⟨ev, hv, hev⟩ := he.syn
    exact (Any.strconv_Atoi_syntax Tryd.laysC172 s (by omega) hr ev w hv hev).mono fun e w' ⟨N, he, _, _, hb⟩ => ⟨_, N, he, hb⟩
  · obtain ⟨ev, hv, hev⟩ := he.rng
    exact (Any.strconv_Atoi_range Tryd.laysC172 s (by omega) hr ev w hv hev).mono fun e w' ⟨N, he, _, _, hb⟩ => ⟨_, N, he, hb⟩

theorem parseL_bad' {l : List UInt8} (h : ∀ v, Lib.atoiAll l ≠ .ok v) : parseL l = none :=
  parseL_none fun n h0 h1 e => h n (by rw [← e]; exact atoi_itoa n h0 h1)

/-- ParseInt of the program. -/
theorem parse_any (s : ByteArray) (hs : s.size ≤ 1048576) (w : World) (ht : Tab w) (he : Errs w) :
    Calls Tryd.prog 13 #[.string s] w fun e w' => e = .returned (.tuple #[.int .i64 ((parseL s.data.toList).getD 0), .bool (parseL s.data.toList).isSome]) ∧ Below w.heap.size w w' := by
  by_cases h : ∃ v, Lib.atoiAll s.data.toList = .ok v
  · obtain ⟨v, hv⟩ := h
    have HA := Lib.hid (fun w => atoi_ok s hs v hv w)
    have HT := Lib.hid ht
    by_cases hr : -999999 ≤ v ∧ v ≤ 999999
    · obtain ⟨h0, h1⟩ := hr
      by_cases hq : itoa v = s.data.toList
      · have hp := parseL_of h0 h1 hq
        rw [hp]
        have hE : (itoa v == s.toList) = true := by rw [Lib.toList_data]; exact beq_iff_eq.2 hq
        clear hp hq hv ht he
        go_enter Tryd.func13, Tryd.ntmps13
        go_wp2_with (go_at_call 28; refine (HA.out _).mono ?_; rintro e w' ⟨rfl, hb⟩; refine Hid.out ?_)
        refine Lib.hid ?_
        have ht1 := Lib.hid (HT.out.later hb)
        go_wp2_with (go_at_call 10; refine (fmt_yes v _ h0 h1 ht1.out).mono ?_; rintro e w'' ⟨rfl, hb2⟩)
        go_ret2
        exact ⟨rfl, hb.trans (hb2.mono hb.size)⟩
      · have hp : parseL s.data.toList = none := by unfold parseL; rw [hv]; simp only; rw [if_neg (by rintro ⟨_, _, e⟩; exact hq e)]
        rw [hp]
        have hE : (itoa v == s.toList) = false := by rw [Lib.toList_data]; exact beq_eq_false_iff_ne.2 hq
        clear hp hq hv ht he
        go_enter Tryd.func13, Tryd.ntmps13
        go_wp2_with (go_at_call 28; refine (HA.out _).mono ?_; rintro e w' ⟨rfl, hb⟩; refine Hid.out ?_)
        refine Lib.hid ?_
        have ht1 := Lib.hid (HT.out.later hb)
        go_wp2_with (go_at_call 10; refine (fmt_yes v _ h0 h1 ht1.out).mono ?_; rintro e w'' ⟨rfl, hb2⟩)
        go_ret2
        exact ⟨rfl, hb.trans (hb2.mono hb.size)⟩
    · have hp : parseL s.data.toList = none := by unfold parseL; rw [hv]; simp only; rw [if_neg (by rintro ⟨a, b, _⟩; exact hr ⟨a, b⟩)]
      rw [hp]
      have HN := Lib.hid (fun w => fmt_no v w (by omega))
      clear hp hv ht he hr
      go_enter Tryd.func13, Tryd.ntmps13
      go_wp2_with (first | (go_at_call 28; refine (HA.out _).mono ?_; rintro e w' ⟨rfl, hb⟩) | (go_at_call 10; refine (HN.out _).mono ?_; rintro e w'' ⟨rfl, rfl⟩))
      go_ret2
      exact ⟨rfl, hb⟩
  · have h' : ∀ v, Lib.atoiAll s.data.toList ≠ .ok v := fun v e => h ⟨v, e⟩
    rw [parseL_bad' h']
    have HB := Lib.hid (fun w => atoi_bad s hs h' w)
    have HE := Lib.hid he
    clear h h' ht he
    go_enter Tryd.func13, Tryd.ntmps13
    go_wp2_with (go_at_call 28; refine (HB.out _ HE.out).mono ?_; rintro e w' ⟨n, N, rfl, hb⟩)
    go_ret2
    exact ⟨rfl, hb⟩
end Go.Proofs.YtcheogmnhooffaaDoor.S1
