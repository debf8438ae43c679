/- SuitedPlaces of the program and of the model: contracts. Conditions: each theorem's own premises. -/
import Derived.Test.YtjfpimldiokpbaaZnSu
namespace Go.Proofs.Ytjfpimldiokpbaa.S12
open Go.RowKit P12

theorem gives_none {w w1 : World} (h : Below w.heap.size w w1) : GivesI w [] false (.returned (.tuple #[.slice (some ⟨w1.heap.size, 0, none⟩) 0 0, .bool false])) (w1.alloc (.cells #[] 3)) :=
  ⟨_, 0, rfl, h.size, own_lower (own_empty w1 w1.heap.size (Nat.le_refl _)) h.size, h.alloc h.size _⟩
def sqB (l : List Int) (a b h : Int) : Bool := askB l a b && lvB h
set_option maxHeartbeats 1000000 in
theorem sp_no (A : Option Addr) (cap : Nat) (l : List Int) (a b h : Int) (w : World) (hI : IAt w A l) (hl : l.length ≤ 1048576) (hv : sqB l a b h = false) :
    Calls Try.prog 19 #[.slice A l.length cap, rv a b, .int .i64 h] w (GivesI w [] false) := by
  have HB0 := Lib.hid (alloc_below w (rb 25 a b))
  have HA := Lib.hid (fun w' (hb : Below w.heap.size w w') => ask_any A cap l a b w' (hI.kept hb (Nat.le_refl _)) hl)
  have HL := Lib.hid (fun w => lv_any h w)
  have HT0 := Lib.hid (BT.new w 25 a b)
  unfold sqB at hv
  clear hI
  generalize askB l a b = v1 at *
  generalize lvB h = v2 at *
  cases v1 with
  | false =>
    clear hv
    go_enter Try.func19, Try.ntmps19
    refine Hid.out ?_
    obtain ⟨_, q0, q1⟩ := HT0.out
    refine Lib.hid ?_
    go_wp2_with (go_at_call 49; refine (HA.out _ HB0.out).mono ?_; rintro e w1 ⟨rfl, hb1⟩; have HB1 := Lib.hid (HB0.out.trans (hb1.mono HB0.out.size)); clear hb1)
    go_ret2
    exact gives_none HB1.out
  | true =>
    rw [Bool.true_and] at hv
    subst hv
    go_enter Try.func19, Try.ntmps19
    refine Hid.out ?_
    obtain ⟨_, q0, q1⟩ := HT0.out
    refine Lib.hid ?_
    go_wp2_with (first
      | (go_at_call 49; refine (HA.out _ HB0.out).mono ?_; rintro e w1 ⟨rfl, hb1⟩; have HB1 := Lib.hid (HB0.out.trans (hb1.mono HB0.out.size)); clear hb1)
      | (go_at_call 50; refine (HL.out _).mono ?_; rintro e w2 ⟨rfl, hw⟩; replace hw := hw.symm; subst hw))
    go_ret2
    exact gives_none HB1.out
set_option maxHeartbeats 1000000 in
theorem sp_yes (A : Option Addr) (cap : Nat) (l : List Int) (a b h : Int) (w : World) (hI : IAt w A l) (hl : l.length ≤ 1048576) (hq : ZAsk l a b) (hh : lvB h = true) :
    Calls Try.prog 19 #[.slice A l.length cap, rv a b, .int .i64 h] w (GivesI w (suL l a b h) true) := by
  have HB0 := Lib.hid (alloc_below w (rb 25 a b))
  have HA := Lib.hid (fun w' (hb : Below w.heap.size w w') => ask_v (askB_iff.2 hq) A cap w' (hI.kept hb (Nat.le_refl _)) hl)
  have HL := Lib.hid (fun w => lv_any h w)
  rw [hh] at HL
  have hh2 := lvB_iff.1 hh
  have HS := Lib.hid (fun w' (hb : Below w.heap.size w w') => suited_any A cap l a b h w' (hI.kept hb (Nat.le_refl _)) hq (by omega))
  have HT0 := Lib.hid (BT.new w 25 a b)
  clear hI hh hq hh2
  generalize suL l a b h = L at *
  go_enter Try.func19, Try.ntmps19
  refine Hid.out ?_
  obtain ⟨_, q0, q1⟩ := HT0.out
  refine Lib.hid ?_
  go_wp2_with (first
    | (go_at_call 49; refine (HA.out _ HB0.out).mono ?_; rintro e w1 ⟨rfl, hb1⟩; have HB1 := Lib.hid (HB0.out.trans (hb1.mono HB0.out.size)); obtain ⟨_, r0, r1⟩ := HT0.out.kept hb1; clear hb1)
    | (go_at_call 50; refine (HL.out _).mono ?_; rintro e w2 ⟨rfl, hw⟩; replace hw := hw.symm; subst hw)
    | (go_at_call 51; refine (HS.out _ HB1.out).mono ?_; rintro e w3 ⟨g, c, rfl, hg, hO, hb3⟩; have HO := Lib.hid hO; have HB3 := Lib.hid (HB1.out.trans (hb3.mono HB1.out.size)); have hg2 : w.heap.size ≤ g := Nat.le_trans HB1.out.size hg; have hs1 := HB1.out.size; clear hO hb3))
  go_ret2
  exact ⟨g, c, rfl, hg2, own_lower HO.out hs1, HB3.out⟩
set_option maxHeartbeats 1000000 in
theorem ssp_no (A : Option Addr) (cap : Nat) (l : List Int) (a b h : Int) (w : World) (hI : IAt w A l) (hl : l.length ≤ 1048576) (hv : sqB l a b h = false) :
    Calls Try.prog 17 #[.slice A l.length cap, rv a b, .int .i64 h] w (GivesI w [] false) := by
  have HB0 := Lib.hid (alloc_below w (rb 25 a b))
  have HA := Lib.hid (fun w' (hb : Below w.heap.size w w') => sask_any A cap l a b w' (hI.kept hb (Nat.le_refl _)) hl)
  have HL := Lib.hid (fun w => slv_any h w)
  have HT0 := Lib.hid (BT.new w 25 a b)
  unfold sqB at hv
  clear hI
  generalize askB l a b = v1 at *
  generalize lvB h = v2 at *
  cases v1 with
  | false =>
    clear hv
    go_enter Try.func17, Try.ntmps17
    refine Hid.out ?_
    obtain ⟨_, q0, q1⟩ := HT0.out
    refine Lib.hid ?_
    go_wp2_with (go_at_call 46; refine (HA.out _ HB0.out).mono ?_; rintro e w1 ⟨rfl, hb1⟩; have HB1 := Lib.hid (HB0.out.trans (hb1.mono HB0.out.size)); clear hb1)
    go_ret2
    exact gives_none HB1.out
  | true =>
    rw [Bool.true_and] at hv
    subst hv
    go_enter Try.func17, Try.ntmps17
    refine Hid.out ?_
    obtain ⟨_, q0, q1⟩ := HT0.out
    refine Lib.hid ?_
    go_wp2_with (first
      | (go_at_call 46; refine (HA.out _ HB0.out).mono ?_; rintro e w1 ⟨rfl, hb1⟩; have HB1 := Lib.hid (HB0.out.trans (hb1.mono HB0.out.size)); clear hb1)
      | (go_at_call 47; refine (HL.out _).mono ?_; rintro e w2 ⟨rfl, hw⟩; replace hw := hw.symm; subst hw))
    go_ret2
    exact gives_none HB1.out
set_option maxHeartbeats 1000000 in
theorem ssp_yes (A : Option Addr) (cap : Nat) (l : List Int) (a b h : Int) (w : World) (hI : IAt w A l) (hl : l.length ≤ 1048576) (hq : ZAsk l a b) (hh : lvB h = true) :
    Calls Try.prog 17 #[.slice A l.length cap, rv a b, .int .i64 h] w (GivesI w (suL l a b h) true) := by
  have HB0 := Lib.hid (alloc_below w (rb 25 a b))
  have HA := Lib.hid (fun w' (hb : Below w.heap.size w w') => sask_v (askB_iff.2 hq) A cap w' (hI.kept hb (Nat.le_refl _)) hl)
  have HL := Lib.hid (fun w => slv_any h w)
  rw [hh] at HL
  have hh2 := lvB_iff.1 hh
  have HS := Lib.hid (fun w' (hb : Below w.heap.size w w') => ssuited_any A cap l a b h w' (hI.kept hb (Nat.le_refl _)) hq (by omega))
  have HT0 := Lib.hid (BT.new w 25 a b)
  clear hI hh hq hh2
  generalize suL l a b h = L at *
  go_enter Try.func17, Try.ntmps17
  refine Hid.out ?_
  obtain ⟨_, q0, q1⟩ := HT0.out
  refine Lib.hid ?_
  go_wp2_with (first
    | (go_at_call 46; refine (HA.out _ HB0.out).mono ?_; rintro e w1 ⟨rfl, hb1⟩; have HB1 := Lib.hid (HB0.out.trans (hb1.mono HB0.out.size)); obtain ⟨_, r0, r1⟩ := HT0.out.kept hb1; clear hb1)
    | (go_at_call 47; refine (HL.out _).mono ?_; rintro e w2 ⟨rfl, hw⟩; replace hw := hw.symm; subst hw)
    | (go_at_call 48; refine (HS.out _ HB1.out).mono ?_; rintro e w3 ⟨g, c, rfl, hg, hO, hb3⟩; have HO := Lib.hid hO; have HB3 := Lib.hid (HB1.out.trans (hb3.mono HB1.out.size)); have hg2 : w.heap.size ≤ g := Nat.le_trans HB1.out.size hg; have hs1 := HB1.out.size; clear hO hb3))
  go_ret2
  exact ⟨g, c, rfl, hg2, own_lower HO.out hs1, HB3.out⟩
end Go.Proofs.Ytjfpimldiokpbaa.S12
