/- The shadow price: both sides: contracts. Conditions: each theorem's own premises. -/
import Derived.Test.YtlkomipjamelkaaPuCtgS
import Derived.Deep.DeepCutAuto
namespace Go.Proofs.Ytlkomipjamelkaa.S13
open Go.RowKit Go.Sort Go.ChangeShapes Go.WideShapes Go.Deep Go.Joins P11 S11 P13
set_option maxHeartbeats 1000000 in
theorem sshp_any (p : Pg) (A : Option Addr) (c : Nat) (A2 : Option Addr) (c2 : Nat) (hr lv : Int) (w : World) (hp : PAt w p A A2) :
    Calls Try.prog 33 #[pv p A c A2 c2, .int .i64 hr, .int .i64 lv] w (OneN w (shV p hr lv) (shB p hr lv)) := by
  have H1 := Lib.hid (fun w' (hb : Below w.heap.size w w') => sctg_any p A c A2 c2 hr lv w' (hp.kept hb))
  have H2 := Lib.hid (fun w' (hb : Below w.heap.size w w') => sctg_any p A c A2 c2 hr (wrap64 (lv + 1)) w' (hp.kept hb))
  have HB0 := Lib.hid (boxB w 31 p A c A2 c2)
  have H60 := Lib.hid (B6.new w 31 p A c A2 c2)
  obtain ⟨b0, b1⟩ := ctg_bd p hr lv
  obtain ⟨d0, d1⟩ := ctg_bd p hr (wrap64 (lv + 1))
  clear hp
  unfold OneN at H1 H2
  unfold OneN shV shB
  generalize ctg p hr lv = u at *
  generalize ctg p hr (wrap64 (lv + 1)) = v at *
  obtain ⟨ux, uc, uv⟩ := u
  obtain ⟨vx, vc, vv⟩ := v
  simp only at b0 b1 d0 d1 H1 H2 ⊢
  cases ux <;> cases vx
  · rw [if_neg (by simp)]
    go_enter Try.func33, Try.ntmps33
    go_wp2_with (first | (go_at_call 22; refine (H1.out _ HB0.out).mono ?_; rintro e w1 ⟨rfl, hb1⟩; refine Hid.out ?_) | fail)
    have HB1 := Lib.hid (HB0.out.trans (hb1.mono HB0.out.size))
    obtain ⟨a0, a1, a2, a3, a4, a5⟩ := (H60.out.kept hb1).out
    refine Lib.hid ?_
    go_wp2_with (first | (go_at_call 22; refine (H2.out _ HB1.out).mono ?_; rintro e w2 ⟨rfl, hb2⟩; refine Hid.out ?_) | fail)
    have HB2 := Lib.hid (HB1.out.trans (hb2.mono HB1.out.size))
    refine Lib.hid ?_
    go_wp2_with fail
    go_ret2
    exact ⟨rfl, HB2.out⟩
  · rw [if_neg (by simp)]
    go_enter Try.func33, Try.ntmps33
    go_wp2_with (first | (go_at_call 22; refine (H1.out _ HB0.out).mono ?_; rintro e w1 ⟨rfl, hb1⟩; refine Hid.out ?_) | fail)
    have HB1 := Lib.hid (HB0.out.trans (hb1.mono HB0.out.size))
    obtain ⟨a0, a1, a2, a3, a4, a5⟩ := (H60.out.kept hb1).out
    refine Lib.hid ?_
    go_wp2_with (first | (go_at_call 22; refine (H2.out _ HB1.out).mono ?_; rintro e w2 ⟨rfl, hb2⟩; refine Hid.out ?_) | fail)
    have HB2 := Lib.hid (HB1.out.trans (hb2.mono HB1.out.size))
    refine Lib.hid ?_
    go_wp2_with fail
    go_ret2
    exact ⟨rfl, HB2.out⟩
  · rw [if_neg (by simp)]
    go_enter Try.func33, Try.ntmps33
    go_wp2_with (first | (go_at_call 22; refine (H1.out _ HB0.out).mono ?_; rintro e w1 ⟨rfl, hb1⟩; refine Hid.out ?_) | fail)
    have HB1 := Lib.hid (HB0.out.trans (hb1.mono HB0.out.size))
    obtain ⟨a0, a1, a2, a3, a4, a5⟩ := (H60.out.kept hb1).out
    refine Lib.hid ?_
    go_wp2_with (first | (go_at_call 22; refine (H2.out _ HB1.out).mono ?_; rintro e w2 ⟨rfl, hb2⟩; refine Hid.out ?_) | fail)
    have HB2 := Lib.hid (HB1.out.trans (hb2.mono HB1.out.size))
    refine Lib.hid ?_
    go_wp2_with fail
    go_ret2
    exact ⟨rfl, HB2.out⟩
  · rw [if_pos (by rfl)]
    go_enter Try.func33, Try.ntmps33
    go_wp2_with (first | (go_at_call 22; refine (H1.out _ HB0.out).mono ?_; rintro e w1 ⟨rfl, hb1⟩; refine Hid.out ?_) | fail)
    have HB1 := Lib.hid (HB0.out.trans (hb1.mono HB0.out.size))
    obtain ⟨a0, a1, a2, a3, a4, a5⟩ := (H60.out.kept hb1).out
    refine Lib.hid ?_
    go_wp2_with (first | (go_at_call 22; refine (H2.out _ HB1.out).mono ?_; rintro e w2 ⟨rfl, hb2⟩; refine Hid.out ?_) | fail)
    have HB2 := Lib.hid (HB1.out.trans (hb2.mono HB1.out.size))
    refine Lib.hid ?_
    go_wp2_with fail
    go_ret2
    exact ⟨rfl, HB2.out⟩
set_option maxHeartbeats 1000000 in
theorem shp_any (p : Pg) (A : Option Addr) (c : Nat) (A2 : Option Addr) (c2 : Nat) (hr lv : Int) (w : World) (hp : PAt w p A A2) :
    Calls Try.prog 34 #[pv p A c A2 c2, .int .i64 hr, .int .i64 lv] w (OneN w (shV p hr lv) (shB p hr lv)) := by
  have H1 := Lib.hid (fun w' (hb : Below w.heap.size w w') => ctgi_any p A c A2 c2 hr lv w' (hp.kept hb))
  have H2 := Lib.hid (fun w' (hb : Below w.heap.size w w') => ctgi_any p A c A2 c2 hr (wrap64 (lv + 1)) w' (hp.kept hb))
  have HB0 := Lib.hid (boxB w 31 p A c A2 c2)
  have H60 := Lib.hid (B6.new w 31 p A c A2 c2)
  obtain ⟨b0, b1⟩ := ctg_bd p hr lv
  obtain ⟨d0, d1⟩ := ctg_bd p hr (wrap64 (lv + 1))
  clear hp
  unfold OneN at H1 H2
  unfold OneN shV shB
  generalize ctg p hr lv = u at *
  generalize ctg p hr (wrap64 (lv + 1)) = v at *
  obtain ⟨ux, uc, uv⟩ := u
  obtain ⟨vx, vc, vv⟩ := v
  simp only at b0 b1 d0 d1 H1 H2 ⊢
  cases ux <;> cases vx
  · rw [if_neg (by simp)]
    go_enter Try.func34, Try.ntmps34
    go_wp2_with (first | (go_at_call 23; refine (H1.out _ HB0.out).mono ?_; rintro e w1 ⟨rfl, hb1⟩; refine Hid.out ?_) | fail)
    have HB1 := Lib.hid (HB0.out.trans (hb1.mono HB0.out.size))
    obtain ⟨a0, a1, a2, a3, a4, a5⟩ := (H60.out.kept hb1).out
    refine Lib.hid ?_
    go_wp2_with fail
    go_ret2
    exact ⟨rfl, HB1.out⟩
  · rw [if_neg (by simp)]
    go_enter Try.func34, Try.ntmps34
    go_wp2_with (first | (go_at_call 23; refine (H1.out _ HB0.out).mono ?_; rintro e w1 ⟨rfl, hb1⟩; refine Hid.out ?_) | fail)
    have HB1 := Lib.hid (HB0.out.trans (hb1.mono HB0.out.size))
    obtain ⟨a0, a1, a2, a3, a4, a5⟩ := (H60.out.kept hb1).out
    refine Lib.hid ?_
    go_wp2_with fail
    go_ret2
    exact ⟨rfl, HB1.out⟩
  · rw [if_neg (by simp)]
    go_enter Try.func34, Try.ntmps34
    go_wp2_with (first | (go_at_call 23; refine (H1.out _ HB0.out).mono ?_; rintro e w1 ⟨rfl, hb1⟩; refine Hid.out ?_) | fail)
    have HB1 := Lib.hid (HB0.out.trans (hb1.mono HB0.out.size))
    obtain ⟨a0, a1, a2, a3, a4, a5⟩ := (H60.out.kept hb1).out
    refine Lib.hid ?_
    go_wp2_with (first | (go_at_call 23; refine (H2.out _ HB1.out).mono ?_; rintro e w2 ⟨rfl, hb2⟩; refine Hid.out ?_) | fail)
    have HB2 := Lib.hid (HB1.out.trans (hb2.mono HB1.out.size))
    refine Lib.hid ?_
    go_wp2_with fail
    go_ret2
    exact ⟨rfl, HB2.out⟩
  · rw [if_pos (by rfl)]
    go_enter Try.func34, Try.ntmps34
    go_wp2_with (first | (go_at_call 23; refine (H1.out _ HB0.out).mono ?_; rintro e w1 ⟨rfl, hb1⟩; refine Hid.out ?_) | fail)
    have HB1 := Lib.hid (HB0.out.trans (hb1.mono HB0.out.size))
    obtain ⟨a0, a1, a2, a3, a4, a5⟩ := (H60.out.kept hb1).out
    refine Lib.hid ?_
    go_wp2_with (first | (go_at_call 23; refine (H2.out _ HB1.out).mono ?_; rintro e w2 ⟨rfl, hb2⟩; refine Hid.out ?_) | fail)
    have HB2 := Lib.hid (HB1.out.trans (hb2.mono HB1.out.size))
    refine Lib.hid ?_
    go_wp2_with fail
    go_ret2
    exact ⟨rfl, HB2.out⟩
end Go.Proofs.Ytlkomipjamelkaa.S13
