/- The cost to go: what the program returns: contract. Conditions: its own premises. -/
import Derived.Test.YtlkomipjamelkaaPuCtg
import Derived.Deep.DeepCutAuto
namespace Go.Proofs.Ytlkomipjamelkaa.S13
open Go.RowKit Go.Sort Go.ChangeShapes Go.WideShapes Go.Deep Go.Joins P11 S11 P13

theorem ctg_no {p : Pg} {hr lv : Int} (h : askB p hr lv = false) : ctg p hr lv = ⟨false, 0, 0⟩ := by unfold ctg; rw [h]; rfl
set_option maxRecDepth 100000 in
set_option maxHeartbeats 1000000 in
theorem ctgi_any (p : Pg) (A : Option Addr) (c : Nat) (A2 : Option Addr) (c2 : Nat) (hr lv : Int) (w : World) (hp : PAt w p A A2) :
    Calls Try.prog 23 #[pv p A c A2 c2, .int .i64 hr, .int .i64 lv] w (OneN w (ctg p hr lv).cost (ctg p hr lv).ex) := by
  have hask := ask_eq p hr lv
  have HI := Lib.hid (fun w' hb => ivp_any p A c A2 c2 w' (hp.kept (w' := w') hb))
  have HT := Lib.hid (fun w => valid_any lv p.a p.b w)
  have HBX := Lib.hid (boxB w 31 p A c A2 c2)
  have H60 := B6.new w 31 p A c A2 c2
  have hs0 := alloc_size w (po 31 p A c A2 c2)
  have HB0 := Lib.hid (HBX.out.trans ((alloc_below (w.alloc (po 31 p A c A2 c2)) (tb 29 lv p.a p.b)).mono (by omega)))
  have H61 := Lib.hid (H60.kept (alloc_below _ (tb 29 lv p.a p.b)))
  have hb8 := BT.new (w.alloc (po 31 p A c A2 c2)) 29 lv p.a p.b
  rw [hs0] at hb8
  have HB8 := Lib.hid hb8
  clear H60 hb8 hs0 HBX
  cases hv : pgB p with
  | false =>
    rw [hv, Bool.false_and] at hask
    rw [ctg_no hask]
    rw [hv] at HI
    clear hask hp hv HT
    go_enter Try.func23, Try.ntmps23
    go_wp2_with (first | (go_at_call 14; refine (HI.out _ HB0.out).mono ?_; rintro e w1 ⟨rfl, hb1⟩; refine Hid.out ?_) | fail)
    have HB1 := Lib.hid (HB0.out.trans (hb1.mono HB0.out.size))
    have H62 := Lib.hid (H61.out.kept hb1)
    obtain ⟨a0, a1, a2, a3, a4, a5⟩ := H62.out.out
    obtain ⟨_, b0, b1, b2⟩ := HB8.out.kept hb1
    clear hb1 H61 HB8 HB0 HI
    refine Lib.hid ?_
    go_wp2_with fail
    go_ret2
    exact ⟨rfl, HB1.out⟩
  | true =>
    have hg := pgB_iff.1 hv
    cases ht : tkB lv p.a p.b with
    | false =>
      rw [hv, ht, Bool.true_and, Bool.false_and] at hask
      rw [ctg_no hask]
      rw [hv] at HI
      rw [ht] at HT
      clear hask hp hv ht hg
      go_enter Try.func23, Try.ntmps23
      go_wp2_with (first | (go_at_call 14; refine (HI.out _ HB0.out).mono ?_; rintro e w1 ⟨rfl, hb1⟩; refine Hid.out ?_) | fail)
      have HB1 := Lib.hid (HB0.out.trans (hb1.mono HB0.out.size))
      have H62 := Lib.hid (H61.out.kept hb1)
      obtain ⟨a0, a1, a2, a3, a4, a5⟩ := H62.out.out
      obtain ⟨_, b0, b1, b2⟩ := HB8.out.kept hb1
      clear hb1 H61 HB8 HB0 HI
      refine Lib.hid ?_
      go_wp2_with (first | (go_at_call 38; refine (HT.out _).mono ?_; rintro e w2 ⟨rfl, hb2⟩; refine Hid.out ?_) | fail)
      have HB2 := Lib.hid (HB1.out.trans (hb2.mono HB1.out.size))
      have H63 := Lib.hid (H62.out.kept hb2)
      clear a0 a1 a2 a3 a4 a5 b0 b1 b2
      obtain ⟨a0, a1, a2, a3, a4, a5⟩ := H63.out.out
      clear hb2 HB1 H62
      refine Lib.hid ?_
      go_wp2_with fail
      go_ret2
      exact ⟨rfl, HB2.out⟩
    | true =>
      by_cases h0 : hr < 0
      · have e : decide (0 ≤ hr) = false := by simp; omega
        rw [hv, ht, e, Bool.true_and, Bool.true_and, Bool.false_and] at hask
        rw [ctg_no hask]
        rw [hv] at HI
        rw [ht] at HT
        clear hask hp hv ht hg e
        go_enter Try.func23, Try.ntmps23
        go_wp2_with (first | (go_at_call 14; refine (HI.out _ HB0.out).mono ?_; rintro e w1 ⟨rfl, hb1⟩; refine Hid.out ?_) | fail)
        have HB1 := Lib.hid (HB0.out.trans (hb1.mono HB0.out.size))
        have H62 := Lib.hid (H61.out.kept hb1)
        obtain ⟨a0, a1, a2, a3, a4, a5⟩ := H62.out.out
        obtain ⟨_, b0, b1, b2⟩ := HB8.out.kept hb1
        clear hb1 H61 HB8 HB0 HI
        refine Lib.hid ?_
        go_wp2_with (first | (go_at_call 38; refine (HT.out _).mono ?_; rintro e w2 ⟨rfl, hb2⟩; refine Hid.out ?_) | fail)
        have HB2 := Lib.hid (HB1.out.trans (hb2.mono HB1.out.size))
        have H63 := Lib.hid (H62.out.kept hb2)
        clear a0 a1 a2 a3 a4 a5 b0 b1 b2
        obtain ⟨a0, a1, a2, a3, a4, a5⟩ := H63.out.out
        clear hb2 HB1 H62
        refine Lib.hid ?_
        go_wp2_with fail
        go_ret2
        exact ⟨rfl, HB2.out⟩
      · by_cases h1 : hr > (p.ys.length : Int)
        · have e : decide (hr ≤ (p.ys.length : Int)) = false := by simp; omega
          rw [hv, ht, e, Bool.true_and, Bool.true_and, Bool.and_false] at hask
          rw [ctg_no hask]
          rw [hv] at HI
          rw [ht] at HT
          clear hask hp hv ht hg e
          go_enter Try.func23, Try.ntmps23
          go_wp2_with (first | (go_at_call 14; refine (HI.out _ HB0.out).mono ?_; rintro e w1 ⟨rfl, hb1⟩; refine Hid.out ?_) | fail)
          have HB1 := Lib.hid (HB0.out.trans (hb1.mono HB0.out.size))
          have H62 := Lib.hid (H61.out.kept hb1)
          obtain ⟨a0, a1, a2, a3, a4, a5⟩ := H62.out.out
          obtain ⟨_, b0, b1, b2⟩ := HB8.out.kept hb1
          clear hb1 H61 HB8 HB0 HI
          refine Lib.hid ?_
          go_wp2_with (first | (go_at_call 38; refine (HT.out _).mono ?_; rintro e w2 ⟨rfl, hb2⟩; refine Hid.out ?_) | fail)
          have HB2 := Lib.hid (HB1.out.trans (hb2.mono HB1.out.size))
          have H63 := Lib.hid (H62.out.kept hb2)
          clear a0 a1 a2 a3 a4 a5 b0 b1 b2
          obtain ⟨a0, a1, a2, a3, a4, a5⟩ := H63.out.out
          clear hb2 HB1 H62
          refine Lib.hid ?_
          go_wp2_with fail
          go_ret2
          exact ⟨rfl, HB2.out⟩
        · have hy := hg.day.eq
          obtain ⟨h, rfl⟩ : ∃ h : Nat, hr = (h : Int) := ⟨hr.toNat, by omega⟩
          have htk := tkB_iff.1 ht
          obtain ⟨l, rfl⟩ : ∃ l : Nat, lv = (l : Int) := ⟨lv.toNat, by omega⟩
          have hh : h ≤ p.xs.length := by omega
          have e1 : ctg p (h : Int) (l : Int) = plan p (p.xs.length - h) l := by
            unfold ctg
            rw [hask, hv, ht]
            have e2 : (true && (true && (decide (0 ≤ (h : Int)) && decide ((h : Int) ≤ (p.ys.length : Int))))) = true := by simp; omega
            rw [e2, if_pos rfl, Int.toNat_natCast]
          rw [e1]
          exact ctg_yes p A c A2 c2 h l w hp hg hh ht (fun O w ho => from_any p A c A2 c2 O hg (p.xs.length - h) h l w (by omega) ht ho)
end Go.Proofs.Ytlkomipjamelkaa.S13
