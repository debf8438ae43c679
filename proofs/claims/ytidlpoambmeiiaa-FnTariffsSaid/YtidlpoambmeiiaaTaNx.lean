/- NextPrice and VolumeFor of the program: contracts. Conditions: each theorem's own premises. -/
import Derived.Test.YtidlpoambmeiiaaTaSrch
import Derived.Test.YtidlpoambmeiiaaTaAns
import Derived.Test.YtidlpoambmeiiaaTaSpl
namespace Go.Proofs.Ytidlpoambmeiiaa.S14
open Go.RowKit P14

/-- The boxes of a tariff and a number. -/
structure CB (w W : World) (t : Ta) (A : Option Addr) (c : Nat) (v : Int) : Prop where
  ta : B2 W w.heap.size t A c
  n : W.cell? ⟨w.heap.size + 1, 0, none⟩ = some (.int .i64 v)
  lt : w.heap.size + 1 < W.heap.size
  bw : Below w.heap.size w W
theorem CB.new (w : World) (ty ty2 : TypeId) (t : Ta) (A : Option Addr) (c : Nat) (v : Int) : CB w ((w.alloc (tb ty t A c)).alloc (.cells #[.int .i64 v] ty2)) t A c v := by
  have h1 := (B2.new w ty t A c).kept (alloc_below _ (.cells #[.int .i64 v] ty2))
  have h2 := @box_at (w.alloc (tb ty t A c)) (.int .i64 v) ty2
  rw [alloc_size] at h2
  exact ⟨h1, h2, by simp, two_below _ _ _⟩
theorem CB.call {w W W2 : World} {t : Ta} {A : Option Addr} {c : Nat} {v : Int} (h : CB w W t A c v) (hb : Below W.heap.size W W2) : CB w W2 t A c v :=
  ⟨h.ta.kept hb, (hb.cell (p := ⟨w.heap.size + 1, 0, none⟩) h.lt).trans h.n, Nat.lt_of_lt_of_le h.lt hb.size, h.bw.trans (hb.mono h.bw.size)⟩
def NxI (t : Ta) (v : Int) (w : World) (e : Ending) (w' : World) : Prop := e = .returned (.tuple #[.int .i64 (nxR t v), .bool (nxV t v)]) ∧ Below w.heap.size w w'
theorem nx_no {t : Ta} {v : Int} {w w' : World} (h : nxV t v = false) (hb : Below w.heap.size w w') : NxI t v w (.returned (.tuple #[.int .i64 0, .bool false])) w' := ⟨by rw [nxR_no h, h], hb⟩
set_option maxHeartbeats 2000000 in
theorem nclo_any (b1 b2 : Nat) (t : Ta) (A : Option Addr) (c : Nat) (v : Int) (i : Nat) (hi : i < t.bs.length) (w : World) (hA : CAt w A t.bs) (h1 : w.cell? ⟨b1, 1, none⟩ = some (.slice A t.bs.length c)) (h2 : w.cell? ⟨b2, 0, none⟩ = some (.int .i64 v)) :
    Calls Try.prog 59 #[.int .i64 (i : Int), .pointer (some ⟨b1, 0, none⟩), .pointer (some ⟨b2, 0, none⟩)] w fun e w' => e = .returned (.bool (decide (v < (cAt t.bs i).up))) ∧ Below w.heap.size w w' := by
  obtain ⟨b, off, hA, hbl, h0, _⟩ := hA.at_ hi
  subst hA
  have hi0 : (0 : Int) ≤ (i : Int) := by omega
  have hin : (i : Int) < (t.bs.length : Int) := by omega
  generalize (cAt t.bs i).up = x at *
  generalize t.bs.length = n at *
  go_enter Try.func59, Try.ntmps59
  go_wp2
  go_quiet (fail)
  go_wp2
  go_ret
  exact ⟨rfl, below_drewN (Below.refl _ _) _⟩
set_option maxHeartbeats 4000000 in
theorem next_any (t : Ta) (A : Option Addr) (c : Nat) (v : Int) (w : World) (h : TAt w t A) :
    Calls Try.prog 23 #[tv t A c, .int .i64 v] w (NxI t v w) := by
  have HA := Lib.hid h.x
  have HV := Lib.hid (fun b (hv : gB t = b) w' (hb : Below w.heap.size w w') => valid_w hv A c w' (h.kept hb))
  have HC0 := Lib.hid (CB.new w 29 3 t A c v)
  have HB0 := Lib.hid HC0.out.bw
  clear h
  cases hv : gB t with
  | false =>
    have H1 := Lib.hid (HV.out false hv)
    have HN := Lib.hid (nxV_bad (v := v) hv)
    clear hv HV
    go_enter Try.func23, Try.ntmps23
    go_wp2_with (first | (go_at_call 18; refine (H1.out _ HB0.out).mono ?_; rintro e w1 ⟨rfl, hb1⟩; have HB1 := Lib.hid (HB0.out.trans (hb1.mono HB0.out.size)); have HC1 := Lib.hid (HC0.out.call hb1); clear hb1; refine Hid.out ?_) | fail)
    refine Lib.hid ?_
    go_wp2_with fail
    go_ret2
    exact nx_no HN.out HB1.out
  | true =>
    have H1 := Lib.hid (HV.out true hv)
    by_cases hr : 0 ≤ v ∧ v < 100000
    · have HOK := Lib.hid (nxV_mk hv hr)
      have HGB := Lib.hid hv
      obtain ⟨hr0, hr9⟩ := hr
      have d1 : decide (v < 0) = false := by simp; omega
      have d2 : decide (100000 ≤ v) = false := by simp; omega
      have hln := (gB_of hv).2.1.2
      have HSR := Lib.hid (fun (W : World) (hC : CB w W t A c v) => search_n w.heap.size (w.heap.size + 1) t.bs.length (fun i => decide (v < (cAt t.bs i).up)) W (by omega)
        (fun w' hb i hi => by
          have hC' := hC.call hb
          exact nclo_any w.heap.size (w.heap.size + 1) t A c v i hi w' (HA.out.kept hC'.bw (Nat.le_refl _)) hC'.ta.k1 hC'.n)
        (fun a b hab hb h => by
          have := up_mono (gB_of HGB.out) hab hb
          simp at h ⊢
          omega))
      have HFS := Lib.hid (fun m hm hlow hhigh => nx_first (gB_of HGB.out) hr0 hr9 (m := m) hm hlow hhigh)
      clear hv HV
      go_enter Try.func23, Try.ntmps23
      go_wp2_with (first | (go_at_call 18; refine (H1.out _ HB0.out).mono ?_; rintro e w1 ⟨rfl, hb1⟩; have HB1 := Lib.hid (HB0.out.trans (hb1.mono HB0.out.size)); have HC1 := Lib.hid (HC0.out.call hb1); clear hb1; refine Hid.out ?_) | fail)
      obtain ⟨⟨_, q0, q1, _⟩, qn, _, _⟩ := HC1.out
      clear HC0 HB0 H1
      refine Lib.hid ?_
      go_wp2_with (first | (go_at_call 58; refine (HSR.out _ HC1.out).mono ?_; rintro e w2 ⟨⟨m, rfl, hm, hlow, hhigh⟩, hb2⟩; have HX := Lib.hid (HFS.out m hm hlow hhigh); have HC2 := Lib.hid (HC1.out.call hb2); clear hm hlow hhigh hb2; refine Hid.out ?_) | fail)
      clear q0 q1 qn
      obtain ⟨⟨_, q0, q1, _⟩, qn, _, hb2⟩ := HC2.out
      obtain ⟨b, off, hA, hbl, _, p1⟩ := (HA.out.kept hb2 (Nat.le_refl _)).at_ HX.out.1
      subst hA
      have hm0 : (0 : Int) ≤ (m : Int) := by omega
      have hmn : (m : Int) < (t.bs.length : Int) := by have := HX.out.1; omega
      have HR := Lib.hid (nxR_yes HGB.out HX.out)
      have HB2 := Lib.hid hb2
      generalize (cAt t.bs m).pr = y at *
      clear hb2
      refine Lib.hid ?_
      go_wp2_with fail
      go_ret2
      exact ⟨by rw [HR.out, HOK.out]; rfl, HB2.out⟩
    · have HN := Lib.hid (nxV_low (t := t) hr)
      clear hv HV
      by_cases e1 : v < 0
      · go_enter Try.func23, Try.ntmps23
        go_wp2_with (first | (go_at_call 18; refine (H1.out _ HB0.out).mono ?_; rintro e w1 ⟨rfl, hb1⟩; have HB1 := Lib.hid (HB0.out.trans (hb1.mono HB0.out.size)); have HC1 := Lib.hid (HC0.out.call hb1); clear hb1; refine Hid.out ?_) | fail)
        obtain ⟨⟨_, q0, q1, _⟩, qn, _, _⟩ := HC1.out
        refine Lib.hid ?_
        go_wp2_with fail
        go_ret2
        exact nx_no HN.out HB1.out
      · have e2 : 100000 ≤ v := by omega
        go_enter Try.func23, Try.ntmps23
        go_wp2_with (first | (go_at_call 18; refine (H1.out _ HB0.out).mono ?_; rintro e w1 ⟨rfl, hb1⟩; have HB1 := Lib.hid (HB0.out.trans (hb1.mono HB0.out.size)); have HC1 := Lib.hid (HC0.out.call hb1); clear hb1; refine Hid.out ?_) | fail)
        obtain ⟨⟨_, q0, q1, _⟩, qn, _, _⟩ := HC1.out
        refine Lib.hid ?_
        go_wp2_with fail
        go_ret2
        exact nx_no HN.out HB1.out

/-! ### The volume for an amount -/
def VfI (t : Ta) (v : Int) (w : World) (e : Ending) (w' : World) : Prop := e = .returned (.tuple #[.int .i64 (vfR t v), .bool (vfV t v)]) ∧ Below w.heap.size w w'
theorem vf_no {t : Ta} {v : Int} {w w' : World} (h : vfV t v = false) (hb : Below w.heap.size w w') : VfI t v w (.returned (.tuple #[.int .i64 0, .bool false])) w' := ⟨by rw [vfR_no h, h], hb⟩
set_option maxHeartbeats 2000000 in
theorem vclo_any (b1 b2 : Nat) (t : Ta) (A : Option Addr) (c : Nat) (v : Int) (i : Int) (w : World) (h : TAt w t A) (hg : P14.Good t) (h1 : B2 w b1 t A c) (h2 : w.cell? ⟨b2, 0, none⟩ = some (.int .i64 v)) (hb2 : b2 < w.heap.size) (hi0 : 0 ≤ i) (hi9 : i ≤ 100000) :
    Calls Try.prog 61 #[.int .i64 i, .pointer (some ⟨b1, 0, none⟩), .pointer (some ⟨b2, 0, none⟩)] w fun e w' => e = .returned (.bool (decide (v < cost t i))) ∧ Below w.heap.size w w' := by
  have HC := Lib.hid (cost_w (coR_yes (okV_mk (gB_mk hg) ⟨hi0, hi9⟩)) (okV_mk (gB_mk hg) ⟨hi0, hi9⟩) A c w h)
  obtain ⟨_, q0, q1, _⟩ := h1
  clear h hg hi0 hi9
  generalize cost t i = C at *
  go_enter Try.func61, Try.ntmps61
  go_wp2_with (first | (go_at_call 21; refine HC.out.mono ?_; rintro e w1 ⟨rfl, hb1⟩; have HB1 := Lib.hid hb1; have c2 := (hb1.cell (p := ⟨b2, 0, none⟩) hb2).trans h2; clear hb1; refine Hid.out ?_) | fail)
  clear h2
  refine Lib.hid ?_
  go_wp2_with fail
  go_ret
  exact ⟨rfl, HB1.out⟩
theorem vf_first {t : Ta} (g : P14.Good t) {c : Int} (h0 : t.fee ≤ c) {m : Nat} (hm : m ≤ 100001) (hlow : ∀ j : Nat, j < m → decide (c < cost t (j : Int)) = false) (hhigh : ∀ j : Nat, m ≤ j → j < 100001 → decide (c < cost t (j : Int)) = true) : 0 < m ∧ VF t c ((m : Int) - 1) := by
  have h1 : 0 < m := by
    rcases Nat.eq_zero_or_pos m with e | e
    · have := hhigh 0 (by omega) (by omega)
      have e0 : ((0 : Nat) : Int) = 0 := rfl
      rw [e0, cost_zero g] at this
      simp at this
      omega
    · exact e
  refine ⟨h1, ⟨by omega, by omega⟩, ?_, fun h9 => ?_⟩
  · have := hlow (m - 1) (by omega)
    have e : ((m - 1 : Nat) : Int) = (m : Int) - 1 := by omega
    rw [e] at this
    simpa using this
  · have := hhigh m (Nat.le_refl _) (by omega)
    have e : (m : Int) - 1 + 1 = (m : Int) := by omega
    rw [e]
    simpa using this
set_option maxHeartbeats 4000000 in
theorem volume_any (t : Ta) (A : Option Addr) (c : Nat) (v : Int) (w : World) (h : TAt w t A) :
    Calls Try.prog 25 #[tv t A c, .int .i64 v] w (VfI t v w) := by
  have HT := Lib.hid h
  have HV := Lib.hid (fun b (hv : gB t = b) w' (hb : Below w.heap.size w w') => valid_w hv A c w' (h.kept hb))
  have HC0 := Lib.hid (CB.new w 29 3 t A c v)
  have HB0 := Lib.hid HC0.out.bw
  clear h
  cases hv : gB t with
  | false =>
    have H1 := Lib.hid (HV.out false hv)
    have HN := Lib.hid (vfV_bad (c := v) hv)
    clear hv HV
    go_enter Try.func25, Try.ntmps25
    go_wp2_with (first | (go_at_call 18; refine (H1.out _ HB0.out).mono ?_; rintro e w1 ⟨rfl, hb1⟩; have HB1 := Lib.hid (HB0.out.trans (hb1.mono HB0.out.size)); have HC1 := Lib.hid (HC0.out.call hb1); clear hb1; refine Hid.out ?_) | fail)
    refine Lib.hid ?_
    go_wp2_with fail
    go_ret2
    exact vf_no HN.out HB1.out
  | true =>
    have H1 := Lib.hid (HV.out true hv)
    by_cases hr : t.fee ≤ v ∧ v ≤ 1000000000
    · have HOK := Lib.hid (vfV_mk hv hr)
      have HGB := Lib.hid hv
      obtain ⟨hr0, hr9⟩ := hr
      have d1 : decide (v < t.fee) = false := by simp; omega
      have d2 : decide (1000000000 < v) = false := by simp; omega
      have HSR := Lib.hid (fun (W : World) (hC : CB w W t A c v) => search_f w.heap.size (w.heap.size + 1) 100001 (fun i => decide (v < cost t (i : Int))) W (by omega)
        (fun w' hb i hi => by
          have hC' := hC.call hb
          exact vclo_any w.heap.size (w.heap.size + 1) t A c v (i : Int) w' (HT.out.kept hC'.bw) (gB_of HGB.out) hC'.ta hC'.n hC'.lt (by omega) (by omega))
        (fun a b hab hb h => by
          have := cost_mono (gB_of HGB.out) (v := (a : Int)) (v2 := (b : Int)) (by omega)
          simp at h ⊢
          omega))
      have HFS := Lib.hid (fun m hm hlow hhigh => vf_first (gB_of HGB.out) hr0 (m := m) hm hlow hhigh)
      clear hv HV
      go_enter Try.func25, Try.ntmps25
      go_wp2_with (first | (go_at_call 18; refine (H1.out _ HB0.out).mono ?_; rintro e w1 ⟨rfl, hb1⟩; have HB1 := Lib.hid (HB0.out.trans (hb1.mono HB0.out.size)); have HC1 := Lib.hid (HC0.out.call hb1); clear hb1; refine Hid.out ?_) | fail)
      obtain ⟨⟨_, q0, q1, _⟩, qn, _, _⟩ := HC1.out
      clear HC0 HB0 H1
      refine Lib.hid ?_
      go_wp2_with (first | (go_at_call 58; refine (HSR.out _ HC1.out).mono ?_; rintro e w2 ⟨⟨m, rfl, hm, hlow, hhigh⟩, hb2⟩; have HX := Lib.hid (HFS.out m hm hlow hhigh); have HB2 := Lib.hid (HB1.out.trans (hb2.mono HB1.out.size)); have hm9 := hm; clear hm hlow hhigh hb2; refine Hid.out ?_) | fail)
      clear q0 q1 qn
      have hm0 := HX.out.1
      have HR := Lib.hid (vfR_yes HOK.out HX.out.2)
      refine Lib.hid ?_
      go_wp2_with fail
      go_ret2
      exact ⟨by rw [HR.out, HOK.out]; rfl, HB2.out⟩
    · have HN := Lib.hid (vfV_low (t := t) hr)
      clear hv HV
      by_cases e1 : v < t.fee
      · go_enter Try.func25, Try.ntmps25
        go_wp2_with (first | (go_at_call 18; refine (H1.out _ HB0.out).mono ?_; rintro e w1 ⟨rfl, hb1⟩; have HB1 := Lib.hid (HB0.out.trans (hb1.mono HB0.out.size)); have HC1 := Lib.hid (HC0.out.call hb1); clear hb1; refine Hid.out ?_) | fail)
        obtain ⟨⟨_, q0, q1, _⟩, qn, _, _⟩ := HC1.out
        refine Lib.hid ?_
        go_wp2_with fail
        go_ret2
        exact vf_no HN.out HB1.out
      · have e2 : 1000000000 < v := by omega
        go_enter Try.func25, Try.ntmps25
        go_wp2_with (first | (go_at_call 18; refine (H1.out _ HB0.out).mono ?_; rintro e w1 ⟨rfl, hb1⟩; have HB1 := Lib.hid (HB0.out.trans (hb1.mono HB0.out.size)); have HC1 := Lib.hid (HC0.out.call hb1); clear hb1; refine Hid.out ?_) | fail)
        obtain ⟨⟨_, q0, q1, _⟩, qn, _, _⟩ := HC1.out
        refine Lib.hid ?_
        go_wp2_with fail
        go_ret2
        exact vf_no HN.out HB1.out
end Go.Proofs.Ytidlpoambmeiiaa.S14
