/- The first best schedule of the model, where there is none; the cheapest and the lazy schedule of the model: contracts. Conditions: each theorem's own premises. -/
import Derived.Test.YtlkomipjamelkaaPuBestS
import Derived.Test.YtlkomipjamelkaaPuChI
import Derived.Test.YtlkomipjamelkaaPuCostS
import Derived.Deep.DeepCutAuto
namespace Go.Proofs.Ytlkomipjamelkaa.S13
open Go.RowKit Go.Sort Go.ChangeShapes Go.WideShapes Go.Deep Go.Joins P11 S11 P13

set_option maxRecDepth 100000 in
set_option maxHeartbeats 1500000 in
theorem lbest_no (p : Pg) (A : Option Addr) (c : Nat) (A2 : Option Addr) (c2 : Nat) (cheap : Bool) (w : World) (hp : PAt w p A A2) (hg : P13.Good p) (hex : (plan p p.xs.length p.L).ex = false) :
    Calls Try.prog 47 #[pv p A c A2 c2, .bool cheap] w (GivesA w [] false) := by
  have HGD := Lib.hid hg
  have HPA := Lib.hid (fun w' hb => hp.kept (w' := w') hb)
  have HEQ := Lib.hid hg.day.eq
  have hn1 := hg.day.n0
  have hn12 := hg.day.n1
  have hp0 := hg.m0
  have hp10 := hg.m1
  obtain ⟨q0, q1, q2, q3⟩ := tkB_iff.1 hg.day.tk
  obtain ⟨M, hM⟩ : ∃ M : Nat, p.b = (M : Int) := ⟨p.b.toNat, by omega⟩
  obtain ⟨LN, hLN⟩ : ∃ LN : Nat, p.L = (LN : Int) := ⟨p.L.toNat, by omega⟩
  have hM60 : M ≤ 60 := by omega
  have hLM : LN < M + 1 := by omega
  have HM := Lib.hid hM
  have HLN := Lib.hid hLN
  have HTB := Lib.hid (fun w' hb => table_any p A c A2 c2 M w' (hp.kept (w' := w') hb) hg hM)
  have HTV0 := Lib.hid (show tbv p 0 LN = -1 by
    rw [tbv_tk (by rw [← hLN]; exact hg.day.tk), Nat.sub_zero, ← hLN]
    unfold enc
    rw [hex]; rfl)
  have hc0 := hg.cost (r := p.xs.length) (Nat.le_refl _) p.L
  have HB0 := Lib.hid (boxB w 31 p A c A2 c2)
  have H60 := Lib.hid (B6.new w 31 p A c A2 c2)
  obtain ⟨i0, hi, hz0, hz1', hz2⟩ := info_parts infoI
  obtain ⟨a0, a1, a2, a3, a4, a5⟩ := H60.out.out
  have hl20 : (0 : Int) ≤ (LN : Int) := by omega
  have hl21 : (LN : Int) < ((M + 1 : Nat) : Int) := by omega
  have hl22 : (LN : Int) < (M : Int) + 1 := by omega
  have hn00 : (0 : Int) < (p.xs.length : Int) + 1 := by omega
  clear hp hg hex hM hLN
  go_enter Try.func47, Try.ntmps47
  go_wp2_with (first | (go_at_call 45; refine (HTB.out _ HB0.out).mono ?_; rintro e w1 ⟨T, rfl, hb1, hTl, hrow⟩; refine Hid.out ?_) | fail)
  have HB1 := Lib.hid (HB0.out.trans (hb1.mono HB0.out.size))
  have H61 := Lib.hid (H60.out.kept hb1)
  clear a0 a1 a2 a3 a4 a5 hb1 HB0 H60 HTB
  -- the empty list
  have hb2 := alloc_below w1 (.cells #[] 3)
  have HO2 := Lib.hid (own_empty w1 w1.heap.size (Nat.le_refl _))
  have HROW := Lib.hid (fun h (hh : h ≤ p.xs.length) => hrow h hh)
  obtain ⟨w2, hw2⟩ : ∃ w2, w2 = w1 := ⟨_, rfl⟩
  have HW2 := Lib.hid hw2
  rw [← hw2] at HB1 H61 hTl HROW hb2 HO2
  clear hrow
  obtain ⟨a0, a1, a2, a3, a4, a5⟩ := (H61.out.kept hb2).out
  rw [HLN.out] at a0
  obtain ⟨g0, cg0, r1, r2, r3⟩ := HROW.out 0 (Nat.zero_le _)
  obtain ⟨bb, off, hA, hbl, h0⟩ := r3.at_ (i := LN) (by rw [rowK_len]; exact hLM)
  injection hA with hA
  injection hA with x1 x2 _
  subst x1 x2
  rw [Nat.zero_add, rowK_at p 0 hLM, HTV0.out] at h0
  have t1 := (hb2.cell (p := ⟨T, 0, none⟩) hTl).trans r1
  have t2 := (hb2.cell (p := ⟨g0, LN, none⟩) r2).trans h0
  have HB2 := Lib.hid hb2
  rw [hw2] at a0 a1 a2 a3 a4 a5 t1 t2
  clear r1 r2 r3 hbl h0 hb2 HTV0
  refine Lib.hid ?_
  go_wp2_with fail
  go_ret2
  have hq9 := empty_gives (ok := false) HB1.out
  rw [HW2.out] at hq9
  exact hq9

theorem VL_sch (p : Pg) (n : Nat) : VL (vl p) n = sch p n := rfl
theorem sch_bd {p : Pg} (hg : P13.Good p) : Bd p (sch p p.xs.length) :=
  ⟨sch_len _ _, hg.day.n1, fun j hj => hg.price hj, fun j hj => by rw [sch_at p hj]; have h1 := plan_vol hg (r := p.xs.length - j) (lvl p j); have h2 := hg.m1; exact ⟨h1.1, Int.le_trans h1.2 h2⟩⟩
/-- The lazy schedule. -/
def lzR (p : Pg) : List Int := if chE p then sch (free p) p.xs.length else []
theorem lz_no {p : Pg} (h : chE p = false) : lzR p = [] := by unfold lzR; rw [h]; rfl
theorem lz_yes {p : Pg} (h : chE p = true) : lzR p = sch (free p) p.xs.length := by unfold lzR; rw [h]; rfl
theorem lz_len (p : Pg) (h : pgB p = true) : (lzR p).length ≤ 1000 := by
  have := (pgB_iff.1 h).day.n1
  unfold lzR
  split
  · rw [sch_len]; omega
  · simp
set_option maxHeartbeats 2000000 in
theorem scheap_any (p : Pg) (A : Option Addr) (c : Nat) (A2 : Option Addr) (c2 : Nat) (w : World) (hp : PAt w p A A2) :
    Calls Try.prog 24 #[pv p A c A2 c2] w (GivesA3 w (chR p) (chC p) (chE p)) := by
  have HG := Lib.hid (fun w' (hb : Below w.heap.size w w') => lgood_any p A c A2 c2 w' (hp.kept hb))
  have HB0 := Lib.hid (boxB w 31 p A c A2 c2)
  have H60 := Lib.hid (B6.new w 31 p A c A2 c2)
  cases hv : pgB p with
  | false =>
    have hE : chE p = false := by unfold chE; rw [hv]; rfl
    rw [hE, (ch_no hE).1, (ch_no hE).2]
    rw [hv] at HG
    clear hv hp hE
    go_enter Try.func24, Try.ntmps24
    go_wp2_with (first | (go_at_call 36; refine (HG.out _ HB0.out).mono ?_; rintro e w1 ⟨rfl, hb1⟩; refine Hid.out ?_) | fail)
    have HB1 := Lib.hid (HB0.out.trans (hb1.mono HB0.out.size))
    refine Lib.hid ?_
    go_wp2_with fail
    go_ret3
    exact ⟨w1.heap.size, 0, 0, rfl, HB1.out.size, .inl rfl, HB1.out.trans ((alloc_below _ _).mono HB1.out.size), by simp⟩
  | true =>
    have hg := pgB_iff.1 hv
    rw [hv] at HG
    cases hE : chE p with
    | false =>
      have hex : (plan p p.xs.length p.L).ex = false := by rw [← hE]; unfold chE; rw [hv]; rfl
      rw [(ch_no hE).1, (ch_no hE).2]
      have HL := Lib.hid (fun w' hb => lbest_no p A c A2 c2 true w' (hp.kept (w' := w') hb) hg hex)
      clear hv hp hE hg hex
      go_enter Try.func24, Try.ntmps24
      go_wp2_with (first | (go_at_call 36; refine (HG.out _ HB0.out).mono ?_; rintro e w1 ⟨rfl, hb1⟩; refine Hid.out ?_) | fail)
      have HB1 := Lib.hid (HB0.out.trans (hb1.mono HB0.out.size))
      obtain ⟨a0, a1, a2, a3, a4, a5⟩ := (H60.out.kept hb1).out
      refine Lib.hid ?_
      go_wp2_with (first | (go_at_call 47; refine (HL.out _ HB1.out).mono ?_; rintro e w2 ⟨g, o, cg, rfl, hg2, hI, hb2, hgl⟩; refine Hid.out ?_) | fail)
      have HB2 := Lib.hid (HB1.out.trans (hb2.mono HB1.out.size))
      refine Lib.hid ?_
      go_wp2_with fail
      go_ret3
      exact ⟨w2.heap.size, 0, 0, rfl, HB2.out.size, .inl rfl, HB2.out.trans ((alloc_below _ _).mono HB2.out.size), by simp⟩
    | true =>
      have hex : (plan p p.xs.length p.L).ex = true := by rw [← hE]; unfold chE; rw [hv]; rfl
      rw [(ch_yes hE).1, (ch_yes hE).2]
      have HL := Lib.hid (fun w' hb => lbest_yes p A c A2 c2 true (lvl p) (vl p) w' (hp.kept (w' := w') hb) hg hex (takes_cheap hg hex) (fun h hh => lvl_tk hg hh))
      have HC := Lib.hid (fun (AS : Option Addr) (cs : Nat) w' (hb : Below w.heap.size w w') (hv : IAt w' AS (sch p p.xs.length)) => lcost_any p A c A2 c2 AS cs (sch p p.xs.length) w' (hp.kept hb) hv (sch_bd hg))
      have HLN := Lib.hid (sch_len p p.xs.length)
      rw [sch_len, cost_day hex] at HC
      simp only [VL_sch] at HL
      unfold GivesA at HL
      rw [sch_len] at HL
      unfold GivesA3
      rw [sch_len]
      clear hv hp hE hg hex
      generalize sch p p.xs.length = el at *
      generalize (plan p p.xs.length p.L).cost = cc at *
      go_enter Try.func24, Try.ntmps24
      go_wp2_with (first | (go_at_call 36; refine (HG.out _ HB0.out).mono ?_; rintro e w1 ⟨rfl, hb1⟩; refine Hid.out ?_) | fail)
      have HB1 := Lib.hid (HB0.out.trans (hb1.mono HB0.out.size))
      have H61 := Lib.hid (H60.out.kept hb1)
      obtain ⟨a0, a1, a2, a3, a4, a5⟩ := H61.out.out
      refine Lib.hid ?_
      go_wp2_with (first | (go_at_call 47; refine (HL.out _ HB1.out).mono ?_; rintro e w2 ⟨g, o, cg, rfl, hg2, hI, hb2, hgl⟩; refine Hid.out ?_) | fail)
      have HB2 := Lib.hid (HB1.out.trans (hb2.mono HB1.out.size))
      clear a0 a1 a2 a3 a4 a5
      obtain ⟨a0, a1, a2, a3, a4, a5⟩ := (H61.out.kept hb2).out
      have HI2 := Lib.hid hI
      have hlo : w.heap.size ≤ g := Nat.le_trans HB1.out.size hg2
      clear hb2 hI hg2
      refine Lib.hid ?_
      go_wp2_with (first | (go_at_call 43; refine (HC.out (some ⟨g, o, none⟩) cg _ HB2.out HI2.out).mono ?_; rintro e w3 ⟨rfl, hb3⟩; refine Hid.out ?_) | fail)
      have HB3 := Lib.hid (HB2.out.trans (hb3.mono HB2.out.size))
      have HI3 := Lib.hid (HI2.out.low hb3 hgl)
      have hgl3 := Nat.lt_of_lt_of_le hgl hb3.size
      refine Lib.hid ?_
      go_wp2_with fail
      go_ret3
      exact ⟨g, o, cg, rfl, hlo, HI3.out, HB3.out, hgl3⟩
set_option maxHeartbeats 2000000 in
theorem slazy_any (p : Pg) (A : Option Addr) (c : Nat) (A2 : Option Addr) (c2 : Nat) (w : World) (hp : PAt w p A A2) :
    Calls Try.prog 31 #[pv p A c A2 c2] w (GivesA w (lzR p) (chE p)) := by
  have HG := Lib.hid (fun w' (hb : Below w.heap.size w w') => lgood_any p A c A2 c2 w' (hp.kept hb))
  have HB0 := Lib.hid (boxB w 31 p A c A2 c2)
  have H60 := Lib.hid (B6.new w 31 p A c A2 c2)
  cases hv : pgB p with
  | false =>
    have hE : chE p = false := by unfold chE; rw [hv]; rfl
    rw [hE, lz_no hE]
    rw [hv] at HG
    clear hv hp hE
    go_enter Try.func31, Try.ntmps31
    go_wp2_with (first | (go_at_call 36; refine (HG.out _ HB0.out).mono ?_; rintro e w1 ⟨rfl, hb1⟩; refine Hid.out ?_) | fail)
    have HB1 := Lib.hid (HB0.out.trans (hb1.mono HB0.out.size))
    refine Lib.hid ?_
    go_wp2_with fail
    go_ret2
    exact empty_gives HB1.out
  | true =>
    have hg := pgB_iff.1 hv
    rw [hv] at HG
    have HL : Hid (∀ w', Below w.heap.size w w' → Calls Try.prog 47 #[pv p A c A2 c2, .bool false] w' (GivesA w' (lzR p) (chE p))) := Lib.hid (fun w' hb => by
      cases hE : chE p with
      | false =>
        have hex : (plan p p.xs.length p.L).ex = false := by rw [← hE]; unfold chE; rw [hv]; rfl
        rw [lz_no hE]
        exact lbest_no p A c A2 c2 false w' (hp.kept hb) hg hex
      | true =>
        have hex : (plan p p.xs.length p.L).ex = true := by rw [← hE]; unfold chE; rw [hv]; rfl
        rw [lz_yes hE]
        exact lbest_yes p A c A2 c2 false (lvl (free p)) (vl (free p)) w' (hp.kept hb) hg hex (takes_free hg hex) (fun h hh => lvl_tk (free_good hg) (by rw [free_len]; exact hh)))
    clear hv hp hg
    generalize lzR p = el at *
    generalize chE p = ok at *
    go_enter Try.func31, Try.ntmps31
    go_wp2_with (first | (go_at_call 36; refine (HG.out _ HB0.out).mono ?_; rintro e w1 ⟨rfl, hb1⟩; refine Hid.out ?_) | fail)
    have HB1 := Lib.hid (HB0.out.trans (hb1.mono HB0.out.size))
    obtain ⟨a0, a1, a2, a3, a4, a5⟩ := (H60.out.kept hb1).out
    refine Lib.hid ?_
    go_wp2_with (first | (go_at_call 47; refine (HL.out _ HB1.out).mono ?_; rintro e w2 ⟨g, o, cg, rfl, hg2, hI, hb2, hgl⟩; refine Hid.out ?_) | fail)
    have HB2 := Lib.hid (HB1.out.trans (hb2.mono HB1.out.size))
    refine Lib.hid ?_
    go_wp2_with fail
    go_ret2
    exact ⟨g, o, cg, rfl, Nat.le_trans HB1.out.size hg2, hI, HB2.out, hgl⟩
end Go.Proofs.Ytlkomipjamelkaa.S13
