/- The cost to go: what the model returns: contracts. Conditions: each theorem's own premises. -/
import Derived.Test.YtlkomipjamelkaaPuTab
import Derived.Test.YtlkomipjamelkaaPuCtgI
import Derived.Deep.DeepCutAuto
namespace Go.Proofs.Ytlkomipjamelkaa.S13
open Go.RowKit Go.Sort Go.ChangeShapes Go.WideShapes Go.Deep Go.Joins P11 S11 P13

theorem in_d (x a b : Int) {v : Bool} (h : decide (a ≤ x ∧ x ≤ b) = v) (w : World) : Calls Try.prog 52 #[.int .i64 x, .int .i64 a, .int .i64 b] w fun e w' => e = .returned (.bool v) ∧ w' = w := in_eq x a b v h w
set_option maxHeartbeats 1000000 in
theorem asked_any (p : Pg) (A : Option Addr) (c : Nat) (A2 : Option Addr) (c2 : Nat) (hr lv : Int) (w : World) (hp : PAt w p A A2) :
    Calls Try.prog 44 #[pv p A c A2 c2, .int .i64 hr, .int .i64 lv] w fun e w' => e = .returned (.bool (askB p hr lv)) ∧ Below w.heap.size w w' := by
  have HG := Lib.hid (fun w' (hb : Below w.heap.size w w') => lgood_any p A c A2 c2 w' (hp.kept hb))
  have HB0 := Lib.hid (boxB w 31 p A c A2 c2)
  have H60 := Lib.hid (B6.new w 31 p A c A2 c2)
  clear hp
  unfold askB
  generalize pgB p = v1 at *
  cases h1 : decide (0 ≤ hr ∧ hr ≤ (p.xs.length : Int)) with
  | false =>
    have H1 := Lib.hid (fun w => in_d hr 0 (p.xs.length : Int) h1 w)
    clear h1
    cases v1 with
    | false =>
      rw [Bool.false_and]
      go_enter Try.func44, Try.ntmps44
      go_wp2_with (first | (go_at_call 36; refine (HG.out _ HB0.out).mono ?_; rintro e w1 ⟨rfl, hb1⟩; refine Hid.out ?_) | fail)
      have HB1 := Lib.hid (HB0.out.trans (hb1.mono HB0.out.size))
      refine Lib.hid ?_
      go_wp2_with fail
      go_ret
      exact ⟨rfl, HB1.out⟩
    | true =>
      rw [Bool.true_and, Bool.false_and]
      go_enter Try.func44, Try.ntmps44
      go_wp2_with (first | (go_at_call 36; refine (HG.out _ HB0.out).mono ?_; rintro e w1 ⟨rfl, hb1⟩; refine Hid.out ?_) | fail)
      have HB1 := Lib.hid (HB0.out.trans (hb1.mono HB0.out.size))
      obtain ⟨a0, a1, a2, a3, a4, a5⟩ := (H60.out.kept hb1).out
      refine Lib.hid ?_
      go_wp2_with (first | (go_at_call 52; refine (H1.out _).mono ?_; rintro e w2 ⟨rfl, hw⟩; replace hw := hw.symm; subst hw; refine Hid.out ?_) | fail)
      refine Lib.hid ?_
      go_wp2_with fail
      go_ret
      exact ⟨rfl, HB1.out⟩
  | true =>
    have H1 := Lib.hid (fun w => in_d hr 0 (p.xs.length : Int) h1 w)
    clear h1
    cases v1 with
    | false =>
      rw [Bool.false_and]
      go_enter Try.func44, Try.ntmps44
      go_wp2_with (first | (go_at_call 36; refine (HG.out _ HB0.out).mono ?_; rintro e w1 ⟨rfl, hb1⟩; refine Hid.out ?_) | fail)
      have HB1 := Lib.hid (HB0.out.trans (hb1.mono HB0.out.size))
      refine Lib.hid ?_
      go_wp2_with fail
      go_ret
      exact ⟨rfl, HB1.out⟩
    | true =>
      rw [Bool.true_and, Bool.true_and]
      obtain ⟨v2, h2⟩ : ∃ v2, decide (p.a ≤ lv ∧ lv ≤ p.b) = v2 := ⟨_, rfl⟩
      rw [h2]
      have H2 := Lib.hid (fun w => in_d lv p.a p.b h2 w)
      clear h2
      go_enter Try.func44, Try.ntmps44
      go_wp2_with (first | (go_at_call 36; refine (HG.out _ HB0.out).mono ?_; rintro e w1 ⟨rfl, hb1⟩; refine Hid.out ?_) | fail)
      have HB1 := Lib.hid (HB0.out.trans (hb1.mono HB0.out.size))
      obtain ⟨a0, a1, a2, a3, a4, a5⟩ := (H60.out.kept hb1).out
      refine Lib.hid ?_
      go_wp2_with (first | (go_at_call 52; refine (H1.out _).mono ?_; rintro e w2 ⟨rfl, hw⟩; replace hw := hw.symm; subst hw; refine Hid.out ?_) | fail)
      refine Lib.hid ?_
      go_wp2_with (first | (go_at_call 52; refine (H2.out _).mono ?_; rintro e w2 ⟨rfl, hw⟩; replace hw := hw.symm; subst hw; refine Hid.out ?_) | fail)
      refine Lib.hid ?_
      go_wp2_with fail
      go_ret
      exact ⟨rfl, HB1.out⟩
theorem plan_no {p : Pg} {r : Nat} {L : Int} (h : (plan p r L).ex = false) : plan p r L = ⟨false, 0, 0⟩ := by
  cases r with
  | zero =>
    have e : plan p 0 L = ⟨decide (p.L ≤ L), 0, 0⟩ := rfl
    rw [e] at h ⊢
    simp only at h
    rw [h]
  | succ r => exact (best_no (show (best p (p.xs.length - (r + 1)) L (plan p r) (p.pm.toNat + 1)).ex = false from h)).1
set_option maxHeartbeats 1000000 in
theorem sctg_any (p : Pg) (A : Option Addr) (c : Nat) (A2 : Option Addr) (c2 : Nat) (hr lv : Int) (w : World) (hp : PAt w p A A2) :
    Calls Try.prog 22 #[pv p A c A2 c2, .int .i64 hr, .int .i64 lv] w (OneN w (ctg p hr lv).cost (ctg p hr lv).ex) := by
  have HA := Lib.hid (fun w' hb => asked_any p A c A2 c2 hr lv w' (hp.kept (w' := w') hb))
  have HB0 := Lib.hid (boxB w 31 p A c A2 c2)
  have H60 := Lib.hid (B6.new w 31 p A c A2 c2)
  cases hask : askB p hr lv with
  | false =>
    rw [ctg_no hask]
    rw [hask] at HA
    clear hp hask
    go_enter Try.func22, Try.ntmps22
    go_wp2_with (first | (go_at_call 44; refine (HA.out _ HB0.out).mono ?_; rintro e w1 ⟨rfl, hb1⟩; refine Hid.out ?_) | fail)
    have HB1 := Lib.hid (HB0.out.trans (hb1.mono HB0.out.size))
    refine Lib.hid ?_
    go_wp2_with fail
    go_ret2
    exact ⟨rfl, HB1.out⟩
  | true =>
    have h0 := hask
    unfold askB at h0
    simp only [Bool.and_eq_true, decide_eq_true_eq] at h0
    obtain ⟨hv, ⟨hr0, hr1⟩, hl0, hl1⟩ := h0
    have hg := pgB_iff.1 hv
    obtain ⟨q0, q1, q2, q3⟩ := tkB_iff.1 hg.day.tk
    obtain ⟨h, rfl⟩ : ∃ h : Nat, hr = (h : Int) := ⟨hr.toNat, by omega⟩
    obtain ⟨l, rfl⟩ : ∃ l : Nat, lv = (l : Int) := ⟨lv.toNat, by omega⟩
    obtain ⟨M, hM⟩ : ∃ M : Nat, p.b = (M : Int) := ⟨p.b.toNat, by omega⟩
    have htk : tkB (l : Int) p.a p.b = true := tkB_iff.2 ⟨q0, hl0, hl1, q3⟩
    have e1 : ctg p (h : Int) (l : Int) = plan p (p.xs.length - h) l := by unfold ctg; rw [hask, if_pos rfl, Int.toNat_natCast]
    have HT := Lib.hid (fun w' hb => table_any p A c A2 c2 M w' (hp.kept (w' := w') hb) hg hM)
    have hhn : h ≤ p.xs.length := by omega
    have hlM : l < M + 1 := by omega
    have hcb := hg.cost (r := p.xs.length - h) (by omega) (l : Int)
    have hn12 := hg.day.n1
    have HTV := Lib.hid (show tbv p h l = enc (plan p (p.xs.length - h) l) from tbv_tk htk)
    have HPN := Lib.hid (plan_no (p := p) (r := p.xs.length - h) (L := (l : Int)))
    rw [e1]
    rw [hask] at HA
    clear hp hask hv hr0 hr1 hl0 hl1 hg q0 q1 q2 q3 hM htk e1
    have hh0 : (0 : Int) ≤ (h : Int) := by omega
    have hh1 : (h : Int) < ((p.xs.length + 1 : Nat) : Int) := by omega
    have hh2 : (h : Int) < (p.xs.length : Int) + 1 := by omega
    have hll0 : (0 : Int) ≤ (l : Int) := by omega
    have hl1 : (l : Int) < ((M + 1 : Nat) : Int) := by omega
    have hl2 : (l : Int) < (M : Int) + 1 := by omega
    go_enter Try.func22, Try.ntmps22
    go_wp2_with (first | (go_at_call 44; refine (HA.out _ HB0.out).mono ?_; rintro e w1 ⟨rfl, hb1⟩; refine Hid.out ?_) | fail)
    have HB1 := Lib.hid (HB0.out.trans (hb1.mono HB0.out.size))
    obtain ⟨a0, a1, a2, a3, a4, a5⟩ := (H60.out.kept hb1).out
    clear hb1 HA HB0 H60
    refine Lib.hid ?_
    go_wp2_with (first | (go_at_call 45; refine (HT.out _ HB1.out).mono ?_; rintro e w2 ⟨T, rfl, hb2, hT, hrow⟩; refine Hid.out ?_) | fail)
    have HB2 := Lib.hid (HB1.out.trans (hb2.mono HB1.out.size))
    obtain ⟨g, cg, r1, r2, r3⟩ := hrow h hhn
    obtain ⟨bb, off, hA, hbl, h0⟩ := r3.at_ (i := l) (by rw [rowK_len]; exact hlM)
    injection hA with hA
    injection hA with x1 x2 _
    subst x1 x2
    rw [Nat.zero_add, rowK_at p h hlM, HTV.out] at h0
    clear r3 hbl hrow hb2 HB1 HT a0 a1 a2 a3 a4 a5 HTV
    generalize plan p (p.xs.length - h) (l : Int) = pp at *
    obtain ⟨px, pc, pvl⟩ := pp
    cases px with
    | false =>
      have h0' : w2.cell? ⟨g, l, none⟩ = some (.int .i64 (-1)) := h0
      have hpp := HPN.out rfl
      injection hpp with _ hpc _
      subst hpc
      clear h0 HPN
      refine Lib.hid ?_
      go_wp2_with fail
      go_ret2
      exact ⟨rfl, HB2.out⟩
    | true =>
      have h0' : w2.cell? ⟨g, l, none⟩ = some (.int .i64 pc) := h0
      have hpc0 : ¬ pc < 0 := by simp only at hcb; omega
      clear h0 HPN
      refine Lib.hid ?_
      go_wp2_with fail
      go_ret2
      exact ⟨rfl, HB2.out⟩
/-- The shadow price. -/
def shB (p : Pg) (hr lv : Int) : Bool := (ctg p hr lv).ex && (ctg p hr (wrap64 (lv + 1))).ex
def shV (p : Pg) (hr lv : Int) : Int := if shB p hr lv then (ctg p hr lv).cost - (ctg p hr (wrap64 (lv + 1))).cost else 0
theorem ctg_bd (p : Pg) (hr lv : Int) : 0 ≤ (ctg p hr lv).cost ∧ (ctg p hr lv).cost ≤ 12000 := by
  unfold ctg
  cases h : askB p hr lv with
  | false => simp
  | true =>
    rw [if_pos rfl]
    unfold askB at h
    simp only [Bool.and_eq_true] at h
    have hg := pgB_iff.1 h.1
    have := hg.cost (r := p.xs.length - hr.toNat) (by omega) lv
    have := hg.day.n1
    omega
end Go.Proofs.Ytlkomipjamelkaa.S13
