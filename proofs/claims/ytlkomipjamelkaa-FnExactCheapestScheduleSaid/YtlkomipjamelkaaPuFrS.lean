/- A search from an hour on: contract. Conditions: its own premises. -/
import Derived.Test.YtlkomipjamelkaaPuFrZ
import Derived.Deep.RegionHeld3
import Derived.Deep.RegionLaw
import Derived.Deep.CutRange
import Derived.Deep.DeepCutAuto
namespace Go.Proofs.Ytlkomipjamelkaa.S13
open Go.RowKit Go.Sort Go.ChangeShapes Go.WideShapes Go.Deep Go.Joins P11 S11 P13

/-- A piece of code that ends as it should. -/
def onlyN (Q : Exit → Act → World → Prop) : Exit → Act → World → Prop
  | .normal, a, w => Q .normal a w
  | .outgrown, a, w => Q .outgrown a w
  | _, _, _ => False
theorem onlyN_normal {Q : Exit → Act → World → Prop} {a : Act} {w : World} (h : Q .normal a w) : onlyN Q .normal a w := h
theorem wp_onlyN {P : Program} {c : Code} {Q : Exit → Act → World → Prop} {a : Act} {w : World} (h : c.wp P (onlyN Q) a w) : c.wp P Q a w := fun b k cs => by
  obtain ⟨e, a', w', hq, ar⟩ := h b k cs
  cases e with
  | normal => exact ⟨_, a', w', hq, ar⟩
  | outgrown => exact ⟨_, a', w', hq, ar⟩
  | exit i => exact hq.elim
  | goto i => exact hq.elim
  | ret => exact hq.elim
  | panic ch => exact hq.elim

set_option maxRecDepth 100000 in
set_option maxHeartbeats 6000000 in
theorem from_succ (p : Pg) (A : Option Addr) (c : Nat) (A2 : Option Addr) (c2 O h l : Nat) (w : World) (hg : P13.Good p) (r : Nat) (hh : h + (r + 1) = p.xs.length)
    (IH : ∀ (l : Nat) (w : World), tkB (l : Int) p.a p.b = true → Ot w O p A c A2 c2 → Calls Try.prog 46 #[.pointer (some ⟨O, 0, none⟩), .int .i64 ((h : Int) + 1), tv (l : Int) p.a p.b] w (FromIs w O p A c A2 c2 (plan p r l))) (ht : tkB (l : Int) p.a p.b = true) (ho : Ot w O p A c A2 c2) :
    Calls Try.prog 46 #[.pointer (some ⟨O, 0, none⟩), .int .i64 h, tv (l : Int) p.a p.b] w (FromIs w O p A c A2 c2 (plan p (r + 1) l)) := by
  have hmf : ∀ (fn : Fn) (first cap : Array Value) (w : World), (Instr.makeFunc fn first cap).run Try.prog w = .ok (.func fn first cap) w := fun _ _ _ _ => rfl
  obtain ⟨t0, t1, t2, t3⟩ := tkB_iff.1 ht
  have hl60 : l ≤ 60 := by omega
  have hny : h ≤ 12 := by have := hg.day.n1; omega
  have HF := Lib.hid (Fr.new ho h l 29 60 76)
  have hlo := ho.b6.lt
  have hq : plan p (p.xs.length - h) l = plan p (r + 1) l := by rw [show p.xs.length - h = r + 1 by omega]
  have HQ := Lib.hid hq
  have HH := Lib.hid hh
  have HIH := Lib.hid IH
  have HGD := Lib.hid hg
  have HTK := Lib.hid ht
  clear hq hh ht t0 t1 t2 t3 ho IH hg
  have hhi : (h : Int) < 13 := by omega
  have hli : (l : Int) < 61 := by omega
  go_enter_defers Try.func46, Try.ntmps46
  go_upto_region 1 with (fail)
  go_cut [7] from 15 to 22 (fun s wx => s = .pointer (some ⟨w.heap.size + 2, 0, none⟩) ∧ Hid (Fr w wx O p A c A2 c2 h l false ⟨false, 0, 0⟩))
  case first =>
    go_region
    all_goals
      go_wp2_with fail
      go_meet
      exact ⟨rfl, Lib.hid (HF.out.below (Below.refl _ _).drew)⟩
  case rest =>
    obtain ⟨rfl, hf⟩ := hcut
    obtain ⟨w1, hw1⟩ : ∃ w1, w1 = wc := ⟨_, rfl⟩
    subst hw1
    clear HF hhi hli
    obtain ⟨kn, q, h4, hk⟩ := hf.out.ot.mem h l hny hl60
    obtain ⟨d0, d1, d2, d3⟩ := h4
    have e7 := hf.out.t7
    obtain ⟨_, b0, b1, b2⟩ := hf.out.t5
    obtain ⟨c0, c1, c2', c3⟩ := hf.out.t6.six
    obtain ⟨f0, f1, f2, f3⟩ := fz_four hf.out.f6
    obtain ⟨a0, a1, a2, a3, a4, a5⟩ := hf.out.ot.b6.out
    have hOn : O ≠ w.heap.size + 1 := by omega
    have hOn2 : O ≠ w.heap.size + 2 := by omega
    have hOn3 : O ≠ w.heap.size := by omega
    cases kn with
    | true =>
      have HKQ := Lib.hid (hk rfl)
      have HP := Lib.hid (hf.out.put true q)
      obtain ⟨g0, g1, g2, g3⟩ := HP.out.t6.six
      clear hk
      refine Lib.hid ?_
      go_wp2_with fail
      refine ⟨plv true q, ?_, rfl.trans (by rw [← HQ.out, HKQ.out]), HP.out.gr, HP.out.ot⟩
      simp [results, Try.results46, go_sem, g0, g1, g2, g3]
    | false =>
      clear hk
      have heq := HGD.out.day.eq
      have hhx : h < p.xs.length := by have := HH.out; omega
      have hhy : h < p.ys.length := by omega
      have hhi2 : (h : Int) < (p.ys.length : Int) := by omega
      have hhx2 : (h : Int) < (p.xs.length : Int) := by omega
      have hh0 : (0 : Int) ≤ (h : Int) := by omega
      have hxl : p.xs.length ≤ 12 := HGD.out.day.n1
      have dq : ((h : Int) == (p.ys.length : Int)) = false := by simp; omega
      have hp0 := HGD.out.m0
      have hp1 := HGD.out.m1
      obtain ⟨M, hM⟩ : ∃ M : Nat, p.pm = (M : Int) := ⟨p.pm.toNat, by omega⟩
      have HM := Lib.hid hM
      have hM10 : M ≤ 10 := by omega
      clear heq hM
      refine Lib.hid ?_
      go_wp2_with fail
      clear d0 d1 d2 d3 dq e7 b0 b1 b2 c0 c1 c2' c3 f0 f1 f2 f3 a0 a1 a2 a3 a4 a5
      go_loopw [55] (fun i wr => ∃ k : Nat, k ≤ M + 1 ∧ i = .int .i64 (k : Int) ∧ Hid (Fr w wr O p A c A2 c2 h l false (best p h l (plan p r) k))) (fun i _ => M + 1 - (intOf i).toNat)
      case atStart => exact ⟨0, Nat.zero_le _, rfl, hf⟩
      case round =>
        obtain ⟨k, hk, rfl, hr⟩ := hrel
        clear hf
        by_cases hlt : k < M + 1
        · have hk0 : (0 : Int) ≤ (k : Int) := by omega
          have hkn : (k : Int) < p.pm + 1 := by rw [HM.out]; omega
          have hkp : (k : Int) ≤ p.pm := by omega
          have hk10 : (k : Int) ≤ 10 := by omega
          obtain ⟨_, b0, b1, b2⟩ := hr.out.t5
          obtain ⟨c0, c1, c2', c3⟩ := hr.out.t6.six
          obtain ⟨a0, a1, a2, a3, a4, a5⟩ := hr.out.ot.b6.out
          obtain ⟨by_, oy, hAy, hby, hcy⟩ := hr.out.ot.pat.y.at_ hhy
          have hyO := hr.out.ot.ay by_ oy hAy
          have hstb := good_st HGD.out hhx HTK.out hk0 hkp
          have hnxt := HGD.out.nx hhx HTK.out hk0 hkp
          obtain ⟨hy0, hy1⟩ := HGD.out.out hhx
          obtain ⟨⟨hs0, hs1⟩, ⟨hm0, hm1⟩, _, _⟩ := step_in HTK.out (HGD.out.vol hk0 hkp) (HGD.out.out hhx)
          have HST : Hid (∀ w, Calls Try.prog 48 #[tv (l : Int) p.a p.b, .int .i64 (k : Int), .int .i64 (p.ys.getD h 0)] w fun e w' => e = .returned (.tuple #[tv (nx p h l k) p.a p.b, .int .i64 (spl p.b l k), .int .i64 (mis p.a p.b l k (p.ys.getD h 0)), .bool true]) ∧ Below w.heap.size w w') :=
            Lib.hid (fun w => step_yes (l : Int) p.a p.b (k : Int) (p.ys.getD h 0) w hstb)
          have HOK := Lib.hid (okS_iff (p := p) (h := h) (L := (l : Int)) (v := (k : Int)))
          have hq5 : w.heap.size < wr.heap.size := by have := hr.out.l7; omega
          have hqO : O < wr.heap.size := by omega
          have hl7 := hr.out.l7
          obtain ⟨zn, hzn⟩ : ∃ zn : Nat, nx p h l k = (zn : Int) := ⟨(nx p h l k).toNat, by have := tkB_iff.1 hnxt; omega⟩
          have HZN := Lib.hid hzn
          have HZT := Lib.hid (show tkB (zn : Int) p.a p.b = true by rw [← hzn]; exact hnxt)
          clear hstb hnxt hzn
          obtain ⟨z, hz⟩ : ∃ z, nx p h l k = z := ⟨_, rfl⟩
          rw [hz] at HST HZN
          have HZ := Lib.hid hz
          clear hz
          subst hAy
          generalize hsv : spl p.b l k = s at *
          generalize hmv : mis p.a p.b l k (p.ys.getD h 0) = m at *
          generalize hyv : p.ys.getD h 0 = y at *
          have x0 := b0
          have x1 := b1
          have x2 := b2
          have x3 := a5
          have x4 := hcy
          clear hsv hmv hyv
          go_wp2_with fail
          go_cut [9, 10, 11] from 56 to 114 (fun s9 s10 s11 wx => ∃ G9 : Nat, s9 = .pointer (some ⟨G9, 0, none⟩) ∧ s10 = .int .i64 s ∧ s11 = .int .i64 m ∧ Hid (BT wx G9 z p.a p.b ∧ wr.heap.size ≤ G9) ∧ Hid (Below wr.heap.size wr wx))
          case first => as_aux_lemma =>
            have hbyz : by_ < wr.heap.size := hby
            go_region_held3 (fun w' => w'.cell? ⟨w.heap.size, 0, none⟩ = some (.int .i64 (l : Int)) ∧ w'.cell? ⟨w.heap.size, 1, none⟩ = some (.int .i64 p.a) ∧ w'.cell? ⟨w.heap.size, 2, none⟩ = some (.int .i64 p.b) ∧ w'.cell? ⟨O, 5, none⟩ = some (.slice (some ⟨by_, oy, none⟩) p.ys.length c2) ∧ w'.cell? ⟨by_, oy + h, none⟩ = some (.int .i64 y))
              (first
                | exact ⟨b0, b1, b2, a5, hcy⟩
                | (go_split_ands; exact ⟨(hb2.cell (p := ⟨w.heap.size, 0, none⟩) hq5).trans b0, (hb2.cell (p := ⟨w.heap.size, 1, none⟩) hq5).trans b1, (hb2.cell (p := ⟨w.heap.size, 2, none⟩) hq5).trans b2, (hb2.cell (p := ⟨O, 5, none⟩) hqO).trans a5, (hb2.cell (p := ⟨by_, oy + h, none⟩) hby).trans hcy⟩)
                | (go_split_ands; exact ⟨((alloc_below wr (tb 29 0 0 0)).cell (p := ⟨w.heap.size, 0, none⟩) hq5).trans b0, ((alloc_below wr (tb 29 0 0 0)).cell (p := ⟨w.heap.size, 1, none⟩) hq5).trans b1, ((alloc_below wr (tb 29 0 0 0)).cell (p := ⟨w.heap.size, 2, none⟩) hq5).trans b2, ((alloc_below wr (tb 29 0 0 0)).cell (p := ⟨O, 5, none⟩) hqO).trans a5, ((alloc_below wr (tb 29 0 0 0)).cell (p := ⟨by_, oy + h, none⟩) hby).trans hcy⟩)
                | (go_split_ands; exact ⟨(hb2.cell (p := ⟨w.heap.size, 0, none⟩) (Nat.lt_of_lt_of_le hq5 (alloc_below wr (tb 29 0 0 0)).size)).trans (((alloc_below wr (tb 29 0 0 0)).cell (p := ⟨w.heap.size, 0, none⟩) hq5).trans b0), (hb2.cell (p := ⟨w.heap.size, 1, none⟩) (Nat.lt_of_lt_of_le hq5 (alloc_below wr (tb 29 0 0 0)).size)).trans (((alloc_below wr (tb 29 0 0 0)).cell (p := ⟨w.heap.size, 1, none⟩) hq5).trans b1), (hb2.cell (p := ⟨w.heap.size, 2, none⟩) (Nat.lt_of_lt_of_le hq5 (alloc_below wr (tb 29 0 0 0)).size)).trans (((alloc_below wr (tb 29 0 0 0)).cell (p := ⟨w.heap.size, 2, none⟩) hq5).trans b2), (hb2.cell (p := ⟨O, 5, none⟩) (Nat.lt_of_lt_of_le hqO (alloc_below wr (tb 29 0 0 0)).size)).trans (((alloc_below wr (tb 29 0 0 0)).cell (p := ⟨O, 5, none⟩) hqO).trans a5), (hb2.cell (p := ⟨by_, oy + h, none⟩) (Nat.lt_of_lt_of_le hby (alloc_below wr (tb 29 0 0 0)).size)).trans (((alloc_below wr (tb 29 0 0 0)).cell (p := ⟨by_, oy + h, none⟩) hby).trans hcy)⟩)
                | (go_split_ands; exact ⟨((alloc_below w2 (tb 29 0 0 0)).cell (p := ⟨w.heap.size, 0, none⟩) hqx).trans ((hb2.cell (p := ⟨w.heap.size, 0, none⟩) hq5).trans b0), ((alloc_below w2 (tb 29 0 0 0)).cell (p := ⟨w.heap.size, 1, none⟩) hqx).trans ((hb2.cell (p := ⟨w.heap.size, 1, none⟩) hq5).trans b1), ((alloc_below w2 (tb 29 0 0 0)).cell (p := ⟨w.heap.size, 2, none⟩) hqx).trans ((hb2.cell (p := ⟨w.heap.size, 2, none⟩) hq5).trans b2), ((alloc_below w2 (tb 29 0 0 0)).cell (p := ⟨O, 5, none⟩) hOx).trans ((hb2.cell (p := ⟨O, 5, none⟩) hqO).trans a5), ((alloc_below w2 (tb 29 0 0 0)).cell (p := ⟨by_, oy + h, none⟩) hbx9).trans ((hb2.cell (p := ⟨by_, oy + h, none⟩) hby).trans hcy)⟩)
                | (go_split_ands; exact ⟨((alloc_below w2 (tb 29 z p.a p.b)).cell (p := ⟨w.heap.size, 0, none⟩) hqx).trans ((hb2.cell (p := ⟨w.heap.size, 0, none⟩) hq5).trans b0), ((alloc_below w2 (tb 29 z p.a p.b)).cell (p := ⟨w.heap.size, 1, none⟩) hqx).trans ((hb2.cell (p := ⟨w.heap.size, 1, none⟩) hq5).trans b1), ((alloc_below w2 (tb 29 z p.a p.b)).cell (p := ⟨w.heap.size, 2, none⟩) hqx).trans ((hb2.cell (p := ⟨w.heap.size, 2, none⟩) hq5).trans b2), ((alloc_below w2 (tb 29 z p.a p.b)).cell (p := ⟨O, 5, none⟩) hOx).trans ((hb2.cell (p := ⟨O, 5, none⟩) hqO).trans a5), ((alloc_below w2 (tb 29 z p.a p.b)).cell (p := ⟨by_, oy + h, none⟩) hbx9).trans ((hb2.cell (p := ⟨by_, oy + h, none⟩) hby).trans hcy)⟩)
                | (go_split_ands; exact ⟨(put_far w2 wr.heap.size (w.heap.size) (0) (.int .i64 z) (.int .i64 p.a) (.int .i64 p.b) (by omega)).trans ((hb2.cell (p := ⟨w.heap.size, 0, none⟩) (Nat.lt_of_lt_of_le hq5 (alloc_below wr (tb 29 0 0 0)).size)).trans (((alloc_below wr (tb 29 0 0 0)).cell (p := ⟨w.heap.size, 0, none⟩) hq5).trans b0)), (put_far w2 wr.heap.size (w.heap.size) (1) (.int .i64 z) (.int .i64 p.a) (.int .i64 p.b) (by omega)).trans ((hb2.cell (p := ⟨w.heap.size, 1, none⟩) (Nat.lt_of_lt_of_le hq5 (alloc_below wr (tb 29 0 0 0)).size)).trans (((alloc_below wr (tb 29 0 0 0)).cell (p := ⟨w.heap.size, 1, none⟩) hq5).trans b1)), (put_far w2 wr.heap.size (w.heap.size) (2) (.int .i64 z) (.int .i64 p.a) (.int .i64 p.b) (by omega)).trans ((hb2.cell (p := ⟨w.heap.size, 2, none⟩) (Nat.lt_of_lt_of_le hq5 (alloc_below wr (tb 29 0 0 0)).size)).trans (((alloc_below wr (tb 29 0 0 0)).cell (p := ⟨w.heap.size, 2, none⟩) hq5).trans b2)), (put_far w2 wr.heap.size (O) (5) (.int .i64 z) (.int .i64 p.a) (.int .i64 p.b) (by omega)).trans ((hb2.cell (p := ⟨O, 5, none⟩) (Nat.lt_of_lt_of_le hqO (alloc_below wr (tb 29 0 0 0)).size)).trans (((alloc_below wr (tb 29 0 0 0)).cell (p := ⟨O, 5, none⟩) hqO).trans a5)), (put_far w2 wr.heap.size (by_) (oy + h) (.int .i64 z) (.int .i64 p.a) (.int .i64 p.b) (by omega)).trans ((hb2.cell (p := ⟨by_, oy + h, none⟩) (Nat.lt_of_lt_of_le hby (alloc_below wr (tb 29 0 0 0)).size)).trans (((alloc_below wr (tb 29 0 0 0)).cell (p := ⟨by_, oy + h, none⟩) hby).trans hcy))⟩)
                | go_keep)
              ((go_at_call 48; refine (HST.out _).mono ?_; rintro e w2 ⟨rfl, hb2⟩; have hz2 : wr.heap.size ≤ w2.heap.size := Nat.le_trans (by simp) hb2.size; have hqx : w.heap.size < w2.heap.size := Nat.lt_of_lt_of_le hq5 hz2; have hOx : O < w2.heap.size := Nat.lt_of_lt_of_le hqO hz2; have hbx9 : by_ < w2.heap.size := Nat.lt_of_lt_of_le hby hz2; obtain ⟨hc2, hf2⟩ := bcell hb2))
            all_goals
              clear hc2 hf2
              go_wp2_with fail
              go_meet
              first
                | exact ⟨w2.heap.size, rfl, rfl, rfl, Lib.hid ⟨BT.new w2 _ z p.a p.b, by omega⟩, Lib.hid ((below_drew_trans hb2).trans ((alloc_below w2 _).mono hz2))⟩
                | exact ⟨wr.heap.size, rfl, rfl, rfl, Lib.hid ⟨((show BT (wr.alloc (tb 29 0 0 0)).drew wr.heap.size 0 0 0 from BT.new wr 29 0 0 0).kept hb2).put z p.a p.b, Nat.le_refl _⟩, Lib.hid (put_below (((alloc_below wr (tb 29 0 0 0)).drew).trans (hb2.mono (by simp))) (Nat.le_refl _) _ _ _)⟩
          case rest => as_aux_lemma =>
            obtain ⟨G9, rfl, rfl, rfl, h9, hbw⟩ := hcut
            obtain ⟨w2, hw2⟩ : ∃ w2, w2 = wc := ⟨_, rfl⟩
            subst hw2
            clear x0 x1 x2 x3 x4 b0 b1 b2 a0 a1 a2 a3 a4 a5 hcy hby
            have HF2 := Lib.hid (hr.out.below hbw.out)
            obtain ⟨h9b, h9l⟩ := h9.out
            obtain ⟨_, n0, n1, n2⟩ := h9b
            clear h9 hbw hr HST c0 c1 c2' c3
            cases hok : okS p h l k with
            | false =>
              have HST9 := Lib.hid (show best p h l (plan p r) (k + 1) = best p h l (plan p r) k from if_neg (by unfold can; rw [hok]; simp))
              have hsm : ¬ (s = 0 ∧ m = 0) := fun e => by have := HOK.out.2 e; rw [hok] at this; cases this
              by_cases hs9 : 0 < s
              · refine Lib.hid ?_
                go_wp2_with fail
                go_roundw
                case rel => exact ⟨k + 1, by omega, by go_num, by rw [HST9.out]; exact HF2⟩
                case measure => simp [intOf]; omega
              · have hm9 : 0 < m := by omega
                refine Lib.hid ?_
                go_wp2_with fail
                go_roundw
                case rel => exact ⟨k + 1, by omega, by go_num, by rw [HST9.out]; exact HF2⟩
                case measure => simp [intOf]; omega
            | true =>
              have hsm := HOK.out.1 hok
              have hs9 : ¬ 0 < s := by omega
              have hm9 : ¬ 0 < m := by omega
              have hzz := HZN.out
              subst hzz
              have HCAN := Lib.hid (show can p h l (plan p r) k = (plan p r zn).ex by unfold can; rw [hok, HZ.out]; rfl)
              have HCST := Lib.hid (show cst p h l (plan p r) k = p.xs.getD h 0 * k + (plan p r zn).cost by unfold cst; rw [HZ.out])
              have hcb := HGD.out.cost (r := r) (by have := HH.out; omega) (zn : Int)
              have hxb := HGD.out.price hhx
              have hmb := mul_bd hxb ⟨hk0, hk10⟩
              have hr12 : r ≤ 12 := by have := HH.out; omega
              refine Lib.hid ?_
              go_wp2_with (first | (go_at_call 46; refine (HIH.out zn _ HZT.out HF2.out.ot).mono ?_; rintro e w5 ⟨rfl, hg5, ho5⟩; refine Hid.out ?_) | fail)
              have HF5 := Lib.hid (HF2.out.call hg5 ho5)
              clear HF2 hg5 ho5 n0 n1 n2 HIH
              generalize hpl : plan p r (zn : Int) = pp at *
              obtain ⟨px, pc, pvl⟩ := pp
              simp only at hcb HCAN HCST
              have hz5 := HF5.out.l7
              have HF6 := Lib.hid (HF5.out.below (alloc_below w5 (.cells #[.bool true, .bool px, .int .i64 pc, .int .i64 pvl] 60)))
              have e13 : E4 (w5.alloc (.cells #[.bool true, .bool px, .int .i64 pc, .int .i64 pvl] 60)) w5.heap.size 0 true ⟨px, pc, pvl⟩ := by
                refine ⟨?_, ?_, ?_, ?_⟩ <;> (rw [World.cell?_alloc_at _ _ _ _ rfl]; rfl)
              have hz13 := new_lt w5 (.cells #[.bool true, .bool px, .int .i64 pc, .int .i64 pvl] 60)
              refine Lib.hid ?_
              go_wp2_with fail
              obtain ⟨w6, hw6⟩ : ∃ w6, w6 = w5.alloc (.cells #[.bool true, .bool px, .int .i64 pc, .int .i64 pvl] 60) := ⟨_, rfl⟩
              rw [← hw6] at HF6 e13 hz13 ⊢
              clear hw6 HF5
              have E13 := Lib.hid e13
              clear e13
              obtain ⟨bx, ox, hAx, hbx, hcx⟩ := HF6.out.ot.pat.x.at_ hhx
              subst hAx
              obtain ⟨a0, a1, a2, a3, a4, a5⟩ := HF6.out.ot.b6.out
              obtain ⟨g0, g1, g2, g3⟩ := E13.out.six
              generalize hxv : p.xs.getD h 0 = x at *
              clear hxv
              generalize hmv : x * (k : Int) = m9v at *
              have HMV := Lib.hid hmv
              clear hmv
              have HW := Lib.hid (show wrap64 (wrap64 (x * (k : Int)) + pc) = m9v + pc by rw [HMV.out]; unfold wrap64; omega)
              refine wp_onlyN ?_
              go_region
              all_goals
                refine onlyN_normal ?_
                have HF7 := Lib.hid (HF6.out.below (Below.refl _ _).drew)
                have HE7 := Lib.hid (show E4 w6.drew w5.heap.size 0 true ⟨px, pc, pvl⟩ from ⟨E13.out.k0, E13.out.k1, E13.out.k2, E13.out.k3⟩)
                clear a0 a1 a2 a3 a4 a5 g0 g1 g2 g3 hcx
                obtain ⟨w7, hw7⟩ : ∃ w7, w7 = w6.drew := ⟨_, rfl⟩
                rw [← hw7] at HF7 HE7 ⊢
                clear hw7 HF6
                obtain ⟨g0, g1, g2, g3⟩ := HE7.out.six
                obtain ⟨c0, c1, c2', c3⟩ := HF7.out.t6.six
                obtain ⟨f0, f1, f2, f3⟩ := fz_four HF7.out.f6
                have hl9 := HF7.out.l7
                try rw [HW.out]
                cases px with
                | false =>
                  have HST9 := Lib.hid (show best p h l (plan p r) (k + 1) = best p h l (plan p r) k from if_neg (by rw [HCAN.out]; simp))
                  refine Lib.hid ?_
                  go_wp2_with fail
                  go_roundw
                  case rel => exact ⟨k + 1, by omega, by go_num, by rw [HST9.out]; exact HF7⟩
                  case measure => simp [intOf]; omega
                | true =>
                  have hput := HF7.out.put false ⟨true, m9v + pc, k⟩
                  cases hax : (best p h l (plan p r) k).ex with
                  | false =>
                    have HST9 := Lib.hid (show best p h l (plan p r) (k + 1) = ⟨true, m9v + pc, k⟩ from (if_pos ⟨HCAN.out, .inl hax⟩).trans (by rw [HCST.out]))
                    rw [hax] at c1
                    clear hax
                    refine Lib.hid ?_
                    go_wp2_with fail
                    go_roundw
                    case rel => exact ⟨k + 1, by omega, by go_num, by rw [HST9.out]; exact Lib.hid hput⟩
                    case measure => simp [intOf]; omega
                  | true =>
                    by_cases hlc : m9v + pc < (best p h l (plan p r) k).cost
                    · have HST9 := Lib.hid (show best p h l (plan p r) (k + 1) = ⟨true, m9v + pc, k⟩ from (if_pos ⟨HCAN.out, .inr (by rw [HCST.out]; exact hlc)⟩).trans (by rw [HCST.out]))
                      rw [hax] at c1
                      clear hax
                      refine Lib.hid ?_
                      go_wp2_with fail
                      go_roundw
                      case rel => exact ⟨k + 1, by omega, by go_num, by rw [HST9.out]; exact Lib.hid hput⟩
                      case measure => simp [intOf]; omega
                    · have HST9 := Lib.hid (show best p h l (plan p r) (k + 1) = best p h l (plan p r) k from if_neg (by rw [HCST.out, hax]; simp; omega))
                      rw [hax] at c1
                      clear hax
                      refine Lib.hid ?_
                      go_wp2_with fail
                      go_roundw
                      case rel => exact ⟨k + 1, by omega, by go_num, by rw [HST9.out]; exact HF7⟩
                      case measure => simp [intOf]; omega
        · have e : k = M + 1 := by omega
          have hkn : ¬ (k : Int) < p.pm + 1 := by rw [HM.out]; omega
          have HPL := Lib.hid (show plan p (r + 1) l = best p h l (plan p r) k by
            show best p (p.xs.length - (r + 1)) l (plan p r) (p.pm.toNat + 1) = _
            rw [show p.xs.length - (r + 1) = h by have := HH.out; omega, HM.out, e]
            rfl)
          have hput := hr.out.put false (best p h l (plan p r) k)
          obtain ⟨c0, c1, c2', c3⟩ := hr.out.t6.six
          obtain ⟨f0, f1, f2, f3⟩ := fz_four hr.out.f6
          have hl9 := hr.out.l7
          clear e
          generalize hbb : best p h l (plan p r) k = bb at *
          clear hbb
          go_wp2_with fail
          rw [HPL.out]
          refine fr_leave hput hny hl60 (by rw [HQ.out, HPL.out]) (fun W' h6 => ?_)
          obtain ⟨g0, g1, g2, g3⟩ := h6.six
          simp [results, Try.results46, go_sem, g0, g1, g2, g3]
end Go.Proofs.Ytlkomipjamelkaa.S13
