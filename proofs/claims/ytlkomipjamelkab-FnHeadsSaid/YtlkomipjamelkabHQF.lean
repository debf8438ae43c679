/- The law FnHeads holds of the program: for every bytes the heads of the drawn tree fall by the loss of each pipe, with the head that is needed no node is weak and with one less some node is, and nothing is written into the argument. Condition: the argument is laid out as the row says. -/
import Derived.Test.YtlkomipjamelkabLawInts
import Derived.Test.YtlkomipjamelkabHQE
import Derived.Test.YtlkomipjamelkabHQA
import Derived.Test.YtlkomipjamelkabQuietOne
import Derived.Test.YtlkomipjamelkabHQB
import Derived.Deep.DeepCutAuto
import Derived.Test.YtlkomipjamelkabPfDraw
import Derived.OpenShut
import Derived.StillTailTactics
import Derived.Test.YtlkomipjamelkabRows
import Derived.WalkKit
import Derived.ProofKit
import Derived.ChangeOld
import Derived.Below
namespace Go.Proofs.Ytlkomipjamelkab.S2
open Go.RowKit Go.Sort P2

theorem met_at1 {P : Program} {f : FuncId} {args : Array Value} {w : World} {d : Nat} {os : Array Obj} {v : Value}
    (h : ∀ w', Below w.heap.size w w' → Calls P f args w' fun e w'' => e = .returned v ∧ Below w'.heap.size w' w'') : Calls P f args (grow (redrawn w d) os) fun e w'' => e = .returned v ∧ ∃ p : Regrown, w'' = grow (redrawn w p.d) p.os :=
  Calls.regrown_of (h _ (below_regrown w d os))

abbrev rw_ (ls : List (List Int)) (i : Nat) : List Int := ls.getD i []
/-- The rows ls lie there. -/
def SAt (w : World) (A : Option Addr) (ls : List (List Int)) : Prop :=
  ls = [] ∨ ∃ b off, A = some ⟨b, off, none⟩ ∧ b < w.heap.size ∧ ∀ i, i < ls.length → ∃ B c, w.cell? ⟨b, off + i, none⟩ = some (.slice B (rw_ ls i).length c) ∧ IAt w B (rw_ ls i)
theorem SAt.kept {w w' : World} {A : Option Addr} {ls : List (List Int)} {S : Nat} (h : SAt w A ls) (hb : Below S w w') (hS : w.heap.size ≤ S) : SAt w' A ls := by
  rcases h with h | ⟨b, off, hA, hlt, h⟩
  · exact .inl h
  · refine .inr ⟨b, off, hA, Nat.lt_of_lt_of_le hlt hb.size, fun i hi => ?_⟩
    obtain ⟨B, c, hc, hI⟩ := h i hi
    exact ⟨B, c, (hb.cell (p := ⟨b, off + i, none⟩) (by show b < S; omega)).trans hc, hI.kept hb hS⟩
theorem SAt.at_ {w : World} {A : Option Addr} {ls : List (List Int)} (h : SAt w A ls) {i : Nat} (hi : i < ls.length) : ∃ b off B c, A = some ⟨b, off, none⟩ ∧ b < w.heap.size ∧ w.cell? ⟨b, off + i, none⟩ = some (.slice B (rw_ ls i).length c) ∧ IAt w B (rw_ ls i) := by
  rcases h with h | ⟨b, off, hA, hlt, h⟩
  · subst h; simp at hi
  · obtain ⟨B, c, hc, hI⟩ := h i hi
    exact ⟨b, off, B, c, hA, hlt, hc, hI⟩

end Go.Proofs.Ytlkomipjamelkab.S2

namespace Go.Proofs.Ytlkomipjamelkab.S2
open Go.RowKit P2

theorem vbig_no (a : Option Addr) (n cap : Nat) (w : World) (hn : n ≤ 65536) : Calls Try.prog 7 #[.slice a n cap] w fun e w' => e = .returned (.bool false) ∧ w' = w := by
  have h : ¬ ((65536 : Int) < (n : Int)) := by omega
  go_enter Try.func7, Try.ntmps7
  go_wp2
  go_ret
  exact ⟨rfl, rfl⟩
theorem vbig_yes (a : Option Addr) (n cap : Nat) (w : World) (hn : 65536 < n) : Calls Try.prog 7 #[.slice a n cap] w fun e w' => e = .returned (.bool true) ∧ w' = w := by
  have h : ((65536 : Int) < (n : Int)) := by omega
  go_enter Try.func7, Try.ntmps7
  go_wp2
  go_ret
  exact ⟨rfl, rfl⟩
set_option maxHeartbeats 1000000 in
theorem vints_same (A A2 : Option Addr) (cap cap2 : Nat) (l : List Int) (w : World) (h : IAt w A l) (h2 : IAt w A2 l) (hn : l.length ≤ 1048576) :
    Calls Try.prog 11 #[.slice A l.length cap, .slice A2 l.length cap2] w fun e w' => e = .returned (.bool true) ∧ Below w.heap.size w w' := by
  have HA := Lib.hid h
  have HA2 := Lib.hid h2
  clear h h2
  go_enter Try.func11, Try.ntmps11
  go_wp2
  go_loopw [5] (fun i wr => ∃ (k d : Nat), k ≤ l.length ∧ i = .int .i64 k ∧ wr = w.drewN d) (fun i _ => l.length - (intOf i).toNat)
  case atStart => exact ⟨0, 0, Nat.zero_le _, rfl, rfl⟩
  case round =>
    obtain ⟨k, d, hk, rfl, rfl⟩ := hrel
    by_cases hlt : k < l.length
    · obtain ⟨b, off, hA, hbl, h0⟩ := HA.out.at_ hlt
      obtain ⟨b2, off2, hA2, hbl2, g0⟩ := HA2.out.at_ hlt
      subst hA hA2
      have hk0i : (0 : Int) ≤ (k : Int) := by omega
      have hk1i : (k : Int) < (l.length : Int) := by omega
      generalize l.getD k 0 = x at *
      go_wp2
      go_quiet (fail)
      go_wp2
      go_roundw
      case rel => exact ⟨k + 1, _, by omega, by go_num, rfl⟩
      case measure => simp [intOf]; omega
    · go_wp2
      go_ret
      exact ⟨rfl, below_drewN (Below.refl _ _) d⟩
set_option maxHeartbeats 1000000 in
theorem vhas_any (A : Option Addr) (cap : Nat) (l : List Int) (v : Int) (w : World) (h : IAt w A l) (hl : l.length ≤ 1048576) :
    Calls Try.prog 16 #[.slice A l.length cap, .int .i64 v] w fun e w' => e = .returned (.bool (decide (v ∈ l))) ∧ w' = w := by
  have HA := Lib.hid h
  clear h
  go_enter Try.func16, Try.ntmps16
  go_wp2
  go_loopw [5] (fun i wr => ∃ k : Nat, k ≤ l.length ∧ i = .int .i64 k ∧ Hid (∀ j, j < k → l.getD j 0 ≠ v) ∧ wr = w) (fun i _ => l.length - (intOf i).toNat)
  case atStart => exact ⟨0, by omega, rfl, Lib.hid (fun j hj => absurd hj (by omega)), rfl⟩
  case round =>
    obtain ⟨k, hk, rfl, hno, hw⟩ := hrel
    replace hw := hw.symm
    subst hw
    by_cases hlt : k < l.length
    · obtain ⟨b, off, hA, hbl, h1⟩ := HA.out.at_ (i := k) hlt
      subst hA
      have hk0 : (0 : Int) ≤ (k : Int) := by omega
      have hkn : (k : Int) < (l.length : Int) := by omega
      by_cases he : l.getD k 0 = v
      · have HM := Lib.hid (show v ∈ l from by rw [← he]; simp [List.getD, hlt])
        rw [he] at h1
        clear he hno
        go_wp2
        go_ret
        exact ⟨by rw [decide_eq_true HM.out]; rfl, rfl⟩
      · have hne : ¬ v = l.getD k 0 := fun e => he e.symm
        have hno2 := Lib.hid (show ∀ j, j < k + 1 → l.getD j 0 ≠ v from fun j hj => by
          by_cases e : j = k
          · subst e; exact he
          · exact hno.out j (by omega))
        clear he hno
        generalize l.getD k 0 = x at *
        go_wp2
        go_roundw
        case rel => exact ⟨k + 1, by omega, by go_num, hno2, trivial⟩
        case measure => simp [intOf]; omega
    · have HM := Lib.hid (show v ∉ l from fun hm => by
        obtain ⟨j, hj, e⟩ := List.getElem_of_mem hm
        exact hno.out j (by omega) (by simp [List.getD, hj, e]))
      clear hno
      go_wp2
      go_ret
      exact ⟨by rw [decide_eq_false HM.out]; rfl, rfl⟩
end Go.Proofs.Ytlkomipjamelkab.S2

namespace Go.Proofs.Ytlkomipjamelkab.S2
open Go.RowKit P2

theorem los_at9 {n : Int} {ps : List Pp} {cu : List Int} (hv : floB n ps cu = true) (hm : ps.length ≤ maxLen) (hcl : cu.length ≤ 1048576) {i : Nat} (hi : i < ps.length) (A : Option Addr) (c : Nat) (AC : Option Addr) (cc : Nat) (w : World) (h : PAt w A ps) (hc : IAt w AC cu) :
    Calls Try.prog 23 #[nv n A ps.length c, .slice AC cu.length cc, .int .i64 (pAt ps i).id] w fun e w' => e = .returned (.tuple #[.int .i64 (lossI (pAt ps i) (lA cu i)), .bool true]) ∧ Below w.heap.size w w' := by
  obtain ⟨hg, _, _⟩ := floB_of hv
  obtain ⟨N, rfl⟩ := good_nat hg
  exact los_yes N i A c ps AC cc cu _ w h hm hc hcl hv hi (plc_at hg hi).2
theorem below_dnH {B : Nat} {a w : World} (h : Below B a w) (n : Nat) : Below B a (w.drewN n) := ⟨h.os, h.tape, h.output, h.size, h.block⟩
theorem below_drH {B : Nat} {a w : World} (h : Below B a w) : Below B a w.drew := h.drew
set_option maxHeartbeats 8000000 in
set_option maxRecDepth 100000 in
theorem walkHeads (a : Option Addr) (n cap : Nat) (w : World) (hc : S1.Cd w.heap.size a n w) :
    Calls Try.prog 4 #[.slice a n cap] w fun e w' => e = .returned (.bool true) ∧ Below w.heap.size w w' := by
  have HC := Lib.hid hc
  clear hc
  by_cases hbig : 65536 < n
  · have H := Lib.hid (fun w => vbig_yes a n cap w hbig)
    go_enter Try.func4, Try.ntmps4
    go_wp2_with (go_at_call 7; refine (H.out _).mono ?_; rintro e w1 ⟨rfl, rfl⟩)
    go_ret
    exact ⟨rfl, Below.refl _ _⟩
  have hn : n ≤ 65536 := by omega
  have HR := Lib.hid (fun w => vbig_no a n cap w hn)
  clear hbig
  go_enter Try.func4, Try.ntmps4
  refine Hid.out ?_
  refine Lib.hid ?_
  go_wp2_with (first
    | (go_at_call 7; refine (HR.out _).mono ?_; rintro e w0 ⟨rfl, hw0⟩; replace hw0 := hw0.symm; subst hw0)
    | (go_at_call 20; refine (dheads_any a n cap _ HC.out hn).mono ?_; rintro e w1 ⟨N, A, c, ps, x, q1, c1, dm, h0, rfl, hnet, hdl, hdo, hb1⟩; refine Hid.out ?_)
    | fail)
  have hcap := hnet.cap
  have hp12 := hnet.len
  have hm : ps.length ≤ maxLen := by unfold maxLen; omega
  obtain ⟨L, ok, hL8, hok, hHT⟩ := hd_pack N ps x dm h0 hm (by omega)
  have HT := Lib.hid hHT
  have HOK := Lib.hid hok
  have HPA := Lib.hid (fun w' (hb : Below w1.heap.size w1 w') => hnet.pat.kept hb (Nat.le_refl _))
  have HDM := Lib.hid (fun w' (hb : Below w1.heap.size w1 w') => hdo.iat.kept hb (Nat.le_refl _))
  have HB1 := Lib.hid hb1
  have HX1 := Lib.hid (Below.refl (w1.heap.size + 1) (w1.alloc (nb N A ps.length c)))
  obtain ⟨b0, b1⟩ := box2 HX1.out
  have hy1 := box_lt HX1.out
  have hne : (ok != ok) = false := by cases ok <;> rfl
  clear hnet hdo hb1 hHT hok
  refine Lib.hid ?_
  go_upto_if 76 with (first
    | (go_at_call 21; refine (HT.out A c _ c1 _ (HPA.out _ (below_box HX1.out)) hcap (HDM.out _ (below_box HX1.out))).1.mono ?_; rintro e w2 ⟨g2, k2, rfl, hg2, ho2, hb2⟩; have HX2 := Lib.hid (on_call HX1.out hb2); have HI2 := Lib.hid (fun w' (hb : Below w2.heap.size w2 w') => ho2.iat.kept hb (Nat.le_refl _)); clear b0 b1 hb2 ho2 hg2; obtain ⟨b0, b1⟩ := box2 HX2.out; have hy2 := box_lt HX2.out)
    | (go_at_call 22; refine (HT.out A c _ c1 _ (HPA.out _ (below_box HX2.out)) hcap (HDM.out _ (below_box HX2.out))).2.mono ?_; rintro e w3 ⟨g3, o3, k3, rfl, hg3, ha3, hb3, hl3⟩; have HX3 := Lib.hid (on_call HX2.out hb3); have HY3 := Lib.hid hb3; have HI3 := Lib.hid ha3; clear b0 b1 hb3 ha3 hg3 hl3; obtain ⟨b0, b1⟩ := box2 HX3.out; have hy3 := box_lt HX3.out)
    | (go_at_call 11; refine (vints_same _ _ k2 k3 L _ (HI2.out _ HY3.out) HI3.out (by omega)).mono ?_; rintro e w4 ⟨rfl, hb4⟩; have HX4 := Lib.hid (on_call HX3.out hb4); have HY4 := Lib.hid (HY3.out.trans (hb4.mono HY3.out.size)); clear b0 b1 hb4; obtain ⟨b0, b1⟩ := box2 HX4.out; have hy4 := box_lt HX4.out)
    | fail)
  have HLI := Lib.hid (fun w' (hb : Below w4.heap.size w4 w') => HI2.out _ (HY4.out.trans (hb.mono HY4.out.size)))
  clear HX1 HX2 HX3 HY3 HI2 HI3 HY4 hy1 hy2 hy3 hne HT
  go_cut [] (fun wx => Hid (Below (w1.heap.size + 1) (w1.alloc (nb N A ps.length c)) wx))
  case first => as_aux_lemma =>
    cases ok with
    | false =>
      go_wp2_with fail
      go_meet
      exact HX4
    | true =>
      obtain ⟨M, s, rfl, rfl, hnd, htr, hdm, hh, hLe⟩ := HOK.out rfl
      obtain ⟨hg, s1, s2⟩ := nodeB_of hnd
      obtain ⟨_, hdn, hr⟩ := demB_of hdm
      have hM8 : M ≤ 8 := by have := hg.2.1; omega
      have hp10 := hg.2.2.1
      have HLl := Lib.hid (show L.length = M by rw [hLe, hdL_len])
      have HTF := Lib.hid (fun w' (hb1 : Below w1.heap.size w1 w') => tfl_yes M s A c ps (some ⟨q1, 0, none⟩) c1 dm w' (HPA.out w' hb1) hm (HDM.out w' hb1) (by omega) hnd htr hdm)
      have HPP := Lib.hid (fun (i : Nat) (hi : i < ps.length) => hp_pack hnd htr hdm hh hi)
      have HFB := Lib.hid (tfl_flo (s := (s : Int)) hg hr hdn)
      have HFl := Lib.hid (tfL_len M ps s dm)
      obtain ⟨sm, hsm⟩ : ∃ sm : Nat, sm + 1 = s := ⟨s - 1, by omega⟩
      have HS0 := Lib.hid (show L.getD sm 0 = h0 by
        rw [hLe, hdL_at (by omega)]
        unfold hdF
        rw [show (sm : Int) + 1 = ((s : Nat) : Int) by omega, fall_self]
        omega)
      rw [← hLe] at HPP
      generalize tfL M ps s dm = F at *
      clear hnd htr hdm hLe hg hr hh HOK hdn
      refine Hid.out ?_
      refine Lib.hid ?_
      go_upto_region 10 with (first
        | (go_at_call 9; refine (HTF.out _ (below_box HX4.out)).mono ?_; rintro e w5 ⟨g5, k5, rfl, hg5, ho5, hb5⟩; have HX5 := Lib.hid (on_call HX4.out hb5); have HF5 := Lib.hid (fun w' (hb : Below w5.heap.size w5 w') => ho5.iat.kept hb (Nat.le_refl _)); have HZ5 := Lib.hid hb5; clear b0 b1 hb5 ho5 hg5; obtain ⟨b0, b1⟩ := box2 HX5.out; have hy5 := box_lt HX5.out)
        | fail)
      have hsL : sm < L.length := by have := HLl.out; omega
      obtain ⟨bb, of2, hA2, hbl2, r0⟩ := (HLI.out _ HZ5.out).at_ hsL
      simp only [Option.some.injEq, Addr.mk.injEq, and_true] at hA2
      obtain ⟨rfl, rfl⟩ := hA2
      rw [Nat.zero_add, HS0.out] at r0
      have e1 : IntKind.i64.wrap ((s : Int) - 1) = (sm : Int) := by rw [IntWalk.i64_in _ (by omega)]; omega
      have j0 : (0 : Int) ≤ (sm : Int) := by omega
      have j1 : (sm : Int) < (L.length : Int) := by omega
      have HLI5 := Lib.hid (fun w' (hb : Below w5.heap.size w5 w') => HLI.out _ (HZ5.out.trans (hb.mono HZ5.out.size)))
      have HLO := Lib.hid (fun (i : Nat) (hi : i < ps.length) w' (hb1 : Below w1.heap.size w1 w') (hb5 : Below w5.heap.size w5 w') => los_at9 HFB.out hm (by rw [HFl.out]; omega) hi A c (some ⟨g5, 0, none⟩) k5 w' (HPA.out w' hb1) (HF5.out w' hb5))
      clear HTF HX4 HZ5 HLI HFB hy4
      go_wp2_with fail
      go_loopw [13] (fun i wr => ∃ k : Nat, i = .int .i64 (k : Int) ∧ k ≤ ps.length ∧ Hid (Below (w1.heap.size + 1) (w1.alloc (nb (M : Int) A ps.length c)) wr) ∧ Hid (Below w5.heap.size w5 wr)) (fun i _ => ps.length - (intOf i).toNat)
      case atStart => exact ⟨0, rfl, Nat.zero_le _, HX5, Lib.hid (Below.refl _ _)⟩
      case round =>
        clear HX5 b0 b1 hy5 r0 e1 j0 j1 hbl2 hsL
        obtain ⟨k, rfl, hk, HX, HZ⟩ := hrel
        obtain ⟨b0, b1⟩ := box2 HX.out
        have hyr := box_lt HX.out
        by_cases hlt : k < ps.length
        · obtain ⟨f, t, va, vb, l, hf, ht, hfr, hto, hLa, hLb, hll, hab, a1, a2, b2, b3, z1, z2, hLA⟩ := HPP.out k hlt
          have hk0 : (0 : Int) ≤ (k : Int) := by omega
          have hkn : (k : Int) < (ps.length : Int) := by omega
          have HLok0 := HLO.out k hlt
          obtain ⟨bP, off, hA, hbl, p0, p1, p2, p3⟩ := (HPA.out _ (below_box HX.out)).at_ hlt
          rw [hfr] at p1
          rw [hto] at p2
          rw [hll] at HLok0
          obtain ⟨id, hid⟩ : ∃ z, (pAt ps k).id = z := ⟨_, rfl⟩
          obtain ⟨sz, hsz⟩ : ∃ z, (pAt ps k).sz = z := ⟨_, rfl⟩
          rw [hid] at p0 HLok0
          rw [hsz] at p3
          have HLok := Lib.hid HLok0
          have HLA := Lib.hid hLA
          have HA := Lib.hid hLa
          have HBv := Lib.hid hLb
          clear hLA HLok0 hid hsz hll hfr hto hLa hLb
          have hqa := (Below.refl wr.heap.size wr).alloc (Nat.le_refl _) (.cells #[.int .i64 id, .int .i64 ((f : Int) + 1), .int .i64 ((t : Int) + 1), .int .i64 sz] 40)
          have HXq := Lib.hid (on_call HX.out hqa)
          have HZq := Lib.hid (HZ.out.trans (hqa.mono HZ.out.size))
          have r0 : (wr.alloc (.cells #[.int .i64 id, .int .i64 ((f : Int) + 1), .int .i64 ((t : Int) + 1), .int .i64 sz] 40)).cell? ⟨wr.heap.size, 0, none⟩ = some (.int .i64 id) := by rw [World.cell?_alloc_at _ _ _ _ rfl]; rfl
          have r1 : (wr.alloc (.cells #[.int .i64 id, .int .i64 ((f : Int) + 1), .int .i64 ((t : Int) + 1), .int .i64 sz] 40)).cell? ⟨wr.heap.size, 1, none⟩ = some (.int .i64 ((f : Int) + 1)) := by rw [World.cell?_alloc_at _ _ _ _ rfl]; rfl
          have r2 : (wr.alloc (.cells #[.int .i64 id, .int .i64 ((f : Int) + 1), .int .i64 ((t : Int) + 1), .int .i64 sz] 40)).cell? ⟨wr.heap.size, 2, none⟩ = some (.int .i64 ((t : Int) + 1)) := by rw [World.cell?_alloc_at _ _ _ _ rfl]; rfl
          have hzq : wr.heap.size < (wr.alloc (.cells #[.int .i64 id, .int .i64 ((f : Int) + 1), .int .i64 ((t : Int) + 1), .int .i64 sz] 40)).heap.size := by simp
          clear hqa
          subst hA
          refine Hid.out ?_
          refine Lib.hid ?_
          go_upto_region 16 with (fail)
          generalize wr.alloc (.cells #[.int .i64 id, .int .i64 ((f : Int) + 1), .int .i64 ((t : Int) + 1), .int .i64 sz] 40) = wq at *
          clear b0 b1 p0 p1 p2 p3 hbl HX HZ
          obtain ⟨b0, b1⟩ := box2 HXq.out
          have hyq := box_lt HXq.out
          go_upto_region 18 with (first
            | (go_at_call 23; refine (HLok.out _ (below_box HXq.out) HZq.out).mono ?_; rintro e w6 ⟨rfl, hb6⟩; have HX6 := Lib.hid (on_call HXq.out hb6); have HZ6 := Lib.hid (HZq.out.trans (hb6.mono HZq.out.size)); have hz6 : wr.heap.size < w6.heap.size := Nat.lt_of_lt_of_le hzq hb6.size; replace r1 := (hb6.cell (p := ⟨wr.heap.size, 1, none⟩) hzq).trans r1; replace r2 := (hb6.cell (p := ⟨wr.heap.size, 2, none⟩) hzq).trans r2; clear b0 b1 r0 hb6 HLok HXq HZq hyq hzq; obtain ⟨b0, b1⟩ := box2 HX6.out; have hy6 := box_lt HX6.out)
            | (go_at_call 24; refine (HLA.out _ c _ k5 _ (HPA.out _ (below_box HX6.out)) (HF5.out _ HZ6.out)).mono ?_; rintro e w7 ⟨rfl, hb7⟩; have HX7 := Lib.hid (on_call HX6.out hb7); have HZ7 := Lib.hid (HZ6.out.trans (hb7.mono HZ6.out.size)); replace r1 := (hb7.cell (p := ⟨wr.heap.size, 1, none⟩) hz6).trans r1; replace r2 := (hb7.cell (p := ⟨wr.heap.size, 2, none⟩) hz6).trans r2; clear b0 b1 hb7 HLA HX6 HZ6 hy6 hz6)
            | fail)
          have hfL : f < L.length := by have := HLl.out; omega
          have htL : t < L.length := by have := HLl.out; omega
          obtain ⟨bb, of2, hA2, hbl2, u1⟩ := (HLI5.out _ HZ7.out).at_ hfL
          obtain ⟨bc, of3, hA3, hbl3, u2⟩ := (HLI5.out _ HZ7.out).at_ htL
          simp only [Option.some.injEq, Addr.mk.injEq, and_true] at hA2 hA3
          obtain ⟨rfl, rfl⟩ := hA2
          obtain ⟨rfl, rfl⟩ := hA3
          rw [Nat.zero_add, HA.out] at u1
          rw [Nat.zero_add, HBv.out] at u2
          have e1 : IntKind.i64.wrap ((f : Int) + 1 - 1) = (f : Int) := by rw [IntWalk.i64_in _ (by omega)]; omega
          have e2 : IntKind.i64.wrap ((t : Int) + 1 - 1) = (t : Int) := by rw [IntWalk.i64_in _ (by omega)]; omega
          have e3 : IntKind.i64.wrap (va - vb) = l := by rw [IntWalk.i64_in _ (by omega)]; omega
          have e4 : IntKind.i64.wrap (h0 - (h0 - vb)) = vb := by rw [IntWalk.i64_in _ (by omega)]; omega
          have j0 : (0 : Int) ≤ (f : Int) := by omega
          have j1 : (f : Int) < (L.length : Int) := by omega
          have j2 : (0 : Int) ≤ (t : Int) := by omega
          have j3 : (t : Int) < (L.length : Int) := by omega
          have d1 : (l != l) = false := by simp
          have d2 : (vb != vb) = false := by simp
          clear hab a1 a2 b2 b3 z1 z2
          refine Hid.out ?_
          refine Lib.hid ?_
          go_quiet (fail)
          go_wp2_with fail
          go_roundw
          case rel => exact ⟨k + 1, by go_num, by omega, Lib.hid (by first | exact HX7.out | exact below_drH HX7.out | exact below_dnH HX7.out _), Lib.hid (by first | exact HZ7.out | exact below_drH HZ7.out | exact below_dnH HZ7.out _)⟩
          case measure => simp [intOf]; omega
        · refine Hid.out ?_
          refine Lib.hid ?_
          go_wp2_with fail
          go_meet
          exact HX
  case rest => as_aux_lemma =>
    have HBc := Lib.hid (HB1.out.trans ((below_box hcut.out).mono HB1.out.size))
    obtain ⟨w4, hw4⟩ : ∃ w4, w4 = wc := ⟨_, rfl⟩
    subst hw4
    clear HX4 hy4 b0 b1 HOK HPA HDM HB1 HLI hcut hm
    refine Hid.out ?_
    refine Lib.hid ?_
    go_wp2_with (first
      | (go_at_call 25; refine (dneed_any a n cap _ (HC.out.later HBc.out (Nat.le_refl _)) hn).mono ?_; rintro e w5 ⟨N2, A2, c2, ps2, x2, q2, k2, dm2, q3, k3, hs2, need, rfl, hd⟩; refine Hid.out ?_)
      | fail)
    obtain ⟨hnet, hdl2, hdo, hhl2, hho, hb5⟩ := hd
    have hcap2 := hnet.cap
    have hp12b := hnet.len
    have hm : ps2.length ≤ maxLen := by unfold maxLen; omega
    obtain ⟨v2, ok2, hok2, hHT⟩ := nd_pack N2 ps2 x2 dm2 hs2 need hm (by omega) (by omega)
    have HT := Lib.hid hHT
    have HOK2 := Lib.hid hok2
    have HPA := Lib.hid (fun w' (hb : Below w5.heap.size w5 w') => hnet.pat.kept hb (Nat.le_refl _))
    have HDM := Lib.hid (fun w' (hb : Below w5.heap.size w5 w') => hdo.iat.kept hb (Nat.le_refl _))
    have HHS := Lib.hid (fun w' (hb : Below w5.heap.size w5 w') => hho.iat.kept hb (Nat.le_refl _))
    have HB5 := Lib.hid (HBc.out.trans (hb5.mono HBc.out.size))
    have HX5 := Lib.hid (Below.refl (w5.heap.size + 1) (w5.alloc (nb N2 A2 ps2.length c2)))
    obtain ⟨b0, b1⟩ := box2 HX5.out
    have hy5 := box_lt HX5.out
    have hne2 : (ok2 != ok2) = false := by cases ok2 <;> rfl
    have hne3 : (v2 != v2) = false := by simp
    clear hnet hdo hho hb5 hHT hok2 HBc
    refine Lib.hid ?_
    go_upto_if 193 with (first
      | (go_at_call 26; refine (HT.out A2 c2 _ k2 _ k3 _ (HPA.out _ (below_box HX5.out)) hcap2 (HDM.out _ (below_box HX5.out)) (HHS.out _ (below_box HX5.out))).1.mono ?_; rintro e w6 ⟨rfl, hb6⟩; have HX6 := Lib.hid (on_call HX5.out hb6); clear b0 b1 hb6; obtain ⟨b0, b1⟩ := box2 HX6.out; have hy6 := box_lt HX6.out)
      | (go_at_call 27; refine (HT.out A2 c2 _ k2 _ k3 _ (HPA.out _ (below_box HX6.out)) hcap2 (HDM.out _ (below_box HX6.out)) (HHS.out _ (below_box HX6.out))).2.mono ?_; rintro e w7 ⟨rfl, hb7⟩; have HX7 := Lib.hid (on_call HX6.out hb7); clear b0 b1 hb7; obtain ⟨b0, b1⟩ := box2 HX7.out; have hy7 := box_lt HX7.out)
      | fail)
    clear HX5 HX6 hy5 hy6 HT hne2 hne3
    go_cut [] (fun wx => Hid (Below (w5.heap.size + 1) (w5.alloc (nb N2 A2 ps2.length c2)) wx))
    case first => as_aux_lemma =>
      cases ok2 with
      | false =>
        go_wp2_with fail
        go_meet
        exact HX7
      | true =>
        obtain ⟨M, s, rfl, rfl, hnd, htr, hdm, hvs, hnr, hR, hv, hM0, hvl⟩ := HOK2.out rfl
        obtain ⟨hv1, hv2⟩ := hdR_of hR
        obtain ⟨hW, L3, ok3, hL3, hL38, hW3⟩ := nk_pack hm (show dm2.length ≤ 1048576 by omega) (show hs2.length ≤ 1048576 by omega) hnd htr hdm hvs hnr hR hv hM0 hvl
        have HW := Lib.hid hW
        have HW3 := Lib.hid hW3
        have e1 : IntKind.i64.wrap (v2 - 1) = v2 - 1 := IntWalk.i64_in _ (by omega)
        have hd3 : ok3 = true → decide ((L3.length : Int) = 0) = false := fun h => decide_eq_false (by have := hL3 h; omega)
        have hd4 : ok3 = true → ((L3.length : Int) == 0) = false := fun h => beq_eq_false_iff_ne.2 (by have := hL3 h; omega)
        have HD3 := Lib.hid hd3
        have HD4 := Lib.hid hd4
        clear hW hW3 hnd htr hdm hvs hnr hR hv hvl hL3 hd3 hd4 HOK2
        refine Hid.out ?_
        refine Lib.hid ?_
        cases ok3 with
        | false =>
          go_wp2_with (first
            | (go_at_call 28; refine (HW.out A2 c2 _ k2 _ k3 _ (HPA.out _ (below_box HX7.out)) hcap2 (HDM.out _ (below_box HX7.out)) (HHS.out _ (below_box HX7.out))).mono ?_; rintro e w8 ⟨g8, k8, rfl, hg8, ho8, hb8⟩; have HX8 := Lib.hid (on_call HX7.out hb8); clear b0 b1 hb8 ho8 hg8 HW; obtain ⟨b0, b1⟩ := box2 HX8.out; have hy8 := box_lt HX8.out)
            | (go_at_call 28; refine (HW3.out A2 c2 _ k2 _ k3 _ (HPA.out _ (below_box HX8.out)) hcap2 (HDM.out _ (below_box HX8.out)) (HHS.out _ (below_box HX8.out))).mono ?_; rintro e w9 ⟨g9, k9, rfl, hg9, ho9, hb9⟩; have HX9 := Lib.hid (on_call HX8.out hb9); clear b0 b1 hb9 ho9 hg9 HW3; obtain ⟨b0, b1⟩ := box2 HX9.out; have hy9 := box_lt HX9.out)
            | fail)
          go_meet
          exact HX9
        | true =>
          have hd3 := HD3.out rfl
          have hd4 := HD4.out rfl
          go_wp2_with (first
            | (go_at_call 28; refine (HW.out A2 c2 _ k2 _ k3 _ (HPA.out _ (below_box HX7.out)) hcap2 (HDM.out _ (below_box HX7.out)) (HHS.out _ (below_box HX7.out))).mono ?_; rintro e w8 ⟨g8, k8, rfl, hg8, ho8, hb8⟩; have HX8 := Lib.hid (on_call HX7.out hb8); clear b0 b1 hb8 ho8 hg8 HW; obtain ⟨b0, b1⟩ := box2 HX8.out; have hy8 := box_lt HX8.out)
            | (go_at_call 28; refine (HW3.out A2 c2 _ k2 _ k3 _ (HPA.out _ (below_box HX8.out)) hcap2 (HDM.out _ (below_box HX8.out)) (HHS.out _ (below_box HX8.out))).mono ?_; rintro e w9 ⟨g9, k9, rfl, hg9, ho9, hb9⟩; have HX9 := Lib.hid (on_call HX8.out hb9); clear b0 b1 hb9 ho9 hg9 HW3; obtain ⟨b0, b1⟩ := box2 HX9.out; have hy9 := box_lt HX9.out)
            | fail)
          go_meet
          exact HX9
    case rest => as_aux_lemma =>
      have HBd := Lib.hid (HB5.out.trans ((below_box hcut.out).mono HB5.out.size))
      obtain ⟨w8, hw8⟩ : ∃ w8, w8 = wc := ⟨_, rfl⟩
      subst hw8
      clear HX7 hy7 b0 b1 HOK2 HPA HDM HHS HB5 hcut hm
      refine Hid.out ?_
      refine Lib.hid ?_
      go_wp2_with (first
        | (go_at_call 29; refine (dweak_any a n cap _ (HC.out.later HBd.out (Nat.le_refl _)) hn).mono ?_; rintro e w9 ⟨N3, A3, c3, ps3, x3, q4, k4, dm3, h3, q5, k5, hs3, need3, rfl, hd⟩; refine Hid.out ?_)
        | fail)
      obtain ⟨hnet, hdl3, hdo, hhl3, hho, hb9⟩ := hd
      have hcap3 := hnet.cap
      have hp12c := hnet.len
      have hm : ps3.length ≤ maxLen := by unfold maxLen; omega
      obtain ⟨L4, ok4, hL48, hHT, _, _⟩ := wk_pack N3 ps3 x3 dm3 h3 hs3 need3 hm (by omega) (by omega)
      have HT := Lib.hid hHT
      have HPA := Lib.hid (fun w' (hb : Below w9.heap.size w9 w') => hnet.pat.kept hb (Nat.le_refl _))
      have HDM := Lib.hid (fun w' (hb : Below w9.heap.size w9 w') => hdo.iat.kept hb (Nat.le_refl _))
      have HHS := Lib.hid (fun w' (hb : Below w9.heap.size w9 w') => hho.iat.kept hb (Nat.le_refl _))
      have HB9 := Lib.hid (HBd.out.trans (hb9.mono HBd.out.size))
      have HX9 := Lib.hid (Below.refl (w9.heap.size + 1) (w9.alloc (nb N3 A3 ps3.length c3)))
      obtain ⟨b0, b1⟩ := box2 HX9.out
      have hy9 := box_lt HX9.out
      have hne4 : (ok4 == ok4) = true := by simp
      clear hnet hdo hho hb9 hHT HBd hm
      refine Lib.hid ?_
      go_wp2_with (first
        | (go_at_call 28; refine (HT.out A3 c3 _ k4 _ k5 _ (HPA.out _ (below_box HX9.out)) hcap3 (HDM.out _ (below_box HX9.out)) (HHS.out _ (below_box HX9.out))).1.mono ?_; rintro e wa ⟨ga, ka, rfl, hga, hoa, hba⟩; have HXa := Lib.hid (on_call HX9.out hba); have HIa := Lib.hid (fun w' (hb : Below wa.heap.size wa w') => hoa.iat.kept hb (Nat.le_refl _)); clear b0 b1 hba hoa hga; obtain ⟨b0, b1⟩ := box2 HXa.out; have hya := box_lt HXa.out)
        | (go_at_call 30; refine (HT.out A3 c3 _ k4 _ k5 _ (HPA.out _ (below_box HXa.out)) hcap3 (HDM.out _ (below_box HXa.out)) (HHS.out _ (below_box HXa.out))).2.mono ?_; rintro e wb ⟨gb, ob, kb, rfl, hgb, hab, hbb, hlb⟩; have HXb := Lib.hid (on_call HXa.out hbb); have HYb := Lib.hid hbb; have HIb := Lib.hid hab; clear b0 b1 hbb hab hgb hlb; obtain ⟨b0, b1⟩ := box2 HXb.out; have hyb := box_lt HXb.out)
        | (go_at_call 11; refine (vints_same _ _ ka kb L4 _ (HIa.out _ HYb.out) HIb.out (by omega)).mono ?_; rintro e wd ⟨rfl, hbd⟩; have HXd := Lib.hid (on_call HXb.out hbd); clear b0 b1 hbd)
        | fail)
      go_ret
      exact ⟨by simp, HB9.out.trans ((below_box HXd.out).mono HB9.out.size)⟩
end Go.Proofs.Ytlkomipjamelkab.S2

namespace Go.Proofs.Ytlkomipjamelkab.S1
open Go.RowKit Go.ChangeShapes Go.WideShapes Go.ChangeAt
open Go.Lib

/-- What the walk is told of the bytes that came in. -/
def IsRow (k : IntKind) (w : World) (a : Option Addr) (len cap : Nat) (zs : List Int) : Prop :=
  (a = none ∧ len = 0 ∧ cap = 0 ∧ zs = []) ∨
  ∃ x, a = some x ∧ len ≤ cap ∧ cap ≤ maxLen ∧ zs.length = cap ∧ (∀ i, i < zs.length → w.cell? (x.add i) = some (.int k (zs.getD i 0))) ∧ ∀ n ∈ zs, (Lit.int k n).wf = true

theorem cd_of_row {w : World} {a : Option Addr} {len cap : Nat} {zs : List Int} (h : IsRow .u8 w a len cap zs) : Cd w.heap.size a len w := by
  rcases h with ⟨_, h0, _⟩ | ⟨x, rfl, hl, _, hz, hc, hwf⟩
  · exact .inl h0
  · by_cases h0 : len = 0
    · exact .inl h0
    · obtain ⟨b, off, rfl, hat⟩ := ints_at hc (by omega)
      refine .inr ⟨b, off, rfl, ?_, fun j hj => ?_⟩
      · have h00 := hat 0 (by omega)
        refine Decidable.byContradiction fun hlt => ?_
        unfold World.cell? at h00
        rw [Array.getElem?_eq_none (by simpa using hlt)] at h00
        cases h00
      · have hj' : j < zs.length := by omega
        have hm : zs.getD j 0 ∈ zs := by
          have e : zs.getD j 0 = zs[j] := by simp [List.getD, hj']
          rw [e]; exact List.getElem_mem hj'
        have hw := hwf _ hm
        have hb : 0 ≤ zs.getD j 0 ∧ zs.getD j 0 ≤ 255 := by
          have e1 : IntKind.u8.min = 0 := rfl
          have e2 : IntKind.u8.max = 255 := rfl
          simpa [Lit.wf, e1, e2] using hw
        exact ⟨(zs.getD j 0).toNat, by omega, by rw [hat j hj', Int.toNat_of_nonneg hb.1]⟩

section
variable {H : Type} {enc : TypeId × Value → H} {w : World}
set_option maxRecDepth 100000 in
theorem code_open {r : Reach} {b0 : Nat} {v : Value} {d : DataW H} {p : List MemPlace} (hv : Value.okWide Try.prog w r b0 22 v) (h : DataW.Trod enc Try.prog w 0 (fun _ => true) true 22 v d p) :
    ∃ (A : Option Addr) (len cap : Nat), v = .slice A len cap ∧ Cd w.heap.size A len w := by
  obtain ⟨a0, len0, cap0, rfl⟩ := okWide_slice Try.underlying22 hv
  refine ⟨a0, len0, cap0, rfl, ?_⟩
  obtain ⟨fuel, hf⟩ := h
  rcases open_ints Try.underlying22 Try.underlying5 (by kernel_rfl) hf with ⟨hcs, _⟩ | ⟨x, l, c, zs, hcs, _, hl, hm, hz, _, hcell, hwz⟩
  · simp [Value.cells] at hcs
    obtain ⟨rfl, rfl, rfl⟩ := hcs
    exact .inl rfl
  · simp [Value.cells] at hcs
    obtain ⟨rfl, rfl, rfl⟩ := hcs
    exact cd_of_row (zs := zs) (.inr ⟨_, rfl, hl, hm, by simpa using hz, hcell, hwz⟩)
end
end Go.Proofs.Ytlkomipjamelkab.S1

namespace Go.Proofs.Ytlkomipjamelkab.fnHeads
open Go.ChangeShapes Go.WideShapes Go.ChangeAt Go.RowKit P2 S2
set_option linter.unusedVariables false

theorem own : ownKnob Try.prog.godebug = none := by kernel_rfl
theorem laidOut : laidOutB Try.prog = true := by kernel_rfl

set_option maxRecDepth 100000 in
theorem lifted (os : Os) (started : os.Started) (H : Type) (enc : TypeId × Value → H) :
    ReturnsInHanded {} Try.checked os 4 .any (Rows.fnHeadsSpec.pre6 enc Try.prog Try.f4 Rows.fnHeadsRow.domain false) (Rows.fnHeadsSpec.post enc Try.prog Try.f4 false true false false) := by
  refine returnsInHanded_of_change (C := Try.checked) own started (by kernel_rfl) Try.func4
    (ChangeSpec.witness6 (enc := enc) (C := Try.checked) false ⟨#[], #[.slice none 0 0], []⟩ 8 (by kernel_rfl) (by kernel_rfl) (by kernel_rfl) (by kernel_rfl)) ?_
  intro W base args ds gs before hval0 hW hcnd _
  have hval : ∀ (j : Nat) t v, Try.f4.params[j]? = some t → args[j]? = some v → Value.okWide Try.prog W .any base t v := hval0
  have hW' := hW
  obtain ⟨p, q, hA0, hV, rfl, hfz, hnd⟩ := hW
  have hA : DataW.TrodAll enc Try.prog W 0 (fun _ => true) true Try.f4.params.toList args.toList ds p := hA0
  rw [Try.params4] at hA hval
  obtain ⟨v0, d0, rfl, rfl, h0⟩ := trodAll_one hA
  obtain ⟨rfl, rfl⟩ := trodVars_none hV
  have k0 := h0
  have lt0 : ∀ x ∈ p, x.block < W.heap.size := by obtain ⟨m, hm⟩ := k0; exact DataW.trod_lt m _ _ _ hm
  obtain ⟨A0, len0, cap0, rfl, cd0⟩ := S1.code_open (hval 0 22 v0 rfl rfl) h0
  clear hA0 hval0
  refine (walkHeads A0 len0 cap0 W cd0).mono fun e W' ⟨he, bel⟩ => ?_
  subst he
  exact ⟨_, rfl, _, _, _, [], _, [], hW', trodAll_mk1 (shut_bool Try.underlying4 _), trodAll_mk1 (Below.trod laidOut (by kernel_rfl) (of_decide_eq_true (by kernel_rfl)) k0 bel lt0), rfl, bel.frame _, fun h => by cases h⟩

theorem andB {a b : Bool} (h : a = true) (g : b = true) : (a && b) = true := by rw [h, g]; rfl
theorem heavy : ((Rows.fnHeadsRow.inPlace == Try.pinned.checked.prog.inPlace 4) && ((Rows.fnHeadsRow.unfollowed == Try.pinned.checked.prog.unfollowed 4) && ((Rows.fnHeadsRow.recurses == Try.pinned.checked.prog.recurses 4) && (Rows.fnHeadsRow.named == Try.pinned.checked.prog.varsNamed 4)))) = true := by kernel_rfl
set_option maxHeartbeats 4000000 in
theorem closed : joinedFacts Try.pinned.checked.prog 4 Try.f4 Rows.fnHeadsSpec Rows.fnHeadsRow = true := by
  unfold joinedFacts
  simp only [Bool.and_assoc]
  have h := heavy
  rw [Bool.and_eq_true, Bool.and_eq_true, Bool.and_eq_true] at h
  obtain ⟨h1, h2, h3, h4⟩ := h
  iterate 9 refine andB (by as_aux_lemma => kernel_rfl) ?_
  refine andB (by with_reducible exact h1) (andB (by with_reducible exact h2) (andB (by with_reducible exact h3) (andB (by with_reducible exact h4) ?_)))
  as_aux_lemma => kernel_rfl
theorem named : Try.pinned.checked.prog.funcNamed Rows.fnHeadsRow.func = some 4 := by kernel_rfl
theorem instd : Try.f4.isInstance Try.pinned.checked.prog Rows.fnHeadsRow.origin Rows.fnHeadsRow.targs := of_decide_eq_true (by kernel_rfl)
theorem proved : Rows.FnHeadsSaid :=
  OpenClaim.holds_of_wide 4 Try.f4 rfl rfl rfl rfl rfl rfl rfl ⟨rfl, rfl, rfl, rfl, rfl⟩ rfl rfl rfl rfl rfl named Try.func4 closed
    instd (by unfold Func.isWrapper; first | (rw [if_pos (by decide +kernel)]; kernel_rfl) | (rw [if_neg (by decide +kernel)]; exact ⟨rfl, rfl⟩))
    (fun os started H enc _ => lifted os started H enc)
end Go.Proofs.Ytlkomipjamelkab.fnHeads
namespace Go.Proofs.Ytlkomipjamelkab
theorem FnHeads_holds : Rows.FnHeadsSaid := fnHeads.proved
#print axioms FnHeads_holds
end Go.Proofs.Ytlkomipjamelkab
