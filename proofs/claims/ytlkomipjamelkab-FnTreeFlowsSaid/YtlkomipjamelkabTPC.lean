/- The law FnTreeFlows holds of the program: for every bytes the drawn tree's flows balance and what flows through a pipe is what lies behind it, and nothing is written into the argument. Condition: the argument is laid out as the row says. -/
import Derived.Test.YtlkomipjamelkabLawInts
import Derived.Test.YtlkomipjamelkabTT
import Derived.Test.YtlkomipjamelkabTPA
import Derived.Test.YtlkomipjamelkabTPB
import Derived.Deep.DeepCutAuto
import Derived.Test.YtlkomipjamelkabPfDraw
import Derived.OpenShut
import Derived.StillTailTactics
import Derived.Test.YtlkomipjamelkabRows
import Derived.WalkKit
import Derived.ProofKit
import Derived.ChangeOld
import Derived.Below
namespace Go.Proofs.Ytlkomipjamelkab.S2
open Go.RowKit Go.Sort P2

theorem met_at1 {P : Program} {f : FuncId} {args : Array Value} {w : World} {d : Nat} {os : Array Obj} {v : Value}
    (h : ∀ w', Below w.heap.size w w' → Calls P f args w' fun e w'' => e = .returned v ∧ Below w'.heap.size w' w'') : Calls P f args (grow (redrawn w d) os) fun e w'' => e = .returned v ∧ ∃ p : Regrown, w'' = grow (redrawn w p.d) p.os :=
  Calls.regrown_of (h _ (below_regrown w d os))

abbrev rw_ (ls : List (List Int)) (i : Nat) : List Int := ls.getD i []
/-- The rows ls lie there. -/
def SAt (w : World) (A : Option Addr) (ls : List (List Int)) : Prop :=
  ls = [] ∨ ∃ b off, A = some ⟨b, off, none⟩ ∧ b < w.heap.size ∧ ∀ i, i < ls.length → ∃ B c, w.cell? ⟨b, off + i, none⟩ = some (.slice B (rw_ ls i).length c) ∧ IAt w B (rw_ ls i)
theorem SAt.kept {w w' : World} {A : Option Addr} {ls : List (List Int)} {S : Nat} (h : SAt w A ls) (hb : Below S w w') (hS : w.heap.size ≤ S) : SAt w' A ls := by
  rcases h with h | ⟨b, off, hA, hlt, h⟩
  · exact .inl h
  · refine .inr ⟨b, off, hA, Nat.lt_of_lt_of_le hlt hb.size, fun i hi => ?_⟩
    obtain ⟨B, c, hc, hI⟩ := h i hi
    exact ⟨B, c, (hb.cell (p := ⟨b, off + i, none⟩) (by show b < S; omega)).trans hc, hI.kept hb hS⟩
theorem SAt.at_ {w : World} {A : Option Addr} {ls : List (List Int)} (h : SAt w A ls) {i : Nat} (hi : i < ls.length) : ∃ b off B c, A = some ⟨b, off, none⟩ ∧ b < w.heap.size ∧ w.cell? ⟨b, off + i, none⟩ = some (.slice B (rw_ ls i).length c) ∧ IAt w B (rw_ ls i) := by
  rcases h with h | ⟨b, off, hA, hlt, h⟩
  · subst h; simp at hi
  · obtain ⟨B, c, hc, hI⟩ := h i hi
    exact ⟨b, off, B, c, hA, hlt, hc, hI⟩

end Go.Proofs.Ytlkomipjamelkab.S2

namespace Go.Proofs.Ytlkomipjamelkab.S2
open Go.RowKit P2

theorem vbig_no (a : Option Addr) (n cap : Nat) (w : World) (hn : n ≤ 65536) : Calls Try.prog 7 #[.slice a n cap] w fun e w' => e = .returned (.bool false) ∧ w' = w := by
  have h : ¬ ((65536 : Int) < (n : Int)) := by omega
  go_enter Try.func7, Try.ntmps7
  go_wp2
  go_ret
  exact ⟨rfl, rfl⟩
theorem vbig_yes (a : Option Addr) (n cap : Nat) (w : World) (hn : 65536 < n) : Calls Try.prog 7 #[.slice a n cap] w fun e w' => e = .returned (.bool true) ∧ w' = w := by
  have h : ((65536 : Int) < (n : Int)) := by omega
  go_enter Try.func7, Try.ntmps7
  go_wp2
  go_ret
  exact ⟨rfl, rfl⟩
set_option maxHeartbeats 1000000 in
theorem vints_same (A A2 : Option Addr) (cap cap2 : Nat) (l : List Int) (w : World) (h : IAt w A l) (h2 : IAt w A2 l) (hn : l.length ≤ 1048576) :
    Calls Try.prog 11 #[.slice A l.length cap, .slice A2 l.length cap2] w fun e w' => e = .returned (.bool true) ∧ Below w.heap.size w w' := by
  have HA := Lib.hid h
  have HA2 := Lib.hid h2
  clear h h2
  go_enter Try.func11, Try.ntmps11
  go_wp2
  go_loopw [5] (fun i wr => ∃ (k d : Nat), k ≤ l.length ∧ i = .int .i64 k ∧ wr = w.drewN d) (fun i _ => l.length - (intOf i).toNat)
  case atStart => exact ⟨0, 0, Nat.zero_le _, rfl, rfl⟩
  case round =>
    obtain ⟨k, d, hk, rfl, rfl⟩ := hrel
    by_cases hlt : k < l.length
    · obtain ⟨b, off, hA, hbl, h0⟩ := HA.out.at_ hlt
      obtain ⟨b2, off2, hA2, hbl2, g0⟩ := HA2.out.at_ hlt
      subst hA hA2
      have hk0i : (0 : Int) ≤ (k : Int) := by omega
      have hk1i : (k : Int) < (l.length : Int) := by omega
      generalize l.getD k 0 = x at *
      go_wp2
      go_quiet (fail)
      go_wp2
      go_roundw
      case rel => exact ⟨k + 1, _, by omega, by go_num, rfl⟩
      case measure => simp [intOf]; omega
    · go_wp2
      go_ret
      exact ⟨rfl, below_drewN (Below.refl _ _) d⟩
set_option maxHeartbeats 1000000 in
theorem vhas_any (A : Option Addr) (cap : Nat) (l : List Int) (v : Int) (w : World) (h : IAt w A l) (hl : l.length ≤ 1048576) :
    Calls Try.prog 16 #[.slice A l.length cap, .int .i64 v] w fun e w' => e = .returned (.bool (decide (v ∈ l))) ∧ w' = w := by
  have HA := Lib.hid h
  clear h
  go_enter Try.func16, Try.ntmps16
  go_wp2
  go_loopw [5] (fun i wr => ∃ k : Nat, k ≤ l.length ∧ i = .int .i64 k ∧ Hid (∀ j, j < k → l.getD j 0 ≠ v) ∧ wr = w) (fun i _ => l.length - (intOf i).toNat)
  case atStart => exact ⟨0, by omega, rfl, Lib.hid (fun j hj => absurd hj (by omega)), rfl⟩
  case round =>
    obtain ⟨k, hk, rfl, hno, hw⟩ := hrel
    replace hw := hw.symm
    subst hw
    by_cases hlt : k < l.length
    · obtain ⟨b, off, hA, hbl, h1⟩ := HA.out.at_ (i := k) hlt
      subst hA
      have hk0 : (0 : Int) ≤ (k : Int) := by omega
      have hkn : (k : Int) < (l.length : Int) := by omega
      by_cases he : l.getD k 0 = v
      · have HM := Lib.hid (show v ∈ l from by rw [← he]; simp [List.getD, hlt])
        rw [he] at h1
        clear he hno
        go_wp2
        go_ret
        exact ⟨by rw [decide_eq_true HM.out]; rfl, rfl⟩
      · have hne : ¬ v = l.getD k 0 := fun e => he e.symm
        have hno2 := Lib.hid (show ∀ j, j < k + 1 → l.getD j 0 ≠ v from fun j hj => by
          by_cases e : j = k
          · subst e; exact he
          · exact hno.out j (by omega))
        clear he hno
        generalize l.getD k 0 = x at *
        go_wp2
        go_roundw
        case rel => exact ⟨k + 1, by omega, by go_num, hno2, trivial⟩
        case measure => simp [intOf]; omega
    · have HM := Lib.hid (show v ∉ l from fun hm => by
        obtain ⟨j, hj, e⟩ := List.getElem_of_mem hm
        exact hno.out j (by omega) (by simp [List.getD, hj, e]))
      clear hno
      go_wp2
      go_ret
      exact ⟨by rw [decide_eq_false HM.out]; rfl, rfl⟩
end Go.Proofs.Ytlkomipjamelkab.S2

namespace Go.Proofs.Ytlkomipjamelkab.S2
open Go.RowKit P2

theorem node_mk9 {K v : Nat} {ps : List Pp} (hg : P2.Good K ps) (h1 : 1 ≤ v) (h2 : v ≤ K) : nodeB K ps v = true := by
  rw [nodeB_eq, good_mk hg]
  simp
  omega
theorem tot_succ (s : Nat) (dm : List Int) (ps : List Pp) (fl : List Int) (k : Nat) : totI s dm ps fl (k + 1) = totI s dm ps fl k + imbA s dm ps fl (k + 1) := rfl
set_option maxHeartbeats 8000000 in
set_option maxRecDepth 100000 in
theorem walkTrees (a : Option Addr) (n cap : Nat) (w : World) (hc : S1.Cd w.heap.size a n w) :
    Calls Try.prog 3 #[.slice a n cap] w fun e w' => e = .returned (.bool true) ∧ Below w.heap.size w w' := by
  have HC := Lib.hid hc
  clear hc
  by_cases hbig : 65536 < n
  · have H := Lib.hid (fun w => vbig_yes a n cap w hbig)
    go_enter Try.func3, Try.ntmps3
    go_wp2_with (go_at_call 7; refine (H.out _).mono ?_; rintro e w1 ⟨rfl, rfl⟩)
    go_ret
    exact ⟨rfl, Below.refl _ _⟩
  have hn : n ≤ 65536 := by omega
  have HR := Lib.hid (fun w => vbig_no a n cap w hn)
  clear hbig
  go_enter Try.func3, Try.ntmps3
  refine Hid.out ?_
  refine Lib.hid ?_
  go_wp2_with (first
    | (go_at_call 7; refine (HR.out _).mono ?_; rintro e w0 ⟨rfl, hw0⟩; replace hw0 := hw0.symm; subst hw0)
    | (go_at_call 8; refine (dtree_any a n cap _ HC.out hn).mono ?_; rintro e w1 ⟨N, A, c, ps, x, q1, c1, dm, rfl, hnet, hdl, hdo, hb1⟩; refine Hid.out ?_)
    | fail)
  have hcap := hnet.cap
  have hp12 := hnet.len
  have hm : ps.length ≤ maxLen := by unfold maxLen; omega
  obtain ⟨L, ok, hL12, hok, hHT⟩ := tfl_pack N ps x dm hm (by omega)
  have HT := Lib.hid hHT
  have HOK := Lib.hid hok
  have HPA := Lib.hid (fun w' (hb : Below w1.heap.size w1 w') => hnet.pat.kept hb (Nat.le_refl _))
  have HDM := Lib.hid (fun w' (hb : Below w1.heap.size w1 w') => hdo.iat.kept hb (Nat.le_refl _))
  have HB1 := Lib.hid hb1
  have HX1 := Lib.hid (Below.refl (w1.heap.size + 1) (w1.alloc (nb N A ps.length c)))
  obtain ⟨b0, b1⟩ := box2 HX1.out
  have hy1 := box_lt HX1.out
  have hne : (ok != ok) = false := by cases ok <;> rfl
  clear hnet hdo hb1 hHT hok
  refine Lib.hid ?_
  go_upto_if 66 with (first
    | (go_at_call 9; refine (HT.out A c _ c1 _ (HPA.out _ (below_box HX1.out)) hcap (HDM.out _ (below_box HX1.out))).1.mono ?_; rintro e w2 ⟨g2, k2, rfl, hg2, ho2, hb2⟩; have HX2 := Lib.hid (on_call HX1.out hb2); have HI2 := Lib.hid (fun w' (hb : Below w2.heap.size w2 w') => ho2.iat.kept hb (Nat.le_refl _)); clear b0 b1 hb2 ho2 hg2; obtain ⟨b0, b1⟩ := box2 HX2.out; have hy2 := box_lt HX2.out)
    | (go_at_call 10; refine (HT.out A c _ c1 _ (HPA.out _ (below_box HX2.out)) hcap (HDM.out _ (below_box HX2.out))).2.mono ?_; rintro e w3 ⟨g3, o3, k3, rfl, hg3, ha3, hb3, hl3⟩; have HX3 := Lib.hid (on_call HX2.out hb3); have HY3 := Lib.hid hb3; have HI3 := Lib.hid ha3; clear b0 b1 hb3 ha3 hg3 hl3; obtain ⟨b0, b1⟩ := box2 HX3.out; have hy3 := box_lt HX3.out)
    | (go_at_call 11; refine (vints_same _ _ k2 k3 L _ (HI2.out _ HY3.out) HI3.out (by omega)).mono ?_; rintro e w4 ⟨rfl, hb4⟩; have HX4 := Lib.hid (on_call HX3.out hb4); have HY4 := Lib.hid (HY3.out.trans (hb4.mono HY3.out.size)); clear b0 b1 hb4; obtain ⟨b0, b1⟩ := box2 HX4.out; have hy4 := box_lt HX4.out)
    | fail)
  have HLI := Lib.hid (fun w' (hb : Below w4.heap.size w4 w') => HI2.out _ (HY4.out.trans (hb.mono HY4.out.size)))
  clear HX1 HX2 HX3 HY3 HI2 HI3 HY4 hy1 hy2 hy3 hne HT
  go_cut [] (fun wx => Hid (Below (w1.heap.size + 1) (w1.alloc (nb N A ps.length c)) wx))
  case first => as_aux_lemma =>
    cases ok with
    | false =>
      go_wp2_with fail
      go_meet
      exact HX4
    | true =>
      obtain ⟨M, s, rfl, rfl, hnd, htr, hdm, hLe⟩ := HOK.out rfl
      obtain ⟨hg, hdn, hr⟩ := demB_of hdm
      have hM8 : M ≤ 8 := by have := hg.2.1; omega
      have hp10 := hg.2.2.1
      have HLl := Lib.hid (show L.length = ps.length by rw [hLe, tfL_len])
      have HDN := Lib.hid (show (dm.length : Int) = (M : Int) from hdn)
      have HPP := Lib.hid (fun (i : Nat) (hi : i < ps.length) => pipe_pack hnd htr hdm hi)
      have HBA := Lib.hid (fun w' (hb : Below w4.heap.size w4 w') (hb1 : Below w1.heap.size w1 w') => bal_yes M s A c ps (some ⟨q1, 0, none⟩) c1 dm (some ⟨g2, 0, none⟩) k2 L w' (HPA.out w' hb1) hm (HDM.out w' hb1) (by omega) (HLI.out w' hb) (by omega) (by rw [hLe]; exact tfl_ask hnd hdm))
      have HBE := show balB (imbA s dm ps L) = true by rw [hLe]; exact tfl_bal hnd htr hdm
      rw [HBE] at HBA
      have HSU := Lib.hid (fun w' (hb1 : Below w1.heap.size w1 w') => sup_yes M A c ps (some ⟨q1, 0, none⟩) c1 dm w' (HPA.out w' hb1) hm (HDM.out w' hb1) (by omega) hdm)
      have HIT := Lib.hid (fun w' (hb1 : Below w1.heap.size w1 w') => itn_any M A c ps w' (HPA.out w' hb1) hm)
      have HTA := show isTA (M : Int) ps = (true, true) by
        unfold isTA
        rw [good_mk hg, Int.toNat_natCast, htr]
        rfl
      rw [HTA] at HIT
      rw [← hLe] at HPP
      generalize sumL dm = SD at *
      clear hnd htr hdm hLe hg hr HBE HTA HOK hdn
      refine Hid.out ?_
      refine Lib.hid ?_
      go_wp2_with (first
        | (go_at_call 12; refine (HBA.out _ (Below.refl _ _) (below_box HX4.out)).mono ?_; rintro e w5 ⟨rfl, hb5⟩; have HX5 := Lib.hid (on_call HX4.out hb5); have HZ5 := Lib.hid hb5; clear b0 b1 hb5 HBA; obtain ⟨b0, b1⟩ := box2 HX5.out; have hy5 := box_lt HX5.out)
        | (go_at_call 13; refine (HSU.out _ (below_box HX5.out)).mono ?_; rintro e w6 ⟨rfl, hb6⟩; have HX6 := Lib.hid (on_call HX5.out hb6); have HZ6 := Lib.hid (HZ5.out.trans (hb6.mono HZ5.out.size)); clear b0 b1 hb6 HSU; obtain ⟨b0, b1⟩ := box2 HX6.out; have hy6 := box_lt HX6.out)
        | (go_at_call 14; refine (HIT.out _ (below_box HX6.out)).mono ?_; rintro e w7 ⟨rfl, hb7⟩; have HX7 := Lib.hid (on_call HX6.out hb7); have HZ7 := Lib.hid (HZ6.out.trans (hb7.mono HZ6.out.size)); clear b0 b1 hb7 HIT; obtain ⟨b0, b1⟩ := box2 HX7.out; have hy7 := box_lt HX7.out)
        | fail)
      go_loopw [16] (fun i wr => ∃ k : Nat, i = .int .i64 (k : Int) ∧ k ≤ ps.length ∧ Hid (Below (w1.heap.size + 1) (w1.alloc (nb (M : Int) A ps.length c)) wr) ∧ Hid (Below w4.heap.size w4 wr)) (fun i _ => ps.length - (intOf i).toNat)
      case atStart => exact ⟨0, rfl, Nat.zero_le _, HX7, HZ7⟩
      case round =>
        clear HX4 HX5 HX6 HX7 HZ5 HZ6 HZ7 b0 b1 hy4 hy5 hy6 hy7
        obtain ⟨k, rfl, hk, HX, HZ⟩ := hrel
        obtain ⟨b0, b1⟩ := box2 HX.out
        have hyr := box_lt HX.out
        by_cases hlt : k < ps.length
        · obtain ⟨D, B, T, HD, hD8, hDv, hDs, hDt, hTS, hB, hF⟩ := HPP.out k hlt
          have hk0 : (0 : Int) ≤ (k : Int) := by omega
          have hkn : (k : Int) < (ps.length : Int) := by omega
          have HDC0 := HD A c wr.drew (HPA.out wr (below_box HX.out))
          obtain ⟨bP, off, hA, hbl, p0, p1, p2, p3⟩ := (HPA.out _ (below_box HX.out)).at_ hlt
          subst hA
          have HSA := Lib.hid hDs
          have HVA := Lib.hid hDv
          have HTT := Lib.hid hDt
          have HBB := Lib.hid hB
          have HFF := Lib.hid hF
          clear HD hDs hDv hDt hB hF p1 p2 p3
          obtain ⟨id, hid⟩ : ∃ z, (pAt ps k).id = z := ⟨_, rfl⟩
          rw [hid] at p0 HDC0
          have HDC := Lib.hid HDC0
          clear HDC0 hid
          refine Hid.out ?_
          refine Lib.hid ?_
          go_upto_region 17 with (fail)
          go_region_held3 (fun w' => w'.cell? ⟨w1.heap.size, 0, none⟩ = some (.int .i64 (M : Int)) ∧ w'.cell? ⟨w1.heap.size, 1, none⟩ = some (.slice (some ⟨bP, off, none⟩) ps.length c) ∧ w'.cell? ⟨bP, off + k * 4, none⟩ = some (.int .i64 id))
            (first
              | go_keep
              | (go_split_ands
                 exact ⟨(hb5.cell (p := ⟨w1.heap.size, 0, none⟩) hyr).trans (by assumption), (hb5.cell (p := ⟨w1.heap.size, 1, none⟩) hyr).trans (by assumption), (hb5.cell (p := ⟨bP, off + k * 4, none⟩) hbl).trans (by assumption)⟩))
            ((go_at_call 15; refine HDC.out.mono ?_; rintro e w5 ⟨gs, cs, rfl, hgs, hos, hb5⟩))
          have HX5 := Lib.hid (on_call HX.out ((Below.refl wr.heap.size wr).drew.trans hb5))
          have HID := Lib.hid (fun w' (hb : Below w5.heap.size w5 w') => hos.iat.kept hb (Nat.le_refl _))
          have HZ5 := Lib.hid (HZ.out.trans (((Below.refl wr.heap.size wr).drew.trans hb5).mono HZ.out.size))
          clear hgs hos hb5
          clear b0 b1 hyr p0 hbl HDC
          refine Hid.out ?_
          refine Lib.hid ?_
          go_wp2_with fail
          go_loopw [19, 20] (fun a i w' => ∃ j : Nat, j ≤ D.length ∧ i = .int .i64 (j : Int) ∧ a = .int .i64 (sumK (fun j => tk dm (lA D j)) j) ∧ Hid (Below w5.heap.size w5 w')) (fun _ i _ => D.length - (intOf i).toNat)
          case atStart => exact ⟨0, Nat.zero_le _, rfl, rfl, Lib.hid (Below.refl _ _)⟩
          case round =>
            obtain ⟨j, hj, rfl, rfl, hB⟩ := hrel
            by_cases hjl : j < D.length
            · obtain ⟨t, htM, hDj, hSj⟩ := HVA.out j hjl
              have hs1 := HSA.out j hj
              have hs2 := HSA.out (j + 1) hjl
              rw [hSj] at hs2
              have HSJ := Lib.hid hSj
              have htd : t < dm.length := by have := HDN.out; omega
              obtain ⟨bb, of2, hA2, hbl2, r1⟩ := (HID.out _ hB.out).at_ hjl
              obtain ⟨bc, of3, hA3, hbl3, r2⟩ := (HDM.out _ ((below_box HX5.out).trans (hB.out.mono (below_box HX5.out).size))).at_ htd
              simp only [Option.some.injEq, Addr.mk.injEq, and_true] at hA2 hA3
              obtain ⟨rfl, rfl⟩ := hA2
              obtain ⟨rfl, rfl⟩ := hA3
              rw [Nat.zero_add] at r1 r2
              rw [hDj] at r1
              generalize sumK (fun j => tk dm (lA D j)) j = S at *
              generalize dm.getD t 0 = x at *
              have e1 : IntKind.i64.wrap ((t : Int) + 1 - 1) = (t : Int) := by rw [IntWalk.i64_in _ (by omega)]; omega
              have e2 : IntKind.i64.wrap (S + x) = S + x := IntWalk.i64_in _ (by omega)
              have j0 : (0 : Int) ≤ (j : Int) := by omega
              have j1 : (j : Int) < (D.length : Int) := by omega
              have t0 : (0 : Int) ≤ (t : Int) := by omega
              have t1 : (t : Int) < (dm.length : Int) := by omega
              clear hSj hDj
              go_wp2_with fail
              go_roundw
              case rel => exact ⟨j + 1, by omega, by go_num, by rw [HSJ.out], hB⟩
              case measure => simp [intOf]; omega
            · have hje : j = D.length := by omega
              have hs9 := HSA.out j hj
              rw [hje, HTT.out] at hs9 ⊢
              clear hje
              have HXq := Lib.hid (on_call HX5.out hB.out)
              have HZq := Lib.hid (HZ5.out.trans (hB.out.mono HZ5.out.size))
              have hkL : k < L.length := by have := HLl.out; omega
              obtain ⟨bb, of2, hA2, hbl2, r1⟩ := (HLI.out _ HZq.out).at_ hkL
              simp only [Option.some.injEq, Addr.mk.injEq, and_true] at hA2
              obtain ⟨rfl, rfl⟩ := hA2
              rw [Nat.zero_add, HFF.out] at r1
              obtain ⟨bP2, off2, hA4, hbl4, p0, p1, p2, p3⟩ := (HPA.out _ (below_box HXq.out)).at_ hlt
              simp only [Option.some.injEq, Addr.mk.injEq, and_true] at hA4
              obtain ⟨rfl, rfl⟩ := hA4
              obtain ⟨b0, b1⟩ := box2 HXq.out
              have hyq := box_lt HXq.out
              have HVH0 := vhas_any (some ⟨gs, 0, none⟩) cs D (pAt ps k).fr _ (HID.out _ hB.out) (by omega)
              rw [HBB.out] at HVH0
              generalize (pAt ps k).fr = fr at *
              have k1L : (k : Int) < (L.length : Int) := by omega
              have d1 : decide (SD < T) = false := decide_eq_false (by omega)
              clear p0 p2 p3
              cases B with
              | true =>
                rw [if_pos rfl] at r1
                have e1 : IntKind.i64.wrap (- -T) = T := by rw [IntWalk.i64_in _ (by omega)]; omega
                have HVH := Lib.hid HVH0
                clear HVH0 HBB
                go_wp2_with (first
                  | (go_at_call 16; refine HVH.out.mono ?_; rintro e w6 ⟨rfl, hw6⟩; replace hw6 := hw6.symm; subst hw6; clear HVH)
                  | fail)
                go_roundw
                case rel => exact ⟨k + 1, by go_num, by omega, HXq, HZq⟩
                case measure => simp [intOf]; omega
              | false =>
                rw [if_neg Bool.false_ne_true] at r1
                have HVH := Lib.hid HVH0
                clear HVH0 HBB
                go_wp2_with (first
                  | (go_at_call 16; refine HVH.out.mono ?_; rintro e w6 ⟨rfl, hw6⟩; replace hw6 := hw6.symm; subst hw6; clear HVH)
                  | fail)
                go_roundw
                case rel => exact ⟨k + 1, by go_num, by omega, HXq, HZq⟩
                case measure => simp [intOf]; omega
        · refine Hid.out ?_
          refine Lib.hid ?_
          go_wp2_with fail
          go_meet
          exact HX
  case rest => as_aux_lemma =>
    have HBc := Lib.hid (HB1.out.trans ((below_box hcut.out).mono HB1.out.size))
    obtain ⟨w4, hw4⟩ : ∃ w4, w4 = wc := ⟨_, rfl⟩
    subst hw4
    clear HX4 hy4 b0 b1 HOK HPA HDM HB1 HLI hcut hm
    refine Hid.out ?_
    refine Lib.hid ?_
    go_wp2_with (first
      | (go_at_call 17; refine (dbal_any a n cap _ (HC.out.later HBc.out (Nat.le_refl _)) hn).mono ?_; rintro e w5 ⟨N2, A2, c2, ps2, x2, q2, k2, dm2, q3, k3, fl2, rfl, hd⟩; refine Hid.out ?_)
      | fail)
    obtain ⟨hnet, hdl2, hdo, hfl2, hfo, hb5⟩ := hd
    have hm : ps2.length ≤ maxLen := by have := hnet.len; unfold maxLen; omega
    have hp12b := hnet.len
    obtain ⟨bl2, ok2, hok2, hHT⟩ := bal_pack N2 ps2 x2 dm2 fl2 hm (by omega) (by omega)
    have HT := Lib.hid hHT
    have HOK2 := Lib.hid hok2
    have HPA := Lib.hid (fun w' (hb : Below w5.heap.size w5 w') => hnet.pat.kept hb (Nat.le_refl _))
    have HDM := Lib.hid (fun w' (hb : Below w5.heap.size w5 w') => hdo.iat.kept hb (Nat.le_refl _))
    have HFL := Lib.hid (fun w' (hb : Below w5.heap.size w5 w') => hfo.iat.kept hb (Nat.le_refl _))
    have HB5 := Lib.hid (HBc.out.trans (hb5.mono HBc.out.size))
    have HX5 := Lib.hid (Below.refl (w5.heap.size + 1) (w5.alloc (nb N2 A2 ps2.length c2)))
    obtain ⟨b0, b1⟩ := box2 HX5.out
    have hy5 := box_lt HX5.out
    have hne2 : (ok2 != ok2) = false := by cases ok2 <;> rfl
    have hne3 : (bl2 != bl2) = false := by cases bl2 <;> rfl
    clear hnet hdo hfo hb5 hHT hok2 HBc
    refine Lib.hid ?_
    go_upto_region 31 with (first
      | (go_at_call 12; refine (HT.out A2 c2 _ k2 _ k3 _ (HPA.out _ (below_box HX5.out)) (HDM.out _ (below_box HX5.out)) (HFL.out _ (below_box HX5.out))).1.mono ?_; rintro e w6 ⟨rfl, hb6⟩; have HX6 := Lib.hid (on_call HX5.out hb6); clear b0 b1 hb6; obtain ⟨b0, b1⟩ := box2 HX6.out; have hy6 := box_lt HX6.out)
      | (go_at_call 18; refine (HT.out A2 c2 _ k2 _ k3 _ (HPA.out _ (below_box HX6.out)) (HDM.out _ (below_box HX6.out)) (HFL.out _ (below_box HX6.out))).2.mono ?_; rintro e w7 ⟨rfl, hb7⟩; have HX7 := Lib.hid (on_call HX6.out hb7); clear b0 b1 hb7; obtain ⟨b0, b1⟩ := box2 HX7.out; have hy7 := box_lt HX7.out)
      | fail)
    go_cut [195] (fun s wx => s = .bool false ∧ Hid (Below (w5.heap.size + 1) (w5.alloc (nb N2 A2 ps2.length c2)) wx))
    case first => as_aux_lemma =>
      go_wp2_with fail
      go_meet
      exact ⟨rfl, HX7⟩
    case rest => as_aux_lemma =>
      obtain ⟨rfl, HXd⟩ := hcut
      obtain ⟨w8, hw8⟩ : ∃ w8, w8 = wc := ⟨_, rfl⟩
      subst hw8
      clear HX5 HX6 HX7 hy5 hy6 hy7 hne2 hne3 b0 b1 HT
      refine Hid.out ?_
      refine Lib.hid ?_
      go_wp2_with fail
      cases ok2 with
      | false =>
        go_loopw [30, 31, 32] (fun a z i wr => a = .int .i64 0 ∧ z = .bool true ∧ i = .int .i64 1 ∧ Hid (Below (w5.heap.size + 1) (w5.alloc (nb N2 A2 ps2.length c2)) wr)) (fun _ _ _ _ => 0)
        case atStart => exact ⟨rfl, rfl, rfl, HXd⟩
        case round =>
          clear HXd
          obtain ⟨rfl, rfl, rfl, HX⟩ := hrel
          obtain ⟨b0, b1⟩ := box2 HX.out
          have hyr := box_lt HX.out
          by_cases h1 : (1 : Int) ≤ N2
          · have h2 : decide ((1 : Int) ≤ N2) = true := decide_eq_true h1
            clear h1
            refine Hid.out ?_
            refine Lib.hid ?_
            go_wp2_with fail
            go_ret
            exact ⟨rfl, HB5.out.trans ((below_box HX.out).mono HB5.out.size)⟩
          · have h2 : decide ((1 : Int) ≤ N2) = false := decide_eq_false h1
            clear h1
            refine Hid.out ?_
            refine Lib.hid ?_
            go_wp2_with fail
            go_ret
            exact ⟨rfl, HB5.out.trans ((below_box HX.out).mono HB5.out.size)⟩
      | true =>
        obtain ⟨M, s, rfl, rfl, hask, hbe⟩ := HOK2.out rfl
        obtain ⟨hnd, hdm, hflo⟩ := askB_of hask
        obtain ⟨hg, hdn, hr⟩ := demB_of hdm
        obtain ⟨_, hfn, hfr⟩ := floB_of hflo
        obtain ⟨_, hs1, hs2⟩ := nodeB_of hnd
        have hM8 : M ≤ 8 := by have := hg.2.1; omega
        have hp10 := hg.2.2.1
        have HIM := Lib.hid (fun (v : Nat) (h1 : 1 ≤ v) (h2 : v ≤ M) w' (hb : Below w5.heap.size w5 w') => imbat_yes M s v A2 c2 ps2 (some ⟨q2, 0, none⟩) k2 dm2 (some ⟨q3, 0, none⟩) k3 fl2 w' (HPA.out w' hb) (by unfold maxLen; omega) (HDM.out w' hb) (by omega) (HFL.out w' hb) (by omega) hask (node_mk9 hg h1 h2))
        have HTI := Lib.hid (fun k : Nat => tot_in (s := s) hM8 hr (by omega) hfr (by omega) (by omega) k)
        have HTZ := Lib.hid (tot_zero (fl := fl2) hg (show 1 ≤ s by omega) (show s ≤ M by omega) (show dm2.length = M by omega))
        have HZB := Lib.hid ((zer_bal hask).trans hbe.symm)
        have HZS := Lib.hid (fun k => zerI_succ s dm2 ps2 fl2 k)
        clear hask hnd hdm hflo hg hdn hr hfn hfr hs1 hs2 hbe HOK2
        go_loopw [30, 31, 32] (fun a z i wr => ∃ k : Nat, k ≤ M ∧ a = .int .i64 (totI s dm2 ps2 fl2 k) ∧ z = .bool (zerI s dm2 ps2 fl2 k) ∧ i = .int .i64 ((k : Int) + 1) ∧ Hid (Below (w5.heap.size + 1) (w5.alloc (nb (M : Int) A2 ps2.length c2)) wr)) (fun _ _ i _ => M + 1 - (intOf i).toNat)
        case atStart => exact ⟨0, Nat.zero_le _, rfl, rfl, rfl, HXd⟩
        case round =>
          clear HXd
          obtain ⟨k, hk, rfl, rfl, rfl, HX⟩ := hrel
          obtain ⟨b0, b1⟩ := box2 HX.out
          have hyr := box_lt HX.out
          by_cases hle : k < M
          · have h2 : decide ((k : Int) + 1 ≤ (M : Int)) = true := decide_eq_true (by omega)
            have h3 : decide (k < M) = true := decide_eq_true hle
            have ti1 := HTI.out k
            have ti2 := HTI.out (k + 1)
            have HC9 := Lib.hid (show Calls Try.prog 19 #[nv (M : Int) A2 ps2.length c2, .int .i64 (s : Int), .slice (some ⟨q2, 0, none⟩) dm2.length k2, .slice (some ⟨q3, 0, none⟩) fl2.length k3, .int .i64 ((k : Int) + 1)] wr _ from HIM.out (k + 1) (by omega) (by omega) wr (below_box HX.out))
            have wk : IntKind.i64.wrap ((k : Int) + 1 + 1) = (k : Int) + 1 + 1 := IntWalk.i64_in _ (by omega)
            have hTS := tot_succ s dm2 ps2 fl2 k
            rw [hTS] at ti2
            have HTK := Lib.hid hTS
            have HZK := Lib.hid (HZS.out k)
            clear hTS
            generalize imbA s dm2 ps2 fl2 (k + 1) = im at *
            generalize totI s dm2 ps2 fl2 k = t0 at *
            generalize zerI s dm2 ps2 fl2 k = z0 at *
            have wt : IntKind.i64.wrap (t0 + im) = t0 + im := IntWalk.i64_in _ (by omega)
            refine Hid.out ?_
            refine Lib.hid ?_
            cases z0 with
            | true =>
              go_wp2_with (first
                | (go_at_call 19; refine HC9.out.mono ?_; rintro e w9 ⟨rfl, hb9⟩; have HX9 := Lib.hid (on_call HX.out hb9); clear b0 b1 hb9 HC9)
                | fail)
              go_roundw
              case rel => exact ⟨k + 1, by omega, by rw [HTK.out], by rw [HZK.out]; rfl, by go_num, HX9⟩
              case measure => simp [intOf]; omega
            | false =>
              go_wp2_with (first
                | (go_at_call 19; refine HC9.out.mono ?_; rintro e w9 ⟨rfl, hb9⟩; have HX9 := Lib.hid (on_call HX.out hb9); clear b0 b1 hb9 HC9)
                | fail)
              go_roundw
              case rel => exact ⟨k + 1, by omega, by rw [HTK.out], by rw [HZK.out]; rfl, by go_num, HX9⟩
              case measure => simp [intOf]; omega
          · have h2 : decide ((k : Int) + 1 ≤ (M : Int)) = false := decide_eq_false (by omega)
            have h3 : decide (k < M) = false := decide_eq_false hle
            have hke : k = M := by omega
            rw [hke, HTZ.out, HZB.out]
            rw [hke] at h2 h3
            clear hke hle hk
            have hbb : (bl2 == bl2) = true := by simp
            refine Hid.out ?_
            refine Lib.hid ?_
            go_wp2_with fail
            go_ret
            exact ⟨by simp, HB5.out.trans ((below_box HX.out).mono HB5.out.size)⟩
end Go.Proofs.Ytlkomipjamelkab.S2

namespace Go.Proofs.Ytlkomipjamelkab.S1
open Go.RowKit Go.ChangeShapes Go.WideShapes Go.ChangeAt
open Go.Lib

/-- What the walk is told of the bytes that came in. -/
def IsRow (k : IntKind) (w : World) (a : Option Addr) (len cap : Nat) (zs : List Int) : Prop :=
  (a = none ∧ len = 0 ∧ cap = 0 ∧ zs = []) ∨
  ∃ x, a = some x ∧ len ≤ cap ∧ cap ≤ maxLen ∧ zs.length = cap ∧ (∀ i, i < zs.length → w.cell? (x.add i) = some (.int k (zs.getD i 0))) ∧ ∀ n ∈ zs, (Lit.int k n).wf = true

theorem cd_of_row {w : World} {a : Option Addr} {len cap : Nat} {zs : List Int} (h : IsRow .u8 w a len cap zs) : Cd w.heap.size a len w := by
  rcases h with ⟨_, h0, _⟩ | ⟨x, rfl, hl, _, hz, hc, hwf⟩
  · exact .inl h0
  · by_cases h0 : len = 0
    · exact .inl h0
    · obtain ⟨b, off, rfl, hat⟩ := ints_at hc (by omega)
      refine .inr ⟨b, off, rfl, ?_, fun j hj => ?_⟩
      · have h00 := hat 0 (by omega)
        refine Decidable.byContradiction fun hlt => ?_
        unfold World.cell? at h00
        rw [Array.getElem?_eq_none (by simpa using hlt)] at h00
        cases h00
      · have hj' : j < zs.length := by omega
        have hm : zs.getD j 0 ∈ zs := by
          have e : zs.getD j 0 = zs[j] := by simp [List.getD, hj']
          rw [e]; exact List.getElem_mem hj'
        have hw := hwf _ hm
        have hb : 0 ≤ zs.getD j 0 ∧ zs.getD j 0 ≤ 255 := by
          have e1 : IntKind.u8.min = 0 := rfl
          have e2 : IntKind.u8.max = 255 := rfl
          simpa [Lit.wf, e1, e2] using hw
        exact ⟨(zs.getD j 0).toNat, by omega, by rw [hat j hj', Int.toNat_of_nonneg hb.1]⟩

section
variable {H : Type} {enc : TypeId × Value → H} {w : World}
set_option maxRecDepth 100000 in
theorem code_open {r : Reach} {b0 : Nat} {v : Value} {d : DataW H} {p : List MemPlace} (hv : Value.okWide Try.prog w r b0 22 v) (h : DataW.Trod enc Try.prog w 0 (fun _ => true) true 22 v d p) :
    ∃ (A : Option Addr) (len cap : Nat), v = .slice A len cap ∧ Cd w.heap.size A len w := by
  obtain ⟨a0, len0, cap0, rfl⟩ := okWide_slice Try.underlying22 hv
  refine ⟨a0, len0, cap0, rfl, ?_⟩
  obtain ⟨fuel, hf⟩ := h
  rcases open_ints Try.underlying22 Try.underlying5 (by kernel_rfl) hf with ⟨hcs, _⟩ | ⟨x, l, c, zs, hcs, _, hl, hm, hz, _, hcell, hwz⟩
  · simp [Value.cells] at hcs
    obtain ⟨rfl, rfl, rfl⟩ := hcs
    exact .inl rfl
  · simp [Value.cells] at hcs
    obtain ⟨rfl, rfl, rfl⟩ := hcs
    exact cd_of_row (zs := zs) (.inr ⟨_, rfl, hl, hm, by simpa using hz, hcell, hwz⟩)
end
end Go.Proofs.Ytlkomipjamelkab.S1

namespace Go.Proofs.Ytlkomipjamelkab.fnTreeFlows
open Go.ChangeShapes Go.WideShapes Go.ChangeAt Go.RowKit P2 S2
set_option linter.unusedVariables false

theorem own : ownKnob Try.prog.godebug = none := by kernel_rfl
theorem laidOut : laidOutB Try.prog = true := by kernel_rfl

set_option maxRecDepth 100000 in
theorem lifted (os : Os) (started : os.Started) (H : Type) (enc : TypeId × Value → H) :
    ReturnsInHanded {} Try.checked os 3 .any (Rows.fnTreeFlowsSpec.pre6 enc Try.prog Try.f3 Rows.fnTreeFlowsRow.domain false) (Rows.fnTreeFlowsSpec.post enc Try.prog Try.f3 false true false false) := by
  refine returnsInHanded_of_change (C := Try.checked) own started (by kernel_rfl) Try.func3
    (ChangeSpec.witness6 (enc := enc) (C := Try.checked) false ⟨#[], #[.slice none 0 0], []⟩ 8 (by kernel_rfl) (by kernel_rfl) (by kernel_rfl) (by kernel_rfl)) ?_
  intro W base args ds gs before hval0 hW hcnd _
  have hval : ∀ (j : Nat) t v, Try.f3.params[j]? = some t → args[j]? = some v → Value.okWide Try.prog W .any base t v := hval0
  have hW' := hW
  obtain ⟨p, q, hA0, hV, rfl, hfz, hnd⟩ := hW
  have hA : DataW.TrodAll enc Try.prog W 0 (fun _ => true) true Try.f3.params.toList args.toList ds p := hA0
  rw [Try.params3] at hA hval
  obtain ⟨v0, d0, rfl, rfl, h0⟩ := trodAll_one hA
  obtain ⟨rfl, rfl⟩ := trodVars_none hV
  have k0 := h0
  have lt0 : ∀ x ∈ p, x.block < W.heap.size := by obtain ⟨m, hm⟩ := k0; exact DataW.trod_lt m _ _ _ hm
  obtain ⟨A0, len0, cap0, rfl, cd0⟩ := S1.code_open (hval 0 22 v0 rfl rfl) h0
  clear hA0 hval0
  refine (walkTrees A0 len0 cap0 W cd0).mono fun e W' ⟨he, bel⟩ => ?_
  subst he
  exact ⟨_, rfl, _, _, _, [], _, [], hW', trodAll_mk1 (shut_bool Try.underlying4 _), trodAll_mk1 (Below.trod laidOut (by kernel_rfl) (of_decide_eq_true (by kernel_rfl)) k0 bel lt0), rfl, bel.frame _, fun h => by cases h⟩

theorem andB {a b : Bool} (h : a = true) (g : b = true) : (a && b) = true := by rw [h, g]; rfl
theorem heavy : ((Rows.fnTreeFlowsRow.inPlace == Try.pinned.checked.prog.inPlace 3) && ((Rows.fnTreeFlowsRow.unfollowed == Try.pinned.checked.prog.unfollowed 3) && ((Rows.fnTreeFlowsRow.recurses == Try.pinned.checked.prog.recurses 3) && (Rows.fnTreeFlowsRow.named == Try.pinned.checked.prog.varsNamed 3)))) = true := by kernel_rfl
set_option maxHeartbeats 4000000 in
theorem closed : joinedFacts Try.pinned.checked.prog 3 Try.f3 Rows.fnTreeFlowsSpec Rows.fnTreeFlowsRow = true := by
  unfold joinedFacts
  simp only [Bool.and_assoc]
  have h := heavy
  rw [Bool.and_eq_true, Bool.and_eq_true, Bool.and_eq_true] at h
  obtain ⟨h1, h2, h3, h4⟩ := h
  iterate 9 refine andB (by as_aux_lemma => kernel_rfl) ?_
  refine andB (by with_reducible exact h1) (andB (by with_reducible exact h2) (andB (by with_reducible exact h3) (andB (by with_reducible exact h4) ?_)))
  as_aux_lemma => kernel_rfl
theorem named : Try.pinned.checked.prog.funcNamed Rows.fnTreeFlowsRow.func = some 3 := by kernel_rfl
theorem instd : Try.f3.isInstance Try.pinned.checked.prog Rows.fnTreeFlowsRow.origin Rows.fnTreeFlowsRow.targs := of_decide_eq_true (by kernel_rfl)
theorem proved : Rows.FnTreeFlowsSaid :=
  OpenClaim.holds_of_wide 3 Try.f3 rfl rfl rfl rfl rfl rfl rfl ⟨rfl, rfl, rfl, rfl, rfl⟩ rfl rfl rfl rfl rfl named Try.func3 closed
    instd (by unfold Func.isWrapper; first | (rw [if_pos (by decide +kernel)]; kernel_rfl) | (rw [if_neg (by decide +kernel)]; exact ⟨rfl, rfl⟩))
    (fun os started H enc _ => lifted os started H enc)
end Go.Proofs.Ytlkomipjamelkab.fnTreeFlows
namespace Go.Proofs.Ytlkomipjamelkab
theorem FnTreeFlows_holds : Rows.FnTreeFlowsSaid := fnTreeFlows.proved
#print axioms FnTreeFlows_holds
end Go.Proofs.Ytlkomipjamelkab
