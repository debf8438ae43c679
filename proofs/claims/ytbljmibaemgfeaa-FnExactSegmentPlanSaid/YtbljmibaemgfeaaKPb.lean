/- IsPlan and HopelessPipes of the program: contracts. Conditions: each theorem's own premises. -/
import Derived.Test.YtbljmibaemgfeaaKPa
import Derived.Test.YtbljmibaemgfeaaVcs
import Derived.Test.YtbljmibaemgfeaaSegTwo
import Derived.Deep.DeepCutAuto
import Derived.Test.YtbljmibaemgfeaaWet
import Derived.Test.YtbljmibaemgfeaaSegThree
import Derived.Test.YtbljmibaemgfeaaGivesNone
namespace Go.Proofs.Ytbljmibaemgfeaa.S2
open Go.RowKit Go.Sort P2 P4

/-- Valves in a slice of the call's own, owned. -/
def GivesVO (w : World) (l : List Vv) (e : Ending) (w' : World) : Prop :=
  ∃ g cap, e = .returned (.slice (some ⟨g, 0, none⟩) l.length cap) ∧ w'.ownsRow w.heap.size 60 4 (.slice (some ⟨g, 0, none⟩) l.length cap) l.length (vcs l) ∧ Below w.heap.size w w'
set_option maxHeartbeats 4000000 in
set_option maxRecDepth 100000 in
theorem shutv_own (AV : Option Addr) (capv : Nat) (vs : List Vv) (w : World) (h : VAt w AV vs) (hm : vs.length ≤ 10) :
    Calls Try.prog 159 #[.slice AV vs.length capv] w (GivesVO w (bar vs true)) := by
  have HA := Lib.hid h
  obtain ⟨i0, hi0, hz0, hz1, hz2⟩ := info_parts infoV
  clear h
  go_enter Try.func159, Try.ntmps159
  go_wp2_with fail
  have HO0 := Lib.hid (own_emptyV w w.heap.size (Nat.le_refl _))
  have HB0 := Lib.hid (show Below w.heap.size w (w.alloc (.cells #[] 60)) from (Below.refl _ _).alloc (Nat.le_refl _) _)
  go_loopw [3, 9] (fun v i wr => ∃ k : Nat, k ≤ vs.length ∧ i = .int .i64 (k : Int) ∧ Hid (wr.ownsRow w.heap.size 60 4 v (shutTo vs k).length (vcs (shutTo vs k))) ∧ Hid (v ≠ .slice none 0 0) ∧ Hid (Below w.heap.size w wr)) (fun _ i _ => vs.length - (intOf i).toNat)
  case atStart => exact ⟨0, Nat.zero_le _, rfl, HO0, Lib.hid (by simp), HB0⟩
  case round =>
    clear HO0 HB0
    obtain ⟨k, hk, rfl, hown, hvn, hb⟩ := hrel
    obtain ⟨gv, cv, rfl, hgv⟩ := own_sliceV hown.out hvn.out
    by_cases hlt : k < vs.length
    · obtain ⟨b, off, hA, hbl, h0, h1, h2, h3⟩ := (HA.out.kept hb.out (Nat.le_refl _)).at_ hlt
      subst hA
      have hk0 : (0 : Int) ≤ (k : Int) := by omega
      have hkn : (k : Int) < (vs.length : Int) := by omega
      have HST := Lib.hid (shutTo_succ vs k hlt)
      have hil := shutTo_len vs k
      have hzr := hb.out.size
      generalize vAt vs k = v at *
      obtain ⟨id, pp, nd, sh⟩ := v
      dsimp only at h0 h1 h2 h3
      cases sh with
      | true =>
        have HN := Lib.hid (show shutTo vs (k + 1) = shutTo vs k ++ [⟨id, pp, nd, true⟩] by rw [HST.out]; rfl)
        have ho := hown.out
        obtain ⟨wq, hwq⟩ : ∃ wq, wq = wr.alloc (.cells #[.int .i64 id, .int .i64 pp, .int .i64 nd, .bool true] 60) := ⟨_, rfl⟩
        have hzq : wq.heap.size = wr.heap.size + 1 := by rw [hwq]; simp
        have HQ := Lib.hid hwq
        have HZQ := Lib.hid hzq
        have p3 : wq.cell? ⟨wr.heap.size, 3, none⟩ = some (.bool true) := by rw [hwq]; go_simp
        have p0 : wq.cell? ⟨wr.heap.size, 0, none⟩ = some (.int .i64 id) := by rw [hwq]; go_simp
        have p1 : wq.cell? ⟨wr.heap.size, 1, none⟩ = some (.int .i64 pp) := by rw [hwq]; go_simp
        have p2 : wq.cell? ⟨wr.heap.size, 2, none⟩ = some (.int .i64 nd) := by rw [hwq]; go_simp
        have ho2 : wq.ownsRow w.heap.size 60 4 (.slice (some ⟨gv, 0, none⟩) (shutTo vs k).length cv) (shutTo vs k).length (vcs (shutTo vs k)) := by rw [hwq]; exact ho.alloc _
        have hbq : Below w.heap.size w wq := by rw [hwq]; exact hb.out.alloc hzr _
        clear hwq hzq HST ho
        go_upto_region 5 with (fail)
        rw [← HQ.out]
        go_wp2_with (at_builtin; go_must (refine wpList_append_own _ rfl _ _ 34 rfl w.heap.size 60 i0 _ 4 32 Try.underlying34 hi0 hz0 hz1 hz2 rfl (by omega) _ _ _ rfl (ho2.alloc _) ⟨wq.heap.size, 0, none⟩ 1 1 (vcs4 ⟨id, pp, nd, true⟩) rfl rfl (cell_four (v := ⟨id, pp, nd, true⟩) rfl) ?c2 ?c3 ?c4 ?c5 ?_))
        case c2 => intro u hu; exact vcs_one [⟨id, pp, nd, true⟩] u (by simpa [vcs] using hu)
        case c3 => unfold maxLen; omega
        case c4 => omega
        case c5 => have := hbq.size; simp; omega
        intro v' w3 hown' hgrow hnil
        have hown3 := Lib.hid (show w3.ownsRow w.heap.size 60 4 v' (shutTo vs (k + 1)).length (vcs (shutTo vs (k + 1))) by rw [HN.out, vcs_snoc, List.length_append]; exact hown')
        have hB3 := Lib.hid ((hbq.alloc hbq.size _).grown hgrow (by have := hbq.size; simp; omega) (fun g hg => (ho2.lt g hg).1))
        have hvn3 := Lib.hid (show v' ≠ .slice none 0 0 from fun e => hnil e)
        clear hown' hgrow hnil ho2
        go_wp2_with fail
        go_roundw
        case rel => exact ⟨k + 1, by omega, by go_num, hown3, hvn3, hB3⟩
        case measure => simp [intOf]; omega
      | false =>
        have HN := Lib.hid (show shutTo vs (k + 1) = shutTo vs k by rw [HST.out]; rfl)
        have hown3 := Lib.hid (show (wr.alloc (.cells #[.int .i64 id, .int .i64 pp, .int .i64 nd, .bool false] 60)).ownsRow w.heap.size 60 4 (.slice (some ⟨gv, 0, none⟩) (shutTo vs k).length cv) (shutTo vs (k + 1)).length (vcs (shutTo vs (k + 1))) by rw [HN.out]; exact hown.out.alloc _)
        have hB3 := Lib.hid (hb.out.alloc hzr (.cells #[.int .i64 id, .int .i64 pp, .int .i64 nd, .bool false] 60))
        clear HST hown
        go_wp2_with fail
        go_roundw
        case rel => exact ⟨k + 1, by omega, by go_num, hown3, hvn, hB3⟩
        case measure => simp [intOf]; omega
    · have hfin := shutTo_all vs k (by omega)
      have hown2 := hown.out
      rw [hfin] at hown2
      have HW := Lib.hid hown2
      have HF := Lib.hid hfin
      clear hown2 hown hfin
      go_wp2_with fail
      go_ret
      exact ⟨gv, cv, by rw [HF.out]; rfl, HW.out, hb.out⟩

/-- The barriers that are gathered: the shut ones, and the chosen ones of the first k. -/
def barTo (vs : List Vv) (C k : Nat) : List Vv := bar vs true ++ chTo vs C k
theorem barTo_all (vs : List Vv) (C : Nat) : barTo vs C vs.length = bar vs true ++ chV vs C 0 := by unfold barTo; rw [chTo_all vs C _ (Nat.le_refl _)]
theorem barTo_zero (vs : List Vv) (C : Nat) : barTo vs C 0 = bar vs true := by simp [barTo, chTo, chV]
theorem bar_all_len (vs : List Vv) (C k : Nat) : (barTo vs C k).length ≤ vs.length + k := by
  unfold barTo
  rw [List.length_append]
  have h1 := bar_len vs true
  have h2 := chTo_len vs C k
  omega
theorem parts_len (vs : List Vv) : (vs.filter (·.sh)).length + (vs.filter (fun v => !v.sh)).length = vs.length := by
  induction vs with
  | nil => rfl
  | cons v vs ih => cases h : v.sh <;> simp [h] <;> omega
theorem bar_ch_len {vs : List Vv} {C : Nat} (hl : vs.length ≤ 10) (hC : SubC vs C) : (bar vs true ++ chV vs C 0).length ≤ vs.length := by
  have h1 : (chV vs C 0).filter (fun v => !v.sh) = chV vs C 0 := by
    rw [List.filter_eq_self]
    intro v hv
    obtain ⟨j, hj, hb, he⟩ := chV_mem.1 hv
    have := (hC.2 j (by omega) (by simpa using hb)).2
    rw [he] at this
    simp [this]
  have h2 := ((chV_sub vs C 0).filter (fun v => !v.sh)).length_le
  rw [h1] at h2
  have h3 := parts_len vs
  have h4 : (bar vs true).length = (vs.filter (·.sh)).length := rfl
  rw [List.length_append]
  omega
theorem vcs_barTo (vs : List Vv) (C k : Nat) (h : k < vs.length) : barTo vs C (k + 1) = if bitC C k then barTo vs C k ++ [vAt vs k] else barTo vs C k := by
  unfold barTo
  rw [chTo_succ vs C k h]
  split <;> simp
theorem own_vat2 {w : World} {B n cap : Nat} {A : Option Addr} {ps : List Vv} (hn : n = ps.length) (h : w.ownsRow B 60 4 (.slice A n cap) n (vcs ps)) : VAt w A ps := by
  subst hn; exact own_vat h

set_option maxHeartbeats 400000 in
set_option maxRecDepth 100000 in
theorem water_any (N X : Nat) (A : Option Addr) (cap : Nat) (ps : List Pp) (AV : Option Addr) (capv : Nat) (vs : List Vv) (C L M S : Nat) (w : World) (h : PAt w A ps) (hv : VAt w AV vs) (hg : P4.Good N ps vs) (hX : X < 9) (hC : SubC vs C)
    (hL : w.cell? ⟨L, 0, none⟩ = some (.slice AV vs.length capv)) (hM0 : w.cell? ⟨M, 0, none⟩ = some (.int .i64 (N : Int))) (hM1 : w.cell? ⟨M, 1, none⟩ = some (.slice A ps.length cap)) (hS : w.cell? ⟨S, 0, none⟩ = some (.int .i64 (X : Int))) (hLl : L < w.heap.size) (hMl : M < w.heap.size) (hSl : S < w.heap.size) :
    Calls Try.prog 158 #[.int .u64 (C : Int), .pointer (some ⟨L, 0, none⟩), .pointer (some ⟨M, 0, none⟩), .pointer (some ⟨S, 0, none⟩)] w fun e w' => e = .returned (ev (wetP ps vs X (idsC vs C))) ∧ Below w.heap.size w w' := by
  have hl10 := hg.2.1
  have HWET := Lib.hid (show coB ps (barTo vs C vs.length) (one X) = wetP ps vs X (idsC vs C) from by rw [barTo_all]; exact wet_choice ps (ascV_of hg) C X)
  have HSV := Lib.hid (fun w' (hb : Below w.heap.size w w') => shutv_own AV capv vs w' (hv.kept hb (Nat.le_refl _)) hl10)
  have HV := Lib.hid hv
  have hlb : (barTo vs C vs.length).length ≤ 10 := by rw [barTo_all]; exact Nat.le_trans (bar_ch_len hl10 hC) hl10
  have HC := Lib.hid (fun A2 cap2 w' (hb' : Below w.heap.size w w') (h2 : VAt w' A2 (barTo vs C vs.length)) => conwith_any N A cap ps A2 cap2 (barTo vs C vs.length) X w' (h.kept hb' (Nat.le_refl _)) h2 hg.1 hlb hX)
  obtain ⟨i0, hi0, hz0, hz1, hz2⟩ := info_parts infoV
  have hC1 := hC.1
  clear h hv hg hlb hC
  go_enter Try.func158, Try.ntmps158
  go_wp2_with (((with_reducible refine wpE_alloc rfl rfl ?_); intro w1 he1 hb1 hz1'; refine Hid.out ?_))
  have E6 := Lib.hid he1
  have HB1 := Lib.hid hb1
  have HZ1 := Lib.hid hz1'
  have l1 := (hb1.cell (p := ⟨L, 0, none⟩) hLl).trans hL
  clear he1 hb1 hz1' hL
  refine Lib.hid ?_
  go_wp2_with (go_at_call 159; refine (HSV.out _ HB1.out).mono ?_; rintro e w2 ⟨gS, cS, rfl, hown2, hb2⟩; have HO2 := Lib.hid hown2; have HB2 := Lib.hid hb2; clear hown2 hb2; refine Hid.out ?_)
  have hgS := (World.ownsRow.lt HO2.out gS rfl).1
  have hzz := HZ1.out
  have hL1 : L < w1.heap.size := by omega
  have l2 := (HB2.out.cell (p := ⟨L, 0, none⟩) hL1).trans l1
  clear l1
  obtain ⟨B, hB⟩ : ∃ B, B = w1.heap.size := ⟨_, rfl⟩
  have hBw0 : w.heap.size < B := by omega
  have hB1 : B ≤ w1.heap.size := by omega
  rw [← hB] at HO2
  have HB2' := Lib.hid (show Below B w1 w2 from by rw [hB]; exact HB2.out)
  clear hB HB2 hzz
  refine Lib.hid ?_
  go_wp2_with fail
  go_loopw [6, 13] (fun v i wr => ∃ k : Nat, k ≤ vs.length ∧ i = .int .i64 (k : Int) ∧ Hid (wr.ownsRow B 60 4 v (barTo vs C k).length (vcs (barTo vs C k))) ∧ Hid (v ≠ .slice none 0 0) ∧ Hid (Below B w1 wr)) (fun _ i _ => vs.length - (intOf i).toNat)
  case atStart => exact ⟨0, Nat.zero_le _, rfl, Lib.hid (by rw [barTo_zero]; exact HO2.out), Lib.hid (by simp), HB2'⟩
  case round =>
    clear HO2 HB2'
    obtain ⟨k, hk, rfl, hown, hvn, hb⟩ := hrel
    obtain ⟨gv, cv, rfl, hgv⟩ := own_sliceV hown.out hvn.out
    have hBw := Lib.hid (HB1.out.trans (hb.out.mono (by omega)))
    by_cases hlt : k < vs.length
    · obtain ⟨b, off, hA, hbl, h0, h1, h2, h3⟩ := (HV.out.kept hBw.out (Nat.le_refl _)).at_ hlt
      subst hA
      have hk0 : (0 : Int) ≤ (k : Int) := by omega
      have hkn : (k : Int) < (vs.length : Int) := by omega
      have HST := Lib.hid (vcs_barTo vs C k hlt)
      have hil := bar_all_len vs C k
      have hzr := hb.out.size
      have HBT := Lib.hid (fun w => bit_any k (by omega) w)
      have HAB := Lib.hid (and_bit C k hC1)
      generalize hbk : barTo vs C k = bk at *
      clear hbk
      generalize vAt vs k = v at *
      obtain ⟨id, pp, nd, sh⟩ := v
      dsimp only at h0 h1 h2 h3
      obtain ⟨wq, hwq⟩ : ∃ wq, wq = wr.alloc (.cells #[.int .i64 id, .int .i64 pp, .int .i64 nd, .bool sh] 60) := ⟨_, rfl⟩
      have hzq : wq.heap.size = wr.heap.size + 1 := by rw [hwq]; simp
      have HQ := Lib.hid hwq
      have p3 : wq.cell? ⟨wr.heap.size, 3, none⟩ = some (.bool sh) := by rw [hwq]; go_simp
      have p0 : wq.cell? ⟨wr.heap.size, 0, none⟩ = some (.int .i64 id) := by rw [hwq]; go_simp
      have p1 : wq.cell? ⟨wr.heap.size, 1, none⟩ = some (.int .i64 pp) := by rw [hwq]; go_simp
      have p2 : wq.cell? ⟨wr.heap.size, 2, none⟩ = some (.int .i64 nd) := by rw [hwq]; go_simp
      have ho2 := Lib.hid (show wq.ownsRow B 60 4 (.slice (some ⟨gv, 0, none⟩) bk.length cv) bk.length (vcs bk) by rw [hwq]; exact hown.out.alloc _)
      have hbq := Lib.hid (show Below B w1 wq by rw [hwq]; exact hb.out.alloc (by omega) _)
      have HZQ := Lib.hid hzq
      clear hwq hzq hown
      cases hs : bitC C k with
      | true =>
        have HN := Lib.hid (show barTo vs C (k + 1) = bk ++ [⟨id, pp, nd, sh⟩] by rw [HST.out, if_pos hs])
        have hv1 := bv_bd k
        have hne : (bits .and .u64 (C : Int) (bv k) != 0) = true := by rw [HAB.out, if_pos hs, bne_iff_ne]; omega
        clear hv1 hs HST HAB
        go_upto_region 5 with (fail)
        rw [← HQ.out]
        go_wp2_with (first
          | (go_at_call 160; refine (HBT.out _).mono ?_; rintro e w1 ⟨rfl, hw⟩; replace hw := hw.symm; subst hw)
          | (at_builtin; go_must (refine wpList_append_own _ rfl _ _ 34 rfl B 60 i0 _ 4 32 Try.underlying34 hi0 hz0 hz1 hz2 rfl (by omega) _ _ _ rfl (ho2.out.alloc _) ⟨wq.heap.size, 0, none⟩ 1 1 (vcs4 ⟨id, pp, nd, sh⟩) rfl rfl (cell_four (v := ⟨id, pp, nd, sh⟩) rfl) ?c2 ?c3 ?c4 ?c5 ?_)))
        case c2 => intro u hu; exact vcs_one [⟨id, pp, nd, sh⟩] u (by simpa [vcs] using hu)
        case c3 => unfold maxLen; omega
        case c4 => omega
        case c5 => have := hbq.out.size; have := HZQ.out; simp; omega
        intro v' w3 hown' hgrow hnil
        have hown3 := Lib.hid (show w3.ownsRow B 60 4 v' (barTo vs C (k + 1)).length (vcs (barTo vs C (k + 1))) by rw [HN.out, vcs_snoc, List.length_append]; exact hown')
        have hB3 := Lib.hid ((hbq.out.alloc (by have := HZQ.out; omega) _).grown hgrow (by have := HZQ.out; simp; omega) (fun g hg => (ho2.out.lt g hg).1))
        have hvn3 := Lib.hid (show v' ≠ .slice none 0 0 from fun e => hnil e)
        clear hown' hgrow hnil ho2
        go_wp2_with fail
        go_roundw
        case rel => exact ⟨k + 1, by omega, by go_num, hown3, hvn3, hB3⟩
        case measure => simp [intOf]; omega
      | false =>
        have HN := Lib.hid (show barTo vs C (k + 1) = bk by rw [HST.out, if_neg (by rw [hs]; simp)])
        have hne : (bits .and .u64 (C : Int) (bv k) != 0) = false := by rw [HAB.out, if_neg (by rw [hs]; simp)]; rfl
        clear hs HST HAB
        have hown3 := Lib.hid (show wq.ownsRow B 60 4 (.slice (some ⟨gv, 0, none⟩) bk.length cv) (barTo vs C (k + 1)).length (vcs (barTo vs C (k + 1))) by rw [HN.out]; exact ho2.out)
        clear HN ho2
        go_upto_region 5 with (fail)
        rw [← HQ.out]
        go_wp2_with (go_at_call 160; refine (HBT.out _).mono ?_; rintro e w1 ⟨rfl, hw⟩; replace hw := hw.symm; subst hw)
        go_roundw
        case rel => exact ⟨k + 1, by omega, by go_num, hown3, Lib.hid (by simp), hbq⟩
        case measure => simp [intOf]; omega
    · have e : k = vs.length := by omega
      subst e
      have HW := Lib.hid (own_vat2 rfl hown.out)
      have E62 := Lib.hid (E6.out.kept hb.out (by have := HZ1.out; omega))
      have n0 := (hBw.out.cell (p := ⟨M, 0, none⟩) hMl).trans hM0
      have n1 := (hBw.out.cell (p := ⟨M, 1, none⟩) hMl).trans hM1
      have s0 := (hBw.out.cell (p := ⟨S, 0, none⟩) hSl).trans hS
      clear hown hM0 hM1 hS
      go_wp2_with (first
        | (go_at_call 128; refine (HC.out _ _ _ hBw.out HW.out).mono ?_; rintro e w4 ⟨rfl, hb4⟩; have E64 := Lib.hid (E62.out.kept hb4 (by have := hBw.out.size; have := hb.out.size; have := HZ1.out; omega)); have HB4 := Lib.hid (hBw.out.trans (hb4.mono hBw.out.size)); clear hb4)
        | ((with_reducible refine wpE_store rfl _ _ rfl rfl w.heap.size rfl (coB ps (barTo vs C vs.length) (one X)) rfl es0 E64.out ?_); intro w6 he6 hg6 hz6))
      have HB6 := Lib.hid (HB4.out.grown hg6 HB4.out.size (fun g hg => by simp at hg; omega))
      rw [HWET.out] at he6
      exact bodyPost_ret (v := ev (wetP ps vs X (idsC vs C))) (results_cell_row (fn := Try.f158) rfl _ _ w.heap.size 96 (ecells (wetP ps vs X (idsC vs C))) (0, 0) _ rfl he6 Try.underlying96 rfl (infoE' _)) rfl ⟨rfl, HB6.out⟩
end Go.Proofs.Ytbljmibaemgfeaa.S2

namespace Go.Proofs.Ytbljmibaemgfeaa.S2
open Go.RowKit Go.Sort P2 P4

/-- The boxes of the water's closure. -/
structure WB (w : World) (L M S : Nat) (N : Nat) (A : Option Addr) (cap : Nat) (ps : List Pp) (AV : Option Addr) (capv : Nat) (vs : List Vv) (X : Nat) : Prop where
  l : w.cell? ⟨L, 0, none⟩ = some (.slice AV vs.length capv)
  m0 : w.cell? ⟨M, 0, none⟩ = some (.int .i64 (N : Int))
  m1 : w.cell? ⟨M, 1, none⟩ = some (.slice A ps.length cap)
  s : w.cell? ⟨S, 0, none⟩ = some (.int .i64 (X : Int))
  ll : L < w.heap.size
  ml : M < w.heap.size
  sl : S < w.heap.size
theorem WB.kept {w w' : World} {B L M S N cap capv X : Nat} {A AV : Option Addr} {ps : List Pp} {vs : List Vv} (h : WB w L M S N A cap ps AV capv vs X) (hb : Below B w w') (hB : w.heap.size ≤ B) : WB w' L M S N A cap ps AV capv vs X :=
  have hz := hb.size
  ⟨(hb.cell (p := ⟨L, 0, none⟩) (Nat.lt_of_lt_of_le h.ll hB)).trans h.l, (hb.cell (p := ⟨M, 0, none⟩) (Nat.lt_of_lt_of_le h.ml hB)).trans h.m0, (hb.cell (p := ⟨M, 1, none⟩) (Nat.lt_of_lt_of_le h.ml hB)).trans h.m1, (hb.cell (p := ⟨S, 0, none⟩) (Nat.lt_of_lt_of_le h.sl hB)).trans h.s,
    by have := h.ll; omega, by have := h.ml; omega, by have := h.sl; omega⟩
theorem wbox_any {N X cap capv C L M S : Nat} {A AV : Option Addr} {ps : List Pp} {vs : List Vv} {w : World} (hw : WB w L M S N A cap ps AV capv vs X) (h : PAt w A ps) (hv : VAt w AV vs) (hg : P4.Good N ps vs) (hX : X < 9) (hC : SubC vs C) :
    Calls Try.prog 158 #[.int .u64 (C : Int), .pointer (some ⟨L, 0, none⟩), .pointer (some ⟨M, 0, none⟩), .pointer (some ⟨S, 0, none⟩)] w fun e w' => e = .returned (ev (wetP ps vs X (idsC vs C))) ∧ Below w.heap.size w w' :=
  water_any N X A cap ps AV capv vs C L M S w h hv hg hX hC hw.l hw.m0 hw.m1 hw.s hw.ll hw.ml hw.sl

set_option maxHeartbeats 1000000 in
theorem waterfrom_any (N X : Nat) (A : Option Addr) (cap : Nat) (ps : List Pp) (AV : Option Addr) (capv : Nat) (vs : List Vv) (w : World) :
    Calls Try.prog 104 #[nv N A ps.length cap, .slice AV vs.length capv, .int .i64 (X : Int)] w fun e w' => (∃ L M S, e = .returned (.func (.func 158) #[] #[.pointer (some ⟨L, 0, none⟩), .pointer (some ⟨M, 0, none⟩), .pointer (some ⟨S, 0, none⟩)]) ∧ WB w' L M S N A cap ps AV capv vs X) ∧ Below w.heap.size w w' := by
  have HB := Lib.hid (show Below w.heap.size w (((w.alloc (.cells #[.int .i64 (N : Int), .slice A ps.length cap] 32)).alloc (.cells #[.slice AV vs.length capv] 34)).alloc (.cells #[.int .i64 (X : Int)] 3)) from (((Below.refl _ _).alloc (Nat.le_refl _) _).alloc (by simp) _).alloc (by simp; omega) _)
  have HW := Lib.hid (show WB (((w.alloc (.cells #[.int .i64 (N : Int), .slice A ps.length cap] 32)).alloc (.cells #[.slice AV vs.length capv] 34)).alloc (.cells #[.int .i64 (X : Int)] 3)) (w.heap.size + 1) w.heap.size (w.heap.size + 1 + 1) N A cap ps AV capv vs X from
    ⟨by go_simp, by go_simp, by go_simp, by go_simp, by first | (simp; done) | (simp; omega), by first | (simp; done) | (simp; omega), by first | (simp; done) | (simp; omega)⟩)
  go_enter Try.func104, Try.ntmps104
  go_wp2
  go_ret
  exact ⟨⟨_, _, _, rfl, HW.out⟩, HB.out⟩

open Classical in
/-- A burst is asked for. -/
noncomputable def askB (n : Int) (ps : List Pp) (vs : List Vv) (X x : Int) : Bool := decide (goodV n ps vs = true ∧ nodeB n ps X = true ∧ ∃ i, At ps x i)
theorem askB_of {n : Int} {ps : List Pp} {vs : List Vv} {X x : Int} (h : askB n ps vs X x = true) : goodV n ps vs = true ∧ nodeB n ps X = true ∧ ∃ i, At ps x i := by simpa [askB] using h
theorem askB_mk {n : Int} {ps : List Pp} {vs : List Vv} {X x : Int} (h : goodV n ps vs = true ∧ nodeB n ps X = true ∧ ∃ i, At ps x i) : askB n ps vs X x = true := by simpa [askB] using h
theorem askB_no {n : Int} {ps : List Pp} {vs : List Vv} {X x : Int} (h : ¬ (goodV n ps vs = true ∧ nodeB n ps X = true ∧ ∃ i, At ps x i)) : askB n ps vs X x = false := by simpa [askB] using h

set_option maxHeartbeats 2000000 in
theorem burst_any (n : Int) (A : Option Addr) (cap : Nat) (ps : List Pp) (AV : Option Addr) (capv : Nat) (vs : List Vv) (X x : Int) (w : World) (h : PAt w A ps) (hm : ps.length ≤ maxLen) (hv : VAt w AV vs) (hmv : vs.length ≤ maxLen) (hcv : vs.length ≤ capv) (hcm : capv ≤ maxLen) :
    Calls Try.prog 87 #[nv n A ps.length cap, .slice AV vs.length capv, .int .i64 X, .int .i64 x] w fun e w' => e = .returned (.bool (askB n ps vs X x)) ∧ Below w.heap.size w w' := by
  obtain ⟨g, hgv⟩ : ∃ g, goodV n ps vs = g := ⟨_, rfl⟩
  obtain ⟨d, hnd⟩ : ∃ d, nodeB n ps X = d := ⟨_, rfl⟩
  have H := Lib.hid (fun w' (hb' : Below w.heap.size w w') => validv_v hgv A cap AV capv w' (h.kept hb' (Nat.le_refl _)) hm (hv.kept hb' (Nat.le_refl _)) hmv hcv hcm)
  have HN := Lib.hid (fun w' (hb' : Below w.heap.size w w') => node_v hnd A cap w' (h.kept hb' (Nat.le_refl _)) hm)
  have HB0 := Lib.hid (show Below w.heap.size w (w.alloc (.cells #[.int .i64 n, .slice A ps.length cap] 32)) from (Below.refl _ _).alloc (Nat.le_refl _) _)
  have HG := Lib.hid hgv
  have HD := Lib.hid hnd
  have HA := Lib.hid h
  clear h hv hm hmv hcv hcm hgv hnd
  cases g with
  | false =>
    have HR := Lib.hid (show askB n ps vs X x = false from askB_no (fun h => by have h1 := h.1; rw [HG.out] at h1; cases h1))
    go_enter Try.func87, Try.ntmps87
    go_wp2_with (go_at_call 58; refine (H.out _ HB0.out).mono ?_; rintro e w1 ⟨rfl, hb1⟩)
    go_ret
    exact ⟨by rw [HR.out]; rfl, HB0.out.trans (hb1.mono (by simp))⟩
  | true =>
    cases d with
    | false =>
      have HR := Lib.hid (show askB n ps vs X x = false from askB_no (fun h => by have h1 := h.2.1; rw [HD.out] at h1; cases h1))
      go_enter Try.func87, Try.ntmps87
      go_wp2_with (first
        | (go_at_call 58; refine (H.out _ HB0.out).mono ?_; rintro e w1 ⟨rfl, hb1⟩; have HB1 := Lib.hid (HB0.out.trans (hb1.mono (by simp))); have hb1' : Below (w.heap.size + 1) (w.alloc (.cells #[.int .i64 n, .slice A ps.length cap] 32)) w1 := (by simpa using hb1); obtain ⟨b0, b1⟩ := box2 hb1'; clear hb1 hb1')
        | (go_at_call 103; refine (HN.out _ HB1.out).mono ?_; rintro e w2 ⟨rfl, hb2⟩; have HB2 := Lib.hid (HB1.out.trans (hb2.mono HB1.out.size)); clear hb2))
      go_ret
      exact ⟨by rw [HR.out]; rfl, HB2.out⟩
    | true =>
      have HGd := Lib.hid (goodV_of HG.out)
      have HP := Lib.hid (fun w' (hb' : Below w.heap.size w w') => place_any n A cap ps x w' (HA.out.kept hb' (Nat.le_refl _)) HGd.out.1)
      go_enter Try.func87, Try.ntmps87
      go_wp2_with (first
        | (go_at_call 58; refine (H.out _ HB0.out).mono ?_; rintro e w1 ⟨rfl, hb1⟩; have HB1 := Lib.hid (HB0.out.trans (hb1.mono (by simp))); have hb1' : Below (w.heap.size + 1) (w.alloc (.cells #[.int .i64 n, .slice A ps.length cap] 32)) w1 := (by simpa using hb1); have HX1 := Lib.hid hb1'; obtain ⟨b0, b1⟩ := box2 hb1'; clear hb1 hb1')
        | (go_at_call 103; refine (HN.out _ HB1.out).mono ?_; rintro e w2 ⟨rfl, hb2⟩; have HB2 := Lib.hid (HB1.out.trans (hb2.mono HB1.out.size)); have hx2 := on_call HX1.out hb2; clear b0 b1; obtain ⟨b0, b1⟩ := box2 hx2; clear hb2 hx2)
        | (go_at_call 144; refine (HP.out _ HB2.out).mono ?_; rintro e w3 ⟨⟨i, f, rfl, hp⟩, hb3⟩; have HB3 := Lib.hid (HB2.out.trans (hb3.mono HB2.out.size)); have HPL := Lib.hid hp; clear hb3 hp))
      have hR : askB n ps vs X x = f := by
        cases f with
        | true => exact askB_mk ⟨HG.out, HD.out, i, HPL.out.found.1 rfl⟩
        | false =>
          refine askB_no (fun h => ?_)
          obtain ⟨_, _, k, hk, he⟩ := h
          have h1 : ¬ k < i := fun hlt => by have := HPL.out.low k hlt; omega
          have h2 := HPL.out.high i (Nat.le_refl _) (by omega)
          by_cases e : k = i
          · subst e
            have := HPL.out.found.2 ⟨hk, he⟩; cases this
          · have := good_ids HGd.out.1 i k (by omega) hk
            omega
      go_ret
      exact ⟨by rw [hR]; rfl, HB3.out⟩
end Go.Proofs.Ytbljmibaemgfeaa.S2

namespace Go.Proofs.Ytbljmibaemgfeaa.S2
open Go.RowKit Go.Sort P2 P4

/-- The choice of the first k ids. -/
def ChIs (vs : List Vv) (l : List Int) (k C : Nat) : Prop := SubC vs C ∧ idsC vs C = l.take k
theorem chIs_zero (vs : List Vv) (l : List Int) : ChIs vs l 0 0 := ⟨sub_zero vs, by simp [ids_zero]⟩
theorem take_get (l : List Int) (k : Nat) (h : k < l.length) : l.take (k + 1) = l.take k ++ [l.getD k 0] := by
  rw [List.take_succ_eq_append_getElem h]; simp [List.getD, h]
/-- All before a number are smaller, where the last one is. -/
theorem asc_last {l : List Int} {k : Nat} {x : Int} (hk : k + 1 ≤ l.length) (ha : Asc (l.take (k + 1))) (hx : l.getD k 0 < x) : ∀ y, y ∈ l.take (k + 1) → y < x := by
  intro y hy
  rw [take_get l k (by omega)] at hy ha
  rcases List.mem_append.1 hy with hy | hy
  · have := (List.pairwise_append.1 ha).2.2 y hy (l.getD k 0) (by simp)
    omega
  · rw [List.mem_singleton.1 hy]; exact hx
theorem ChIs.next {vs : List Vv} {l : List Int} {k C p : Nat} {x : Int} (ha : AscV vs) (hl : vs.length ≤ 10) (h : ChIs vs l k C) (hk : k < l.length) (hx : l.getD k 0 = x) (hp : p < vs.length) (hpx : (vAt vs p).id = x) (ho : (vAt vs p).sh = false) (hb : ∀ y, y ∈ l.take k → y < x) : ChIs vs l (k + 1) (C ||| 2 ^ (9 - p)) := by
  have h1 := ids_or ha hl h.1 hp ho (by rw [h.2, hpx]; exact hb)
  exact ⟨h1.1, by rw [h1.2, h.2, take_get l k hk, hx, hpx]⟩
theorem chIs_below {vs : List Vv} {l : List Int} {k C : Nat} {x : Int} (ha : AscV vs) (h : ChIs vs l (k + 1) C) (hk : k + 1 ≤ l.length) (hx : l.getD k 0 < x) : ∀ y, y ∈ l.take (k + 1) → y < x :=
  asc_last hk (by rw [← h.2]; exact idsC_asc ha C) hx
theorem pl_no_mem {vs : List Vv} {l : List Int} {k : Nat} {x : Int} (hk : k < l.length) (hx : l.getD k 0 = x) (h : x ∉ openL vs) : ¬ Pl vs l := fun hp => h (hp.2 x (by
  rw [← hx]; simp [List.getD, hk]))
theorem pl_no_asc {vs : List Vv} {l : List Int} {k : Nat} {x y : Int} (hk : k + 1 < l.length) (hx : l.getD (k + 1) 0 = x) (hy : l.getD k 0 = y) (h : x ≤ y) : ¬ Pl vs l := fun hp => by
  have h1 := (List.pairwise_iff_getElem.1 hp.1) k (k + 1) (by omega) hk (by omega)
  have e1 : l[k] = y := by rw [← hy]; simp [List.getD, show k < l.length by omega]
  have e2 : l[k + 1] = x := by rw [← hx]; simp [List.getD, hk]
  rw [e1, e2] at h1
  omega
theorem open_no {vs : List Vv} {x : Int} {p : Nat} {f : Bool} (ha : AscV vs) (hp : VPlace vs x p f) (h : f = false ∨ (p < vs.length ∧ (vAt vs p).id = x ∧ (vAt vs p).sh = true)) : x ∉ openL vs := by
  intro hm
  obtain ⟨v, hv, hs, he⟩ := openL_mem.1 hm
  obtain ⟨j, hj, rfl⟩ := mem_vAt hv
  obtain ⟨h1, h2⟩ := vplace_at ha hp hj he
  subst h2
  rcases h with h | ⟨_, _, h⟩
  · rw [h1] at h; cases h
  · rw [hs] at h; cases h
open Classical in
noncomputable def plB (vs : List Vv) (l : List Int) : Bool := decide (Pl vs l)
theorem plB_of {vs : List Vv} {l : List Int} (h : plB vs l = true) : Pl vs l := by simpa [plB] using h
theorem plB_mk {vs : List Vv} {l : List Int} (h : Pl vs l) : plB vs l = true := by simpa [plB] using h
theorem plB_no {vs : List Vv} {l : List Int} (h : ¬ Pl vs l) : plB vs l = false := by simpa [plB] using h
/-- The choice, or that there is none. -/
def GivesCh (vs : List Vv) (l : List Int) (w : World) (e : Ending) (w' : World) : Prop :=
  (∃ C, e = .returned (.tuple #[.int .u64 ((C : Nat) : Int), .bool (plB vs l)]) ∧ (plB vs l = true → SubC vs C ∧ idsC vs C = l)) ∧ Below w.heap.size w w'

set_option maxHeartbeats 4000000 in
set_option maxRecDepth 100000 in
theorem choiceof_any (AV : Option Addr) (capv : Nat) (vs : List Vv) (AC : Option Addr) (cc : Nat) (l : List Int) (w : World) (hv : VAt w AV vs) (hl : vs.length ≤ 10) (ha : AscV vs) (hc : IAt w AC l) (hcl : l.length ≤ 1048576) :
    Calls Try.prog 141 #[.slice AV vs.length capv, .slice AC l.length cc] w (GivesCh vs l w) := by
  have HV := Lib.hid hv
  have HC := Lib.hid hc
  have HASC := Lib.hid ha
  have HP := Lib.hid (fun x w' (hb : Below w.heap.size w w') => placev_any AV capv vs x w' (hv.kept hb (Nat.le_refl _)) hl ha)
  clear hv hc ha
  go_enter Try.func141, Try.ntmps141
  go_wp2_with fail
  go_loopw [6, 13] (fun c i wr => ∃ k C : Nat, k ≤ l.length ∧ i = .int .i64 (k : Int) ∧ c = .int .u64 (C : Int) ∧ Hid (ChIs vs l k C) ∧ Hid (Below w.heap.size w wr)) (fun _ i _ => l.length - (intOf i).toNat)
  case atStart => exact ⟨0, 0, Nat.zero_le _, rfl, rfl, Lib.hid (chIs_zero vs l), Lib.hid (Below.refl _ _)⟩
  case round =>
    obtain ⟨k, C, hk, rfl, rfl, hch, hb⟩ := hrel
    by_cases hlt : k < l.length
    · obtain ⟨b, off, hA, hbl, h0⟩ := (HC.out.kept hb.out (Nat.le_refl _)).at_ hlt
      subst hA
      have hk0 : (0 : Int) ≤ (k : Int) := by omega
      have hkn : (k : Int) < (l.length : Int) := by omega
      obtain ⟨x, hx⟩ : ∃ x, l.getD k 0 = x := ⟨_, rfl⟩
      have HX := Lib.hid hx
      rw [hx] at h0
      clear hx
      go_wp2_with (go_at_call 100; refine (HP.out x _ hb.out).mono ?_; rintro e w3 ⟨⟨p, f, rfl, hp⟩, hb3⟩; have HPL := Lib.hid hp; have HB3 := Lib.hid (hb.out.trans (hb3.mono hb.out.size)); clear hp; refine Hid.out ?_)
      clear hb3
      cases f with
      | false =>
        have HR := Lib.hid (plB_no (pl_no_mem hlt HX.out (open_no HASC.out HPL.out (.inl rfl))))
        refine Lib.hid ?_
        go_wp2_with fail
        go_ret2
        exact ⟨⟨0, by rw [HR.out]; rfl, fun h => by rw [HR.out] at h; cases h⟩, HB3.out⟩
      | true =>
        obtain ⟨hpl, hpx⟩ := HPL.out.found.1 rfl
        obtain ⟨b1, off1, hA1, hbl1, g0, g1, g2, g3⟩ := (HV.out.kept HB3.out (Nat.le_refl _)).at_ hpl
        subst hA1
        have hp0 : (0 : Int) ≤ (p : Int) := by omega
        have hpn : (p : Int) < (vs.length : Int) := by omega
        obtain ⟨sh, hsh⟩ : ∃ sh, (vAt vs p).sh = sh := ⟨_, rfl⟩
        have HSH := Lib.hid hsh
        have HPX := Lib.hid hpx
        rw [hsh] at g3
        clear hsh hpx g0 g1 g2
        cases sh with
        | true =>
          have HR := Lib.hid (plB_no (pl_no_mem hlt HX.out (open_no HASC.out HPL.out (.inr ⟨hpl, HPX.out, HSH.out⟩))))
          refine Lib.hid ?_
          go_wp2_with fail
          go_ret2
          exact ⟨⟨0, by rw [HR.out]; rfl, fun h => by rw [HR.out] at h; cases h⟩, HB3.out⟩
        | false =>
          have HBT := Lib.hid (fun w => bit_any p (by omega) w)
          have HCL := Lib.hid hch.out.1.1
          by_cases hk00 : k = 0
          · subst hk00
            have HN := Lib.hid (hch.out.next HASC.out hl hlt HX.out hpl HPX.out HSH.out (fun y hy => by simp at hy))
            refine Lib.hid ?_
            go_wp2_with (go_at_call 160; refine (HBT.out _).mono ?_; rintro e w4 ⟨rfl, hw⟩; replace hw := hw.symm; subst hw)
            go_roundw
            case rel => exact ⟨1, C ||| 2 ^ (9 - p), by omega, by go_num, by rw [or_bit C p HCL.out], HN, HB3⟩
            case measure => simp [intOf]; omega
          · obtain ⟨j, rfl⟩ : ∃ j, k = j + 1 := ⟨k - 1, by omega⟩
            obtain ⟨b', off', hA', hbl', f0⟩ := (HC.out.kept HB3.out (Nat.le_refl _)).at_ (show j < l.length by omega)
            simp only [Option.some.injEq, Addr.mk.injEq, and_true] at hA'
            obtain ⟨rfl, rfl⟩ := hA'
            obtain ⟨y, hy⟩ : ∃ y, l.getD j 0 = y := ⟨_, rfl⟩
            have HY := Lib.hid hy
            rw [hy] at f0
            have hj0 : (0 : Int) ≤ (j : Int) := by omega
            have hjn : (j : Int) < (l.length : Int) := by omega
            have hjp : (0 : Int) < (j : Int) + 1 := by omega
            clear hy hk00
            by_cases hxy : x ≤ y
            · have HR := Lib.hid (plB_no (vs := vs) (pl_no_asc hlt HX.out HY.out hxy))
              refine Lib.hid ?_
              go_wp2_with fail
              go_ret2
              exact ⟨⟨0, by rw [HR.out]; rfl, fun h => by rw [HR.out] at h; cases h⟩, HB3.out⟩
            · have HN := Lib.hid (hch.out.next HASC.out hl hlt HX.out hpl HPX.out HSH.out (chIs_below HASC.out hch.out (by omega) (by rw [HY.out]; omega)))
              have hxy2 : y < x := by omega
              clear hxy
              refine Lib.hid ?_
              go_wp2_with (go_at_call 160; refine (HBT.out _).mono ?_; rintro e w4 ⟨rfl, hw⟩; replace hw := hw.symm; subst hw)
              go_roundw
              case rel => exact ⟨j + 1 + 1, C ||| 2 ^ (9 - p), by omega, by go_num, by rw [or_bit C p HCL.out], HN, HB3⟩
              case measure => simp [intOf]; omega
    · have e : k = l.length := by omega
      subst e
      have HCH := Lib.hid (show SubC vs C ∧ idsC vs C = l from ⟨hch.out.1, by rw [hch.out.2, List.take_length]⟩)
      have HR := Lib.hid (plB_mk (vs := vs) (l := l) (by rw [← HCH.out.2]; exact pl_ids HASC.out hl HCH.out.1))
      go_wp2_with fail
      go_ret2
      exact ⟨⟨C, by rw [HR.out]; rfl, fun _ => HCH.out⟩, hb.out⟩
end Go.Proofs.Ytbljmibaemgfeaa.S2

namespace Go.Proofs.Ytbljmibaemgfeaa.S2
open Go.RowKit Go.Sort P2 P4

theorem burst_v {n : Int} {ps : List Pp} {vs : List Vv} {X x : Int} {v : Bool} (hq : askB n ps vs X x = v) (A : Option Addr) (cap : Nat) (AV : Option Addr) (capv : Nat) (w : World) (h : PAt w A ps) (hm : ps.length ≤ maxLen) (hv : VAt w AV vs) (hmv : vs.length ≤ maxLen) (hcv : vs.length ≤ capv) (hcm : capv ≤ maxLen) :
    Calls Try.prog 87 #[nv n A ps.length cap, .slice AV vs.length capv, .int .i64 X, .int .i64 x] w fun e w' => e = .returned (.bool v) ∧ Below w.heap.size w w' := by
  rw [← hq]; exact burst_any n A cap ps AV capv vs X x w h hm hv hmv hcv hcm
theorem choiceof_v {vs : List Vv} {l : List Int} {v : Bool} (hq : plB vs l = v) (AV : Option Addr) (capv : Nat) (AC : Option Addr) (cc : Nat) (w : World) (hv : VAt w AV vs) (hl : vs.length ≤ 10) (ha : AscV vs) (hc : IAt w AC l) (hcl : l.length ≤ 1048576) :
    Calls Try.prog 141 #[.slice AV vs.length capv, .slice AC l.length cc] w fun e w' => (∃ C, e = .returned (.tuple #[.int .u64 ((C : Nat) : Int), .bool v]) ∧ (v = true → SubC vs C ∧ idsC vs C = l)) ∧ Below w.heap.size w w' := by
  rw [← hq]; exact choiceof_any AV capv vs AC cc l w hv hl ha hc hcl

set_option maxHeartbeats 4000000 in
set_option maxRecDepth 100000 in
theorem wplan_no1 (n : Int) (A : Option Addr) (cap : Nat) (ps : List Pp) (AV : Option Addr) (capv : Nat) (vs : List Vv) (X x : Int) (AC : Option Addr) (cc : Nat) (l : List Int) (w : World) (h : PAt w A ps) (hm : ps.length ≤ maxLen) (hv : VAt w AV vs) (hmv : vs.length ≤ maxLen) (hcv : vs.length ≤ capv) (hcm : capv ≤ maxLen) (hq : askB n ps vs X x = false) :
    Calls Try.prog 82 #[nv n A ps.length cap, .slice AV vs.length capv, .int .i64 X, .int .i64 x, .slice AC l.length cc] w (GivesE w es0 false) := by
  have H := Lib.hid (fun w' (hb' : Below w.heap.size w w') => burst_v hq A cap AV capv w' (h.kept hb' (Nat.le_refl _)) hm (hv.kept hb' (Nat.le_refl _)) hmv hcv hcm)
  clear h hm hv hmv hcv hcm hq
  go_enter Try.func82, Try.ntmps82
  go_wp2_with (((with_reducible refine wpE_alloc rfl rfl ?_); intro w1 he1 hb1 hz1; refine Hid.out ?_))
  have b0 : w1.cell? ⟨w.heap.size, 0, none⟩ = some (.int .i64 n) := (hb1.cell (p := ⟨w.heap.size, 0, none⟩) (by simp)).trans (by go_simp)
  have b1 : w1.cell? ⟨w.heap.size, 1, none⟩ = some (.slice A ps.length cap) := (hb1.cell (p := ⟨w.heap.size, 1, none⟩) (by simp)).trans (by go_simp)
  have E6 := Lib.hid (show ERow w1 (w.heap.size + 1) es0 from by simpa using he1)
  have HB1 := Lib.hid (show Below w.heap.size w w1 from ((Below.refl w.heap.size w).alloc (Nat.le_refl _) _).trans (hb1.mono (by simp)))
  have HZ := Lib.hid (show w1.heap.size = w.heap.size + 2 by simpa using hz1)
  have hl1 : w.heap.size < w1.heap.size := by have := HZ.out; omega
  clear he1 hb1 hz1
  refine Lib.hid ?_
  go_wp2_with (first
    | (go_at_call 87; refine (H.out _ HB1.out).mono ?_; rintro e w2 ⟨rfl, hb2⟩; have E62 := Lib.hid (E6.out.kept hb2 (by have := HZ.out; omega)); have HB2 := Lib.hid (HB1.out.trans (hb2.mono (by have := HZ.out; omega))); have c0 := (hb2.cell (p := ⟨w.heap.size, 0, none⟩) hl1).trans b0; have c1 := (hb2.cell (p := ⟨w.heap.size, 1, none⟩) hl1).trans b1; have hz2 := hb2.size; clear hb2)
    | ((with_reducible refine wpE_store0 rfl _ _ rfl rfl (w.heap.size + 1) rfl rfl es0 E62.out ?_); intro w6 he6 hg6 hz6))
  have HB6 := Lib.hid (HB2.out.grown hg6 (by have := HB2.out.size; have := HZ.out; omega) (fun g hg => by simp at hg; omega))
  exact bodyPost_ret (v := .tuple #[ev es0, .bool false]) (resE2 (fn := Try.f82) rfl _ _ (w.heap.size + 1) es0 false rfl rfl he6) rfl ⟨rfl, HB6.out⟩

set_option maxHeartbeats 4000000 in
set_option maxRecDepth 100000 in
theorem wplan_no2 (n : Int) (A : Option Addr) (cap : Nat) (ps : List Pp) (AV : Option Addr) (capv : Nat) (vs : List Vv) (X x : Int) (AC : Option Addr) (cc : Nat) (l : List Int) (w : World) (h : PAt w A ps) (hm : ps.length ≤ maxLen) (hv : VAt w AV vs) (hmv : vs.length ≤ maxLen) (hcv : vs.length ≤ capv) (hcm : capv ≤ maxLen) (hc : IAt w AC l) (hcl : l.length ≤ 1048576) (hq : askB n ps vs X x = true) (hp : plB vs l = false) :
    Calls Try.prog 82 #[nv n A ps.length cap, .slice AV vs.length capv, .int .i64 X, .int .i64 x, .slice AC l.length cc] w (GivesE w es0 false) := by
  have hgd := goodV_of (askB_of hq).1
  have H := Lib.hid (fun w' (hb' : Below w.heap.size w w') => burst_v hq A cap AV capv w' (h.kept hb' (Nat.le_refl _)) hm (hv.kept hb' (Nat.le_refl _)) hmv hcv hcm)
  have HN := Lib.hid (fun w' (hb' : Below w.heap.size w w') => choiceof_v hp AV capv AC cc w' (hv.kept hb' (Nat.le_refl _)) hgd.2.1 (ascV_of hgd) (hc.kept hb' (Nat.le_refl _)) hcl)
  clear h hm hv hmv hcv hcm hq hc hcl hp hgd
  go_enter Try.func82, Try.ntmps82
  go_wp2_with (((with_reducible refine wpE_alloc rfl rfl ?_); intro w1 he1 hb1 hz1; refine Hid.out ?_))
  have b0 : w1.cell? ⟨w.heap.size, 0, none⟩ = some (.int .i64 n) := (hb1.cell (p := ⟨w.heap.size, 0, none⟩) (by simp)).trans (by go_simp)
  have b1 : w1.cell? ⟨w.heap.size, 1, none⟩ = some (.slice A ps.length cap) := (hb1.cell (p := ⟨w.heap.size, 1, none⟩) (by simp)).trans (by go_simp)
  have E6 := Lib.hid (show ERow w1 (w.heap.size + 1) es0 from by simpa using he1)
  have HB1 := Lib.hid (show Below w.heap.size w w1 from ((Below.refl w.heap.size w).alloc (Nat.le_refl _) _).trans (hb1.mono (by simp)))
  have HZ := Lib.hid (show w1.heap.size = w.heap.size + 2 by simpa using hz1)
  have hl1 : w.heap.size < w1.heap.size := by have := HZ.out; omega
  clear he1 hb1 hz1
  refine Lib.hid ?_
  go_wp2_with (first
    | (go_at_call 87; refine (H.out _ HB1.out).mono ?_; rintro e w2 ⟨rfl, hb2⟩; have E62 := Lib.hid (E6.out.kept hb2 (by have := HZ.out; omega)); have HB2 := Lib.hid (HB1.out.trans (hb2.mono (by have := HZ.out; omega))); have c0 := (hb2.cell (p := ⟨w.heap.size, 0, none⟩) hl1).trans b0; have c1 := (hb2.cell (p := ⟨w.heap.size, 1, none⟩) hl1).trans b1; have hz2 := hb2.size; clear hb2)
    | (go_at_call 141; refine (HN.out _ HB2.out).mono ?_; rintro e w3 ⟨⟨C, rfl, hC⟩, hb3⟩; have HC3 := Lib.hid hC; have E63 := Lib.hid (E62.out.kept hb3 (by have := HZ.out; omega)); have HB3 := Lib.hid (HB2.out.trans (hb3.mono HB2.out.size)); have d0 := (hb3.cell (p := ⟨w.heap.size, 0, none⟩) (by dsimp only; omega)).trans c0; have d1 := (hb3.cell (p := ⟨w.heap.size, 1, none⟩) (by dsimp only; omega)).trans c1; have hz3 := hb3.size; clear hb3 hC)
    | ((with_reducible refine wpE_store0 rfl _ _ rfl rfl (w.heap.size + 1) rfl rfl es0 E63.out ?_); intro w6 he6 hg6 hz6))
  have HB6 := Lib.hid (HB3.out.grown hg6 (by have := HB3.out.size; have := HZ.out; omega) (fun g hg => by simp at hg; omega))
  exact bodyPost_ret (v := .tuple #[ev es0, .bool false]) (resE2 (fn := Try.f82) rfl _ _ (w.heap.size + 1) es0 false rfl rfl he6) rfl ⟨rfl, HB6.out⟩


set_option maxHeartbeats 8000000 in
set_option maxRecDepth 100000 in
theorem wplan_yes (N X i : Nat) (A : Option Addr) (cap : Nat) (ps : List Pp) (AV : Option Addr) (capv : Nat) (vs : List Vv) (x : Int) (AC : Option Addr) (cc : Nat) (l : List Int) (w : World) (h : PAt w A ps) (hm : ps.length ≤ maxLen) (hv : VAt w AV vs) (hmv : vs.length ≤ maxLen) (hcv : vs.length ≤ capv) (hcm : capv ≤ maxLen) (hc : IAt w AC l) (hcl : l.length ≤ 1048576) (hq : askB N ps vs X x = true) (hi : At ps x i) (hp : plB vs l = true) :
    Calls Try.prog 82 #[nv N A ps.length cap, .slice AV vs.length capv, .int .i64 (X : Int), .int .i64 x, .slice AC l.length cc] w (GivesE w (wetP ps vs X l) (cutB ps vs X i l)) := by
  have hgd := goodV_of (askB_of hq).1
  have hX9 : X < 9 := by obtain ⟨_, _, h2⟩ := nodeB_of (askB_of hq).2.1; have := hgd.1.2.1; omega
  have H := Lib.hid (fun w' (hb' : Below w.heap.size w w') => burst_v hq A cap AV capv w' (h.kept hb' (Nat.le_refl _)) hm (hv.kept hb' (Nat.le_refl _)) hmv hcv hcm)
  have HN := Lib.hid (fun w' (hb' : Below w.heap.size w w') => choiceof_v hp AV capv AC cc w' (hv.kept hb' (Nat.le_refl _)) hgd.2.1 (ascV_of hgd) (hc.kept hb' (Nat.le_refl _)) hcl)
  have HWF := Lib.hid (fun w' => waterfrom_any N X A cap ps AV capv vs w')
  have HWB := Lib.hid (fun C L M S w' (hb' : Below w.heap.size w w') (hC : SubC vs C ∧ idsC vs C = l) (hw : WB w' L M S N A cap ps AV capv vs X) => by
    have h7 := wbox_any (C := C) hw (h.kept hb' (Nat.le_refl _)) (hv.kept hb' (Nat.le_refl _)) hgd hX9 hC.1
    rwa [hC.2] at h7)
  have HHP := Lib.hid (fun w' (hb' : Below w.heap.size w w') => haspipe_any N A cap ps (wetP ps vs X l) x i w' (h.kept hb' (Nat.le_refl _)) hgd.1 hi)
  have HCUT := Lib.hid (show cutB ps vs X i l = !(wetP ps vs X l (9 + i)) from rfl)
  clear h hm hv hmv hcv hcm hq hc hcl hp hgd hi
  go_enter Try.func82, Try.ntmps82
  go_wp2_with (((with_reducible refine wpE_alloc rfl rfl ?_); intro w1 he1 hb1 hz1; refine Hid.out ?_))
  have b0 : w1.cell? ⟨w.heap.size, 0, none⟩ = some (.int .i64 (N : Int)) := (hb1.cell (p := ⟨w.heap.size, 0, none⟩) (by simp)).trans (by go_simp)
  have b1 : w1.cell? ⟨w.heap.size, 1, none⟩ = some (.slice A ps.length cap) := (hb1.cell (p := ⟨w.heap.size, 1, none⟩) (by simp)).trans (by go_simp)
  have E6 := Lib.hid (show ERow w1 (w.heap.size + 1) es0 from by simpa using he1)
  have HB1 := Lib.hid (show Below w.heap.size w w1 from ((Below.refl w.heap.size w).alloc (Nat.le_refl _) _).trans (hb1.mono (by simp)))
  have HZ := Lib.hid (show w1.heap.size = w.heap.size + 2 by simpa using hz1)
  have hl1 : w.heap.size < w1.heap.size := by have := HZ.out; omega
  clear he1 hb1 hz1
  refine Lib.hid ?_
  go_wp2_with (first
    | (go_at_call 87; refine (H.out _ HB1.out).mono ?_; rintro e w2 ⟨rfl, hb2⟩; have E62 := Lib.hid (E6.out.kept hb2 (by have := HZ.out; omega)); have HB2 := Lib.hid (HB1.out.trans (hb2.mono (by have := HZ.out; omega))); have c0 := (hb2.cell (p := ⟨w.heap.size, 0, none⟩) hl1).trans b0; have c1 := (hb2.cell (p := ⟨w.heap.size, 1, none⟩) hl1).trans b1; have hz2 := hb2.size; clear hb2)
    | (go_at_call 141; refine (HN.out _ HB2.out).mono ?_; rintro e w3 ⟨⟨C, rfl, hC⟩, hb3⟩; have HC3 := Lib.hid hC; have E63 := Lib.hid (E62.out.kept hb3 (by have := HZ.out; omega)); have HB3 := Lib.hid (HB2.out.trans (hb3.mono HB2.out.size)); have d0 := (hb3.cell (p := ⟨w.heap.size, 0, none⟩) (by dsimp only; omega)).trans c0; have d1 := (hb3.cell (p := ⟨w.heap.size, 1, none⟩) (by dsimp only; omega)).trans c1; have hz3 := hb3.size; clear hb3 hC; refine Hid.out ?_))
  have HCC := Lib.hid (HC3.out (by simp))
  refine Lib.hid ?_
  go_wp2_with (first
    | (go_at_call 104; refine (HWF.out _).mono ?_; rintro e w4 ⟨⟨LL, MM, SS, rfl, hWB⟩, hb4⟩; have HW4 := Lib.hid hWB; have E64 := Lib.hid (E63.out.kept hb4 (by have := HZ.out; omega)); have HB4 := Lib.hid (HB3.out.trans (hb4.mono HB3.out.size)); have e0 := (hb4.cell (p := ⟨w.heap.size, 0, none⟩) (by dsimp only; omega)).trans d0; have e1 := (hb4.cell (p := ⟨w.heap.size, 1, none⟩) (by dsimp only; omega)).trans d1; have hz4 := hb4.size; clear hb4 hWB)
    | (go_at_call 158; refine (HWB.out _ _ _ _ _ HB4.out HCC.out HW4.out).mono ?_; rintro e w5 ⟨rfl, hb5⟩; have E65 := Lib.hid (E64.out.kept hb5 (by have := HZ.out; omega)); have HB5 := Lib.hid (HB4.out.trans (hb5.mono HB4.out.size)); have f0 := (hb5.cell (p := ⟨w.heap.size, 0, none⟩) (by dsimp only; omega)).trans e0; have f1 := (hb5.cell (p := ⟨w.heap.size, 1, none⟩) (by dsimp only; omega)).trans e1; have hz5 := hb5.size; clear hb5; refine Hid.out ?_))
  clear b0 b1 c0 c1 d0 d1 e0 e1
  obtain ⟨g7, hg7⟩ : ∃ g7, g7 = w5.heap.size := ⟨_, rfl⟩
  have HG7 := Lib.hid hg7
  have hw15 : w.heap.size + 1 < g7 := by have := HZ.out; omega
  refine Lib.hid ?_
  go_wp2_with (first
    | ((with_reducible refine wpE_alloc rfl rfl ?_); intro w6a he6a hb6a hz6a; have EA := Lib.hid he6a; have HX6 := Lib.hid hb6a; clear he6a hb6a hz6a)
    | ((with_reducible refine wpE_store rfl _ _ rfl rfl w5.heap.size rfl (wetP ps vs X l) rfl es0 EA.out ?_); intro w7 he7 hg7x hz7; have E7x := Lib.hid he7; have HX7 := Lib.hid hg7x; clear he7 hg7x hz7; refine Hid.out ?_))
  have HX67 := Lib.hid (show Below g7 w5 w7 from by rw [HG7.out]; exact HX6.out.grown HX7.out HX6.out.size (fun g hg => by simp at hg; omega))
  have HB7 := Lib.hid (HB5.out.trans (HX67.out.mono (by omega)))
  have E67 := Lib.hid (E65.out.kept HX67.out hw15)
  have g0 := (HX67.out.cell (p := ⟨w.heap.size, 0, none⟩) (by dsimp only; omega)).trans f0
  have g1 := (HX67.out.cell (p := ⟨w.heap.size, 1, none⟩) (by dsimp only; omega)).trans f1
  clear f0 f1
  have f0 := g0
  have f1 := g1
  clear g0 g1
  have E7 := Lib.hid (show ERow w7 g7 (wetP ps vs X l) from by rw [HG7.out]; exact E7x.out)
  have hz7 := E7.out.lt
  have HGE := HG7.out
  rw [← HGE]
  clear hg7 HGE EA E7x HX6 HX7 E6 E62 E63 E64 E65
  refine Lib.hid ?_
  go_upto_region 7 with (fail)
  refine wp_region_held_drew (S := fun w' => w'.cell? ⟨w.heap.size, 0, none⟩ = some (.int .i64 (N : Int)) ∧ w'.cell? ⟨w.heap.size, 1, none⟩ = some (.slice A ps.length cap) ∧ ERow w' g7 (wetP ps vs X l) ∧ ∃ s, ERow w' (w.heap.size + 1) s) (by kernel_rfl) (by exact ⟨f0, f1, E7.out, es0, E67.out⟩) (fun hHeld => ?_)
  refine wpAnyH_take (i := 0) (v := ev (wetP ps vs X l)) rfl (by kernel_rfl) (by kernel_rfl) (by kernel_rfl) (fun _ _ _ h => h) (Or.inl ⟨by rfl, fun w hSw => run_loadE rfl g7 rfl (wetP ps vs X l) hSw.2.2.1⟩) (by assumption) ?_
  simp only [Act.put, List.setIfInBounds_toArray]
  refine wpAnyH_take (i := 1) (v := .agg #[.int .i64 (N : Int), .slice A ps.length cap]) rfl (by kernel_rfl) (by kernel_rfl) (by kernel_rfl) (fun _ _ _ h => h) (Or.inl ⟨by rfl, ?_⟩) (by assumption) ?_
  · (intro w hSw; (try dsimp only at hSw); go_simp)
  simp only [Act.put]
  refine wpAnyH_take (i := 2) (v := ev (wetP ps vs X l)) rfl (by kernel_rfl) (by kernel_rfl) (by kernel_rfl) (fun _ _ _ h => h) (Or.inl ⟨by rfl, fun w hSw => run_loadE rfl g7 rfl (wetP ps vs X l) hSw.2.2.1⟩) (by assumption) ?_
  simp only [Act.put]
  refine wpAnyH_take (i := 3) (v := .int .i64 x) rfl (by kernel_rfl) (by kernel_rfl) (by kernel_rfl) (fun _ _ _ h => h) (Or.inl ⟨by rfl, ?_⟩) (by assumption) ?_
  · (intro w hSw; (try dsimp only at hSw); go_simp)
  simp only [Act.put]
  have HBD := Lib.hid HB7.out.drew
  refine wpAnyH_ready (rs := [4]) (by kernel_rfl) (by simp) ?_
  refine AllReadyH.cons rfl (fun K hK => ?_) AllReadyH.nil
  go_simp
  go_at_call 129
  refine (HHP.out _ HBD.out).mono ?_
  rintro e w8 ⟨rfl, hb8⟩
  have HB8 := Lib.hid (HBD.out.trans (hb8.mono HBD.out.size))
  have hz8 := hb8.size
  simp at hz8
  refine hK.out _ _ (by rcases hHeld with ⟨q0, q1, q2, q3⟩; exact ⟨(hb8.cell (p := ⟨w.heap.size, 0, none⟩) (by show w.heap.size < w7.heap.size; omega)).trans q0, (hb8.cell (p := ⟨w.heap.size, 1, none⟩) (by show w.heap.size < w7.heap.size; omega)).trans q1, q2.kept hb8 q2.lt, q3.imp fun s h7 => h7.kept hb8 h7.lt⟩) (fun hHeld => ?_)
  clear hK K
  refine wpAnyH_ready (rs := [5, 6]) (by kernel_rfl) (by simp) ?_
  refine AllReadyH.cons rfl (fun K hK => ?_) (AllReadyH.cons rfl (fun K hK => ?_) AllReadyH.nil)
  · go_simp
    refine hK.out _ _ (by first | assumption | go_keep) (fun hHeld => ?_)
    clear hK K
    refine wpAnyH_ready (rs := [6]) (by kernel_rfl) (by simp) ?_
    refine AllReadyH.cons rfl (fun K hK => ?_) AllReadyH.nil
    obtain ⟨sx, hsx⟩ := hHeld.2.2.2
    refine stepE_store (by rfl) _ _ (by rfl) (by rfl) (w.heap.size + 1) (by rfl) (wetP ps vs X l) (by rfl) sx hsx ?_
    intro w6 he6 hg6 hz6
    have HE6 := Lib.hid he6
    refine hK.out _ _ (by rcases hHeld with ⟨q0, q1, q2, q3⟩; exact ⟨(hg6.cell_far ⟨w.heap.size, 0, none⟩ (by dsimp only; omega) (by simp)).trans q0, (hg6.cell_far ⟨w.heap.size, 1, none⟩ (by dsimp only; omega) (by simp)).trans q1, q2.grown hg6 (by omega), _, he6⟩) (fun hHeld => ?_)
    clear hK K
    refine wpAnyH_ready (rs := [7]) (by kernel_rfl) (by simp) ?_
    refine AllReadyH.cons rfl (fun K hK => ?_) AllReadyH.nil
    go_simp
    refine hK.out _ _ (by first | assumption | go_keep) (fun hHeld => ?_)
    clear hK K
    refine wpAnyH_done (by kernel_rfl) ?_ _
    go_wp2_with fail
    have HB6 := Lib.hid (HB8.out.grown hg6 (by have := HB8.out.size; have := HZ.out; omega) (fun g hg => by simp at hg; omega))
    exact bodyPost_ret (v := .tuple #[ev (wetP ps vs X l), .bool (cutB ps vs X i l)]) (resE2 (fn := Try.f82) rfl _ _ (w.heap.size + 1) (wetP ps vs X l) (cutB ps vs X i l) rfl (by rw [HCUT.out]; rfl) he6) rfl ⟨rfl, HB6.out⟩
  · obtain ⟨sx, hsx⟩ := hHeld.2.2.2
    refine stepE_store (by rfl) _ _ (by rfl) (by rfl) (w.heap.size + 1) (by rfl) (wetP ps vs X l) (by rfl) sx hsx ?_
    intro w6 he6 hg6 hz6
    have HE6 := Lib.hid he6
    refine hK.out _ _ (by rcases hHeld with ⟨q0, q1, q2, q3⟩; exact ⟨(hg6.cell_far ⟨w.heap.size, 0, none⟩ (by dsimp only; omega) (by simp)).trans q0, (hg6.cell_far ⟨w.heap.size, 1, none⟩ (by dsimp only; omega) (by simp)).trans q1, q2.grown hg6 (by omega), _, he6⟩) (fun hHeld => ?_)
    clear hK K
    refine wpAnyH_ready (rs := [5]) (by kernel_rfl) (by simp) ?_
    refine AllReadyH.cons rfl (fun K hK => ?_) AllReadyH.nil
    go_simp
    refine hK.out _ _ (by first | assumption | go_keep) (fun hHeld => ?_)
    clear hK K
    refine wpAnyH_ready (rs := [7]) (by kernel_rfl) (by simp) ?_
    refine AllReadyH.cons rfl (fun K hK => ?_) AllReadyH.nil
    go_simp
    refine hK.out _ _ (by first | assumption | go_keep) (fun hHeld => ?_)
    clear hK K
    refine wpAnyH_done (by kernel_rfl) ?_ _
    go_wp2_with fail
    have HB6 := Lib.hid (HB8.out.grown hg6 (by have := HB8.out.size; have := HZ.out; omega) (fun g hg => by simp at hg; omega))
    exact bodyPost_ret (v := .tuple #[ev (wetP ps vs X l), .bool (cutB ps vs X i l)]) (resE2 (fn := Try.f82) rfl _ _ (w.heap.size + 1) (wetP ps vs X l) (cutB ps vs X i l) rfl (by rw [HCUT.out]; rfl) he6) rfl ⟨rfl, HB6.out⟩
end Go.Proofs.Ytbljmibaemgfeaa.S2

namespace Go.Proofs.Ytbljmibaemgfeaa.S2
open Go.RowKit Go.Sort P2 P4

set_option maxHeartbeats 2000000 in
set_option maxRecDepth 100000 in
theorem isplan_of (s : Nat → Bool) (v : Bool) (n : Int) (A : Option Addr) (cap : Nat) (ps : List Pp) (AV : Option Addr) (capv : Nat) (vs : List Vv) (X x : Int) (AC : Option Addr) (cc : Nat) (l : List Int) (w : World) (hs : ∀ w', Below w.heap.size w w' → Calls Try.prog 82 #[nv n A ps.length cap, .slice AV vs.length capv, .int .i64 X, .int .i64 x, .slice AC l.length cc] w' (GivesE w' s v)) :
    Calls Try.prog 21 #[nv n A ps.length cap, .slice AV vs.length capv, .int .i64 X, .int .i64 x, .slice AC l.length cc] w fun e w' => e = .returned (.bool v) ∧ Below w.heap.size w w' := by
  have HS := Lib.hid hs
  clear hs
  go_enter Try.func21, Try.ntmps21
  go_wp2_with (first
    | (go_at_call 82; refine (HS.out _ ((Below.refl _ _).alloc (Nat.le_refl _) _)).mono ?_; rintro e w1 ⟨rfl, hb1⟩; have HB1 := Lib.hid (((Below.refl w.heap.size w).alloc (Nat.le_refl _) (.cells #[.int .i64 n, .slice A ps.length cap] 32)).trans (hb1.mono (by simp))); clear hb1)
    | ((with_reducible refine wpE_alloc rfl rfl ?_); intro w2 he2 hb2 hz2; have E2 := Lib.hid he2; have HB2 := Lib.hid (HB1.out.trans (hb2.mono HB1.out.size)); clear he2 hb2 hz2)
    | ((with_reducible refine wpE_store rfl _ _ rfl rfl w1.heap.size rfl s rfl es0 E2.out ?_); intro w3 he3 hg3 hz3; have HB3 := Lib.hid (HB2.out.grown hg3 HB2.out.size (fun g hg => by have := HB1.out.size; simp at hg; omega)); clear he3 hg3 hz3))
  go_ret
  exact ⟨rfl, HB3.out⟩

theorem ids_all {vs : List Vv} (ha : AscV vs) (hl : vs.length ≤ 10) : idsC vs (allC vs vs.length) = openL vs := by
  refine sorted_ext4 _ _ (idsC_asc ha _) (openL_asc ha) fun x => ?_
  rw [idsC_mem, openL_mem]
  constructor
  · rintro ⟨j, hj, hb, he⟩
    exact ⟨vAt vs j, vAt_mem hj, ((allC_sub vs hl).2 j (by omega) hb).2, he⟩
  · rintro ⟨v, hv, hs, he⟩
    obtain ⟨j, hj, rfl⟩ := mem_vAt hv
    refine ⟨j, hj, ?_, he⟩
    unfold allC
    rw [orTo_bit _ _ _ hl (by omega)]
    simp [hj, hs]

set_option maxHeartbeats 2000000 in
set_option maxRecDepth 100000 in
theorem hope_no1 (n : Int) (A : Option Addr) (cap : Nat) (ps : List Pp) (AV : Option Addr) (capv : Nat) (vs : List Vv) (x : Int) (w : World) (h : PAt w A ps) (hm : ps.length ≤ maxLen) (hv : VAt w AV vs) (hmv : vs.length ≤ maxLen) (hcv : vs.length ≤ capv) (hcm : capv ≤ maxLen) (hb : goodV n ps vs = false) :
    Calls Try.prog 38 #[nv n A ps.length cap, .slice AV vs.length capv, .int .i64 x] w (GivesI w [] false) := by
  have H := Lib.hid (fun w' (hb' : Below w.heap.size w w') => validv_v hb A cap AV capv w' (h.kept hb' (Nat.le_refl _)) hm (hv.kept hb' (Nat.le_refl _)) hmv hcv hcm)
  have HB0 := Lib.hid (show Below w.heap.size w (w.alloc (.cells #[.int .i64 n, .slice A ps.length cap] 32)) from (Below.refl _ _).alloc (Nat.le_refl _) _)
  clear h hm hv hmv hcv hcm hb
  go_enter Try.func38, Try.ntmps38
  go_wp2_with (go_at_call 58; refine (H.out _ HB0.out).mono ?_; rintro e w1 ⟨rfl, hb1⟩; have HB1 := Lib.hid (HB0.out.trans (hb1.mono (by simp))); clear hb1)
  go_ret2
  exact gives_none HB1.out
set_option maxHeartbeats 2000000 in
set_option maxRecDepth 100000 in
theorem hope_no2 (n : Int) (A : Option Addr) (cap : Nat) (ps : List Pp) (AV : Option Addr) (capv : Nat) (vs : List Vv) (x : Int) (w : World) (h : PAt w A ps) (hm : ps.length ≤ maxLen) (hv : VAt w AV vs) (hmv : vs.length ≤ maxLen) (hcv : vs.length ≤ capv) (hcm : capv ≤ maxLen) (hb : goodV n ps vs = true) (hx : nodeB n ps x = false) :
    Calls Try.prog 38 #[nv n A ps.length cap, .slice AV vs.length capv, .int .i64 x] w (GivesI w [] false) := by
  have H := Lib.hid (fun w' (hb' : Below w.heap.size w w') => validv_v hb A cap AV capv w' (h.kept hb' (Nat.le_refl _)) hm (hv.kept hb' (Nat.le_refl _)) hmv hcv hcm)
  have HN := Lib.hid (fun w' (hb' : Below w.heap.size w w') => node_v hx A cap w' (h.kept hb' (Nat.le_refl _)) hm)
  have HB0 := Lib.hid (show Below w.heap.size w (w.alloc (.cells #[.int .i64 n, .slice A ps.length cap] 32)) from (Below.refl _ _).alloc (Nat.le_refl _) _)
  clear h hm hv hmv hcv hcm hb hx
  go_enter Try.func38, Try.ntmps38
  go_wp2_with (first
    | (go_at_call 58; refine (H.out _ HB0.out).mono ?_; rintro e w1 ⟨rfl, hb1⟩; have HB1 := Lib.hid (HB0.out.trans (hb1.mono (by simp))); have hb1' : Below (w.heap.size + 1) (w.alloc (.cells #[.int .i64 n, .slice A ps.length cap] 32)) w1 := (by simpa using hb1); obtain ⟨b0, b1⟩ := box2 hb1'; clear hb1 hb1')
    | (go_at_call 103; refine (HN.out _ HB1.out).mono ?_; rintro e w2 ⟨rfl, hb2⟩; have HB2 := Lib.hid (HB1.out.trans (hb2.mono HB1.out.size)); clear hb2))
  go_ret2
  exact gives_none HB2.out

set_option maxHeartbeats 4000000 in
set_option maxRecDepth 100000 in
theorem hope_yes (N X : Nat) (A : Option Addr) (cap : Nat) (ps : List Pp) (AV : Option Addr) (capv : Nat) (vs : List Vv) (w : World) (h : PAt w A ps) (hm : ps.length ≤ maxLen) (hv : VAt w AV vs) (hmv : vs.length ≤ maxLen) (hcv : vs.length ≤ capv) (hcm : capv ≤ maxLen) (hb : goodV N ps vs = true) (hx : nodeB N ps X = true) :
    Calls Try.prog 38 #[nv N A ps.length cap, .slice AV vs.length capv, .int .i64 (X : Int)] w (GivesI w (pipesL ps ps.length (wetP ps vs X (openL vs)) true) true) := by
  have hgd := goodV_of hb
  have hX9 : X < 9 := by obtain ⟨_, _, h2⟩ := nodeB_of hx; have := hgd.1.2.1; omega
  have H := Lib.hid (fun w' (hb' : Below w.heap.size w w') => validv_v hb A cap AV capv w' (h.kept hb' (Nat.le_refl _)) hm (hv.kept hb' (Nat.le_refl _)) hmv hcv hcm)
  have HN := Lib.hid (fun w' (hb' : Below w.heap.size w w') => node_v hx A cap w' (h.kept hb' (Nat.le_refl _)) hm)
  have HWF := Lib.hid (fun w' => waterfrom_any N X A cap ps AV capv vs w')
  have HOP := Lib.hid (fun w' (hb' : Below w.heap.size w w') => openv_any AV capv vs w' (hv.kept hb' (Nat.le_refl _)) hgd.2.1)
  have HWB := Lib.hid (fun L M S w' (hb' : Below w.heap.size w w') (hw : WB w' L M S N A cap ps AV capv vs X) => by
    have h7 := wbox_any (C := allC vs vs.length) hw (h.kept hb' (Nat.le_refl _)) (hv.kept hb' (Nat.le_refl _)) hgd hX9 (allC_sub vs hgd.2.1)
    rwa [ids_all (ascV_of hgd) hgd.2.1] at h7)
  have HPO := Lib.hid (fun w' (hb' : Below w.heap.size w w') => pipes_any N A cap ps (wetP ps vs X (openL vs)) true w' (h.kept hb' (Nat.le_refl _)) hgd.1)
  have HB0 := Lib.hid (show Below w.heap.size w (w.alloc (.cells #[.int .i64 (N : Int), .slice A ps.length cap] 32)) from (Below.refl _ _).alloc (Nat.le_refl _) _)
  generalize wetP ps vs X (openL vs) = s at *
  clear h hm hv hmv hcv hcm hb hx hgd
  go_enter Try.func38, Try.ntmps38
  go_wp2_with (first
    | (go_at_call 58; refine (H.out _ HB0.out).mono ?_; rintro e w1 ⟨rfl, hb1⟩; have HB1 := Lib.hid (HB0.out.trans (hb1.mono (by simp))); have hb1' : Below (w.heap.size + 1) (w.alloc (.cells #[.int .i64 (N : Int), .slice A ps.length cap] 32)) w1 := (by simpa using hb1); have HX1 := Lib.hid hb1'; obtain ⟨b0, b1⟩ := box2 hb1'; clear hb1 hb1')
    | (go_at_call 103; refine (HN.out _ HB1.out).mono ?_; rintro e w2 ⟨rfl, hb2⟩; have HB2 := Lib.hid (HB1.out.trans (hb2.mono HB1.out.size)); have hx2 := on_call HX1.out hb2; have HX2 := Lib.hid hx2; clear b0 b1; obtain ⟨b0, b1⟩ := box2 hx2; clear hb2 hx2)
    | (go_at_call 104; refine (HWF.out _).mono ?_; rintro e w3 ⟨⟨LL, MM, SS, rfl, hWB⟩, hb3⟩; have HW3 := Lib.hid hWB; have HB3 := Lib.hid (HB2.out.trans (hb3.mono HB2.out.size)); have hx3 := on_call HX2.out hb3; have HX3 := Lib.hid hx3; clear b0 b1 hWB; obtain ⟨b0, b1⟩ := box2 hx3; clear hb3 hx3)
    | (go_at_call 105; refine (HOP.out _ HB3.out).mono ?_; rintro e w4 ⟨rfl, hb4⟩; have HW4 := Lib.hid (HW3.out.kept hb4 (Nat.le_refl _)); have HB4 := Lib.hid (HB3.out.trans (hb4.mono HB3.out.size)); have hx4 := on_call HX3.out hb4; have HX4 := Lib.hid hx4; clear b0 b1; obtain ⟨b0, b1⟩ := box2 hx4; clear hb4 hx4)
    | (go_at_call 158; refine (HWB.out _ _ _ _ HB4.out HW4.out).mono ?_; rintro e w5 ⟨rfl, hb5⟩; have HB5 := Lib.hid (HB4.out.trans (hb5.mono HB4.out.size)); have HX5 := Lib.hid (on_call HX4.out hb5); clear b0 b1 hb5; refine Hid.out ?_))
  have hw5 : w.heap.size < w5.heap.size := box_lt HX5.out
  obtain ⟨b0, b1⟩ := box2 HX5.out
  refine Lib.hid ?_
  go_wp2_with (first
    | ((with_reducible refine wpE_alloc rfl rfl ?_); intro w6 he6 hb6 hz6; have E6 := Lib.hid he6; have HX6 := Lib.hid hb6; clear he6 hb6 hz6)
    | ((with_reducible refine wpE_store rfl _ _ rfl rfl w5.heap.size rfl s rfl es0 E6.out ?_); intro w7 he7 hg7 hz7; have E7 := Lib.hid he7; have HX7 := Lib.hid hg7; clear he7 hg7 hz7; refine Hid.out ?_))
  have HX67 := Lib.hid (show Below w5.heap.size w5 w7 from HX6.out.grown HX7.out HX6.out.size (fun g hg => by simp at hg; omega))
  have HB7 := Lib.hid (HB5.out.trans (HX67.out.mono HB5.out.size))
  have c0 := (HX67.out.cell (p := ⟨w.heap.size, 0, none⟩) hw5).trans b0
  have c1 := (HX67.out.cell (p := ⟨w.heap.size, 1, none⟩) hw5).trans b1
  clear b0 b1
  refine Lib.hid ?_
  go_wp2_with (first
    | (with_reducible refine wpE_load rfl _ rfl w5.heap.size rfl s E7.out ?_)
    | (go_at_call 106; refine (HPO.out _ HB7.out).mono ?_; rintro e w8 ⟨g, c, rfl, hg8, hO8, hb8⟩; have HO8 := Lib.hid hO8; have HB8 := Lib.hid (HB7.out.trans (hb8.mono HB7.out.size)); clear hO8 hb8))
  go_ret2
  exact ⟨g, c, rfl, by have := HB7.out.size; omega, own_lower HO8.out (by have := HB7.out.size; omega), HB8.out⟩
end Go.Proofs.Ytbljmibaemgfeaa.S2
