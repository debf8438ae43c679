/- The program's ShortestWay: contracts. Conditions: each theorem's own premises. -/
import Derived.Test.YtpldbakllegheaaStepsOne
import Derived.Test.YtpldbakllegheaaNodeOne
namespace Go.Proofs.Ytpldbakllegheaa.S2
open Go.RowKit P2

theorem way_no1 (n : Int) (A : Option Addr) (cap : Nat) (ps : List Pp) (x y : Int) (w : World) (h : PAt w A ps) (hm : ps.length ≤ maxLen) (hv : nodeB n ps x = false) :
    Calls Try.prog 76 #[nv n A ps.length cap, .int .i64 x, .int .i64 y] w (GivesI w [] false) := by
  have H := Lib.hid (fun w' (hb : Below w.heap.size w w') => node_v hv A cap w' (h.kept hb (Nat.le_refl _)) hm)
  clear h hv
  go_enter Try.func76, Try.ntmps76
  go_wp2_with (go_at_call 110; refine (H.out _ ((Below.refl _ _).alloc (Nat.le_refl _) _)).mono ?_; rintro e w1 ⟨rfl, hb1⟩)
  go_ret2
  exact gives_none (below_alloc_call hb1)

theorem way_no2 (n : Int) (A : Option Addr) (cap : Nat) (ps : List Pp) (x y : Int) (w : World) (h : PAt w A ps) (hm : ps.length ≤ maxLen) (hv : nodeB n ps x = true) (hv2 : nodeB n ps y = false) :
    Calls Try.prog 76 #[nv n A ps.length cap, .int .i64 x, .int .i64 y] w (GivesI w [] false) := by
  have H := Lib.hid (fun w' (hb : Below w.heap.size w w') => node_v hv A cap w' (h.kept hb (Nat.le_refl _)) hm)
  have H2 := Lib.hid (fun w' (hb : Below w.heap.size w w') => node_v hv2 A cap w' (h.kept hb (Nat.le_refl _)) hm)
  clear h hv hv2
  go_enter Try.func76, Try.ntmps76
  go_wp2_with (first
    | (go_at_call_of 110 (Value.int IntKind.i64 x); refine (H.out _ ((Below.refl _ _).alloc (Nat.le_refl _) _)).mono ?_; rintro e w1 ⟨rfl, hb1⟩; obtain ⟨hc1, hf1⟩ := bcell hb1; have hB1 := Lib.hid (below_alloc_call hb1))
    | (go_at_call_of 110 (Value.int IntKind.i64 y); refine (H2.out _ hB1.out).mono ?_; rintro e w2 ⟨rfl, hb2⟩))
  go_ret2
  exact gives_none (hB1.out.trans (hb2.mono hB1.out.size))

set_option maxHeartbeats 2000000 in
theorem way_no3 (N X T : Nat) (A : Option Addr) (cap : Nat) (ps : List Pp) (w : World) (h : PAt w A ps) (hm : ps.length ≤ maxLen) (hv : nodeB N ps X = true) (hv2 : nodeB N ps T = true) (hd : dist ps T X = -1) :
    Calls Try.prog 76 #[nv N A ps.length cap, .int .i64 X, .int .i64 T] w (GivesI w [] false) := by
  obtain ⟨hg, hx1, hx2⟩ := nodeB_of hv
  obtain ⟨_, hy1, hy2⟩ := nodeB_of hv2
  have H := Lib.hid (fun w' (hb : Below w.heap.size w w') => node_v hv A cap w' (h.kept hb (Nat.le_refl _)) hm)
  have H2 := Lib.hid (fun w' (hb : Below w.heap.size w w') => node_v hv2 A cap w' (h.kept hb (Nat.le_refl _)) hm)
  have HD := Lib.hid (fun w' (hb : Below w.heap.size w w') => dist_any N T A cap ps w' (h.kept hb (Nat.le_refl _)) hg (by omega) (by omega))
  have hX0 : (0 : Int) ≤ (X : Int) := by omega
  have hXN : (X : Int) < (N : Int) + 1 := by omega
  have HL := Lib.hid (distL_len N ps T)
  have HX := Lib.hid (show dA (distL N ps T) X = -1 by rw [distL_at N ps T X (by omega) (by omega)]; exact hd)
  clear h hv hv2 hg hd
  go_enter Try.func76, Try.ntmps76
  go_wp2_with (first
    | (go_at_call_of 110 (Value.int IntKind.i64 (X : Int)); refine (H.out _ ((Below.refl _ _).alloc (Nat.le_refl _) _)).mono ?_; rintro e w1 ⟨rfl, hb1⟩; obtain ⟨hc1, hf1⟩ := bcell hb1; have hB1 := Lib.hid (below_alloc_call hb1))
    | (go_at_call_of 110 (Value.int IntKind.i64 (T : Int)); refine (H2.out _ hB1.out).mono ?_; rintro e w2 ⟨rfl, hb2⟩; have hb12 := Lib.hid (hb1.trans (hb2.mono hb1.size)); obtain ⟨hc2, hf2⟩ := bcell hb12.out; have hB2 := Lib.hid (below_alloc_call hb12.out))
    | (go_at_call 111; refine (HD.out _ hB2.out).mono ?_; rintro e w3 ⟨⟨gD, D, rfl, hgD, hdr, hDe⟩, hb3⟩; have cx := hdr.cell (v := X) (by rw [hDe, HL.out]; omega); rw [hDe, HX.out] at cx))
  go_ret2
  have hz := hB2.out.size
  exact gives_none (hB2.out.trans (hb3.mono hz))

set_option maxHeartbeats 8000000 in
set_option maxRecDepth 100000 in
theorem way_yes (N X T : Nat) (A : Option Addr) (cap : Nat) (ps : List Pp) (w : World) (h : PAt w A ps) (hm : ps.length ≤ maxLen) (hv : nodeB N ps X = true) (hv2 : nodeB N ps T = true) (K : Nat) (hd : dist ps T X = K) :
    Calls Try.prog 76 #[nv N A ps.length cap, .int .i64 X, .int .i64 T] w (GivesI w (wayL ps T K X) true) := by
  obtain ⟨hg, hx1, hx2⟩ := nodeB_of hv
  obtain ⟨_, hy1, hy2⟩ := nodeB_of hv2
  have H := Lib.hid (fun w' (hb : Below w.heap.size w w') => node_v hv A cap w' (h.kept hb (Nat.le_refl _)) hm)
  have H2 := Lib.hid (fun w' (hb : Below w.heap.size w w') => node_v hv2 A cap w' (h.kept hb (Nat.le_refl _)) hm)
  have HD := Lib.hid (fun w' (hb : Below w.heap.size w w') => dist_any N T A cap ps w' (h.kept hb (Nat.le_refl _)) hg (by omega) (by omega))
  have HB := Lib.hid (fun w' (hb : Below w.heap.size w w') => bynode_any N A cap ps w' (h.kept hb (Nat.le_refl _)) hg)
  have HG := Lib.hid hg
  have hX0 : (0 : Int) ≤ (X : Int) := by omega
  have hXN : (X : Int) < (N : Int) + 1 := by omega
  have hN : N ≤ 8 := by have := hg.2.1; omega
  have hKN := dist_le (t := T) hg X (by omega)
  have HL := Lib.hid (distL_len N ps T)
  have HX := Lib.hid (show dA (distL N ps T) X = (K : Int) by rw [distL_at N ps T X (by omega) (by omega)]; exact hd)
  have HAT := Lib.hid (fun (v : Nat) (h1 : 1 ≤ v) (h2 : v ≤ N) => distL_at N ps T v h2 (by omega))
  have hKn : ((K : Int) == -1) = false := beq_eq_false_iff_ne.2 (by omega)
  obtain ⟨i0, hi, hz0, hz1, hz2⟩ := info_parts infoI
  have HDX := Lib.hid hd
  have hK8 : K ≤ 8 := by omega
  clear h hv hv2 hg hd hKN
  go_enter Try.func76, Try.ntmps76
  go_wp2_with (first
    | (go_at_call_of 110 (Value.int IntKind.i64 (X : Int)); refine (H.out _ ((Below.refl _ _).alloc (Nat.le_refl _) _)).mono ?_; rintro e w1 ⟨rfl, hb1⟩; obtain ⟨hc1, hf1⟩ := bcell hb1; have hB1 := Lib.hid (below_alloc_call hb1))
    | (go_at_call_of 110 (Value.int IntKind.i64 (T : Int)); refine (H2.out _ hB1.out).mono ?_; rintro e w2 ⟨rfl, hb2⟩; have hb12 := Lib.hid (hb1.trans (hb2.mono hb1.size)); obtain ⟨hc2, hf2⟩ := bcell hb12.out; have hB2 := Lib.hid (below_alloc_call hb12.out))
    | (go_at_call 111; refine (HD.out _ hB2.out).mono ?_; rintro e w3 ⟨⟨gD, D, rfl, hgD, hdr, hDe⟩, hb3⟩; have cx := hdr.cell (v := X) (by rw [hDe, HL.out]; omega); rw [hDe, HX.out] at cx; have hb13 := Lib.hid (hb12.out.trans (hb3.mono hb12.out.size)); obtain ⟨hc3, hf3⟩ := bcell hb13.out; have hB3 := Lib.hid (below_alloc_call hb13.out))
    | (go_at_call 112; refine (HB.out _ hB3.out).mono ?_; rintro e w4 ⟨⟨G, rfl, hbn⟩, hb4⟩; refine Hid.out ?_)
    | fail)
  have hB4 := Lib.hid (hB3.out.trans (hb4.mono hB3.out.size))
  have hD4 := Lib.hid (hdr.kept (hb4.block gD hdr.lt))
  rw [hDe] at hD4
  have HBN := Lib.hid hbn
  have hgD4 := hD4.out.lt
  have hG4 := hbn.lt
  have hz4 := hB4.out.size
  clear cx hc1 hf1 hc2 hf2 hc3 hf3 hb1 hb2 hb3 hb4 hb12 hb13 hB1 hB2 hB3 hdr hbn hDe hgD H H2 HD HB
  refine Lib.hid ?_
  go_wp2
  have hO := own_empty w4 w4.heap.size (Nat.le_refl _)
  have hb0 : Below w4.heap.size w4 (w4.alloc (.cells #[] 3)) := (Below.refl _ _).alloc (Nat.le_refl _) _
  go_loopg [10, 11] K (fun k v i wr => ∃ (h : Nat) (pre : List Int), i = .int .i64 (h : Int) ∧ 1 ≤ h ∧ h ≤ N ∧ Hid (dist ps T h = (k : Int)) ∧ Hid (pre ++ wayL ps T k h = wayL ps T K X) ∧ pre.length + k = K ∧ Hid (IOwn wr w4.heap.size v pre) ∧ Hid (v ≠ .slice none 0 0) ∧ Below w4.heap.size w4 wr)
  case atStart => exact ⟨X, [], rfl, by omega, by omega, HDX, Lib.hid rfl, by simp, Lib.hid hO, Lib.hid (by simp), hb0⟩
  case round =>
    clear hO hb0
    obtain ⟨h, pre, rfl, hh1, hhN, hdh, hpre, hlen, hown, hvn, hb⟩ := hrel
    by_cases hT : h = T
    · subst hT
      have e0 : gk = 0 := by have := hdh.out; rw [dist_self] at this; omega
      have hfin : pre = wayL ps h K X := by have := hpre.out; rw [e0] at this; simpa [wayL] using this
      have HFIN := Lib.hid hfin
      obtain ⟨g, capg, rfl, hgB⟩ := own_slice hown.out hvn.out
      clear hfin e0
      go_wp2
      go_ret2
      have hlow : IOwn wr w.heap.size (.slice (some ⟨g, 0, none⟩) pre.length capg) pre := own_lower hown.out
      rw [← HFIN.out]
      exact ⟨g, capg, rfl, by omega, hlow, hB4.out.trans (hb.mono hz4)⟩
    · obtain ⟨k, hk⟩ : ∃ k, gk = k + 1 := by
        match gk, hdh with
        | 0, hdh => exact absurd (show h = T by have := dist_zero (show dist ps T h = 0 from hdh.out); omega) hT
        | k + 1, _ => exact ⟨k, rfl⟩
      have HMG := Lib.hid hk
      rw [hk] at hdh hpre hlen
      clear hk
      have hE : ((h : Int) != (T : Int)) = true := by simp; omega
      obtain ⟨AR, capR, hcR, hpR, _⟩ := (HBN.out).at_ (i := h) (by omega)
      have hcR' := (hb.cell (p := ⟨G, h, none⟩) hG4).trans hcR
      have HPR := Lib.hid hpR
      have HNR := Lib.hid (near_row HG.out hdh.out)
      have HRM := Lib.hid (fun (j : Nat) (hj : j < (rowOf ps h).length) => row_mem (ps := ps) (h := h) hj)
      have hRl := rowOf_len ps h
      have hh0 : (0 : Int) ≤ (h : Int) := by omega
      have hhN' : (h : Int) < (N : Int) + 1 := by omega
      have hl10 := HG.out.2.2.1
      have HDH := Lib.hid ((HAT.out h hh1 hhN).trans hdh.out)
      have HWR := Lib.hid (fun (j u : Nat) h1 h2 h3 h4 => way_row (ps := ps) (t := T) (h := h) (k := k) (j := j) (u := u) h1 h2 h3 h4)
      have HNI := Lib.hid (fun (j : Nat) (hj : j < (rowOf ps h).length) => near_iff (t := T) hdh.out (HRM.out j hj).1 (HRM.out j hj).2)
      have HNB := Lib.hid (fun (p : Pp) => show nearB ps T h p = decide (dist ps T (oth p h) < dist ps T h) from rfl)
      clear hcR hpR
      go_wp2
      generalize rowOf ps h = R at *
      obtain ⟨V, hV⟩ : ∃ V, V = u10 := ⟨_, rfl⟩
      subst hV
      have HVN := hvn
      go_loopw [10, 11, 47] (fun v2 i2 j2 wr => ∃ (j : Nat), j ≤ R.length ∧ j2 = .int .i64 (j : Int) ∧ v2 = V ∧ i2 = .int .i64 (h : Int) ∧ Hid (∀ i, i < j → nearB ps T h (pAt R i) = false) ∧ Hid (IOwn wr w4.heap.size V pre) ∧ Below w4.heap.size w4 wr) (fun _ _ j _ => R.length - (intOf j).toNat)
      case atStart => exact ⟨0, Nat.zero_le _, rfl, rfl, rfl, Lib.hid (fun i hi => absurd hi (by omega)), hown, hb⟩
      case round =>
        clear hown hb hcR'
        obtain ⟨j, hj, rfl, rfl, rfl, hnn, hown, hb⟩ := hrel
        by_cases hlt : j < R.length
        · obtain ⟨b, o, hA, hbl, h0, h1, h2, h3⟩ := (HPR.out.kept hb (Nat.le_refl _)).at_ hlt
          subst hA
          obtain ⟨hpm, hpt⟩ := HRM.out j hlt
          have hok := good_pp HG.out hpm
          have hoi := oth_in (x := (h : Int)) hok
          have hnear := HNI.out j hlt
          obtain ⟨u, hu⟩ : ∃ u : Nat, oth (pAt R j) h = (u : Int) := ⟨(oth (pAt R j) h).toNat, by omega⟩
          rw [hu] at hoi
          have HU := Lib.hid hu
          have HO := Lib.hid (fun w => other_v hu w)
          have hnb := HNB.out (pAt R j)
          rw [hu] at hnb hnear
          have HNEAR := Lib.hid hnear
          have HW := Lib.hid (fun h1 h2 => HWR.out j u hlt h1 h2 hu)
          have hu1 : 1 ≤ u := by omega
          have huN : u ≤ N := by omega
          have hu0 : (0 : Int) ≤ (u : Int) := by omega
          have huN' : (u : Int) < (N : Int) + 1 := by omega
          have hzw := hb.size
          have hdu := HAT.out u hu1 huN
          have hDL := HL.out
          clear hpm hpt hok hnear hu hoi
          have HNN := Lib.hid (fun (h1 : nearB ps T h (pAt R j) = false) (i : Nat) (hi : i < j + 1) => show nearB ps T h (pAt R i) = false by
            by_cases e : i = j
            · rw [e]; exact h1
            · exact hnn.out i (by omega))
          generalize pAt R j = p at *
          obtain ⟨x, hx⟩ : ∃ x, dist ps T (u : Int) = x := ⟨_, rfl⟩
          rw [hx] at hnb hdu HNEAR
          rw [hdh.out] at hnb
          have hdW := Lib.hid (hD4.out.kept (hb.block gD hgD4))
          have hgDw : gD < wr.heap.size := by omega
          have hkc : ((k + 1 : Nat) : Int) = (k : Int) + 1 := by omega
          have ho := hown.out
          unfold IOwn at ho
          go_wp2_with (first
            | (go_at_call 77; refine (HO.out _).mono ?_; rintro e w5 ⟨rfl, hb5⟩; refine Hid.out ?_))
          have hz5 := hb5.size
          simp at hz5
          have hd5 := Lib.hid ((hdW.out.kept (Below.heap_alloc wr (.cells #[.int .i64 p.id, .int .i64 p.fr, .int .i64 p.to, .int .i64 p.sz] 63) gD hgDw)).kept (hb5.block gD (by simp; omega)))
          have cu := hd5.out.cell (v := u) (by omega)
          have ch := hd5.out.cell (v := h) (by omega)
          rw [hdu] at cu
          rw [HDH.out] at ch
          have cp : w5.cell? ⟨wr.heap.size, 0, none⟩ = some (iv p.id) := (hb5.cell (p := ⟨wr.heap.size, 0, none⟩) (by simp)).trans (World.cell?_alloc_at _ _ _ _ (by simp))
          have ho5 := own_on (ho.alloc (.cells #[.int .i64 p.id, .int .i64 p.fr, .int .i64 p.to, .int .i64 p.sz] 63)) hb5
          have hB5 := Lib.hid ((hb.alloc hzw (.cells #[.int .i64 p.id, .int .i64 p.fr, .int .i64 p.to, .int .i64 p.sz] 63)).trans (hb5.mono (by simp; omega)))
          have hO5 := Lib.hid ho5
          clear hb5 ho
          refine Lib.hid ?_
          go_wp2
          go_quiet (fail)
          by_cases hxk : x < (k : Int) + 1
          · have hnt := Lib.hid (show nearB ps T h p = true by rw [hnb]; exact decide_eq_true (by omega))
            have hxe := Lib.hid (HNEAR.out.1 hnt.out)
            have hw := HW.out hnn.out hnt.out
            have hpre2 := Lib.hid (show (pre ++ [p.id]) ++ wayL ps T k u = wayL ps T K X by
              have e := hpre.out
              rw [hw] at e
              rw [← e]
              simp)
            have ho6 : (w5.drewN nq).ownsRow w4.heap.size 3 1 _ pre.length (pre.map iv) := hO5.out
            have hb6 := below_drewN hB5.out nq
            have hz6 : w4.heap.size ≤ (w5.drewN nq).heap.size := hb6.size
            clear hw
            go_wp2_with (at_builtin; go_must (refine wpList_append_own _ rfl _ _ 25 rfl w4.heap.size 3 i0 (.int .i64 0) 1 8 Try.underlying25 hi hz0 hz1 hz2 rfl (by decide) _ _ _ rfl (ho6.alloc _) ⟨(w5.drewN nq).heap.size, 0, none⟩ 1 1 [iv p.id] rfl rfl (cell_one_new _ _ _) (by intro u hu; simp at hu; subst hu; rfl) (by unfold maxLen; omega) (by omega) (by simp at hz6 ⊢; omega) ?_))
            intro v' w7 hown' hgrow hnil
            have hown3 := Lib.hid (IOwn.push hown')
            have hB7 := Lib.hid ((hb6.alloc hz6 (.cells #[iv p.id] 3)).grown hgrow (by simp at hz6 ⊢; omega) (fun g hg => (ho6.lt g hg).1))
            have hnil3 := Lib.hid (show v' ≠ .slice none 0 0 from fun e => by simp [e] at hnil)
            clear hown' hgrow hnil ho6
            go_wp2
            go_roundg k
            case measure => have := HMG.out; omega
            case rel => exact ⟨u, pre ++ [p.id], rfl, hu1, huN, Lib.hid (by rw [hx]; exact hxe.out), hpre2, by simp; omega, hown3, hnil3, hB7.out⟩
          · have hnf := Lib.hid (HNN.out (by rw [hnb]; exact decide_eq_false (by omega)))
            go_wp2
            go_roundw
            case rel => exact ⟨j + 1, by omega, by go_num, rfl, rfl, hnf, Lib.hid (show IOwn (w5.drewN nq) _ _ _ from hO5.out), below_drewN hB5.out nq⟩
            case measure => simp [intOf]; omega
        · exact absurd (fun i hi => hnn.out i (by omega)) HNR.out
end Go.Proofs.Ytpldbakllegheaa.S2
