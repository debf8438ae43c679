/- SteepestPipe of the model: contracts. Conditions: each theorem's own premises. -/
import Derived.Test.YtikppgbipdflbabGA
import Derived.Test.YtikppgbipdflbabNodeOne
import Derived.Test.YtikppgbipdflbabReachThree
import Derived.Test.YtikppgbipdflbabWoPl
import Derived.Test.YtikppgbipdflbabRgKit
namespace Go.Proofs.Ytikppgbipdflbab.S2
open Go.RowKit P2

theorem way_no1 (n : Int) (A : Option Addr) (cap : Nat) (ps : List Pp) (x y : Int) (w : World) (h : PAt w A ps) (hm : ps.length ≤ maxLen) (hv : nodeB n ps x = false) :
    Calls Try.prog 101 #[nv n A ps.length cap, .int .i64 x, .int .i64 y] w (GivesI w [] false) := by
  have H := Lib.hid (fun w' (hb : Below w.heap.size w w') => node_v hv A cap w' (h.kept hb (Nat.le_refl _)) hm)
  clear h hv
  go_enter Try.func101, Try.ntmps101
  go_wp2_with (go_at_call 94; refine (H.out _ ((Below.refl _ _).alloc (Nat.le_refl _) _)).mono ?_; rintro e w1 ⟨rfl, hb1⟩)
  go_ret2
  exact gives_none (below_alloc_call hb1)

theorem way_no2 (n : Int) (A : Option Addr) (cap : Nat) (ps : List Pp) (x y : Int) (w : World) (h : PAt w A ps) (hm : ps.length ≤ maxLen) (hv : nodeB n ps x = true) (hv2 : nodeB n ps y = false) :
    Calls Try.prog 101 #[nv n A ps.length cap, .int .i64 x, .int .i64 y] w (GivesI w [] false) := by
  have H := Lib.hid (fun w' (hb : Below w.heap.size w w') => node_v hv A cap w' (h.kept hb (Nat.le_refl _)) hm)
  have H2 := Lib.hid (fun w' (hb : Below w.heap.size w w') => node_v hv2 A cap w' (h.kept hb (Nat.le_refl _)) hm)
  clear h hv hv2
  go_enter Try.func101, Try.ntmps101
  go_wp2_with (first
    | (go_at_call_of 94 (Value.int IntKind.i64 x); refine (H.out _ ((Below.refl _ _).alloc (Nat.le_refl _) _)).mono ?_; rintro e w1 ⟨rfl, hb1⟩; obtain ⟨hc1, hf1⟩ := bcell hb1; have hB1 := Lib.hid (below_alloc_call hb1))
    | (go_at_call_of 94 (Value.int IntKind.i64 y); refine (H2.out _ hB1.out).mono ?_; rintro e w2 ⟨rfl, hb2⟩))
  go_ret2
  exact gives_none (hB1.out.trans (hb2.mono hB1.out.size))

set_option maxHeartbeats 2000000 in
theorem way_no3 (N X T : Nat) (A : Option Addr) (cap : Nat) (ps : List Pp) (w : World) (h : PAt w A ps) (hm : ps.length ≤ maxLen) (hv : nodeB N ps X = true) (hv2 : nodeB N ps T = true) (hd : dist ps T X = -1) :
    Calls Try.prog 101 #[nv N A ps.length cap, .int .i64 X, .int .i64 T] w (GivesI w [] false) := by
  obtain ⟨hg, hx1, hx2⟩ := nodeB_of hv
  obtain ⟨_, hy1, hy2⟩ := nodeB_of hv2
  have H := Lib.hid (fun w' (hb : Below w.heap.size w w') => node_v hv A cap w' (h.kept hb (Nat.le_refl _)) hm)
  have H2 := Lib.hid (fun w' (hb : Below w.heap.size w w') => node_v hv2 A cap w' (h.kept hb (Nat.le_refl _)) hm)
  have HD := Lib.hid (fun w' (hb : Below w.heap.size w w') => dist_any N T A cap ps w' (h.kept hb (Nat.le_refl _)) hg (by omega) (by omega))
  have hX0 : (0 : Int) ≤ (X : Int) := by omega
  have hXN : (X : Int) < (N : Int) + 1 := by omega
  have HL := Lib.hid (distL_len N ps T)
  have HX := Lib.hid (show dA (distL N ps T) X = -1 by rw [distL_at N ps T X (by omega) (by omega)]; exact hd)
  clear h hv hv2 hg hd
  go_enter Try.func101, Try.ntmps101
  go_wp2_with (first
    | (go_at_call_of 94 (Value.int IntKind.i64 (X : Int)); refine (H.out _ ((Below.refl _ _).alloc (Nat.le_refl _) _)).mono ?_; rintro e w1 ⟨rfl, hb1⟩; obtain ⟨hc1, hf1⟩ := bcell hb1; have hB1 := Lib.hid (below_alloc_call hb1))
    | (go_at_call_of 94 (Value.int IntKind.i64 (T : Int)); refine (H2.out _ hB1.out).mono ?_; rintro e w2 ⟨rfl, hb2⟩; have hb12 := Lib.hid (hb1.trans (hb2.mono hb1.size)); obtain ⟨hc2, hf2⟩ := bcell hb12.out; have hB2 := Lib.hid (below_alloc_call hb12.out))
    | (go_at_call 132; refine (HD.out _ hB2.out).mono ?_; rintro e w3 ⟨⟨gD, D, rfl, hgD, hdr, hDe⟩, hb3⟩; have cx := hdr.cell (v := X) (by rw [hDe, HL.out]; omega); rw [hDe, HX.out] at cx))
  go_ret2
  have hz := hB2.out.size
  exact gives_none (hB2.out.trans (hb3.mono hz))

set_option maxHeartbeats 8000000 in
set_option maxRecDepth 100000 in
theorem way_yes (N X T : Nat) (A : Option Addr) (cap : Nat) (ps : List Pp) (w : World) (h : PAt w A ps) (hm : ps.length ≤ maxLen) (hv : nodeB N ps X = true) (hv2 : nodeB N ps T = true) (K : Nat) (hd : dist ps T X = K) :
    Calls Try.prog 101 #[nv N A ps.length cap, .int .i64 X, .int .i64 T] w (GivesI w (wayL ps T K X) true) := by
  obtain ⟨hg, hx1, hx2⟩ := nodeB_of hv
  obtain ⟨_, hy1, hy2⟩ := nodeB_of hv2
  have H := Lib.hid (fun w' (hb : Below w.heap.size w w') => node_v hv A cap w' (h.kept hb (Nat.le_refl _)) hm)
  have H2 := Lib.hid (fun w' (hb : Below w.heap.size w w') => node_v hv2 A cap w' (h.kept hb (Nat.le_refl _)) hm)
  have HD := Lib.hid (fun w' (hb : Below w.heap.size w w') => dist_any N T A cap ps w' (h.kept hb (Nat.le_refl _)) hg (by omega) (by omega))
  have HB := Lib.hid (fun w' (hb : Below w.heap.size w w') => bynode_any N A cap ps w' (h.kept hb (Nat.le_refl _)) hg)
  have HG := Lib.hid hg
  have hX0 : (0 : Int) ≤ (X : Int) := by omega
  have hXN : (X : Int) < (N : Int) + 1 := by omega
  have hN : N ≤ 8 := by have := hg.2.1; omega
  have hKN := dist_le (t := T) hg X (by omega)
  have HL := Lib.hid (distL_len N ps T)
  have HX := Lib.hid (show dA (distL N ps T) X = (K : Int) by rw [distL_at N ps T X (by omega) (by omega)]; exact hd)
  have HAT := Lib.hid (fun (v : Nat) (h1 : 1 ≤ v) (h2 : v ≤ N) => distL_at N ps T v h2 (by omega))
  have hKn : ((K : Int) == -1) = false := beq_eq_false_iff_ne.2 (by omega)
  obtain ⟨i0, hi, hz0, hz1, hz2⟩ := info_parts infoI
  have HDX := Lib.hid hd
  have hK8 : K ≤ 8 := by omega
  clear h hv hv2 hg hd hKN
  go_enter Try.func101, Try.ntmps101
  go_wp2_with (first
    | (go_at_call_of 94 (Value.int IntKind.i64 (X : Int)); refine (H.out _ ((Below.refl _ _).alloc (Nat.le_refl _) _)).mono ?_; rintro e w1 ⟨rfl, hb1⟩; obtain ⟨hc1, hf1⟩ := bcell hb1; have hB1 := Lib.hid (below_alloc_call hb1))
    | (go_at_call_of 94 (Value.int IntKind.i64 (T : Int)); refine (H2.out _ hB1.out).mono ?_; rintro e w2 ⟨rfl, hb2⟩; have hb12 := Lib.hid (hb1.trans (hb2.mono hb1.size)); obtain ⟨hc2, hf2⟩ := bcell hb12.out; have hB2 := Lib.hid (below_alloc_call hb12.out))
    | (go_at_call 132; refine (HD.out _ hB2.out).mono ?_; rintro e w3 ⟨⟨gD, D, rfl, hgD, hdr, hDe⟩, hb3⟩; have cx := hdr.cell (v := X) (by rw [hDe, HL.out]; omega); rw [hDe, HX.out] at cx; have hb13 := Lib.hid (hb12.out.trans (hb3.mono hb12.out.size)); obtain ⟨hc3, hf3⟩ := bcell hb13.out; have hB3 := Lib.hid (below_alloc_call hb13.out))
    | (go_at_call 159; refine (HB.out _ hB3.out).mono ?_; rintro e w4 ⟨⟨G, rfl, hbn⟩, hb4⟩; refine Hid.out ?_)
    | fail)
  have hB4 := Lib.hid (hB3.out.trans (hb4.mono hB3.out.size))
  have hD4 := Lib.hid (hdr.kept (hb4.block gD hdr.lt))
  rw [hDe] at hD4
  have HBN := Lib.hid hbn
  have hgD4 := hD4.out.lt
  have hG4 := hbn.lt
  have hz4 := hB4.out.size
  clear cx hc1 hf1 hc2 hf2 hc3 hf3 hb1 hb2 hb3 hb4 hb12 hb13 hB1 hB2 hB3 hdr hbn hDe hgD H H2 HD HB
  refine Lib.hid ?_
  go_wp2
  have hO := own_empty w4 w4.heap.size (Nat.le_refl _)
  have hb0 : Below w4.heap.size w4 (w4.alloc (.cells #[] 3)) := (Below.refl _ _).alloc (Nat.le_refl _) _
  go_loopg [10, 11] K (fun k v i wr => ∃ (h : Nat) (pre : List Int), i = .int .i64 (h : Int) ∧ 1 ≤ h ∧ h ≤ N ∧ Hid (dist ps T h = (k : Int)) ∧ Hid (pre ++ wayL ps T k h = wayL ps T K X) ∧ pre.length + k = K ∧ Hid (IOwn wr w4.heap.size v pre) ∧ Hid (v ≠ .slice none 0 0) ∧ Below w4.heap.size w4 wr)
  case atStart => exact ⟨X, [], rfl, by omega, by omega, HDX, Lib.hid rfl, by simp, Lib.hid hO, Lib.hid (by simp), hb0⟩
  case round =>
    clear hO hb0
    obtain ⟨h, pre, rfl, hh1, hhN, hdh, hpre, hlen, hown, hvn, hb⟩ := hrel
    by_cases hT : h = T
    · subst hT
      have e0 : gk = 0 := by have := hdh.out; rw [dist_self] at this; omega
      have hfin : pre = wayL ps h K X := by have := hpre.out; rw [e0] at this; simpa [wayL] using this
      have HFIN := Lib.hid hfin
      obtain ⟨g, capg, rfl, hgB⟩ := own_slice hown.out hvn.out
      clear hfin e0
      go_wp2
      go_ret2
      have hlow : IOwn wr w.heap.size (.slice (some ⟨g, 0, none⟩) pre.length capg) pre := own_lower hown.out
      rw [← HFIN.out]
      exact ⟨g, capg, rfl, by omega, hlow, hB4.out.trans (hb.mono hz4)⟩
    · obtain ⟨k, hk⟩ : ∃ k, gk = k + 1 := by
        match gk, hdh with
        | 0, hdh => exact absurd (show h = T by have := dist_zero (show dist ps T h = 0 from hdh.out); omega) hT
        | k + 1, _ => exact ⟨k, rfl⟩
      have HMG := Lib.hid hk
      rw [hk] at hdh hpre hlen
      clear hk
      have hE : ((h : Int) != (T : Int)) = true := by simp; omega
      obtain ⟨AR, capR, hcR, hpR, _⟩ := (HBN.out).at_ (i := h) (by omega)
      have hcR' := (hb.cell (p := ⟨G, h, none⟩) hG4).trans hcR
      have HPR := Lib.hid hpR
      have HNR := Lib.hid (near_row HG.out hdh.out)
      have HRM := Lib.hid (fun (j : Nat) (hj : j < (rowOf ps h).length) => row_mem (ps := ps) (h := h) hj)
      have hRl := rowOf_len ps h
      have hh0 : (0 : Int) ≤ (h : Int) := by omega
      have hhN' : (h : Int) < (N : Int) + 1 := by omega
      have hl10 := HG.out.2.2.1
      have HDH := Lib.hid ((HAT.out h hh1 hhN).trans hdh.out)
      have HWR := Lib.hid (fun (j u : Nat) h1 h2 h3 h4 => way_row (ps := ps) (t := T) (h := h) (k := k) (j := j) (u := u) h1 h2 h3 h4)
      have HNI := Lib.hid (fun (j : Nat) (hj : j < (rowOf ps h).length) => near_iff (t := T) hdh.out (HRM.out j hj).1 (HRM.out j hj).2)
      have HNB := Lib.hid (fun (p : Pp) => show nearB ps T h p = decide (dist ps T (oth p h) < dist ps T h) from rfl)
      clear hcR hpR
      go_wp2
      generalize rowOf ps h = R at *
      obtain ⟨V, hV⟩ : ∃ V, V = u10 := ⟨_, rfl⟩
      subst hV
      have HVN := hvn
      go_loopw [10, 11, 47] (fun v2 i2 j2 wr => ∃ (j : Nat), j ≤ R.length ∧ j2 = .int .i64 (j : Int) ∧ v2 = V ∧ i2 = .int .i64 (h : Int) ∧ Hid (∀ i, i < j → nearB ps T h (pAt R i) = false) ∧ Hid (IOwn wr w4.heap.size V pre) ∧ Below w4.heap.size w4 wr) (fun _ _ j _ => R.length - (intOf j).toNat)
      case atStart => exact ⟨0, Nat.zero_le _, rfl, rfl, rfl, Lib.hid (fun i hi => absurd hi (by omega)), hown, hb⟩
      case round =>
        clear hown hb hcR'
        obtain ⟨j, hj, rfl, rfl, rfl, hnn, hown, hb⟩ := hrel
        by_cases hlt : j < R.length
        · obtain ⟨b, o, hA, hbl, h0, h1, h2, h3⟩ := (HPR.out.kept hb (Nat.le_refl _)).at_ hlt
          subst hA
          obtain ⟨hpm, hpt⟩ := HRM.out j hlt
          have hok := good_pp HG.out hpm
          have hoi := oth_in (x := (h : Int)) hok
          have hnear := HNI.out j hlt
          obtain ⟨u, hu⟩ : ∃ u : Nat, oth (pAt R j) h = (u : Int) := ⟨(oth (pAt R j) h).toNat, by omega⟩
          rw [hu] at hoi
          have HU := Lib.hid hu
          have HO := Lib.hid (fun w => other_v hu w)
          have hnb := HNB.out (pAt R j)
          rw [hu] at hnb hnear
          have HNEAR := Lib.hid hnear
          have HW := Lib.hid (fun h1 h2 => HWR.out j u hlt h1 h2 hu)
          have hu1 : 1 ≤ u := by omega
          have huN : u ≤ N := by omega
          have hu0 : (0 : Int) ≤ (u : Int) := by omega
          have huN' : (u : Int) < (N : Int) + 1 := by omega
          have hzw := hb.size
          have hdu := HAT.out u hu1 huN
          have hDL := HL.out
          clear hpm hpt hok hnear hu hoi
          have HNN := Lib.hid (fun (h1 : nearB ps T h (pAt R j) = false) (i : Nat) (hi : i < j + 1) => show nearB ps T h (pAt R i) = false by
            by_cases e : i = j
            · rw [e]; exact h1
            · exact hnn.out i (by omega))
          generalize pAt R j = p at *
          obtain ⟨x, hx⟩ : ∃ x, dist ps T (u : Int) = x := ⟨_, rfl⟩
          rw [hx] at hnb hdu HNEAR
          rw [hdh.out] at hnb
          have hdW := Lib.hid (hD4.out.kept (hb.block gD hgD4))
          have hgDw : gD < wr.heap.size := by omega
          have hkc : ((k + 1 : Nat) : Int) = (k : Int) + 1 := by omega
          have ho := hown.out
          unfold IOwn at ho
          go_wp2_with (first
            | (go_at_call 102; refine (HO.out _).mono ?_; rintro e w5 ⟨rfl, hb5⟩; refine Hid.out ?_))
          have hz5 := hb5.size
          simp at hz5
          have hd5 := Lib.hid ((hdW.out.kept (Below.heap_alloc wr (.cells #[.int .i64 p.id, .int .i64 p.fr, .int .i64 p.to, .int .i64 p.sz] 40) gD hgDw)).kept (hb5.block gD (by simp; omega)))
          have cu := hd5.out.cell (v := u) (by omega)
          have ch := hd5.out.cell (v := h) (by omega)
          rw [hdu] at cu
          rw [HDH.out] at ch
          have cp : w5.cell? ⟨wr.heap.size, 0, none⟩ = some (iv p.id) := (hb5.cell (p := ⟨wr.heap.size, 0, none⟩) (by simp)).trans (World.cell?_alloc_at _ _ _ _ (by simp))
          have ho5 := own_on (ho.alloc (.cells #[.int .i64 p.id, .int .i64 p.fr, .int .i64 p.to, .int .i64 p.sz] 40)) hb5
          have hB5 := Lib.hid ((hb.alloc hzw (.cells #[.int .i64 p.id, .int .i64 p.fr, .int .i64 p.to, .int .i64 p.sz] 40)).trans (hb5.mono (by simp; omega)))
          have hO5 := Lib.hid ho5
          clear hb5 ho
          refine Lib.hid ?_
          go_wp2
          go_quiet (fail)
          by_cases hxk : x < (k : Int) + 1
          · have hnt := Lib.hid (show nearB ps T h p = true by rw [hnb]; exact decide_eq_true (by omega))
            have hxe := Lib.hid (HNEAR.out.1 hnt.out)
            have hw := HW.out hnn.out hnt.out
            have hpre2 := Lib.hid (show (pre ++ [p.id]) ++ wayL ps T k u = wayL ps T K X by
              have e := hpre.out
              rw [hw] at e
              rw [← e]
              simp)
            have ho6 : (w5.drewN nq).ownsRow w4.heap.size 3 1 _ pre.length (pre.map iv) := hO5.out
            have hb6 := below_drewN hB5.out nq
            have hz6 : w4.heap.size ≤ (w5.drewN nq).heap.size := hb6.size
            clear hw
            go_wp2_with (at_builtin; go_must (refine wpList_append_own _ rfl _ _ 27 rfl w4.heap.size 3 i0 (.int .i64 0) 1 8 Try.underlying27 hi hz0 hz1 hz2 rfl (by decide) _ _ _ rfl (ho6.alloc _) ⟨(w5.drewN nq).heap.size, 0, none⟩ 1 1 [iv p.id] rfl rfl (cell_one_new _ _ _) (by intro u hu; simp at hu; subst hu; rfl) (by unfold maxLen; omega) (by omega) (by simp at hz6 ⊢; omega) ?_))
            intro v' w7 hown' hgrow hnil
            have hown3 := Lib.hid (IOwn.push hown')
            have hB7 := Lib.hid ((hb6.alloc hz6 (.cells #[iv p.id] 3)).grown hgrow (by simp at hz6 ⊢; omega) (fun g hg => (ho6.lt g hg).1))
            have hnil3 := Lib.hid (show v' ≠ .slice none 0 0 from fun e => by simp [e] at hnil)
            clear hown' hgrow hnil ho6
            go_wp2
            go_roundg k
            case measure => have := HMG.out; omega
            case rel => exact ⟨u, pre ++ [p.id], rfl, hu1, huN, Lib.hid (by rw [hx]; exact hxe.out), hpre2, by simp; omega, hown3, hnil3, hB7.out⟩
          · have hnf := Lib.hid (HNN.out (by rw [hnb]; exact decide_eq_false (by omega)))
            go_wp2
            go_roundw
            case rel => exact ⟨j + 1, by omega, by go_num, rfl, rfl, hnf, Lib.hid (show IOwn (w5.drewN nq) _ _ _ from hO5.out), below_drewN hB5.out nq⟩
            case measure => simp [intOf]; omega
        · exact absurd (fun i hi => hnn.out i (by omega)) HNR.out
end Go.Proofs.Ytikppgbipdflbab.S2

namespace Go.Proofs.Ytikppgbipdflbab.S2
open Go.RowKit P2

open Go.Sort in
theorem met_at {P : Program} {f : FuncId} {args : Array Value} {w : World} {d : Nat} {os : Array Obj} {v : Value}
    (h : ∀ w', Below w.heap.size w w' → Calls P f args w' fun e w'' => e = .returned v ∧ Below w'.heap.size w' w'') : Calls P f args (grow (redrawn w d) os) fun e w'' => e = .returned v ∧ ∃ p : Regrown, w'' = grow (redrawn w p.d) p.os :=
  Calls.regrown_of (h _ (below_regrown w d os))
set_option maxHeartbeats 1000000 in
theorem al_no1 (n : Int) (A : Option Addr) (cap : Nat) (ps : List Pp) (AD : Option Addr) (dc : Nat) (fl : List Int) (x y : Int) (w : World) (hW : ∀ w', Below w.heap.size w w' → Calls Try.prog 101 #[nv n A ps.length cap, .int .i64 x, .int .i64 y] w' (GivesI w' [] false)) :
    Calls Try.prog 26 #[nv n A ps.length cap, .slice AD fl.length dc, .int .i64 x, .int .i64 y] w fun e w' => e = .returned (.tuple #[.int .i64 0, .bool false]) ∧ Below w.heap.size w w' := by
  have H := Lib.hid hW
  clear hW
  go_enter Try.func26, Try.ntmps26
  go_wp2_with (go_at_call 101; refine (H.out _ ((Below.refl _ _).alloc (Nat.le_refl _) _)).mono ?_; rintro e w1 ⟨g, c, rfl, hg, hO, hb1⟩)
  go_ret2
  exact ⟨rfl, below_alloc_call hb1⟩
set_option maxHeartbeats 1000000 in
theorem al_no2 (n : Int) (A : Option Addr) (cap : Nat) (ps : List Pp) (AD : Option Addr) (dc : Nat) (fl : List Int) (x y : Int) (W : List Int) (w : World) (h : PAt w A ps) (hm : ps.length ≤ maxLen) (hd : IAt w AD fl) (hdl : fl.length ≤ 1048576) (hv : floB n ps fl = false) (hW : ∀ w', Below w.heap.size w w' → Calls Try.prog 101 #[nv n A ps.length cap, .int .i64 x, .int .i64 y] w' (GivesI w' W true)) :
    Calls Try.prog 26 #[nv n A ps.length cap, .slice AD fl.length dc, .int .i64 x, .int .i64 y] w fun e w' => e = .returned (.tuple #[.int .i64 0, .bool false]) ∧ Below w.heap.size w w' := by
  have H := Lib.hid hW
  have H2 := Lib.hid (fun w' (hb : Below w.heap.size w w') => flo_v hv A cap AD dc w' (h.kept hb (Nat.le_refl _)) hm (hd.kept hb (Nat.le_refl _)) hdl)
  clear hW h hd hv
  go_enter Try.func26, Try.ntmps26
  go_wp2_with (first
    | (go_at_call 101; refine (H.out _ ((Below.refl _ _).alloc (Nat.le_refl _) _)).mono ?_; rintro e w1 ⟨g, c, rfl, hg, hO, hb1⟩; obtain ⟨hc1, hf1⟩ := bcell hb1; have hz1 := hb1.size; simp at hz1; have hB1 := Lib.hid (below_alloc_call hb1))
    | (go_at_call 99; refine (H2.out _ hB1.out).mono ?_; rintro e w2 ⟨rfl, hb2⟩; have hB2 := Lib.hid (hB1.out.trans (hb2.mono hB1.out.size))))
  go_ret2
  exact ⟨rfl, hB2.out⟩

set_option maxHeartbeats 4000000 in
set_option maxRecDepth 100000 in
theorem al_yes (N : Nat) (A : Option Addr) (cap : Nat) (ps : List Pp) (AD : Option Addr) (dc : Nat) (fl : List Int) (x y : Int) (W : List Int) (w : World) (h : PAt w A ps) (hm : ps.length ≤ maxLen) (hd : IAt w AD fl) (hdl : fl.length ≤ 1048576) (hv : floB N ps fl = true) (hwo : WayOk ps W x) (hW : ∀ w', Below w.heap.size w w' → Calls Try.prog 101 #[nv N A ps.length cap, .int .i64 x, .int .i64 y] w' (GivesI w' W true)) :
    Calls Try.prog 26 #[nv N A ps.length cap, .slice AD fl.length dc, .int .i64 x, .int .i64 y] w fun e w' => e = .returned (.tuple #[.int .i64 (alongA ps fl W x), .bool true]) ∧ Below w.heap.size w w' := by
  obtain ⟨hg, hfl, hr⟩ := floB_of hv
  have hl10 := hg.2.2.1
  have hW8 := hwo.1
  have H := Lib.hid hW
  have H2 := Lib.hid (fun w' (hb : Below w.heap.size w w') => flo_v hv A cap AD dc w' (h.kept hb (Nat.le_refl _)) hm (hd.kept hb (Nat.le_refl _)) hdl)
  have HPL := Lib.hid (fun v w' (hb : Below w.heap.size w w') => place_any N A cap ps v w' (h.kept hb (Nat.le_refl _)) hg)
  have HA := Lib.hid (fun w' (hb : Below w.heap.size w w') => h.kept hb (Nat.le_refl _))
  have HI := Lib.hid (fun w' (hb : Below w.heap.size w w') => hd.kept hb (Nat.le_refl _))
  have HE := Lib.hid (fun k (hk : k < fl.length) => allR_at hr hk)
  have HS := Lib.hid (fun k (hk : k ≤ W.length) => along_in hg hr hfl hwo hk)
  have HG := Lib.hid (fun k (hk : k < ps.length) => good_pp hg (pAt_mem hk))
  have HWO := Lib.hid (fun k (hk : k < W.length) => hwo.2 k hk)
  have HPP := Lib.hid (fun (v : Int) (i j : Nat) (f : Bool) (hf : FindIs ps v (i : Int)) (hp : Place ps v j f) => (show f = true ∧ j = i from by
    cases f with
    | false => have := (place_find (good_ids hg) hp hf).2 rfl; omega
    | true => have := ((place_find (good_ids hg) hp hf).1 rfl).1; exact ⟨rfl, by omega⟩))
  have HL := Lib.hid hfl
  clear h hd hv hr hg hfl hm hdl hW hwo
  go_enter Try.func26, Try.ntmps26
  go_wp2_with (first
    | (go_at_call 101; refine (H.out _ ((Below.refl _ _).alloc (Nat.le_refl _) _)).mono ?_; rintro e w1 ⟨gW, cW, rfl, hgW, hOW, hb1⟩; have HX1 := Lib.hid (show Below (w.heap.size + 1) (w.alloc (nb N A ps.length cap)) w1 by simpa using hb1); obtain ⟨b0, b1⟩ := box2 HX1.out; have hy1 := box_lt HX1.out; have HW1 := Lib.hid hOW.iat; clear hb1 hOW)
    | (go_at_call 99; refine (H2.out _ (below_box HX1.out)).mono ?_; rintro e w2 ⟨rfl, hb2⟩; have HX2 := Lib.hid (on_call HX1.out hb2); have HW2 := Lib.hid (HW1.out.kept hb2 (Nat.le_refl _)); clear b0 b1; obtain ⟨b0, b1⟩ := box2 HX2.out; have hy2 := box_lt HX2.out; clear hb2))
  have hBX := HX2.out
  have HWK := Lib.hid (fun w' (hb : Below w2.heap.size w2 w') => HW2.out.kept hb (Nat.le_refl _))
  have HB0 := Lib.hid (Below.refl w2.heap.size w2)
  have HX20 := Lib.hid hBX
  clear H H2 HX1 HX2 HW1 HW2 b0 b1 hy1 hBX
  go_loopw [12, 13, 38] (fun a h i wr => ∃ (k : Nat), k ≤ W.length ∧ i = .int .i64 (k : Int) ∧ a = .int .i64 (sumK (turnA ps fl W x) k) ∧ h = .int .i64 (hereA ps W x k) ∧ Hid (Below w2.heap.size w2 wr)) (fun _ _ i _ => W.length - (intOf i).toNat)
  case atStart => exact ⟨0, Nat.zero_le _, rfl, rfl, rfl, HB0⟩
  case round =>
    clear HB0
    obtain ⟨k, hk, rfl, rfl, rfl, hB2⟩ := hrel
    have hb := on_call HX20.out hB2.out
    have hB := Lib.hid (below_box hb)
    by_cases hlt : k < W.length
    · obtain ⟨c0, c1⟩ := box2 hb
      have hz2 := box_lt hb
      obtain ⟨bW, oW, hAW, hblW, w0⟩ := (HWK.out _ hB2.out).at_ hlt
      simp only [Option.some.injEq, Addr.mk.injEq, and_true] at hAW
      obtain ⟨rfl, rfl⟩ := hAW
      rw [Nat.zero_add] at w0
      have hk0 : (0 : Int) ≤ (k : Int) := by omega
      have hkn : (k : Int) < (W.length : Int) := by omega
      obtain ⟨hjl, hjf, hjt⟩ := HWO.out k hlt
      have hs := HS.out k hk
      have hs2 := HS.out (k + 1) hlt
      have hsn : sumK (turnA ps fl W x) (k + 1) = sumK (turnA ps fl W x) k + turnA ps fl W x k := rfl
      have hhn : hereA ps W x (k + 1) = oth (pAt ps (plc ps (lA W k))) (hereA ps W x k) := rfl
      have htn : turnA ps fl W x k = if (pAt ps (plc ps (lA W k))).fr = hereA ps W x k then lossI (pAt ps (plc ps (lA W k))) (lA fl (plc ps (lA W k))) else -lossI (pAt ps (plc ps (lA W k))) (lA fl (plc ps (lA W k))) := rfl
      have hla : lA W k = W.getD k 0 := rfl
      rw [htn] at hsn
      rw [hla] at hjl hjf hjt hsn hhn
      have hPL := Lib.hid (HPL.out (W.getD k 0))
      have hPP := Lib.hid (fun j f hp => HPP.out (W.getD k 0) (plc ps (W.getD k 0)) j f hjf hp)
      have hjfl : plc ps (W.getD k 0) < fl.length := by rw [HL.out]; exact hjl
      have hgp := HG.out _ hjl
      have hy := HE.out _ hjfl
      have HLO := Lib.hid (fun w' => loss_any hgp hy.1 hy.2 w')
      have hli := (loss_in hgp hy.1 hy.2).2
      have hne : (pAt ps (plc ps (W.getD k 0))).fr ≠ (pAt ps (plc ps (W.getD k 0))).to := hgp.2.2.2.2.2.2.1
      have hla2 : lA fl (plc ps (W.getD k 0)) = fl.getD (plc ps (W.getD k 0)) 0 := rfl
      rw [hla2] at hsn
      have HAP := Lib.hid (fun w' hb => (HA.out w' hb).at_ hjl)
      have HIP := Lib.hid (fun w' hb => (HI.out w' hb).at_ hjfl)
      have HO := Lib.hid (fun w => other_v hhn.symm w)
      have HTO := Lib.hid (show ((pAt ps (plc ps (W.getD k 0))).to = hereA ps W x k → sumK (turnA ps fl W x) (k + 1) = sumK (turnA ps fl W x) k + -lossI (pAt ps (plc ps (W.getD k 0))) (fl.getD (plc ps (W.getD k 0)) 0)) ∧ (¬ (pAt ps (plc ps (W.getD k 0))).to = hereA ps W x k → sumK (turnA ps fl W x) (k + 1) = sumK (turnA ps fl W x) k + lossI (pAt ps (plc ps (W.getD k 0))) (fl.getD (plc ps (W.getD k 0)) 0)) from ⟨fun e => by rw [hsn, if_neg (fun e2 => hne (e2.trans e.symm))], fun e => by rw [hsn, if_pos (hjt.resolve_right e)]⟩)
      clear hhn hsn htn hjf hjt hgp hy hla hla2 hne
      obtain ⟨s2, hs2e⟩ : ∃ z, sumK (turnA ps fl W x) (k + 1) = z := ⟨_, rfl⟩
      obtain ⟨h2, hh2e⟩ : ∃ z, hereA ps W x (k + 1) = z := ⟨_, rfl⟩
      rw [hs2e] at hs2 HTO
      rw [hh2e] at HO
      have HS2E := Lib.hid hs2e
      have HH2E := Lib.hid hh2e
      clear hs2e hh2e
      generalize lossI (pAt ps (plc ps (W.getD k 0))) (fl.getD (plc ps (W.getD k 0)) 0) = L at *
      generalize fl.getD (plc ps (W.getD k 0)) 0 = f at *
      generalize pAt ps (plc ps (W.getD k 0)) = p at *
      generalize plc ps (W.getD k 0) = j at *
      generalize sumK (turnA ps fl W x) k = s at *
      generalize hereA ps W x k = hh at *
      generalize W.getD k 0 = v at *
      have hjn : (j : Int) < (ps.length : Int) := by omega
      have hj0 : (0 : Int) ≤ (j : Int) := by omega
      have hjnf : (j : Int) < (fl.length : Int) := by omega
      go_wp2_with (first
        | (go_at_call 89; refine (hPL.out _ hB.out).mono ?_; rintro e w5 ⟨⟨j', f', rfl, hp'⟩, hb5⟩; obtain ⟨rfl, rfl⟩ := hPP.out j' f' hp'; refine Hid.out ?_))
      have hX5 := on_call hb hb5
      have hB5 := Lib.hid (below_box hX5)
      have hB25 := Lib.hid (hB2.out.trans (hb5.mono hB2.out.size))
      clear c0 c1 hz2 w0 hblW
      obtain ⟨c0, c1⟩ := box2 hX5
      have hz5 := box_lt hX5
      obtain ⟨b, off, hA, hbl, p0, p1, p2, p3⟩ := HAP.out _ hB5.out
      subst hA
      obtain ⟨bb, of2, hA2, hbl2, q0⟩ := HIP.out _ hB5.out
      subst hA2
      have hab := alloc_belowE w5 (.cells #[.int .i64 p.id, .int .i64 p.fr, .int .i64 p.to, .int .i64 p.sz] 40)
      have hB25n := Lib.hid (hB25.out.trans (hab.mono hB25.out.size))
      have q1 := (hab.cell (p := ⟨bb, of2 + j', none⟩) hbl2).trans q0
      have d0 := cells4 w5 (.int .i64 p.id) (.int .i64 p.fr) (.int .i64 p.to) (.int .i64 p.sz) 40 0 _ rfl
      have d1 := cells4 w5 (.int .i64 p.id) (.int .i64 p.fr) (.int .i64 p.to) (.int .i64 p.sz) 40 1 _ rfl
      have d2 := cells4 w5 (.int .i64 p.id) (.int .i64 p.fr) (.int .i64 p.to) (.int .i64 p.sz) 40 2 _ rfl
      have d3 := cells4 w5 (.int .i64 p.id) (.int .i64 p.fr) (.int .i64 p.to) (.int .i64 p.sz) 40 3 _ rfl
      have hzz : w5.heap.size < (w5.alloc (.cells #[.int .i64 p.id, .int .i64 p.fr, .int .i64 p.to, .int .i64 p.sz] 40)).heap.size := by simp
      have hbl2' : bb < (w5.alloc (.cells #[.int .i64 p.id, .int .i64 p.fr, .int .i64 p.to, .int .i64 p.sz] 40)).heap.size := by omega
      refine Lib.hid ?_
      go_wp2
      generalize w5.alloc (.cells #[.int .i64 p.id, .int .i64 p.fr, .int .i64 p.to, .int .i64 p.sz] 40) = wa at *
      clear p0 p1 p2 p3 q0 c0 c1 hab
      have hG := @cell_g
      refine region_below (by kernel_rfl) (by kernel_rfl) ?_
      repeat (first | go_big_quiet_step ((go_at_call 100; exact met HLO.out)))
      refine wpQuiet_nil ?_
      intro w6 hb6
      have r0 := (hb6.cell (p := ⟨w5.heap.size, 0, none⟩) hzz).trans d0
      have r1 := (hb6.cell (p := ⟨w5.heap.size, 1, none⟩) hzz).trans d1
      have r2 := (hb6.cell (p := ⟨w5.heap.size, 2, none⟩) hzz).trans d2
      have r3 := (hb6.cell (p := ⟨w5.heap.size, 3, none⟩) hzz).trans d3
      have hB6 := Lib.hid (hB25n.out.trans (hb6.mono hB25n.out.size))
      have hz6 : w5.heap.size < w6.heap.size := by have := hb6.size; omega
      clear hb6 d0 d1 d2 d3 q1 hG hbl2' hzz hb5
      by_cases hto : p.to = hh
      · have g0 : (p.to == hh) = true := beq_iff_eq.2 hto
        have he := HTO.out.1 hto
        have HE2 := Lib.hid he
        rw [he] at hs2
        clear hto he
        go_wp2_with (first
          | (go_at_call 102; refine (HO.out _).mono ?_; rintro e w7 ⟨rfl, hb7⟩))
        go_roundw
        case rel => exact ⟨k + 1, by omega, by go_num, by rw [HS2E.out, HE2.out], by rw [HH2E.out], Lib.hid (hB6.out.trans (hb7.mono hB6.out.size))⟩
        case measure => simp [intOf]; omega
      · have g0 : (p.to == hh) = false := beq_eq_false_iff_ne.2 hto
        have he := HTO.out.2 hto
        have HE2 := Lib.hid he
        rw [he] at hs2
        clear hto he
        go_wp2_with (first
          | (go_at_call 102; refine (HO.out _).mono ?_; rintro e w7 ⟨rfl, hb7⟩))
        go_roundw
        case rel => exact ⟨k + 1, by omega, by go_num, by rw [HS2E.out, HE2.out], by rw [HH2E.out], Lib.hid (hB6.out.trans (hb7.mono hB6.out.size))⟩
        case measure => simp [intOf]; omega
    · have hkk : k = W.length := by omega
      have HF := Lib.hid (show sumK (turnA ps fl W x) k = alongA ps fl W x by rw [hkk]; rfl)
      clear hkk
      go_wp2
      go_ret2
      exact ⟨by rw [← HF.out]; rfl, hB.out⟩
end Go.Proofs.Ytikppgbipdflbab.S2

namespace Go.Proofs.Ytikppgbipdflbab.S2
open Go.RowKit P2

set_option maxHeartbeats 8000000 in
set_option maxRecDepth 100000 in
theorem l2way_any (N X T : Nat) (A : Option Addr) (cap : Nat) (ps : List Pp) (w : World) (h : PAt w A ps) (hg : P2.Good N ps) (hx1 : 1 ≤ X) (hx2 : X ≤ N) (hy1 : 1 ≤ T) (hy2 : T ≤ N) (K : Nat) (hd : dist ps T X = K) :
    Calls Try.prog 171 #[nv N A ps.length cap, .int .i64 (X : Int), .int .i64 (T : Int)] w (GivesL w (wayL ps T K X)) := by
  have HS := Lib.hid (fun w' (hb : Below w.heap.size w w') => steps_any N T A cap ps w' (h.kept hb (Nat.le_refl _)) hg hy1 hy2)
  have HA := Lib.hid h
  have HG := Lib.hid hg
  have hN : N ≤ 8 := by have := hg.2.1; omega
  have hl10 := hg.2.2.1
  have hKN := dist_le (t := T) hg X (by omega)
  have hK8 : K ≤ 8 := by omega
  have HAT := Lib.hid (fun (v : Nat) (h1 : 1 ≤ v) (h2 : v ≤ N) => distL_at N ps T v h2 (by omega))
  have HLN := Lib.hid (distL_len N ps T)
  have HDX := Lib.hid hd
  obtain ⟨i0, hi, hz0, hz1, hz2⟩ := info_parts infoI
  clear h hg hKN hd
  go_enter Try.func171, Try.ntmps171
  go_wp2_with (first
    | (go_at_call 194; refine (HS.out _ ((Below.refl _ _).alloc (Nat.le_refl _) _)).mono ?_; rintro e w4 ⟨gS, cS, rfl, hgS, hoS, hb4⟩; refine Hid.out ?_)
    | fail)
  have hB1 : Below (w.heap.size + 1) (w.alloc (.cells #[.int .i64 N, .slice A ps.length cap] 26)) w4 := by simpa using hb4
  obtain ⟨b0, b1⟩ := box2 hB1
  have hzB := box_lt hB1
  have HB4 := Lib.hid (below_box hB1)
  have hgS4 : gS < w4.heap.size := (World.ownsRow.lt hoS gS rfl).2
  have HST := Lib.hid (fun (v : Nat) (h1 : 1 ≤ v) (h2 : v ≤ N) => show w4.cell? ⟨gS, v, none⟩ = some (iv (dist ps T v)) by
    have := hoS.cell (by rw [HLN.out]) (v := v) (by rw [HLN.out]; omega)
    rwa [HAT.out v h1 h2] at this)
  have hz4 := HB4.out.size
  clear hB1 hb4 hoS HS hgS
  refine Lib.hid ?_
  go_wp2
  have hO := own_empty w4 w4.heap.size (Nat.le_refl _)
  have hb0 : Below w4.heap.size w4 (w4.alloc (.cells #[] 3)) := (Below.refl _ _).alloc (Nat.le_refl _) _
  go_loopg [1, 8] K (fun k i v wr => ∃ (h : Nat) (pre : List Int), i = .int .i64 (h : Int) ∧ 1 ≤ h ∧ h ≤ N ∧ Hid (dist ps T h = (k : Int)) ∧ Hid (pre ++ wayL ps T k h = wayL ps T K X) ∧ pre.length + k = K ∧ Hid (IOwn wr w4.heap.size v pre) ∧ Hid (v ≠ .slice none 0 0) ∧ Below w4.heap.size w4 wr)
  case atStart => exact ⟨X, [], rfl, by omega, by omega, HDX, Lib.hid rfl, by simp, Lib.hid hO, Lib.hid (by simp), hb0⟩
  case round =>
    clear hO hb0
    obtain ⟨h, pre, rfl, hh1, hhN, hdh, hpre, hlen, hown, hvn, hb⟩ := hrel
    by_cases hT : h = T
    · subst hT
      have e0 : gk = 0 := by have := hdh.out; rw [dist_self] at this; omega
      have hfin : pre = wayL ps h K X := by have := hpre.out; rw [e0] at this; simpa [wayL] using this
      have HFIN := Lib.hid hfin
      obtain ⟨g, capg, rfl, hgB⟩ := own_slice hown.out hvn.out
      clear hfin e0
      go_wp2
      go_ret
      have hlow : IOwn wr w.heap.size (.slice (some ⟨g, 0, none⟩) pre.length capg) pre := own_lower hown.out
      rw [← HFIN.out]
      exact ⟨g, capg, rfl, by omega, hlow, HB4.out.trans (hb.mono hz4)⟩
    · obtain ⟨k, hk⟩ : ∃ k, gk = k + 1 := by
        match gk, hdh with
        | 0, hdh => exact absurd (show h = T by have := dist_zero (show dist ps T h = 0 from hdh.out); omega) hT
        | k + 1, _ => exact ⟨k, rfl⟩
      have HMG := Lib.hid hk
      rw [hk] at hdh hpre hlen
      clear hk
      have hE : ((h : Int) != (T : Int)) = true := by simp; omega
      have HNR := Lib.hid (near_all HG.out hdh.out)
      have hh0 : (0 : Int) ≤ (h : Int) := by omega
      have hhN' : (h : Int) < (N : Int) + 1 := by omega
      obtain ⟨d, hdd⟩ : ∃ d, dist ps T (h : Int) = d := ⟨_, rfl⟩
      have hdk : d = (k : Int) + 1 := by rw [← hdd, hdh.out]; omega
      have ch0 := HST.out h hh1 hhN
      rw [hdd] at ch0
      have hws : IntKind.i64.wrap (d - 1) = d - 1 := IntWalk.i64_in _ (by omega)
      have HNI0 := Lib.hid (fun (p : Pp) hp ht => near_iff (t := T) (p := p) hdh.out hp ht)
      have HWA0 := Lib.hid (fun (j u : Nat) h1 h2 h3 h4 => way_all (ps := ps) (t := T) (h := h) (k := k) (j := j) (u := u) h1 h2 h3 h4)
      clear hdd
      go_wp2
      obtain ⟨V, hV⟩ : ∃ V, V = u8 := ⟨_, rfl⟩
      subst hV
      go_loopw [1, 8, 9] (fun i2 v2 j2 wr => ∃ (j : Nat), j ≤ ps.length ∧ v2 = V ∧ i2 = .int .i64 (h : Int) ∧ j2 = .int .i64 (j : Int) ∧ Hid (∀ i, i < j → (touchB h (pAt ps i) && nearB ps T h (pAt ps i)) = false) ∧ Hid (IOwn wr w4.heap.size V pre) ∧ Below w4.heap.size w4 wr) (fun _ _ j _ => ps.length - (intOf j).toNat)
      case atStart => exact ⟨0, Nat.zero_le _, rfl, rfl, rfl, Lib.hid (fun i hi => absurd hi (by omega)), hown, hb⟩
      case round =>
        clear hown hb
        obtain ⟨j, hj, rfl, rfl, rfl, hnn, hown, hb⟩ := hrel
        have b0w := (hb.cell (p := ⟨w.heap.size, 0, none⟩) hzB).trans b0
        have b1w := (hb.cell (p := ⟨w.heap.size, 1, none⟩) hzB).trans b1
        have hzw := hb.size
        by_cases hlt : j < ps.length
        · obtain ⟨b, o, hA, hbl, h0, h1, h2, h3⟩ := HA.out.at_ hlt
          subst hA
          have hbc : ∀ o, wr.cell? ⟨b, o, none⟩ = w.cell? ⟨b, o, none⟩ := fun o => (HB4.out.trans (hb.mono hz4)).cell (p := ⟨b, o, none⟩) hbl
          have p0 := (hbc _).trans h0
          have p1 := (hbc _).trans h1
          have p2 := (hbc _).trans h2
          have p3 := (hbc _).trans h3
          have hk0i : (0 : Int) ≤ (j : Int) := by omega
          have hk1i : (j : Int) < (ps.length : Int) := by omega
          have hmem : pAt ps j ∈ ps := by
            have e : pAt ps j = ps[j] := by simp [pAt, List.getD, hlt]
            rw [e]; exact List.getElem_mem hlt
          have hok := good_pp HG.out hmem
          unfold PpOk at hok
          have HNI := Lib.hid (HNI0.out _ hmem)
          have HWA := Lib.hid (fun (u : Nat) h2 h3 h4 => HWA0.out j u hlt h2 h3 h4)
          have HNN := Lib.hid (fun (h1 : (touchB h (pAt ps j) && nearB ps T h (pAt ps j)) = false) (i : Nat) (hi : i < j + 1) => show (touchB h (pAt ps i) && nearB ps T h (pAt ps i)) = false by
            by_cases e : i = j
            · rw [e]; exact h1
            · exact hnn.out i (by omega))
          have ch := (hb.cell (p := ⟨gS, h, none⟩) hgS4).trans ch0
          have hgSw : gS < wr.heap.size := by omega
          have ho := hown.out
          unfold IOwn at ho
          clear hbc h0 h1 h2 h3 hmem
          generalize pAt ps j = p at *
          obtain ⟨pid, pfr, pto, psz⟩ := p
          simp only at hok p0 p1 p2 p3
          obtain ⟨fr, rfl⟩ : ∃ f : Nat, pfr = f := ⟨pfr.toNat, by omega⟩
          obtain ⟨tt, rfl⟩ : ∃ f : Nat, pto = f := ⟨pto.toNat, by omega⟩
          by_cases hf1 : (fr : Int) = (h : Int)
          · have hEf : ((fr : Int) == (h : Int)) = true := by simpa using hf1
            have hou : oth ⟨pid, fr, tt, psz⟩ h = (tt : Int) := by
              show (if (fr : Int) = (h : Int) then (tt : Int) else (fr : Int)) = (tt : Int)
              rw [if_pos hf1]
            have hu1 : 1 ≤ tt := by omega
            have huN : tt ≤ N := by omega
            have hu0 : (0 : Int) ≤ (tt : Int) := by omega
            have hup : decide (0 < tt) = true := decide_eq_true (by omega)
            have huN' : (tt : Int) < (N : Int) + 1 := by omega
            have hnear := HNI.out (.inl hf1)
            rw [hou] at hnear
            have HNEAR := Lib.hid hnear
            have HW := Lib.hid (fun h1 h2 => HWA.out tt h1 h2 hou)
            have cu := HST.out tt hu1 huN
            have cu2 := (hb.cell (p := ⟨gS, tt, none⟩) hgS4).trans cu
            obtain ⟨x, hx⟩ : ∃ x, dist ps T (tt : Int) = x := ⟨_, rfl⟩
            rw [hx] at cu2 HNEAR
            have htb : touchB h ⟨pid, fr, tt, psz⟩ = true := by unfold touchB; exact decide_eq_true (.inl hf1)
            clear hnear hou hok cu hf1
            by_cases hxk : x = (k : Int)
            · have hxe : (x == d - 1) = true := by simp; omega
              have hnt : (touchB h ⟨pid, fr, tt, psz⟩ && nearB ps T h ⟨pid, fr, tt, psz⟩) = true := by rw [htb, HNEAR.out.2 hxk]; rfl
              have hw := HW.out hnn.out hnt
              have hpre2 := Lib.hid (show (pre ++ [pid]) ++ wayL ps T k tt = wayL ps T K X by
                have e := hpre.out
                rw [hw] at e
                rw [← e]
                simp)
              clear hw
              go_wp2
              go_quiet (fail)
              have ho6 : ((wr.alloc (.cells #[.int .i64 pid, .int .i64 (fr : Int), .int .i64 (tt : Int), .int .i64 psz] 40)).drewN nq).ownsRow w4.heap.size 3 1 _ pre.length (pre.map iv) := ho.alloc (.cells #[.int .i64 pid, .int .i64 (fr : Int), .int .i64 (tt : Int), .int .i64 psz] 40)
              have hb6 := below_drewN (hb.alloc hzw (.cells #[.int .i64 pid, .int .i64 (fr : Int), .int .i64 (tt : Int), .int .i64 psz] 40)) nq
              have hz6 : w4.heap.size ≤ ((wr.alloc (.cells #[.int .i64 pid, .int .i64 (fr : Int), .int .i64 (tt : Int), .int .i64 psz] 40)).drewN nq).heap.size := hb6.size
              go_wp2_with (at_builtin; go_must (refine wpList_append_own _ rfl _ _ 27 rfl w4.heap.size 3 i0 (.int .i64 0) 1 8 Try.underlying27 hi hz0 hz1 hz2 rfl (by decide) _ _ _ rfl (ho6.alloc _) ⟨wr.heap.size + 1, 0, none⟩ 1 1 [iv pid] rfl rfl (cell_new2 wr (.cells #[.int .i64 pid, .int .i64 (fr : Int), .int .i64 (tt : Int), .int .i64 psz] 40) (iv pid) 3) (by intro u hu; simp at hu; subst hu; rfl) (by unfold maxLen; omega) (by omega) (by simp at hz6 ⊢; omega) ?_))
              intro v' w7 hown' hgrow hnil
              have hown3 := Lib.hid (IOwn.push hown')
              have hB7 := Lib.hid ((hb6.alloc hz6 (.cells #[iv pid] 3)).grown hgrow (by simp at hz6 ⊢; omega) (fun g hg => (ho6.lt g hg).1))
              have hnil3 := Lib.hid (show v' ≠ .slice none 0 0 from fun e => by simp [e] at hnil)
              clear hown' hgrow hnil ho6
              go_wp2
              go_roundg k
              case measure => have := HMG.out; omega
              case rel => exact ⟨tt, pre ++ [pid], rfl, hu1, huN, Lib.hid (by rw [hx]; exact hxk), hpre2, by simp; omega, hown3, hnil3, hB7.out⟩
            · have hxe : (x == d - 1) = false := by simp; omega
              have hnf := Lib.hid (HNN.out (by
                rw [htb, Bool.true_and, ← Bool.not_eq_true]
                exact fun e => hxk (HNEAR.out.1 e)))
              go_wp2
              go_quiet (fail)
              go_wp2
              go_roundw
              case rel => exact ⟨j + 1, by omega, rfl, rfl, by go_num, hnf, Lib.hid (show IOwn ((wr.alloc (.cells #[.int .i64 pid, .int .i64 (fr : Int), .int .i64 (tt : Int), .int .i64 psz] 40)).drewN nq) _ _ _ from ho.alloc (.cells #[.int .i64 pid, .int .i64 (fr : Int), .int .i64 (tt : Int), .int .i64 psz] 40)), below_drewN (hb.alloc hzw (.cells #[.int .i64 pid, .int .i64 (fr : Int), .int .i64 (tt : Int), .int .i64 psz] 40)) nq⟩
              case measure => simp [intOf]; omega
          · have hEf : ((fr : Int) == (h : Int)) = false := by simpa using hf1
            by_cases hf2 : (tt : Int) = (h : Int)
            · have hEt : ((tt : Int) == (h : Int)) = true := by simpa using hf2
              have hou : oth ⟨pid, fr, tt, psz⟩ h = (fr : Int) := by
                show (if (fr : Int) = (h : Int) then (tt : Int) else (fr : Int)) = (fr : Int)
                rw [if_neg hf1]
              have hu1 : 1 ≤ fr := by omega
              have huN : fr ≤ N := by omega
              have hu0 : (0 : Int) ≤ (fr : Int) := by omega
              have hup : decide (0 < fr) = true := decide_eq_true (by omega)
              have huN' : (fr : Int) < (N : Int) + 1 := by omega
              have hnear := HNI.out (.inr hf2)
              rw [hou] at hnear
              have HNEAR := Lib.hid hnear
              have HW := Lib.hid (fun h1 h2 => HWA.out fr h1 h2 hou)
              have cu := HST.out fr hu1 huN
              have cu2 := (hb.cell (p := ⟨gS, fr, none⟩) hgS4).trans cu
              obtain ⟨x, hx⟩ : ∃ x, dist ps T (fr : Int) = x := ⟨_, rfl⟩
              rw [hx] at cu2 HNEAR
              have htb : touchB h ⟨pid, fr, tt, psz⟩ = true := by unfold touchB; exact decide_eq_true (.inr hf2)
              clear hnear hou hok cu hf2
              by_cases hxk : x = (k : Int)
              · have hxe : (x == d - 1) = true := by simp; omega
                have hnt : (touchB h ⟨pid, fr, tt, psz⟩ && nearB ps T h ⟨pid, fr, tt, psz⟩) = true := by rw [htb, HNEAR.out.2 hxk]; rfl
                have hw := HW.out hnn.out hnt
                have hpre2 := Lib.hid (show (pre ++ [pid]) ++ wayL ps T k fr = wayL ps T K X by
                  have e := hpre.out
                  rw [hw] at e
                  rw [← e]
                  simp)
                clear hw
                go_wp2
                go_quiet (fail)
                have ho6 : ((wr.alloc (.cells #[.int .i64 pid, .int .i64 (fr : Int), .int .i64 (tt : Int), .int .i64 psz] 40)).drewN nq).ownsRow w4.heap.size 3 1 _ pre.length (pre.map iv) := ho.alloc (.cells #[.int .i64 pid, .int .i64 (fr : Int), .int .i64 (tt : Int), .int .i64 psz] 40)
                have hb6 := below_drewN (hb.alloc hzw (.cells #[.int .i64 pid, .int .i64 (fr : Int), .int .i64 (tt : Int), .int .i64 psz] 40)) nq
                have hz6 : w4.heap.size ≤ ((wr.alloc (.cells #[.int .i64 pid, .int .i64 (fr : Int), .int .i64 (tt : Int), .int .i64 psz] 40)).drewN nq).heap.size := hb6.size
                go_wp2_with (at_builtin; go_must (refine wpList_append_own _ rfl _ _ 27 rfl w4.heap.size 3 i0 (.int .i64 0) 1 8 Try.underlying27 hi hz0 hz1 hz2 rfl (by decide) _ _ _ rfl (ho6.alloc _) ⟨wr.heap.size + 1, 0, none⟩ 1 1 [iv pid] rfl rfl (cell_new2 wr (.cells #[.int .i64 pid, .int .i64 (fr : Int), .int .i64 (tt : Int), .int .i64 psz] 40) (iv pid) 3) (by intro u hu; simp at hu; subst hu; rfl) (by unfold maxLen; omega) (by omega) (by simp at hz6 ⊢; omega) ?_))
                intro v' w7 hown' hgrow hnil
                have hown3 := Lib.hid (IOwn.push hown')
                have hB7 := Lib.hid ((hb6.alloc hz6 (.cells #[iv pid] 3)).grown hgrow (by simp at hz6 ⊢; omega) (fun g hg => (ho6.lt g hg).1))
                have hnil3 := Lib.hid (show v' ≠ .slice none 0 0 from fun e => by simp [e] at hnil)
                clear hown' hgrow hnil ho6
                go_wp2
                go_roundg k
                case measure => have := HMG.out; omega
                case rel => exact ⟨fr, pre ++ [pid], rfl, hu1, huN, Lib.hid (by rw [hx]; exact hxk), hpre2, by simp; omega, hown3, hnil3, hB7.out⟩
              · have hxe : (x == d - 1) = false := by simp; omega
                have hnf := Lib.hid (HNN.out (by
                  rw [htb, Bool.true_and, ← Bool.not_eq_true]
                  exact fun e => hxk (HNEAR.out.1 e)))
                go_wp2
                go_quiet (fail)
                go_wp2
                go_roundw
                case rel => exact ⟨j + 1, by omega, rfl, rfl, by go_num, hnf, Lib.hid (show IOwn ((wr.alloc (.cells #[.int .i64 pid, .int .i64 (fr : Int), .int .i64 (tt : Int), .int .i64 psz] 40)).drewN nq) _ _ _ from ho.alloc (.cells #[.int .i64 pid, .int .i64 (fr : Int), .int .i64 (tt : Int), .int .i64 psz] 40)), below_drewN (hb.alloc hzw (.cells #[.int .i64 pid, .int .i64 (fr : Int), .int .i64 (tt : Int), .int .i64 psz] 40)) nq⟩
                case measure => simp [intOf]; omega
            · have hEt : ((tt : Int) == (h : Int)) = false := by simpa using hf2
              have hnf := Lib.hid (HNN.out (by
                have : touchB h ⟨pid, fr, tt, psz⟩ = false := by unfold touchB; exact decide_eq_false (by rintro (e | e); exact hf1 e; exact hf2 e)
                rw [this]; rfl))
              go_wp2
              go_quiet (fail)
              go_wp2
              go_roundw
              case rel => exact ⟨j + 1, by omega, rfl, rfl, by go_num, hnf, Lib.hid (show IOwn ((wr.alloc (.cells #[.int .i64 pid, .int .i64 (fr : Int), .int .i64 (tt : Int), .int .i64 psz] 40)).drewN nq) _ _ _ from ho.alloc (.cells #[.int .i64 pid, .int .i64 (fr : Int), .int .i64 (tt : Int), .int .i64 psz] 40)), below_drewN (hb.alloc hzw (.cells #[.int .i64 pid, .int .i64 (fr : Int), .int .i64 (tt : Int), .int .i64 psz] 40)) nq⟩
              case measure => simp [intOf]; omega
        · exact absurd (fun i hi => hnn.out i (by omega)) HNR.out
end Go.Proofs.Ytikppgbipdflbab.S2

namespace Go.Proofs.Ytikppgbipdflbab.S2
open Go.RowKit P2

theorem has_v {l : List Int} {x : Int} {v : Bool} (hv : hasB l x = v) (A : Option Addr) (cap : Nat) (w : World) (h : IAt w A l) (hn : l.length ≤ 1048576) :
    Calls Try.prog 110 #[.slice A l.length cap, .int .i64 x] w fun e w' => e = .returned (.bool v) ∧ w' = w := by
  rw [← hv]; exact has_any A cap l x w h hn

theorem gives_noneA {w w0 : World} (h : Below w0.heap.size w0 w) : GivesA w0 [] false (.returned (.tuple #[.slice (some ⟨w.heap.size, 0, none⟩) 0 0, .bool false])) (w.alloc (.cells #[] 3)) :=
  ⟨_, 0, 0, rfl, h.size, .inl rfl, h.alloc h.size _, by simp⟩




end Go.Proofs.Ytikppgbipdflbab.S2

namespace Go.Proofs.Ytikppgbipdflbab.S2
open Go.RowKit P2
set_option maxHeartbeats 4000000 in
set_option maxRecDepth 100000 in
theorem sal_any (N : Nat) (A : Option Addr) (cap : Nat) (ps : List Pp) (AD : Option Addr) (dc : Nat) (fl : List Int) (x y : Int) (W : List Int) (w : World) (h : PAt w A ps) (hd : IAt w AD fl) (hv : floB N ps fl = true) (hwo : WayOk ps W x) (hW : ∀ w', Below w.heap.size w w' → Calls Try.prog 171 #[nv N A ps.length cap, .int .i64 x, .int .i64 y] w' (GivesL w' W)) :
    Calls Try.prog 112 #[nv N A ps.length cap, .slice AD fl.length dc, .int .i64 x, .int .i64 y] w fun e w' => e = .returned (.int .i64 (alongA ps fl W x)) ∧ Below w.heap.size w w' := by
  obtain ⟨hg, hfl, hr⟩ := floB_of hv
  have hl10 := hg.2.2.1
  have hW8 := hwo.1
  have H := Lib.hid hW
  have HFN := Lib.hid (fun v (i : Nat) (hf : FindIs ps v (i : Int)) w' (hb : Below w.heap.size w w') => (find_any N A cap ps v w' (h.kept hb (Nat.le_refl _)) (by omega)).mono (R' := fun e w'' => e = .returned (.int .i64 (i : Int)) ∧ Below w'.heap.size w' w'') fun e w'' ⟨⟨r, he, hr⟩, hb⟩ => ⟨by rw [he, find_one hr hf], hb⟩)
  have HA := Lib.hid (fun w' (hb : Below w.heap.size w w') => h.kept hb (Nat.le_refl _))
  have HI := Lib.hid (fun w' (hb : Below w.heap.size w w') => hd.kept hb (Nat.le_refl _))
  have HE := Lib.hid (fun k (hk : k < fl.length) => allR_at hr hk)
  have HS := Lib.hid (fun k (hk : k ≤ W.length) => along_in hg hr hfl hwo hk)
  have HG := Lib.hid (fun k (hk : k < ps.length) => good_pp hg (pAt_mem hk))
  have HWO := Lib.hid (fun k (hk : k < W.length) => hwo.2 k hk)
  have HL := Lib.hid hfl
  clear h hd hv hr hg hfl hW hwo
  go_enter Try.func112, Try.ntmps112
  go_wp2_with (first
    | (go_at_call 171; refine (H.out _ ((Below.refl _ _).alloc (Nat.le_refl _) _)).mono ?_; rintro e w2 ⟨gW, cW, rfl, hgW, hOW, hb1⟩; have HX2 := Lib.hid (show Below (w.heap.size + 1) (w.alloc (nb N A ps.length cap)) w2 by simpa using hb1); have hy2 := box_lt HX2.out; have HW2 := Lib.hid hOW.iat; clear hb1 hOW))
  have HWK := Lib.hid (fun w' (hb : Below w2.heap.size w2 w') => HW2.out.kept hb (Nat.le_refl _))
  have HB0 := Lib.hid (Below.refl w2.heap.size w2)
  clear H HW2
  go_loopw [2, 10, 11] (fun h a i wr => ∃ (k : Nat), k ≤ W.length ∧ i = .int .i64 (k : Int) ∧ a = .int .i64 (sumK (turnA ps fl W x) k) ∧ h = .int .i64 (hereA ps W x k) ∧ Hid (Below w2.heap.size w2 wr)) (fun _ _ i _ => W.length - (intOf i).toNat)
  case atStart => exact ⟨0, Nat.zero_le _, rfl, rfl, rfl, HB0⟩
  case round =>
    clear HB0
    obtain ⟨k, hk, rfl, rfl, rfl, hB2⟩ := hrel
    have hb := on_call HX2.out hB2.out
    have hB := Lib.hid (below_box hb)
    by_cases hlt : k < W.length
    · obtain ⟨c0, c1⟩ := box2 hb
      have hz2 := box_lt hb
      obtain ⟨bW, oW, hAW, hblW, w0⟩ := (HWK.out _ hB2.out).at_ hlt
      simp only [Option.some.injEq, Addr.mk.injEq, and_true] at hAW
      obtain ⟨rfl, rfl⟩ := hAW
      rw [Nat.zero_add] at w0
      have hk0 : (0 : Int) ≤ (k : Int) := by omega
      have hkn : (k : Int) < (W.length : Int) := by omega
      obtain ⟨hjl, hjf, hjt⟩ := HWO.out k hlt
      have hs := HS.out k hk
      have hs2 := HS.out (k + 1) hlt
      have hsn : sumK (turnA ps fl W x) (k + 1) = sumK (turnA ps fl W x) k + turnA ps fl W x k := rfl
      have hhn : hereA ps W x (k + 1) = (if (pAt ps (plc ps (lA W k))).fr = hereA ps W x k then (pAt ps (plc ps (lA W k))).to else (pAt ps (plc ps (lA W k))).fr) := rfl
      have htn : turnA ps fl W x k = if (pAt ps (plc ps (lA W k))).fr = hereA ps W x k then lossI (pAt ps (plc ps (lA W k))) (lA fl (plc ps (lA W k))) else -lossI (pAt ps (plc ps (lA W k))) (lA fl (plc ps (lA W k))) := rfl
      have hla : lA W k = W.getD k 0 := rfl
      rw [htn] at hsn
      rw [hla] at hjl hjf hjt hsn hhn
      have hFN := Lib.hid (fun w' hb' => HFN.out (W.getD k 0) (plc ps (W.getD k 0)) hjf w' (hB.out.trans (Below.mono hb' hB.out.size)))
      have hjfl : plc ps (W.getD k 0) < fl.length := by rw [HL.out]; exact hjl
      have hgp := HG.out _ hjl
      have hy := HE.out _ hjfl
      have HLO := Lib.hid (fun w' => sloss_any hgp hy.1 hy.2 w')
      have hli := (loss_in hgp hy.1 hy.2).2
      have hla2 : lA fl (plc ps (W.getD k 0)) = fl.getD (plc ps (W.getD k 0)) 0 := rfl
      rw [hla2] at hsn
      have HAP := Lib.hid (fun w' hb => (HA.out w' hb).at_ hjl)
      have HIP := Lib.hid (fun w' hb => (HI.out w' hb).at_ hjfl)
      obtain ⟨s2, hs2e⟩ : ∃ z, sumK (turnA ps fl W x) (k + 1) = z := ⟨_, rfl⟩
      obtain ⟨h2, hh2e⟩ : ∃ z, hereA ps W x (k + 1) = z := ⟨_, rfl⟩
      rw [hs2e] at hs2 hsn
      rw [hh2e] at hhn
      have HS2E := Lib.hid hs2e
      have HH2E := Lib.hid hh2e
      clear hs2e hh2e
      have HTO := Lib.hid (show ((pAt ps (plc ps (W.getD k 0))).fr = hereA ps W x k → s2 = sumK (turnA ps fl W x) k + lossI (pAt ps (plc ps (W.getD k 0))) (fl.getD (plc ps (W.getD k 0)) 0) ∧ h2 = (pAt ps (plc ps (W.getD k 0))).to) ∧ (¬ (pAt ps (plc ps (W.getD k 0))).fr = hereA ps W x k → s2 = sumK (turnA ps fl W x) k - lossI (pAt ps (plc ps (W.getD k 0))) (fl.getD (plc ps (W.getD k 0)) 0) ∧ h2 = (pAt ps (plc ps (W.getD k 0))).fr) from ⟨fun e => ⟨by rw [hsn, if_pos e], by rw [hhn, if_pos e]⟩, fun e => ⟨by rw [hsn, if_neg e]; omega, by rw [hhn, if_neg e]⟩⟩)
      clear hhn hsn htn hjf hjt hgp hy hla hla2
      generalize lossI (pAt ps (plc ps (W.getD k 0))) (fl.getD (plc ps (W.getD k 0)) 0) = L at *
      generalize fl.getD (plc ps (W.getD k 0)) 0 = f at *
      generalize pAt ps (plc ps (W.getD k 0)) = p at *
      generalize plc ps (W.getD k 0) = j at *
      generalize sumK (turnA ps fl W x) k = s at *
      generalize hereA ps W x k = hh at *
      generalize W.getD k 0 = v at *
      have hjn : (j : Int) < (ps.length : Int) := by omega
      have hj0 : (0 : Int) ≤ (j : Int) := by omega
      have hjnf : (j : Int) < (fl.length : Int) := by omega
      go_wp2
      have hG := @cell_g
      refine region_below (by kernel_rfl) (by kernel_rfl) ?_
      repeat (first | go_big_quiet_step ((go_at_call 128; exact met_at hFN.out)))
      refine wpQuiet_nil ?_
      intro w5 hb5
      have hX5 := on_call hb hb5
      have hB5 := Lib.hid (below_box hX5)
      have hB25 := Lib.hid (hB2.out.trans (hb5.mono hB2.out.size))
      clear c0 c1 hz2 w0 hblW hG
      obtain ⟨c0, c1⟩ := box2 hX5
      have hz5 := box_lt hX5
      obtain ⟨b, off, hA, hbl, p0, p1, p2, p3⟩ := HAP.out _ hB5.out
      subst hA
      obtain ⟨bb, of2, hA2, hbl2, q0⟩ := HIP.out _ hB5.out
      subst hA2
      have hab := alloc_belowE w5 (.cells #[.int .i64 p.id, .int .i64 p.fr, .int .i64 p.to, .int .i64 p.sz] 40)
      have hB25n := Lib.hid (hB25.out.trans (hab.mono hB25.out.size))
      have q1 := (hab.cell (p := ⟨bb, of2 + j, none⟩) hbl2).trans q0
      have d0 := cells4 w5 (.int .i64 p.id) (.int .i64 p.fr) (.int .i64 p.to) (.int .i64 p.sz) 40 0 _ rfl
      have d1 := cells4 w5 (.int .i64 p.id) (.int .i64 p.fr) (.int .i64 p.to) (.int .i64 p.sz) 40 1 _ rfl
      have d2 := cells4 w5 (.int .i64 p.id) (.int .i64 p.fr) (.int .i64 p.to) (.int .i64 p.sz) 40 2 _ rfl
      have d3 := cells4 w5 (.int .i64 p.id) (.int .i64 p.fr) (.int .i64 p.to) (.int .i64 p.sz) 40 3 _ rfl
      have hzz : w5.heap.size < (w5.alloc (.cells #[.int .i64 p.id, .int .i64 p.fr, .int .i64 p.to, .int .i64 p.sz] 40)).heap.size := by simp
      have hbl2' : bb < (w5.alloc (.cells #[.int .i64 p.id, .int .i64 p.fr, .int .i64 p.to, .int .i64 p.sz] 40)).heap.size := by omega
      by_cases hto : p.fr = hh
      · have g0 : (p.fr == hh) = true := beq_iff_eq.2 hto
        obtain ⟨he, he2⟩ := HTO.out.1 hto
        have HE2 := Lib.hid he
        have HE3 := Lib.hid he2
        rw [he] at hs2
        have wS : IntKind.i64.wrap (s + L) = s + L := w64 _ (by omega)
        clear hto he he2
        go_wp2
        generalize w5.alloc (.cells #[.int .i64 p.id, .int .i64 p.fr, .int .i64 p.to, .int .i64 p.sz] 40) = wa at *
        clear p0 p1 p2 p3 q0 c0 c1 hab
        have hG := @cell_g
        refine region_below (by kernel_rfl) (by kernel_rfl) ?_
        repeat (first | go_big_quiet_step ((go_at_call 122; exact met HLO.out)))
        refine wpQuiet_nil ?_
        intro w6 hb6
        have r2 := (hb6.cell (p := ⟨w5.heap.size, 2, none⟩) hzz).trans d2
        have hB6 := Lib.hid (hB25n.out.trans (hb6.mono hB25n.out.size))
        have hz6 : w5.heap.size < w6.heap.size := by have := hb6.size; omega
        clear hb6 d0 d1 d2 d3 q1 hG hbl2' hzz hb5
        go_wp2
        go_roundw
        case rel => exact ⟨k + 1, by omega, by go_num, by rw [HS2E.out, HE2.out], by rw [HH2E.out, HE3.out], hB6⟩
        case measure => simp [intOf]; omega
      · have g0 : (p.fr == hh) = false := beq_eq_false_iff_ne.2 hto
        obtain ⟨he, he2⟩ := HTO.out.2 hto
        have HE2 := Lib.hid he
        have HE3 := Lib.hid he2
        rw [he] at hs2
        have wS : IntKind.i64.wrap (s - L) = s - L := w64 _ (by omega)
        clear hto he he2
        go_wp2
        generalize w5.alloc (.cells #[.int .i64 p.id, .int .i64 p.fr, .int .i64 p.to, .int .i64 p.sz] 40) = wa at *
        clear p0 p1 p2 p3 q0 c0 c1 hab
        have hG := @cell_g
        refine region_below (by kernel_rfl) (by kernel_rfl) ?_
        repeat (first | go_big_quiet_step ((go_at_call 122; exact met HLO.out)))
        refine wpQuiet_nil ?_
        intro w6 hb6
        have r2 := (hb6.cell (p := ⟨w5.heap.size, 1, none⟩) hzz).trans d1
        have hB6 := Lib.hid (hB25n.out.trans (hb6.mono hB25n.out.size))
        have hz6 : w5.heap.size < w6.heap.size := by have := hb6.size; omega
        clear hb6 d0 d1 d2 d3 q1 hG hbl2' hzz hb5
        go_wp2
        go_roundw
        case rel => exact ⟨k + 1, by omega, by go_num, by rw [HS2E.out, HE2.out], by rw [HH2E.out, HE3.out], hB6⟩
        case measure => simp [intOf]; omega
    · have hkk : k = W.length := by omega
      have HF := Lib.hid (show sumK (turnA ps fl W x) k = alongA ps fl W x by rw [hkk]; rfl)
      clear hkk
      go_wp2
      go_ret
      exact ⟨by rw [← HF.out]; rfl, hB.out⟩

set_option maxHeartbeats 2000000 in
theorem sal_no (n : Int) (A : Option Addr) (cap : Nat) (ps : List Pp) (AD : Option Addr) (dc : Nat) (fl : List Int) (x y : Int) (w : World) (h : PAt w A ps) (hm : ps.length ≤ maxLen) (hd : IAt w AD fl) (hdl : fl.length ≤ 1048576)
    (hv : nodeB n ps x = false ∨ nodeB n ps y = false ∨ floB n ps fl = false ∨ ∃ N X T : Nat, n = N ∧ x = X ∧ y = T ∧ dist ps T X = -1) :
    Calls Try.prog 34 #[nv n A ps.length cap, .slice AD fl.length dc, .int .i64 x, .int .i64 y] w fun e w' => e = .returned (.tuple #[.int .i64 0, .bool false]) ∧ Below w.heap.size w w' := by
  obtain ⟨v1, hv1⟩ : ∃ v, nodeB n ps x = v := ⟨_, rfl⟩
  obtain ⟨v2, hv2⟩ : ∃ v, nodeB n ps y = v := ⟨_, rfl⟩
  obtain ⟨v3, hv3⟩ : ∃ v, amtB fl ps.length (-8000) 8000 = v := ⟨_, rfl⟩
  have H1 := Lib.hid (fun w' (hb : Below w.heap.size w w') => snode_v hv1 A cap w' (h.kept hb (Nat.le_refl _)) hm)
  have H2 := Lib.hid (fun w' (hb : Below w.heap.size w w') => snode_v hv2 A cap w' (h.kept hb (Nat.le_refl _)) hm)
  have H3 := Lib.hid (fun w' (hb : Below w.heap.size w w') => sflo_v hv3 (n := n) A cap AD dc w' (hd.kept hb (Nat.le_refl _)) hdl)
  cases v1 with
  | false =>
    clear h hd hv hv1 hv2 hv3
    go_enter Try.func34, Try.ntmps34
    go_wp2_with (go_at_call_of 82 (Value.int IntKind.i64 x); refine (H1.out _ ((Below.refl _ _).alloc (Nat.le_refl _) _)).mono ?_; rintro e w1 ⟨rfl, hb1⟩; have hB1 := Lib.hid (below_alloc_call hb1))
    go_ret2
    exact ⟨rfl, hB1.out⟩
  | true =>
    cases v2 with
    | false =>
      by_cases hxy : x = y
      · subst hxy; exact absurd (hv1.symm.trans hv2) (by simp)
      clear h hd hv hv1 hv2 hv3
      go_enter Try.func34, Try.ntmps34
      go_wp2_with (first
        | (go_at_call_of 82 (Value.int IntKind.i64 x); refine (H1.out _ ((Below.refl _ _).alloc (Nat.le_refl _) _)).mono ?_; rintro e w1 ⟨rfl, hb1⟩; have HX1 := Lib.hid (show Below (w.heap.size + 1) (w.alloc (nb n A ps.length cap)) w1 by simpa using hb1); obtain ⟨b0, b1⟩ := box2 HX1.out; have hy1 := box_lt HX1.out; clear hb1)
        | (go_at_call_of 82 (Value.int IntKind.i64 y); refine (H2.out _ (below_box HX1.out)).mono ?_; rintro e w2 ⟨rfl, hb2⟩; have HX2 := Lib.hid (on_call HX1.out hb2); clear b0 b1; obtain ⟨b0, b1⟩ := box2 HX2.out; have hy2 := box_lt HX2.out; clear hb2))
      go_ret2
      exact ⟨rfl, below_box HX2.out⟩
    | true =>
      obtain ⟨hg, hx1, hx2⟩ := nodeB_of hv1
      obtain ⟨_, hy1', hy2'⟩ := nodeB_of hv2
      obtain ⟨N, rfl⟩ := good_nat hg
      obtain ⟨X, rfl⟩ : ∃ X : Nat, x = X := ⟨x.toNat, by omega⟩
      obtain ⟨T, rfl⟩ : ∃ T : Nat, y = T := ⟨y.toNat, by omega⟩
      cases v3 with
      | false =>
        clear h hd hv hv1 hv2 hv3 hg
        go_enter Try.func34, Try.ntmps34
        go_wp2_with (first
          | (go_at_call_of 82 (Value.int IntKind.i64 (X : Int)); refine (H1.out _ ((Below.refl _ _).alloc (Nat.le_refl _) _)).mono ?_; rintro e w1 ⟨rfl, hb1⟩; have HX1 := Lib.hid (show Below (w.heap.size + 1) (w.alloc (nb N A ps.length cap)) w1 by simpa using hb1); obtain ⟨b0, b1⟩ := box2 HX1.out; have hy1 := box_lt HX1.out; clear hb1)
          | (go_at_call_of 82 (Value.int IntKind.i64 (T : Int)); refine (H2.out _ (below_box HX1.out)).mono ?_; rintro e w2 ⟨rfl, hb2⟩; have HX2 := Lib.hid (on_call HX1.out hb2); clear b0 b1; obtain ⟨b0, b1⟩ := box2 HX2.out; have hy2 := box_lt HX2.out; clear hb2)
          | (go_at_call 109; refine (H3.out _ (below_box HX2.out)).mono ?_; rintro e w3 ⟨rfl, hb3⟩; have HX3 := Lib.hid (on_call HX2.out hb3); clear b0 b1; obtain ⟨b0, b1⟩ := box2 HX3.out; have hy3 := box_lt HX3.out; clear hb3))
        go_ret2
        exact ⟨rfl, below_box HX3.out⟩
      | true =>
        have hd0 : dist ps T X = -1 := by
          rcases hv with h | h | h | ⟨N', X', T', e1, e2, e3, h⟩
          · exact absurd (h.symm.trans hv1) (by simp)
          · exact absurd (h.symm.trans hv2) (by simp)
          · unfold floB at h; rw [good_mk hg, hv3] at h; cases h
          · have : X' = X := by omega
            have : T' = T := by omega
            subst X' T'
            exact h
        have HR := Lib.hid (fun w' (hb : Below w.heap.size w w') => sreach_any N X A cap ps w' (h.kept hb (Nat.le_refl _)) hg (by omega) (by omega))
        have hN : N ≤ 8 := by have := hg.2.1; omega
        have hcl := conL_len N ps X
        have HH := Lib.hid (show hasB (conL N ps X) T = false by rw [has_con (by omega) (by omega)]; exact decide_eq_false (fun h => h hd0))
        clear h hd hv hv1 hv2 hv3 hg hd0
        go_enter Try.func34, Try.ntmps34
        go_wp2_with (first
          | (go_at_call_of 82 (Value.int IntKind.i64 (X : Int)); refine (H1.out _ ((Below.refl _ _).alloc (Nat.le_refl _) _)).mono ?_; rintro e w1 ⟨rfl, hb1⟩; have HX1 := Lib.hid (show Below (w.heap.size + 1) (w.alloc (nb N A ps.length cap)) w1 by simpa using hb1); obtain ⟨b0, b1⟩ := box2 HX1.out; have hy1 := box_lt HX1.out; clear hb1)
          | (go_at_call_of 82 (Value.int IntKind.i64 (T : Int)); refine (H2.out _ (below_box HX1.out)).mono ?_; rintro e w2 ⟨rfl, hb2⟩; have HX2 := Lib.hid (on_call HX1.out hb2); clear b0 b1; obtain ⟨b0, b1⟩ := box2 HX2.out; have hy2 := box_lt HX2.out; clear hb2)
          | (go_at_call 109; refine (H3.out _ (below_box HX2.out)).mono ?_; rintro e w3 ⟨rfl, hb3⟩; have HX3 := Lib.hid (on_call HX2.out hb3); clear b0 b1; obtain ⟨b0, b1⟩ := box2 HX3.out; have hy3 := box_lt HX3.out; clear hb3)
          | (go_at_call 111; refine (HR.out _ (below_box HX3.out)).mono ?_; rintro e w4 ⟨g, o, c, rfl, hg4, hla, hb4⟩; have HX4 := Lib.hid (on_call HX3.out hb4); clear b0 b1; obtain ⟨b0, b1⟩ := box2 HX4.out; have hy4 := box_lt HX4.out; clear hb4)
          | (go_at_call 110; refine (has_v HH.out _ _ _ hla.iat (by omega)).mono ?_; rintro e w5 ⟨rfl, hw⟩; replace hw := hw.symm; subst hw))
        go_ret2
        exact ⟨rfl, below_box HX4.out⟩

set_option maxHeartbeats 2000000 in
theorem sal_yes (N X T K : Nat) (A : Option Addr) (cap : Nat) (ps : List Pp) (AD : Option Addr) (dc : Nat) (fl : List Int) (w : World) (h : PAt w A ps) (hm : ps.length ≤ maxLen) (hd : IAt w AD fl) (hdl : fl.length ≤ 1048576) (hv : floB N ps fl = true) (hv1 : nodeB N ps X = true) (hv2 : nodeB N ps T = true) (hdi : dist ps T X = K) :
    Calls Try.prog 34 #[nv N A ps.length cap, .slice AD fl.length dc, .int .i64 (X : Int), .int .i64 (T : Int)] w fun e w' => e = .returned (.tuple #[.int .i64 (alongA ps fl (wayL ps T K X) X), .bool true]) ∧ Below w.heap.size w w' := by
  obtain ⟨hg, hx1, hx2⟩ := nodeB_of hv1
  obtain ⟨_, hy1', hy2'⟩ := nodeB_of hv2
  have hv0 := hv
  unfold floB at hv
  rw [Bool.and_eq_true] at hv
  have H1 := Lib.hid (fun w' (hb : Below w.heap.size w w') => snode_v hv1 A cap w' (h.kept hb (Nat.le_refl _)) hm)
  have H2 := Lib.hid (fun w' (hb : Below w.heap.size w w') => snode_v hv2 A cap w' (h.kept hb (Nat.le_refl _)) hm)
  have H3 := Lib.hid (fun w' (hb : Below w.heap.size w w') => sflo_v hv.2 (n := N) A cap AD dc w' (hd.kept hb (Nat.le_refl _)) hdl)
  have HR := Lib.hid (fun w' (hb : Below w.heap.size w w') => sreach_any N X A cap ps w' (h.kept hb (Nat.le_refl _)) hg (by omega) (by omega))
  have HAL := Lib.hid (fun w' (hb : Below w.heap.size w w') => sal_any N A cap ps AD dc fl X T _ w' (h.kept hb (Nat.le_refl _)) (hd.kept hb (Nat.le_refl _)) hv0 (way_ok hg (by omega) hdi) (fun w'' hb2 => l2way_any N X T A cap ps w'' (h.kept (hb.trans (hb2.mono hb.size)) (Nat.le_refl _)) hg (by omega) (by omega) (by omega) (by omega) K hdi))
  have hN : N ≤ 8 := by have := hg.2.1; omega
  have hcl := conL_len N ps X
  have HH := Lib.hid (show hasB (conL N ps X) T = true by rw [has_con (by omega) (by omega)]; exact decide_eq_true (by omega))
  clear h hd hv hv0 hv1 hv2 hg hdi
  generalize alongA ps fl (wayL ps T K X) X = R at *
  go_enter Try.func34, Try.ntmps34
  go_wp2_with (first
    | (go_at_call_of 82 (Value.int IntKind.i64 (X : Int)); refine (H1.out _ ((Below.refl _ _).alloc (Nat.le_refl _) _)).mono ?_; rintro e w1 ⟨rfl, hb1⟩; have HX1 := Lib.hid (show Below (w.heap.size + 1) (w.alloc (nb N A ps.length cap)) w1 by simpa using hb1); obtain ⟨b0, b1⟩ := box2 HX1.out; have hy1 := box_lt HX1.out; clear hb1)
    | (go_at_call_of 82 (Value.int IntKind.i64 (T : Int)); refine (H2.out _ (below_box HX1.out)).mono ?_; rintro e w2 ⟨rfl, hb2⟩; have HX2 := Lib.hid (on_call HX1.out hb2); clear b0 b1; obtain ⟨b0, b1⟩ := box2 HX2.out; have hy2 := box_lt HX2.out; clear hb2)
    | (go_at_call 109; refine (H3.out _ (below_box HX2.out)).mono ?_; rintro e w3 ⟨rfl, hb3⟩; have HX3 := Lib.hid (on_call HX2.out hb3); clear b0 b1; obtain ⟨b0, b1⟩ := box2 HX3.out; have hy3 := box_lt HX3.out; clear hb3)
    | (go_at_call 111; refine (HR.out _ (below_box HX3.out)).mono ?_; rintro e w4 ⟨g, o, c, rfl, hg4, hla, hb4⟩; have HX4 := Lib.hid (on_call HX3.out hb4); clear b0 b1; obtain ⟨b0, b1⟩ := box2 HX4.out; have hy4 := box_lt HX4.out; clear hb4)
    | (go_at_call 110; refine (has_v HH.out _ _ _ hla.iat (by omega)).mono ?_; rintro e w5 ⟨rfl, hw⟩; replace hw := hw.symm; subst hw)
    | (go_at_call 112; refine (HAL.out _ (below_box HX4.out)).mono ?_; rintro e w6 ⟨rfl, hb6⟩))
  go_ret2
  exact ⟨rfl, (below_box HX4.out).trans (hb6.mono (below_box HX4.out).size)⟩
end Go.Proofs.Ytikppgbipdflbab.S2

namespace Go.Proofs.Ytikppgbipdflbab.S2
open Go.RowKit P2

def stF (ps : List Pp) (fl : List Int) (k : Nat) : Int := absI (lossI (pAt ps k) (lA fl k))
def stL (ps : List Pp) (fl : List Int) : List Int := (List.range ps.length).map (stF ps fl)
theorem stL_len (ps : List Pp) (fl : List Int) : (stL ps fl).length = ps.length := by simp [stL]
theorem stL_at {ps : List Pp} {fl : List Int} {k : Nat} (h : k < ps.length) : lA (stL ps fl) k = stF ps fl k := by simp [lA, stL, List.getD, h]
theorem stF_in {n : Int} {ps : List Pp} (hg : P2.Good n ps) {fl : List Int} (hr : allR (-8000) 8000 fl = true) (hl : fl.length = ps.length) {k : Nat} (hk : k < fl.length) : 0 ≤ stF ps fl k ∧ stF ps fl k ≤ 576000000 := by
  have h2 := allR_at hr hk
  have h3 := (loss_in (good_pp hg (pAt_mem (show k < ps.length by omega))) h2.1 h2.2).2
  exact ⟨absI_nn _, absI_le (by unfold lA; omega) (by unfold lA; omega)⟩
theorem fst_same {f g : Nat → Int} : ∀ k, (∀ j, j < k → f j = g j) → fstG f k = fstG g k
  | 0, _ => rfl
  | k + 1, h => by
    have e := fst_same k (fun j hj => h j (by omega))
    rw [fstG, fstG, e]
    by_cases h0 : k = 0
    · subst h0; simp [fstG]
    · rw [h _ (show fstG g k < k + 1 by have := fstG_lt g k (by omega); omega), h k (by omega)]
/-- The place of the greatest. -/
def stI (ps : List Pp) (fl : List Int) : Nat := fstG (stF ps fl) ps.length
theorem stI_list (ps : List Pp) (fl : List Int) : fstG (lA (stL ps fl)) (stL ps fl).length = stI ps fl := by
  rw [stL_len]
  exact fst_same _ fun j hj => stL_at hj
theorem stI_lt {ps : List Pp} (fl : List Int) (h : 0 < ps.length) : stI ps fl < ps.length := fstG_lt _ _ h

/-! ### The losses of all pipes -/
set_option maxHeartbeats 1000000 in
theorem stc_any {n : Int} {p : Pp} (hp : PpOk n p) {f : Int} (h0 : -8000 ≤ f) (h1 : f ≤ 8000) (w : World) :
    Calls Try.prog 118 #[pv p, .int .i64 f] w fun e w' => e = .returned (.int .i64 (absI (lossI p f))) ∧ Below w.heap.size w w' := by
  have HLO := Lib.hid (fun w' => loss_any hp h0 h1 w')
  have a4 := (loss_in hp h0 h1).2
  have HA := Lib.hid (show absI (lossI p f) = max (lossI p f) (-lossI p f) from rfl)
  rw [HA.out]
  clear hp
  generalize lossI p f = L at *
  go_enter Try.func118, Try.ntmps118
  go_wp2_with (go_at_call 100; refine (HLO.out _).mono ?_; rintro e w1 ⟨rfl, hb1⟩)
  go_ret
  exact ⟨rfl, below_alloc_call hb1⟩

set_option maxHeartbeats 3000000 in
set_option maxRecDepth 100000 in
theorem stp_any {n : Int} (A : Option Addr) (cap : Nat) (ps : List Pp) (AD : Option Addr) (dc : Nat) (fl : List Int) (w : World) (h : PAt w A ps) (hd : IAt w AD fl) (hg : P2.Good n ps) (hr : allR (-8000) 8000 fl = true) (hl : fl.length = ps.length) :
    Calls Try.prog 117 #[.slice A ps.length cap, .slice AD fl.length dc, .func (.func 118) #[] #[]] w fun e w' => (∃ g, e = .returned (.slice (some ⟨g, 0, none⟩) ps.length ps.length) ∧ w.heap.size ≤ g ∧ IOwn w' w.heap.size (.slice (some ⟨g, 0, none⟩) ps.length ps.length) (stL ps fl)) ∧ Below w.heap.size w w' := by
  have hl10 := hg.2.2.1
  have HA := Lib.hid (fun w' (hb : Below w.heap.size w w') => h.kept hb (Nat.le_refl _))
  have HI := Lib.hid (fun w' (hb : Below w.heap.size w w') => hd.kept hb (Nat.le_refl _))
  have HE := Lib.hid (fun k (hk : k < fl.length) => allR_at hr hk)
  have HG := Lib.hid (fun k (hk : k < ps.length) => good_pp hg (pAt_mem hk))
  have HL := Lib.hid hl
  have HSL := Lib.hid (stL_len ps fl)
  have HSA := Lib.hid (fun k (hk : k < ps.length) => stL_at (fl := fl) hk)
  have hmk := run_make_row' (P := Try.prog) 27 3 (.int .i64 0) 8 Try.underlying27 infoI rfl .i64 .i64 ps.length (by omega) (by omega)
  have HO := made_row (stL ps fl) w (by rw [stL_len]; omega)
  have HF := Lib.hid (fiI_full (stL ps fl))
  rw [HSL.out] at HO HF
  clear h hd hg hr hl
  go_enter Try.func117, Try.ntmps117
  go_wp2
  clear hmk
  go_loopw [15] (fun i wr => ∃ k : Nat, k ≤ ps.length ∧ i = .int .i64 k ∧ Hid (wr.ownsRow w.heap.size 3 1 (.slice (some ⟨w.heap.size, 0, none⟩) ps.length ps.length) ps.length (fiI (stL ps fl) k)) ∧ Hid (Below w.heap.size w wr)) (fun i _ => ps.length - (intOf i).toNat)
  case atStart => exact ⟨0, Nat.zero_le _, rfl, HO, Lib.hid ((Below.refl _ _).alloc (Nat.le_refl _) _)⟩
  case round =>
    obtain ⟨k, hk, rfl, hown, hB⟩ := hrel
    clear HO
    by_cases hlt : k < ps.length
    · obtain ⟨b, off, hA, hbl, p0, p1, p2, p3⟩ := (HA.out _ hB.out).at_ hlt
      subst hA
      have hkf : k < fl.length := by rw [HL.out]; exact hlt
      obtain ⟨bb, of2, hA2, hbl2, q0⟩ := (HI.out _ hB.out).at_ hkf
      subst hA2
      have hk0 : (0 : Int) ≤ (k : Int) := by omega
      have hkn : (k : Int) < (ps.length : Int) := by omega
      have hknf : (k : Int) < (fl.length : Int) := by omega
      have hy := HE.out k hkf
      have HLO := Lib.hid (fun w' => stc_any (HG.out k hlt) hy.1 hy.2 w')
      have hgx := (hown.out.lt w.heap.size rfl).2
      have hfs := fiI_set (stL ps fl) k (by rw [HSL.out]; exact hlt)
      have hat := HSA.out k hlt
      unfold stF lA at hat
      rw [hat] at hfs
      have HST := Lib.hid hfs
      clear hfs hat hy
      generalize absI (lossI (pAt ps k) (fl.getD k 0)) = L at *
      generalize fl.getD k 0 = f at *
      generalize pAt ps k = p at *
      have hab := alloc_belowE wr (.cells #[.int .i64 p.id, .int .i64 p.fr, .int .i64 p.to, .int .i64 p.sz] 40)
      have hBn := Lib.hid (hB.out.trans (hab.mono hB.out.size))
      have q1 := (hab.cell (p := ⟨bb, of2 + k, none⟩) hbl2).trans q0
      have d0 := cells4 wr (.int .i64 p.id) (.int .i64 p.fr) (.int .i64 p.to) (.int .i64 p.sz) 40 0 _ rfl
      have d1 := cells4 wr (.int .i64 p.id) (.int .i64 p.fr) (.int .i64 p.to) (.int .i64 p.sz) 40 1 _ rfl
      have d2 := cells4 wr (.int .i64 p.id) (.int .i64 p.fr) (.int .i64 p.to) (.int .i64 p.sz) 40 2 _ rfl
      have d3 := cells4 wr (.int .i64 p.id) (.int .i64 p.fr) (.int .i64 p.to) (.int .i64 p.sz) 40 3 _ rfl
      have hO2 := Lib.hid (own_on hown.out hab)
      have hzz : wr.heap.size < (wr.alloc (.cells #[.int .i64 p.id, .int .i64 p.fr, .int .i64 p.to, .int .i64 p.sz] 40)).heap.size := by simp
      have hbl2' : bb < (wr.alloc (.cells #[.int .i64 p.id, .int .i64 p.fr, .int .i64 p.to, .int .i64 p.sz] 40)).heap.size := by omega
      go_wp2
      generalize wr.alloc (.cells #[.int .i64 p.id, .int .i64 p.fr, .int .i64 p.to, .int .i64 p.sz] 40) = wa at *
      clear p0 p1 p2 p3 q0
      obtain ⟨uo, huo⟩ := fiI_has (stL ps fl) k (by rw [HSL.out]; exact hlt)
      have HUO := Lib.hid huo
      clear huo
      go_region_with (first
        | (go_at_call 118; refine (HLO.out _).mono ?_; rintro e wq ⟨rfl, hbq⟩; have hO3 := own_on (A := wa.drew) hO2.out hbq; have hcell := (hO3.cellAt k (by omega)).trans HUO.out; have hfz := hO3.frozenAt k; have hgq := (hO3.lt w.heap.size rfl).2; have HB3 := Lib.hid (hBn.out.drew.trans (hbq.mono hBn.out.size)); have HO3 := Lib.hid hO3; have hst0 := Lib.hid (hO3.stored k (iv L)); clear hO3 hbq))
      all_goals
        have hst := hst0.out
        rw [HST.out] at hst
        have HRL := Lib.hid hst.1
        clear hst hst0
        go_wp2
        go_roundw
        · exact ⟨k + 1, by omega, by go_num, HRL, Lib.hid (HB3.out.setCell (p := ⟨w.heap.size, k, none⟩) (Nat.le_refl _) _)⟩
        · simp [intOf]; omega
    · have e : k = ps.length := by omega
      subst e
      have hown2 := hown.out
      rw [HF.out] at hown2
      have H2 := Lib.hid hown2
      clear hown hown2
      go_wp2
      go_ret
      exact ⟨⟨_, rfl, Nat.le_refl _, by have := H2.out; unfold IOwn; rw [HSL.out]; exact this⟩, hB.out⟩

set_option maxHeartbeats 1000000 in
theorem st_no (n : Int) (A : Option Addr) (cap : Nat) (ps : List Pp) (AD : Option Addr) (dc : Nat) (dm : List Int) (w : World) (h : PAt w A ps) (hm : ps.length ≤ maxLen) (hd : IAt w AD dm) (hdl : dm.length ≤ 1048576) (hv : floB n ps dm = false ∨ dm.length = 0) :
    Calls Try.prog 38 #[nv n A ps.length cap, .slice AD dm.length dc] w fun e w' => e = .returned (.tuple #[.int .i64 0, .int .i64 0, .bool false]) ∧ Below w.heap.size w w' := by
  cases hf : floB n ps dm with
  | false =>
    have H := Lib.hid (fun w' (hb : Below w.heap.size w w') => flo_v hf A cap AD dc w' (h.kept hb (Nat.le_refl _)) hm (hd.kept hb (Nat.le_refl _)) hdl)
    clear h hd hv hf
    go_enter Try.func38, Try.ntmps38
    go_wp2_with (go_at_call 99; refine (H.out _ ((Below.refl _ _).alloc (Nat.le_refl _) _)).mono ?_; rintro e w1 ⟨rfl, hb1⟩)
    go_ret3
    exact ⟨rfl, below_alloc_call hb1⟩
  | true =>
    have H := Lib.hid (fun w' (hb : Below w.heap.size w w') => flo_v hf A cap AD dc w' (h.kept hb (Nat.le_refl _)) hm (hd.kept hb (Nat.le_refl _)) hdl)
    have hl0 : dm.length = 0 := by
      rcases hv with h | h
      · exact absurd (hf.symm.trans h) (by simp)
      · exact h
    have g0 : ((dm.length : Int) == 0) = true := by rw [hl0]; rfl
    clear h hd hv hf hl0
    go_enter Try.func38, Try.ntmps38
    go_wp2_with (go_at_call 99; refine (H.out _ ((Below.refl _ _).alloc (Nat.le_refl _) _)).mono ?_; rintro e w1 ⟨rfl, hb1⟩)
    go_ret3
    exact ⟨rfl, below_alloc_call hb1⟩

set_option maxHeartbeats 2000000 in
set_option maxRecDepth 100000 in
theorem st_yes (n : Int) (A : Option Addr) (cap : Nat) (ps : List Pp) (AD : Option Addr) (dc : Nat) (fl : List Int) (w : World) (h : PAt w A ps) (hm : ps.length ≤ maxLen) (hd : IAt w AD fl) (hdl : fl.length ≤ 1048576) (hv : floB n ps fl = true) (h0 : 0 < fl.length) :
    Calls Try.prog 38 #[nv n A ps.length cap, .slice AD fl.length dc] w fun e w' => e = .returned (.tuple #[.int .i64 (pAt ps (stI ps fl)).id, .int .i64 (stF ps fl (stI ps fl)), .bool true]) ∧ Below w.heap.size w w' := by
  obtain ⟨hg, hfl, hr⟩ := floB_of hv
  have hl10 := hg.2.2.1
  have H := Lib.hid (fun w' (hb : Below w.heap.size w w') => flo_v hv A cap AD dc w' (h.kept hb (Nat.le_refl _)) hm (hd.kept hb (Nat.le_refl _)) hdl)
  have HPW := Lib.hid (fun w' (hb : Below w.heap.size w w') => stp_any A cap ps AD dc fl w' (h.kept hb (Nat.le_refl _)) (hd.kept hb (Nat.le_refl _)) hg hr hfl)
  have hi := stI_lt fl (show 0 < ps.length by omega)
  have HSL := Lib.hid (stL_len ps fl)
  have HMX := Lib.hid (fun g w' (hO : IOwn w' w.heap.size (.slice (some ⟨g, 0, none⟩) (stL ps fl).length (stL ps fl).length) (stL ps fl)) => max_any (some ⟨g, 0, none⟩) (stL ps fl).length (stL ps fl) w' hO.iat (by rw [stL_len]; omega) (by rw [stL_len]; omega))
  have HIX := Lib.hid (fun g w' (hO : IOwn w' w.heap.size (.slice (some ⟨g, 0, none⟩) (stL ps fl).length (stL ps fl).length) (stL ps fl)) => index_any (some ⟨g, 0, none⟩) (stL ps fl).length (stL ps fl) (stF ps fl (stI ps fl)) (stI ps fl) w' hO.iat (by rw [stL_len]; omega) (by rw [stL_len]; exact hi) (stL_at hi) (fun j hj => by
    rw [stL_at (by omega)]
    have := fstG_first (stF ps fl) ps.length j hj
    unfold stI at hj ⊢
    omega))
  rw [stI_list, stL_at hi, HSL.out] at HMX
  rw [HSL.out] at HIX
  have HA := Lib.hid (fun w' (hb : Below w.heap.size w w') => h.kept hb (Nat.le_refl _))
  have g0 : ((fl.length : Int) == 0) = false := beq_eq_false_iff_ne.2 (by omega)
  obtain ⟨b, off, hA, hbl, p0, p1, p2, p3⟩ := h.at_ hi
  subst hA
  have hi0 : (0 : Int) ≤ (stI ps fl : Int) := by omega
  have hin : (stI ps fl : Int) < (ps.length : Int) := by omega
  clear h hd hv hr hg hfl hm hdl p1 p2 p3
  generalize stF ps fl (stI ps fl) = M at *
  generalize pAt ps (stI ps fl) = p at *
  generalize stI ps fl = i at *
  generalize stL ps fl = SL at *
  go_enter Try.func38, Try.ntmps38
  go_wp2_with (first
    | (go_at_call 99; refine (H.out _ ((Below.refl _ _).alloc (Nat.le_refl _) _)).mono ?_; rintro e w1 ⟨rfl, hb1⟩; have HX1 := Lib.hid (show Below (w.heap.size + 1) (w.alloc (nb n (some ⟨b, off, none⟩) ps.length cap)) w1 by simpa using hb1); obtain ⟨b0, b1⟩ := box2 HX1.out; have hy1 := box_lt HX1.out; clear hb1)
    | (go_at_call 117; refine (HPW.out _ (below_box HX1.out)).mono ?_; rintro e w2 ⟨⟨g, rfl, hg2, hO2⟩, hb2⟩; have HX2 := Lib.hid (on_call HX1.out hb2); clear b0 b1; obtain ⟨b0, b1⟩ := box2 HX2.out; have hy2 := box_lt HX2.out; have HO2 := Lib.hid (own_lower (B' := w.heap.size) hO2 (by omega)); clear hb2 hO2)
    | (go_at_call 119; refine (HMX.out _ _ HO2.out).mono ?_; rintro e w3 ⟨rfl, hw⟩; replace hw := hw.symm; subst hw))
  have HB2 := Lib.hid (below_box HX2.out)
  have hbl' : b < w2.heap.size := by omega
  have r0 := (HB2.out.cell (p := ⟨b, off + i * 4, none⟩) hbl).trans p0
  clear p0
  go_quiet ((go_at_call 120; exact Calls.quiet_of_same (HIX.out _ _ HO2.out)))
  go_wp2
  go_ret3
  exact ⟨rfl, below_drewN HB2.out _⟩
end Go.Proofs.Ytikppgbipdflbab.S2

namespace Go.Proofs.Ytikppgbipdflbab.S2
open Go.RowKit P2

/-- What the loop knows behind k rounds. -/
def StR (ps : List Pp) (fl : List Int) (k : Nat) (a b : Int) : Prop := (k = 0 ∧ a = 0 ∧ b = -1) ∨ (0 < k ∧ a = (pAt ps (fstG (stF ps fl) k)).id ∧ b = stF ps fl (fstG (stF ps fl) k))
theorem StR.more {ps : List Pp} {fl : List Int} {k : Nat} {a b : Int} (h : StR ps fl k a b) (hb : b < stF ps fl k) : StR ps fl (k + 1) (pAt ps k).id (stF ps fl k) := by
  rcases h with ⟨rfl, _, _⟩ | ⟨_, _, rfl⟩
  · exact .inr ⟨by omega, by rw [fstG_one], by rw [fstG_one]⟩
  · have e : fstG (stF ps fl) (k + 1) = k := by rw [fstG, if_pos hb]
    exact .inr ⟨by omega, by rw [e], by rw [e]⟩
theorem StR.same {ps : List Pp} {fl : List Int} {k : Nat} {a b : Int} (h : StR ps fl k a b) (hb : ¬ b < stF ps fl k) : StR ps fl (k + 1) a b := by
  rcases h with ⟨rfl, _, rfl⟩ | ⟨_, rfl, rfl⟩
  · have := absI_nn (lossI (pAt ps 0) (lA fl 0)); unfold stF at hb; omega
  · have e : fstG (stF ps fl) (k + 1) = fstG (stF ps fl) k := by rw [fstG, if_neg hb]
    exact .inr ⟨by omega, by rw [e], by rw [e]⟩
theorem StR.done {ps : List Pp} {fl : List Int} {k : Nat} {a b : Int} (h : StR ps fl k a b) (hk : 0 < k) : a = (pAt ps (fstG (stF ps fl) k)).id ∧ b = stF ps fl (fstG (stF ps fl) k) := by
  rcases h with ⟨rfl, _, _⟩ | ⟨_, h1, h2⟩
  · omega
  · exact ⟨h1, h2⟩
theorem sabs_b (x : Int) (h0 : -1000000000000 ≤ x) (h1 : x ≤ 1000000000000) (w : World) : Calls Try.prog 121 #[.int .i64 x] w fun e w' => e = .returned (.int .i64 (absI x)) ∧ Below w.heap.size w w' :=
  (sabs_any x w h0 h1).mono fun _ _ ⟨h, e⟩ => ⟨h, by rw [e]; exact Below.refl _ _⟩

set_option maxHeartbeats 1000000 in
theorem sst_no (n : Int) (A : Option Addr) (cap : Nat) (ps : List Pp) (AD : Option Addr) (dc : Nat) (dm : List Int) (w : World) (h : PAt w A ps) (hm : ps.length ≤ maxLen) (hd : IAt w AD dm) (hdl : dm.length ≤ 1048576) (hv : floB n ps dm = false ∨ dm.length = 0) :
    Calls Try.prog 39 #[nv n A ps.length cap, .slice AD dm.length dc] w fun e w' => e = .returned (.tuple #[.int .i64 0, .int .i64 0, .bool false]) ∧ Below w.heap.size w w' := by
  cases hg : goodB n ps with
  | false =>
    have H := Lib.hid (fun w' (hb : Below w.heap.size w w') => sgood_v hg A cap w' (h.kept hb (Nat.le_refl _)) hm)
    clear h hd hv hg
    go_enter Try.func39, Try.ntmps39
    go_wp2_with (go_at_call 114; refine (H.out _ ((Below.refl _ _).alloc (Nat.le_refl _) _)).mono ?_; rintro e w1 ⟨rfl, hb1⟩)
    go_ret3
    exact ⟨rfl, below_alloc_call hb1⟩
  | true =>
    have H := Lib.hid (fun w' (hb : Below w.heap.size w w') => sgood_v hg A cap w' (h.kept hb (Nat.le_refl _)) hm)
    obtain ⟨u, hu⟩ : ∃ u, amtB dm ps.length (-8000) 8000 = u := ⟨_, rfl⟩
    have HD := Lib.hid (fun w' (hb : Below w.heap.size w w') => sflo_v hu (n := n) A cap AD dc w' (hd.kept hb (Nat.le_refl _)) hdl)
    cases u with
    | false =>
      clear h hd hv hg hu
      go_enter Try.func39, Try.ntmps39
      go_wp2_with (first
        | (go_at_call 114; refine (H.out _ ((Below.refl _ _).alloc (Nat.le_refl _) _)).mono ?_; rintro e w1 ⟨rfl, hb1⟩; obtain ⟨hc1, hf1⟩ := bcell hb1; have hz1 := hb1.size; simp at hz1; have hb2 := Lib.hid (below_alloc_call hb1))
        | (go_at_call 109; refine (HD.out _ hb2.out).mono ?_; rintro e w2 ⟨rfl, hb3⟩))
      go_ret3
      exact ⟨rfl, hb2.out.trans (hb3.mono hb2.out.size)⟩
    | true =>
      have hl0 : dm.length = 0 := by
        rcases hv with h | h
        · rw [floB, hg, hu] at h; cases h
        · exact h
      have g0 : ((dm.length : Int) == 0) = true := by rw [hl0]; rfl
      clear h hd hv hg hu hl0
      go_enter Try.func39, Try.ntmps39
      go_wp2_with (first
        | (go_at_call 114; refine (H.out _ ((Below.refl _ _).alloc (Nat.le_refl _) _)).mono ?_; rintro e w1 ⟨rfl, hb1⟩; obtain ⟨hc1, hf1⟩ := bcell hb1; have hz1 := hb1.size; simp at hz1; have hb2 := Lib.hid (below_alloc_call hb1))
        | (go_at_call 109; refine (HD.out _ hb2.out).mono ?_; rintro e w2 ⟨rfl, hb3⟩))
      go_ret3
      exact ⟨rfl, hb2.out.trans (hb3.mono hb2.out.size)⟩

set_option maxHeartbeats 3000000 in
set_option maxRecDepth 100000 in
theorem sst_yes (n : Int) (A : Option Addr) (cap : Nat) (ps : List Pp) (AD : Option Addr) (dc : Nat) (fl : List Int) (w : World) (h : PAt w A ps) (hm : ps.length ≤ maxLen) (hd : IAt w AD fl) (hdl : fl.length ≤ 1048576) (hv : floB n ps fl = true) (h0 : 0 < fl.length) :
    Calls Try.prog 39 #[nv n A ps.length cap, .slice AD fl.length dc] w fun e w' => e = .returned (.tuple #[.int .i64 (pAt ps (stI ps fl)).id, .int .i64 (stF ps fl (stI ps fl)), .bool true]) ∧ Below w.heap.size w w' := by
  obtain ⟨hgd, hfl, hr⟩ := floB_of hv
  unfold floB at hv
  rw [Bool.and_eq_true] at hv
  have hl10 := hgd.2.2.1
  have H := Lib.hid (fun w' (hb : Below w.heap.size w w') => sgood_v hv.1 A cap w' (h.kept hb (Nat.le_refl _)) hm)
  have HD := Lib.hid (fun w' (hb : Below w.heap.size w w') => sflo_v hv.2 (n := n) A cap AD dc w' (hd.kept hb (Nat.le_refl _)) hdl)
  have HA := Lib.hid (fun w' (hb : Below w.heap.size w w') => h.kept hb (Nat.le_refl _))
  have HI := Lib.hid (fun w' (hb : Below w.heap.size w w') => hd.kept hb (Nat.le_refl _))
  have HE := Lib.hid (fun k (hk : k < fl.length) => allR_at hr hk)
  have HT := Lib.hid (fun k (hk : k < fl.length) => stF_in hgd hr hfl hk)
  have HG := Lib.hid (fun k (hk : k < ps.length) => good_pp hgd (pAt_mem hk))
  have HL := Lib.hid hfl
  have g0 : ((fl.length : Int) == 0) = false := beq_eq_false_iff_ne.2 (by omega)
  clear h hd hv hr hgd hfl hm hdl
  go_enter Try.func39, Try.ntmps39
  go_wp2_with (first
    | (go_at_call 114; refine (H.out _ ((Below.refl _ _).alloc (Nat.le_refl _) _)).mono ?_; rintro e w1 ⟨rfl, hb1⟩; have HX1 := Lib.hid (show Below (w.heap.size + 1) (w.alloc (nb n A ps.length cap)) w1 by simpa using hb1); obtain ⟨b0, b1⟩ := box2 HX1.out; have hy1 := box_lt HX1.out; clear hb1)
    | (go_at_call 109; refine (HD.out _ (below_box HX1.out)).mono ?_; rintro e w2 ⟨rfl, hb2⟩; have HX2 := Lib.hid (on_call HX1.out hb2); clear b0 b1; obtain ⟨b0, b1⟩ := box2 HX2.out; have hy2 := box_lt HX2.out; clear hb2))
  have hBX := HX2.out
  clear H HD HX1 HX2 b0 b1 hy1 hy2 g0
  go_loopw [7, 8, 9] (fun a b i wr => ∃ (k : Nat) (x y : Int), k ≤ fl.length ∧ i = .int .i64 (k : Int) ∧ a = .int .i64 x ∧ b = .int .i64 y ∧ Hid (StR ps fl k x y) ∧ -1 ≤ y ∧ y ≤ 576000000 ∧ Below (w.heap.size + 1) (w.alloc (nb n A ps.length cap)) wr) (fun _ _ i _ => fl.length - (intOf i).toNat)
  case atStart => exact ⟨0, 0, -1, Nat.zero_le _, rfl, rfl, rfl, Lib.hid (.inl ⟨rfl, rfl, rfl⟩), by omega, by omega, hBX⟩
  case round =>
    clear hBX
    obtain ⟨k, x, y, hk, rfl, rfl, rfl, hR, hy0, hy1, hb⟩ := hrel
    obtain ⟨c0, c1⟩ := box2 hb
    have hz2 := box_lt hb
    have hB := Lib.hid (below_box hb)
    by_cases hlt : k < fl.length
    · have hkp : k < ps.length := by rw [← HL.out]; exact hlt
      obtain ⟨b, off, hA, hbl, p0, p1, p2, p3⟩ := (HA.out _ hB.out).at_ hkp
      subst hA
      obtain ⟨bb, of2, hA2, hbl2, q0⟩ := (HI.out _ hB.out).at_ hlt
      subst hA2
      have hk0 : (0 : Int) ≤ (k : Int) := by omega
      have hkn : (k : Int) < (ps.length : Int) := by omega
      have hknf : (k : Int) < (fl.length : Int) := by omega
      have hyy := HE.out k hlt
      have hst := HT.out k hlt
      have hpp := HG.out k hkp
      have HLO := Lib.hid (fun w' => sloss_any hpp hyy.1 hyy.2 w')
      have hli := (loss_in hpp hyy.1 hyy.2).2
      have HAB := Lib.hid (fun w' => sabs_b (lossI (pAt ps k) (fl.getD k 0)) (by omega) (by omega) w')
      have hmore := Lib.hid (fun hb => hR.out.more hb)
      have hsame := Lib.hid (fun hb => hR.out.same hb)
      have hsf : absI (lossI (pAt ps k) (fl.getD k 0)) = stF ps fl k := rfl
      rw [hsf] at HAB
      clear hyy hpp hli hsf hR
      generalize lossI (pAt ps k) (fl.getD k 0) = L at *
      generalize stF ps fl k = M at *
      generalize fl.getD k 0 = f at *
      generalize pAt ps k = p at *
      go_wp2
      have hG := @cell_g
      refine region_below (by kernel_rfl) (by kernel_rfl) ?_
      repeat (first | go_big_quiet_step ((first | (go_at_call 122; exact met HLO.out) | (go_at_call 121; exact met HAB.out))))
      refine wpQuiet_nil ?_
      intro w3 hb3
      have hX3 := on_call hb hb3
      have r0 := (hb3.cell (p := ⟨b, off + k * 4, none⟩) hbl).trans p0
      have hbl3 : b < w3.heap.size := by have := hb3.size; omega
      clear c0 c1 p0 p1 p2 p3 q0 hz2 hG
      obtain ⟨c0, c1⟩ := box2 hX3
      have hz3 := box_lt hX3
      by_cases hgt : y < M
      · have hR2 := Lib.hid (hmore.out hgt)
        clear hmore hsame
        go_wp2
        go_roundw
        case rel => exact ⟨k + 1, p.id, M, by omega, by go_num, rfl, rfl, hR2, by omega, by omega, hX3⟩
        case measure => simp [intOf]; omega
      · have hR2 := Lib.hid (hsame.out (by omega))
        clear hmore hsame
        go_wp2
        go_roundw
        case rel => exact ⟨k + 1, x, y, by omega, by go_num, rfl, rfl, hR2, hy0, hy1, hX3⟩
        case measure => simp [intOf]; omega
    · have hkk : k = ps.length := by rw [← HL.out]; omega
      have hR2 := hR.out
      rw [hkk] at hR2
      obtain ⟨hx, hy⟩ := hR2.done (by rw [← HL.out]; exact h0)
      have HX := Lib.hid (show x = (pAt ps (stI ps fl)).id from hx)
      have HY := Lib.hid (show y = stF ps fl (stI ps fl) from hy)
      clear hkk hR2 hx hy hR
      go_wp2
      go_ret3
      exact ⟨by rw [← HX.out, ← HY.out]; rfl, hB.out⟩
end Go.Proofs.Ytikppgbipdflbab.S2
