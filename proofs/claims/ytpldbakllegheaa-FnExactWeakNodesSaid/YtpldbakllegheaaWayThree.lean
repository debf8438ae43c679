/- The model's l2Way: contracts. Conditions: each theorem's own premises. -/
import Derived.Test.YtpldbakllegheaaStepsOne
namespace Go.Proofs.Ytpldbakllegheaa.S2
open Go.RowKit P2

set_option maxHeartbeats 8000000 in
set_option maxRecDepth 100000 in
theorem l2way_any (N X T : Nat) (A : Option Addr) (cap : Nat) (ps : List Pp) (w : World) (h : PAt w A ps) (hg : P2.Good N ps) (hx1 : 1 ≤ X) (hx2 : X ≤ N) (hy1 : 1 ≤ T) (hy2 : T ≤ N) (K : Nat) (hd : dist ps T X = K) :
    Calls Try.prog 109 #[nv N A ps.length cap, .int .i64 (X : Int), .int .i64 (T : Int)] w (GivesL w (wayL ps T K X)) := by
  have HS := Lib.hid (fun w' (hb : Below w.heap.size w w') => steps_any N T A cap ps w' (h.kept hb (Nat.le_refl _)) hg hy1 hy2)
  have HA := Lib.hid h
  have HG := Lib.hid hg
  have hN : N ≤ 8 := by have := hg.2.1; omega
  have hl10 := hg.2.2.1
  have hKN := dist_le (t := T) hg X (by omega)
  have hK8 : K ≤ 8 := by omega
  have HAT := Lib.hid (fun (v : Nat) (h1 : 1 ≤ v) (h2 : v ≤ N) => distL_at N ps T v h2 (by omega))
  have HLN := Lib.hid (distL_len N ps T)
  have HDX := Lib.hid hd
  obtain ⟨i0, hi, hz0, hz1, hz2⟩ := info_parts infoI
  clear h hg hKN hd
  go_enter Try.func109, Try.ntmps109
  go_wp2_with (first
    | (go_at_call 128; refine (HS.out _ ((Below.refl _ _).alloc (Nat.le_refl _) _)).mono ?_; rintro e w4 ⟨gS, cS, rfl, hgS, hoS, hb4⟩; refine Hid.out ?_)
    | fail)
  have hB1 : Below (w.heap.size + 1) (w.alloc (.cells #[.int .i64 N, .slice A ps.length cap] 31)) w4 := by simpa using hb4
  obtain ⟨b0, b1⟩ := box2 hB1
  have hzB := box_lt hB1
  have HB4 := Lib.hid (below_box hB1)
  have hgS4 : gS < w4.heap.size := (World.ownsRow.lt hoS gS rfl).2
  have HST := Lib.hid (fun (v : Nat) (h1 : 1 ≤ v) (h2 : v ≤ N) => show w4.cell? ⟨gS, v, none⟩ = some (iv (dist ps T v)) by
    have := hoS.cell (by rw [HLN.out]) (v := v) (by rw [HLN.out]; omega)
    rwa [HAT.out v h1 h2] at this)
  have hz4 := HB4.out.size
  clear hB1 hb4 hoS HS hgS
  refine Lib.hid ?_
  go_wp2
  have hO := own_empty w4 w4.heap.size (Nat.le_refl _)
  have hb0 : Below w4.heap.size w4 (w4.alloc (.cells #[] 3)) := (Below.refl _ _).alloc (Nat.le_refl _) _
  go_loopg [1, 8] K (fun k i v wr => ∃ (h : Nat) (pre : List Int), i = .int .i64 (h : Int) ∧ 1 ≤ h ∧ h ≤ N ∧ Hid (dist ps T h = (k : Int)) ∧ Hid (pre ++ wayL ps T k h = wayL ps T K X) ∧ pre.length + k = K ∧ Hid (IOwn wr w4.heap.size v pre) ∧ Hid (v ≠ .slice none 0 0) ∧ Below w4.heap.size w4 wr)
  case atStart => exact ⟨X, [], rfl, by omega, by omega, HDX, Lib.hid rfl, by simp, Lib.hid hO, Lib.hid (by simp), hb0⟩
  case round =>
    clear hO hb0
    obtain ⟨h, pre, rfl, hh1, hhN, hdh, hpre, hlen, hown, hvn, hb⟩ := hrel
    by_cases hT : h = T
    · subst hT
      have e0 : gk = 0 := by have := hdh.out; rw [dist_self] at this; omega
      have hfin : pre = wayL ps h K X := by have := hpre.out; rw [e0] at this; simpa [wayL] using this
      have HFIN := Lib.hid hfin
      obtain ⟨g, capg, rfl, hgB⟩ := own_slice hown.out hvn.out
      clear hfin e0
      go_wp2
      go_ret
      have hlow : IOwn wr w.heap.size (.slice (some ⟨g, 0, none⟩) pre.length capg) pre := own_lower hown.out
      rw [← HFIN.out]
      exact ⟨g, capg, rfl, by omega, hlow, HB4.out.trans (hb.mono hz4)⟩
    · obtain ⟨k, hk⟩ : ∃ k, gk = k + 1 := by
        match gk, hdh with
        | 0, hdh => exact absurd (show h = T by have := dist_zero (show dist ps T h = 0 from hdh.out); omega) hT
        | k + 1, _ => exact ⟨k, rfl⟩
      have HMG := Lib.hid hk
      rw [hk] at hdh hpre hlen
      clear hk
      have hE : ((h : Int) != (T : Int)) = true := by simp; omega
      have HNR := Lib.hid (near_all HG.out hdh.out)
      have hh0 : (0 : Int) ≤ (h : Int) := by omega
      have hhN' : (h : Int) < (N : Int) + 1 := by omega
      obtain ⟨d, hdd⟩ : ∃ d, dist ps T (h : Int) = d := ⟨_, rfl⟩
      have hdk : d = (k : Int) + 1 := by rw [← hdd, hdh.out]; omega
      have ch0 := HST.out h hh1 hhN
      rw [hdd] at ch0
      have hws : IntKind.i64.wrap (d - 1) = d - 1 := IntWalk.i64_in _ (by omega)
      have HNI0 := Lib.hid (fun (p : Pp) hp ht => near_iff (t := T) (p := p) hdh.out hp ht)
      have HWA0 := Lib.hid (fun (j u : Nat) h1 h2 h3 h4 => way_all (ps := ps) (t := T) (h := h) (k := k) (j := j) (u := u) h1 h2 h3 h4)
      clear hdd
      go_wp2
      obtain ⟨V, hV⟩ : ∃ V, V = u8 := ⟨_, rfl⟩
      subst hV
      go_loopw [1, 8, 9] (fun i2 v2 j2 wr => ∃ (j : Nat), j ≤ ps.length ∧ v2 = V ∧ i2 = .int .i64 (h : Int) ∧ j2 = .int .i64 (j : Int) ∧ Hid (∀ i, i < j → (touchB h (pAt ps i) && nearB ps T h (pAt ps i)) = false) ∧ Hid (IOwn wr w4.heap.size V pre) ∧ Below w4.heap.size w4 wr) (fun _ _ j _ => ps.length - (intOf j).toNat)
      case atStart => exact ⟨0, Nat.zero_le _, rfl, rfl, rfl, Lib.hid (fun i hi => absurd hi (by omega)), hown, hb⟩
      case round =>
        clear hown hb
        obtain ⟨j, hj, rfl, rfl, rfl, hnn, hown, hb⟩ := hrel
        have b0w := (hb.cell (p := ⟨w.heap.size, 0, none⟩) hzB).trans b0
        have b1w := (hb.cell (p := ⟨w.heap.size, 1, none⟩) hzB).trans b1
        have hzw := hb.size
        by_cases hlt : j < ps.length
        · obtain ⟨b, o, hA, hbl, h0, h1, h2, h3⟩ := HA.out.at_ hlt
          subst hA
          have hbc : ∀ o, wr.cell? ⟨b, o, none⟩ = w.cell? ⟨b, o, none⟩ := fun o => (HB4.out.trans (hb.mono hz4)).cell (p := ⟨b, o, none⟩) hbl
          have p0 := (hbc _).trans h0
          have p1 := (hbc _).trans h1
          have p2 := (hbc _).trans h2
          have p3 := (hbc _).trans h3
          have hk0i : (0 : Int) ≤ (j : Int) := by omega
          have hk1i : (j : Int) < (ps.length : Int) := by omega
          have hmem : pAt ps j ∈ ps := by
            have e : pAt ps j = ps[j] := by simp [pAt, List.getD, hlt]
            rw [e]; exact List.getElem_mem hlt
          have hok := good_pp HG.out hmem
          unfold PpOk at hok
          have HNI := Lib.hid (HNI0.out _ hmem)
          have HWA := Lib.hid (fun (u : Nat) h2 h3 h4 => HWA0.out j u hlt h2 h3 h4)
          have HNN := Lib.hid (fun (h1 : (touchB h (pAt ps j) && nearB ps T h (pAt ps j)) = false) (i : Nat) (hi : i < j + 1) => show (touchB h (pAt ps i) && nearB ps T h (pAt ps i)) = false by
            by_cases e : i = j
            · rw [e]; exact h1
            · exact hnn.out i (by omega))
          have ch := (hb.cell (p := ⟨gS, h, none⟩) hgS4).trans ch0
          have hgSw : gS < wr.heap.size := by omega
          have ho := hown.out
          unfold IOwn at ho
          clear hbc h0 h1 h2 h3 hmem
          generalize pAt ps j = p at *
          obtain ⟨pid, pfr, pto, psz⟩ := p
          simp only at hok p0 p1 p2 p3
          obtain ⟨fr, rfl⟩ : ∃ f : Nat, pfr = f := ⟨pfr.toNat, by omega⟩
          obtain ⟨tt, rfl⟩ : ∃ f : Nat, pto = f := ⟨pto.toNat, by omega⟩
          by_cases hf1 : (fr : Int) = (h : Int)
          · have hEf : ((fr : Int) == (h : Int)) = true := by simpa using hf1
            have hou : oth ⟨pid, fr, tt, psz⟩ h = (tt : Int) := by
              show (if (fr : Int) = (h : Int) then (tt : Int) else (fr : Int)) = (tt : Int)
              rw [if_pos hf1]
            have hu1 : 1 ≤ tt := by omega
            have huN : tt ≤ N := by omega
            have hu0 : (0 : Int) ≤ (tt : Int) := by omega
            have hup : decide (0 < tt) = true := decide_eq_true (by omega)
            have huN' : (tt : Int) < (N : Int) + 1 := by omega
            have hnear := HNI.out (.inl hf1)
            rw [hou] at hnear
            have HNEAR := Lib.hid hnear
            have HW := Lib.hid (fun h1 h2 => HWA.out tt h1 h2 hou)
            have cu := HST.out tt hu1 huN
            have cu2 := (hb.cell (p := ⟨gS, tt, none⟩) hgS4).trans cu
            obtain ⟨x, hx⟩ : ∃ x, dist ps T (tt : Int) = x := ⟨_, rfl⟩
            rw [hx] at cu2 HNEAR
            have htb : touchB h ⟨pid, fr, tt, psz⟩ = true := by unfold touchB; exact decide_eq_true (.inl hf1)
            clear hnear hou hok cu hf1
            by_cases hxk : x = (k : Int)
            · have hxe : (x == d - 1) = true := by simp; omega
              have hnt : (touchB h ⟨pid, fr, tt, psz⟩ && nearB ps T h ⟨pid, fr, tt, psz⟩) = true := by rw [htb, HNEAR.out.2 hxk]; rfl
              have hw := HW.out hnn.out hnt
              have hpre2 := Lib.hid (show (pre ++ [pid]) ++ wayL ps T k tt = wayL ps T K X by
                have e := hpre.out
                rw [hw] at e
                rw [← e]
                simp)
              clear hw
              go_wp2
              go_quiet (fail)
              have ho6 : ((wr.alloc (.cells #[.int .i64 pid, .int .i64 (fr : Int), .int .i64 (tt : Int), .int .i64 psz] 63)).drewN nq).ownsRow w4.heap.size 3 1 _ pre.length (pre.map iv) := ho.alloc (.cells #[.int .i64 pid, .int .i64 (fr : Int), .int .i64 (tt : Int), .int .i64 psz] 63)
              have hb6 := below_drewN (hb.alloc hzw (.cells #[.int .i64 pid, .int .i64 (fr : Int), .int .i64 (tt : Int), .int .i64 psz] 63)) nq
              have hz6 : w4.heap.size ≤ ((wr.alloc (.cells #[.int .i64 pid, .int .i64 (fr : Int), .int .i64 (tt : Int), .int .i64 psz] 63)).drewN nq).heap.size := hb6.size
              go_wp2_with (at_builtin; go_must (refine wpList_append_own _ rfl _ _ 25 rfl w4.heap.size 3 i0 (.int .i64 0) 1 8 Try.underlying25 hi hz0 hz1 hz2 rfl (by decide) _ _ _ rfl (ho6.alloc _) ⟨wr.heap.size + 1, 0, none⟩ 1 1 [iv pid] rfl rfl (cell_new2 wr (.cells #[.int .i64 pid, .int .i64 (fr : Int), .int .i64 (tt : Int), .int .i64 psz] 63) (iv pid) 3) (by intro u hu; simp at hu; subst hu; rfl) (by unfold maxLen; omega) (by omega) (by simp at hz6 ⊢; omega) ?_))
              intro v' w7 hown' hgrow hnil
              have hown3 := Lib.hid (IOwn.push hown')
              have hB7 := Lib.hid ((hb6.alloc hz6 (.cells #[iv pid] 3)).grown hgrow (by simp at hz6 ⊢; omega) (fun g hg => (ho6.lt g hg).1))
              have hnil3 := Lib.hid (show v' ≠ .slice none 0 0 from fun e => by simp [e] at hnil)
              clear hown' hgrow hnil ho6
              go_wp2
              go_roundg k
              case measure => have := HMG.out; omega
              case rel => exact ⟨tt, pre ++ [pid], rfl, hu1, huN, Lib.hid (by rw [hx]; exact hxk), hpre2, by simp; omega, hown3, hnil3, hB7.out⟩
            · have hxe : (x == d - 1) = false := by simp; omega
              have hnf := Lib.hid (HNN.out (by
                rw [htb, Bool.true_and, ← Bool.not_eq_true]
                exact fun e => hxk (HNEAR.out.1 e)))
              go_wp2
              go_quiet (fail)
              go_wp2
              go_roundw
              case rel => exact ⟨j + 1, by omega, rfl, rfl, by go_num, hnf, Lib.hid (show IOwn ((wr.alloc (.cells #[.int .i64 pid, .int .i64 (fr : Int), .int .i64 (tt : Int), .int .i64 psz] 63)).drewN nq) _ _ _ from ho.alloc (.cells #[.int .i64 pid, .int .i64 (fr : Int), .int .i64 (tt : Int), .int .i64 psz] 63)), below_drewN (hb.alloc hzw (.cells #[.int .i64 pid, .int .i64 (fr : Int), .int .i64 (tt : Int), .int .i64 psz] 63)) nq⟩
              case measure => simp [intOf]; omega
          · have hEf : ((fr : Int) == (h : Int)) = false := by simpa using hf1
            by_cases hf2 : (tt : Int) = (h : Int)
            · have hEt : ((tt : Int) == (h : Int)) = true := by simpa using hf2
              have hou : oth ⟨pid, fr, tt, psz⟩ h = (fr : Int) := by
                show (if (fr : Int) = (h : Int) then (tt : Int) else (fr : Int)) = (fr : Int)
                rw [if_neg hf1]
              have hu1 : 1 ≤ fr := by omega
              have huN : fr ≤ N := by omega
              have hu0 : (0 : Int) ≤ (fr : Int) := by omega
              have hup : decide (0 < fr) = true := decide_eq_true (by omega)
              have huN' : (fr : Int) < (N : Int) + 1 := by omega
              have hnear := HNI.out (.inr hf2)
              rw [hou] at hnear
              have HNEAR := Lib.hid hnear
              have HW := Lib.hid (fun h1 h2 => HWA.out fr h1 h2 hou)
              have cu := HST.out fr hu1 huN
              have cu2 := (hb.cell (p := ⟨gS, fr, none⟩) hgS4).trans cu
              obtain ⟨x, hx⟩ : ∃ x, dist ps T (fr : Int) = x := ⟨_, rfl⟩
              rw [hx] at cu2 HNEAR
              have htb : touchB h ⟨pid, fr, tt, psz⟩ = true := by unfold touchB; exact decide_eq_true (.inr hf2)
              clear hnear hou hok cu hf2
              by_cases hxk : x = (k : Int)
              · have hxe : (x == d - 1) = true := by simp; omega
                have hnt : (touchB h ⟨pid, fr, tt, psz⟩ && nearB ps T h ⟨pid, fr, tt, psz⟩) = true := by rw [htb, HNEAR.out.2 hxk]; rfl
                have hw := HW.out hnn.out hnt
                have hpre2 := Lib.hid (show (pre ++ [pid]) ++ wayL ps T k fr = wayL ps T K X by
                  have e := hpre.out
                  rw [hw] at e
                  rw [← e]
                  simp)
                clear hw
                go_wp2
                go_quiet (fail)
                have ho6 : ((wr.alloc (.cells #[.int .i64 pid, .int .i64 (fr : Int), .int .i64 (tt : Int), .int .i64 psz] 63)).drewN nq).ownsRow w4.heap.size 3 1 _ pre.length (pre.map iv) := ho.alloc (.cells #[.int .i64 pid, .int .i64 (fr : Int), .int .i64 (tt : Int), .int .i64 psz] 63)
                have hb6 := below_drewN (hb.alloc hzw (.cells #[.int .i64 pid, .int .i64 (fr : Int), .int .i64 (tt : Int), .int .i64 psz] 63)) nq
                have hz6 : w4.heap.size ≤ ((wr.alloc (.cells #[.int .i64 pid, .int .i64 (fr : Int), .int .i64 (tt : Int), .int .i64 psz] 63)).drewN nq).heap.size := hb6.size
                go_wp2_with (at_builtin; go_must (refine wpList_append_own _ rfl _ _ 25 rfl w4.heap.size 3 i0 (.int .i64 0) 1 8 Try.underlying25 hi hz0 hz1 hz2 rfl (by decide) _ _ _ rfl (ho6.alloc _) ⟨wr.heap.size + 1, 0, none⟩ 1 1 [iv pid] rfl rfl (cell_new2 wr (.cells #[.int .i64 pid, .int .i64 (fr : Int), .int .i64 (tt : Int), .int .i64 psz] 63) (iv pid) 3) (by intro u hu; simp at hu; subst hu; rfl) (by unfold maxLen; omega) (by omega) (by simp at hz6 ⊢; omega) ?_))
                intro v' w7 hown' hgrow hnil
                have hown3 := Lib.hid (IOwn.push hown')
                have hB7 := Lib.hid ((hb6.alloc hz6 (.cells #[iv pid] 3)).grown hgrow (by simp at hz6 ⊢; omega) (fun g hg => (ho6.lt g hg).1))
                have hnil3 := Lib.hid (show v' ≠ .slice none 0 0 from fun e => by simp [e] at hnil)
                clear hown' hgrow hnil ho6
                go_wp2
                go_roundg k
                case measure => have := HMG.out; omega
                case rel => exact ⟨fr, pre ++ [pid], rfl, hu1, huN, Lib.hid (by rw [hx]; exact hxk), hpre2, by simp; omega, hown3, hnil3, hB7.out⟩
              · have hxe : (x == d - 1) = false := by simp; omega
                have hnf := Lib.hid (HNN.out (by
                  rw [htb, Bool.true_and, ← Bool.not_eq_true]
                  exact fun e => hxk (HNEAR.out.1 e)))
                go_wp2
                go_quiet (fail)
                go_wp2
                go_roundw
                case rel => exact ⟨j + 1, by omega, rfl, rfl, by go_num, hnf, Lib.hid (show IOwn ((wr.alloc (.cells #[.int .i64 pid, .int .i64 (fr : Int), .int .i64 (tt : Int), .int .i64 psz] 63)).drewN nq) _ _ _ from ho.alloc (.cells #[.int .i64 pid, .int .i64 (fr : Int), .int .i64 (tt : Int), .int .i64 psz] 63)), below_drewN (hb.alloc hzw (.cells #[.int .i64 pid, .int .i64 (fr : Int), .int .i64 (tt : Int), .int .i64 psz] 63)) nq⟩
                case measure => simp [intOf]; omega
            · have hEt : ((tt : Int) == (h : Int)) = false := by simpa using hf2
              have hnf := Lib.hid (HNN.out (by
                have : touchB h ⟨pid, fr, tt, psz⟩ = false := by unfold touchB; exact decide_eq_false (by rintro (e | e); exact hf1 e; exact hf2 e)
                rw [this]; rfl))
              go_wp2
              go_quiet (fail)
              go_wp2
              go_roundw
              case rel => exact ⟨j + 1, by omega, rfl, rfl, by go_num, hnf, Lib.hid (show IOwn ((wr.alloc (.cells #[.int .i64 pid, .int .i64 (fr : Int), .int .i64 (tt : Int), .int .i64 psz] 63)).drewN nq) _ _ _ from ho.alloc (.cells #[.int .i64 pid, .int .i64 (fr : Int), .int .i64 (tt : Int), .int .i64 psz] 63)), below_drewN (hb.alloc hzw (.cells #[.int .i64 pid, .int .i64 (fr : Int), .int .i64 (tt : Int), .int .i64 psz] 63)) nq⟩
              case measure => simp [intOf]; omega
        · exact absurd (fun i hi => hnn.out i (by omega)) HNR.out
end Go.Proofs.Ytpldbakllegheaa.S2
