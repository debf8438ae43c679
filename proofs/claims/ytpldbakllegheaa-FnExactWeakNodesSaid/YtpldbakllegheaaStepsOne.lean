/- The model's l2Steps: contracts. Conditions: each theorem's own premises. -/
import Derived.Test.YtpldbakllegheaaWayOne
import Derived.Test.YtpldbakllegheaaReachTwo
namespace Go.Proofs.Ytpldbakllegheaa.S2
open Go.RowKit P2

/-- A row of numbers of the call's own, read as a block. -/
theorem rep_succ (k : Nat) : List.replicate (k + 1) (-1 : Int) = List.replicate k (-1) ++ [-1] := List.replicate_succ'
/-- An own row of numbers, one of them set. -/
theorem IOwn.set {w : World} {B g n cap : Nat} {D : List Int} (h : IOwn w B (.slice (some ⟨g, 0, none⟩) n cap) D) (hn : D.length = n) (v : Nat) (x : Int) :
    IOwn (w.setCell ⟨g, v, none⟩ (iv x)) B (.slice (some ⟨g, 0, none⟩) n cap) (D.set v x) := by
  subst hn
  unfold IOwn at h ⊢
  have h2 := (h.stored v (iv x)).1
  rw [List.length_set, List.map_set]
  exact h2
theorem IOwn.cell {w : World} {B g n cap : Nat} {D : List Int} (h : IOwn w B (.slice (some ⟨g, 0, none⟩) n cap) D) (hn : D.length = n) {v : Nat} (hv : v < D.length) : w.cell? ⟨g, v, none⟩ = some (iv (dA D v)) := by
  subst hn
  unfold IOwn at h
  rw [h.cellAt v (by omega)]
  simp [dA, List.getD, hv]
theorem IOwn.frozen {w : World} {B g n cap : Nat} {D : List Int} (h : IOwn w B (.slice (some ⟨g, 0, none⟩) n cap) D) (hn : D.length = n) (v : Nat) : w.frozen? ⟨g, v, none⟩ = false := by
  subst hn
  unfold IOwn at h
  exact h.frozenAt v

set_option maxHeartbeats 8000000 in
set_option maxRecDepth 100000 in
theorem steps_any (N t : Nat) (A : Option Addr) (cap : Nat) (ps : List Pp) (w : World) (h : PAt w A ps) (hg : P2.Good N ps) (ht1 : 1 ≤ t) (ht2 : t ≤ N) :
    Calls Try.prog 128 #[nv N A ps.length cap, .int .i64 (t : Int)] w fun e w' => ∃ g c, e = .returned (.slice (some ⟨g, 0, none⟩) (N + 1) c) ∧ w.heap.size ≤ g ∧ IOwn w' w.heap.size (.slice (some ⟨g, 0, none⟩) (N + 1) c) (distL N ps t) ∧ Below w.heap.size w w' := by
  have HA := Lib.hid h
  have HG := Lib.hid hg
  have hN : N ≤ 8 := by have := hg.2.1; omega
  have hl10 := hg.2.2.1
  obtain ⟨i0, hi, hz0, hz1, hz2⟩ := info_parts infoI
  have HST := Lib.hid (Lv.start N ps t ht1 ht2)
  have ht0 : (0 : Int) ≤ (t : Int) := by omega
  have htN : (t : Int) < (N : Int) + 1 := by omega
  clear h hg
  go_enter Try.func128, Try.ntmps128
  go_wp2
  have hb0 : Below (w.heap.size + 1) (w.alloc (.cells #[.int .i64 N, .slice A ps.length cap] 31)) ((w.alloc (.cells #[.int .i64 N, .slice A ps.length cap] 31)).alloc (.cells #[] 3)) := (Below.refl _ _).alloc (by simp) _
  have hO1 : IOwn ((w.alloc (.cells #[.int .i64 N, .slice A ps.length cap] 31)).alloc (.cells #[] 3)) (w.heap.size + 1) (.slice (some ⟨w.heap.size + 1, 0, none⟩) 0 0) [] := by
    have := own_empty (w.alloc (.cells #[.int .i64 N, .slice A ps.length cap] 31)) (w.heap.size + 1) (by simp)
    simpa using this
  go_loopw [5, 6] (fun v i wr => ∃ k : Nat, k ≤ N + 1 ∧ i = .int .i64 k ∧ Hid (IOwn wr (w.heap.size + 1) v (List.replicate k (-1))) ∧ Hid (v ≠ .slice none 0 0) ∧ Below (w.heap.size + 1) (w.alloc (.cells #[.int .i64 N, .slice A ps.length cap] 31)) wr) (fun _ i _ => N + 1 - (intOf i).toNat)
  case atStart => exact ⟨0, Nat.zero_le _, rfl, Lib.hid hO1, Lib.hid (by simp), hb0⟩
  case round =>
    clear hO1 hb0
    obtain ⟨k, hk, rfl, hown, hvn, hb⟩ := hrel
    have hzl := box_lt hb
    obtain ⟨b0, b1⟩ := box2 hb
    by_cases hlt : k < N + 1
    · have hkN : (k : Int) ≤ (N : Int) := by omega
      have ho := hown.out
      unfold IOwn at ho
      rw [List.length_replicate] at ho
      go_wp2_with (at_builtin; go_must (refine wpList_append_own _ rfl _ _ 25 rfl (w.heap.size + 1) 3 i0 (.int .i64 0) 1 8 Try.underlying25 hi hz0 hz1 hz2 rfl (by decide) _ _ _ rfl (ho.alloc _) ⟨wr.heap.size, 0, none⟩ 1 1 [iv (-1)] rfl rfl (cell_one_new _ _ _) (by intro u hu; simp at hu; subst hu; rfl) (by unfold maxLen; omega) (by omega) (by have := hb.size; simp at this ⊢; omega) ?_))
      intro v' w3 hown' hgrow hnil
      have hown3 := Lib.hid (show IOwn w3 (w.heap.size + 1) v' (List.replicate (k + 1) (-1)) by
        rw [rep_succ]
        refine IOwn.push ?_
        rw [List.length_replicate, List.map_replicate]
        exact hown')
      have hB3 := Lib.hid ((hb.alloc hzl (.cells #[iv (-1)] 3)).grown hgrow (by simp; omega) (fun g hg => (ho.lt g hg).1))
      have hnil3 := Lib.hid (show v' ≠ .slice none 0 0 from fun e => by simp [e] at hnil)
      clear hown' hgrow hnil ho
      go_wp2
      go_roundw
      case rel => exact ⟨k + 1, by omega, by go_num, hown3, hnil3, hB3.out⟩
      case measure => simp [intOf]; omega
    · have hkk : k = N + 1 := by omega
      subst hkk
      obtain ⟨g, capg, rfl, hgB⟩ := own_slice hown.out hvn.out
      have ho := hown.out
      rw [List.length_replicate] at ho ⊢
      have hor : IOwn wr (w.heap.size + 1) (.slice (some ⟨g, 0, none⟩) (List.replicate (N + 1) (-1 : Int)).length capg) (List.replicate (N + 1) (-1)) := by rw [List.length_replicate]; exact ho
      have ct := hor.cell rfl (v := t) (by simp; omega)
      have ft := hor.frozen rfl t
      have hot := Lib.hid (hor.set rfl t 0)
      have hbt := Lib.hid (hb.setCell (p := ⟨g, t, none⟩) (by show w.heap.size + 1 ≤ g; omega) (iv 0))
      clear hown ho hor hvn
      go_wp2
      have hot2 : IOwn (wr.setCell ⟨g, t, none⟩ (iv 0)) (w.heap.size + 1) (.slice (some ⟨g, 0, none⟩) (N + 1) capg) ((List.replicate (N + 1) (-1 : Int)).set t 0) := by
        have := hot.out
        simpa using this
      have HO2 := Lib.hid hot2
      clear hot hot2 ct ft b0 b1 hzl hb hlt hk
      go_loopw [7] (fun i w2 => ∃ (s : Nat) (D : List Int), s ≤ N ∧ i = .int .i64 s ∧ Hid (Lv N ps t s D) ∧ Hid (IOwn w2 (w.heap.size + 1) (.slice (some ⟨g, 0, none⟩) (N + 1) capg) D) ∧ Below (w.heap.size + 1) (w.alloc (.cells #[.int .i64 N, .slice A ps.length cap] 31)) w2) (fun i _ => N - (intOf i).toNat)
      case atStart => exact ⟨0, _, Nat.zero_le _, rfl, HST, HO2, hbt.out⟩
      case round =>
        clear HO2 hbt HST
        obtain ⟨s, D, hs, rfl, hlv, hown, hb⟩ := hrel
        obtain ⟨b0, b1⟩ := box2 hb
        by_cases hlt : s < N
        · go_wp2
          have hlk := Lib.hid (Lk.start hlv.out)
          go_loopw [8] (fun i w3 => ∃ (k : Nat) (D : List Int), k ≤ ps.length ∧ i = .int .i64 k ∧ Hid (Lk N ps t s k D) ∧ Hid (IOwn w3 (w.heap.size + 1) (.slice (some ⟨g, 0, none⟩) (N + 1) capg) D) ∧ Below (w.heap.size + 1) (w.alloc (.cells #[.int .i64 N, .slice A ps.length cap] 31)) w3) (fun i _ => ps.length - (intOf i).toNat)
          case atStart => exact ⟨0, D, Nat.zero_le _, rfl, hlk, hown, hb⟩
          case round =>
            clear hlv hown hb b0 b1 hlk
            obtain ⟨k, D, hk, rfl, hlk, hown, hb⟩ := hrel
            obtain ⟨b0, b1⟩ := box2 hb
            have hzl := box_lt hb
            by_cases hlt2 : k < ps.length
            · obtain ⟨bb, off, hA, hbl, h0, h1, h2, h3⟩ := HA.out.at_ hlt2
              subst hA
              have hbc : ∀ o, wr.cell? ⟨bb, o, none⟩ = w.cell? ⟨bb, o, none⟩ := fun o => (below_box hb).cell (p := ⟨bb, o, none⟩) hbl
              have p1 := (hbc _).trans h1
              have p2 := (hbc _).trans h2
              have hk0i : (0 : Int) ≤ (k : Int) := by omega
              have hk1i : (k : Int) < (ps.length : Int) := by omega
              have hmem : pAt ps k ∈ ps := by
                have e : pAt ps k = ps[k] := by simp [pAt, List.getD, hlt2]
                rw [e]; exact List.getElem_mem hlt2
              have hok := good_pp HG.out hmem
              unfold PpOk at hok
              obtain ⟨a, ha⟩ : ∃ a : Nat, (pAt ps k).fr = (a : Int) := ⟨(pAt ps k).fr.toNat, by omega⟩
              obtain ⟨b, hbb⟩ : ∃ b : Nat, (pAt ps k).to = (b : Int) := ⟨(pAt ps k).to.toNat, by omega⟩
              have HLK := Lib.hid (hlk.out.step HG.out hlt2 ha hbb)
              rw [ha] at p1
              rw [hbb] at p2
              have ha0 : (0 : Int) ≤ (a : Int) := by omega
              have haN : (a : Int) < (N : Int) + 1 := by omega
              have hb0 : (0 : Int) ≤ (b : Int) := by omega
              have hbN : (b : Int) < (N : Int) + 1 := by omega
              have hDl := hlk.out.lv.len
              have HNE := Lib.hid (show a ≠ b by omega)
              clear hok hmem hbc h0 h1 h2 h3 ha hbb
              have ca := hown.out.cell hDl (v := a) (by omega)
              have cb := hown.out.cell hDl (v := b) (by omega)
              have fa := hown.out.frozen hDl a
              have fb := hown.out.frozen hDl b
              have HSA := Lib.hid (hown.out.set hDl a ((s : Int) + 1))
              have HSB := Lib.hid (hown.out.set hDl b ((s : Int) + 1))
              have hgA : w.heap.size + 1 ≤ g := hgB
              have HDA := Lib.hid (show dA (D.set b ((s : Int) + 1)) b = (s : Int) + 1 from dA_set_same D b _ (by omega))
              have HDN := Lib.hid (show dA (D.set b ((s : Int) + 1)) a = dA D a from dA_set_ne D b a _ HNE.out)
              obtain ⟨x, hx⟩ : ∃ x, dA D a = x := ⟨_, rfl⟩
              obtain ⟨y, hy⟩ : ∃ y, dA D b = y := ⟨_, rfl⟩
              have HX := Lib.hid hx
              have HY := Lib.hid hy
              rw [hx] at ca
              rw [hy] at cb
              clear hx hy
              go_wp2
              go_quiet (fail)
              have HBA := Lib.hid ((below_drewN hb nq).setCell (p := ⟨g, a, none⟩) hgA (iv ((s : Int) + 1)))
              have HBB := Lib.hid ((below_drewN hb nq).setCell (p := ⟨g, b, none⟩) hgA (iv ((s : Int) + 1)))
              by_cases hxs : x = (s : Int)
              · have hE1 : (x == (s : Int)) = true := by simpa using hxs
                have hx0 : ¬ x < 0 := by omega
                by_cases hy0 : y < 0
                · have hys : ((s : Int) + 1 == (s : Int)) = false := beq_eq_false_iff_ne.2 (by omega)
                  have e : step1 (step1 D a b s) b a s = D.set b ((s : Int) + 1) := by
                    have n1 : dA D a = s ∧ dA D b < 0 := by rw [HX.out, HY.out]; exact ⟨hxs, hy0⟩
                    have n2 : ¬ (dA (D.set b ((s : Int) + 1)) b = s ∧ dA (D.set b ((s : Int) + 1)) a < 0) := by rw [HDA.out]; omega
                    rw [step1_yes n1, step1_no n2]
                  have HF := Lib.hid HLK.out
                  rw [e] at HF
                  clear hxs
                  go_wp2
                  go_roundw
                  case rel => exact ⟨k + 1, _, by omega, by go_num, HF, Lib.hid (show IOwn ((wr.drewN nq).setCell _ _) _ _ _ from HSB.out), HBB.out⟩
                  case measure => simp [intOf]; omega
                · have e : step1 (step1 D a b s) b a s = D := by
                    have n1 : ¬ (dA D a = s ∧ dA D b < 0) := by rw [HX.out, HY.out]; omega
                    have n2 : ¬ (dA D b = s ∧ dA D a < 0) := by rw [HX.out, HY.out]; omega
                    rw [step1_no n1, step1_no n2]
                  have HF := Lib.hid HLK.out
                  rw [e] at HF
                  by_cases hys : y = (s : Int)
                  · have hE2 : (y == (s : Int)) = true := by simpa using hys
                    clear hxs hys
                    go_wp2
                    go_roundw
                    case rel => exact ⟨k + 1, _, by omega, by go_num, HF, Lib.hid (show IOwn (wr.drewN nq) _ _ _ from hown.out), below_drewN hb nq⟩
                    case measure => simp [intOf]; omega
                  · have hE2 : (y == (s : Int)) = false := by simpa using hys
                    clear hxs hys
                    go_wp2
                    go_roundw
                    case rel => exact ⟨k + 1, _, by omega, by go_num, HF, Lib.hid (show IOwn (wr.drewN nq) _ _ _ from hown.out), below_drewN hb nq⟩
                    case measure => simp [intOf]; omega
              · have hE1 : (x == (s : Int)) = false := by simpa using hxs
                by_cases hys : y = (s : Int)
                · have hE2 : (y == (s : Int)) = true := by simpa using hys
                  by_cases hx0 : x < 0
                  · have e : step1 (step1 D a b s) b a s = D.set a ((s : Int) + 1) := by
                      have n1 : ¬ (dA D a = s ∧ dA D b < 0) := by rw [HX.out, HY.out]; omega
                      have n2 : dA D b = s ∧ dA D a < 0 := by rw [HX.out, HY.out]; omega
                      rw [step1_no n1, step1_yes n2]
                    have HF := Lib.hid HLK.out
                    rw [e] at HF
                    clear hxs hys
                    go_wp2
                    go_roundw
                    case rel => exact ⟨k + 1, _, by omega, by go_num, HF, Lib.hid (show IOwn ((wr.drewN nq).setCell _ _) _ _ _ from HSA.out), HBA.out⟩
                    case measure => simp [intOf]; omega
                  · have e : step1 (step1 D a b s) b a s = D := by
                      have n1 : ¬ (dA D a = s ∧ dA D b < 0) := by rw [HX.out, HY.out]; omega
                      have n2 : ¬ (dA D b = s ∧ dA D a < 0) := by rw [HX.out, HY.out]; omega
                      rw [step1_no n1, step1_no n2]
                    have HF := Lib.hid HLK.out
                    rw [e] at HF
                    clear hxs hys
                    go_wp2
                    go_roundw
                    case rel => exact ⟨k + 1, _, by omega, by go_num, HF, Lib.hid (show IOwn (wr.drewN nq) _ _ _ from hown.out), below_drewN hb nq⟩
                    case measure => simp [intOf]; omega
                · have hE2 : (y == (s : Int)) = false := by simpa using hys
                  have e : step1 (step1 D a b s) b a s = D := by
                    have n1 : ¬ (dA D a = s ∧ dA D b < 0) := by rw [HX.out, HY.out]; omega
                    have n2 : ¬ (dA D b = s ∧ dA D a < 0) := by rw [HX.out, HY.out]; omega
                    rw [step1_no n1, step1_no n2]
                  have HF := Lib.hid HLK.out
                  rw [e] at HF
                  clear hxs hys
                  go_wp2
                  go_roundw
                  case rel => exact ⟨k + 1, _, by omega, by go_num, HF, Lib.hid (show IOwn (wr.drewN nq) _ _ _ from hown.out), below_drewN hb nq⟩
                  case measure => simp [intOf]; omega
            · have hfin := Lib.hid (hlk.out.finish HG.out (by omega))
              go_wp2
              go_roundw
              case rel => exact ⟨s + 1, D, by omega, by go_num, hfin, hown, hb⟩
              case measure => simp [intOf]; omega
        · have hss : s = N := by omega
          subst hss
          have hfin := hlv.out.all HG.out
          subst hfin
          go_wp2
          go_ret
          have hlow : IOwn wr w.heap.size (.slice (some ⟨g, 0, none⟩) (s + 1) capg) (distL s ps t) := own_lower hown.out
          exact ⟨g, capg, rfl, by omega, hlow, below_box hb⟩
end Go.Proofs.Ytpldbakllegheaa.S2
