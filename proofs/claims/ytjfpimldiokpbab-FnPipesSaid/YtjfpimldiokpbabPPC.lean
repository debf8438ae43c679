/- The law FnPipes holds of the program: at every row of bytes a reversed pipe changes no balance and a spanning tree is a tree, as the law draws and asks it. Condition: the argument is laid out as the row says. -/
import Derived.Test.YtjfpimldiokpbabPPB
import Derived.Test.YtjfpimldiokpbabLawInts
import Derived.Test.YtjfpimldiokpbabPPA
import Derived.Deep.DeepCutAuto
import Derived.Test.YtjfpimldiokpbabPfDraw
import Derived.OpenShut
import Derived.StillTailTactics
import Derived.Test.YtjfpimldiokpbabRows
import Derived.WalkKit
import Derived.ProofKit
import Derived.ChangeOld
import Derived.Below
namespace Go.Proofs.Ytjfpimldiokpbab.S2
open Go.RowKit P2

set_option maxHeartbeats 1000000 in
theorem vpipes_same (A A2 : Option Addr) (cap cap2 : Nat) (ps : List Pp) (w : World) (h : PAt w A ps) (h2 : PAt w A2 ps) (hn : ps.length ≤ 1048576) :
    Calls Try.prog 74 #[.slice A ps.length cap, .slice A2 ps.length cap2] w fun e w' => e = .returned (.bool true) ∧ Below w.heap.size w w' := by
  have HA := Lib.hid h
  have HA2 := Lib.hid h2
  clear h h2
  go_enter Try.func74, Try.ntmps74
  go_wp2
  go_loopw [5] (fun i wr => ∃ (k d : Nat), k ≤ ps.length ∧ i = .int .i64 k ∧ wr = w.drewN d) (fun i _ => ps.length - (intOf i).toNat)
  case atStart => exact ⟨0, 0, Nat.zero_le _, rfl, rfl⟩
  case round =>
    obtain ⟨k, d, hk, rfl, rfl⟩ := hrel
    by_cases hlt : k < ps.length
    · obtain ⟨b, off, hA, hbl, h0, h1, h2, h3⟩ := HA.out.at_ hlt
      obtain ⟨b2, off2, hA2, hbl2, g0, g1, g2, g3⟩ := HA2.out.at_ hlt
      subst hA hA2
      have hk0i : (0 : Int) ≤ (k : Int) := by omega
      have hk1i : (k : Int) < (ps.length : Int) := by omega
      generalize pAt ps k = p at *
      go_wp2
      go_quiet (fail)
      go_wp2
      go_roundw
      case rel => exact ⟨k + 1, _, by omega, by go_num, rfl⟩
      case measure => simp [intOf]; omega
    · go_wp2
      go_ret
      exact ⟨rfl, below_drewN (Below.refl _ _) d⟩
theorem vnet_same (n : Int) (A A2 : Option Addr) (cap cap2 : Nat) (ps : List Pp) (w : World) (h : PAt w A ps) (h2 : PAt w A2 ps) (hn : ps.length ≤ 1048576) :
    Calls Try.prog 12 #[nv n A ps.length cap, nv n A2 ps.length cap2] w fun e w' => e = .returned (.bool true) ∧ Below w.heap.size w w' := by
  have H := Lib.hid (fun w' (hb : Below w.heap.size w w') => vpipes_same A A2 cap cap2 ps w' (h.kept hb (Nat.le_refl _)) (h2.kept hb (Nat.le_refl _)) hn)
  clear h h2
  go_enter Try.func12, Try.ntmps12
  go_wp2_with (go_at_call 74; refine (H.out _ ?_).mono ?_; (exact ((Below.refl _ _).alloc (Nat.le_refl _) _).alloc (by simp) _); rintro e w1 ⟨rfl, hb1⟩)
  go_ret
  exact ⟨rfl, (((Below.refl _ _).alloc (Nat.le_refl _) _).alloc (by simp) _).trans (hb1.mono (by simp; omega))⟩
end Go.Proofs.Ytjfpimldiokpbab.S2

namespace Go.Proofs.Ytjfpimldiokpbab.S2
open Go.RowKit Go.Sort P2

theorem met_at1 {P : Program} {f : FuncId} {args : Array Value} {w : World} {d : Nat} {os : Array Obj} {v : Value}
    (h : ∀ w', Below w.heap.size w w' → Calls P f args w' fun e w'' => e = .returned v ∧ Below w'.heap.size w' w'') : Calls P f args (grow (redrawn w d) os) fun e w'' => e = .returned v ∧ ∃ p : Regrown, w'' = grow (redrawn w p.d) p.os :=
  Calls.regrown_of (h _ (below_regrown w d os))

abbrev rw_ (ls : List (List Int)) (i : Nat) : List Int := ls.getD i []
/-- The rows ls lie there. -/
def SAt (w : World) (A : Option Addr) (ls : List (List Int)) : Prop :=
  ls = [] ∨ ∃ b off, A = some ⟨b, off, none⟩ ∧ b < w.heap.size ∧ ∀ i, i < ls.length → ∃ B c, w.cell? ⟨b, off + i, none⟩ = some (.slice B (rw_ ls i).length c) ∧ IAt w B (rw_ ls i)
theorem SAt.kept {w w' : World} {A : Option Addr} {ls : List (List Int)} {S : Nat} (h : SAt w A ls) (hb : Below S w w') (hS : w.heap.size ≤ S) : SAt w' A ls := by
  rcases h with h | ⟨b, off, hA, hlt, h⟩
  · exact .inl h
  · refine .inr ⟨b, off, hA, Nat.lt_of_lt_of_le hlt hb.size, fun i hi => ?_⟩
    obtain ⟨B, c, hc, hI⟩ := h i hi
    exact ⟨B, c, (hb.cell (p := ⟨b, off + i, none⟩) (by show b < S; omega)).trans hc, hI.kept hb hS⟩
theorem SAt.at_ {w : World} {A : Option Addr} {ls : List (List Int)} (h : SAt w A ls) {i : Nat} (hi : i < ls.length) : ∃ b off B c, A = some ⟨b, off, none⟩ ∧ b < w.heap.size ∧ w.cell? ⟨b, off + i, none⟩ = some (.slice B (rw_ ls i).length c) ∧ IAt w B (rw_ ls i) := by
  rcases h with h | ⟨b, off, hA, hlt, h⟩
  · subst h; simp at hi
  · obtain ⟨B, c, hc, hI⟩ := h i hi
    exact ⟨b, off, B, c, hA, hlt, hc, hI⟩

end Go.Proofs.Ytjfpimldiokpbab.S2

namespace Go.Proofs.Ytjfpimldiokpbab.S2
open Go.RowKit P2

theorem vbig_no (a : Option Addr) (n cap : Nat) (w : World) (hn : n ≤ 65536) : Calls Try.prog 8 #[.slice a n cap] w fun e w' => e = .returned (.bool false) ∧ w' = w := by
  have h : ¬ ((65536 : Int) < (n : Int)) := by omega
  go_enter Try.func8, Try.ntmps8
  go_wp2
  go_ret
  exact ⟨rfl, rfl⟩
theorem vbig_yes (a : Option Addr) (n cap : Nat) (w : World) (hn : 65536 < n) : Calls Try.prog 8 #[.slice a n cap] w fun e w' => e = .returned (.bool true) ∧ w' = w := by
  have h : ((65536 : Int) < (n : Int)) := by omega
  go_enter Try.func8, Try.ntmps8
  go_wp2
  go_ret
  exact ⟨rfl, rfl⟩
set_option maxHeartbeats 1000000 in
theorem vints_same (A A2 : Option Addr) (cap cap2 : Nat) (l : List Int) (w : World) (h : IAt w A l) (h2 : IAt w A2 l) (hn : l.length ≤ 1048576) :
    Calls Try.prog 13 #[.slice A l.length cap, .slice A2 l.length cap2] w fun e w' => e = .returned (.bool true) ∧ Below w.heap.size w w' := by
  have HA := Lib.hid h
  have HA2 := Lib.hid h2
  clear h h2
  go_enter Try.func13, Try.ntmps13
  go_wp2
  go_loopw [5] (fun i wr => ∃ (k d : Nat), k ≤ l.length ∧ i = .int .i64 k ∧ wr = w.drewN d) (fun i _ => l.length - (intOf i).toNat)
  case atStart => exact ⟨0, 0, Nat.zero_le _, rfl, rfl⟩
  case round =>
    obtain ⟨k, d, hk, rfl, rfl⟩ := hrel
    by_cases hlt : k < l.length
    · obtain ⟨b, off, hA, hbl, h0⟩ := HA.out.at_ hlt
      obtain ⟨b2, off2, hA2, hbl2, g0⟩ := HA2.out.at_ hlt
      subst hA hA2
      have hk0i : (0 : Int) ≤ (k : Int) := by omega
      have hk1i : (k : Int) < (l.length : Int) := by omega
      generalize l.getD k 0 = x at *
      go_wp2
      go_quiet (fail)
      go_wp2
      go_roundw
      case rel => exact ⟨k + 1, _, by omega, by go_num, rfl⟩
      case measure => simp [intOf]; omega
    · go_wp2
      go_ret
      exact ⟨rfl, below_drewN (Below.refl _ _) d⟩
set_option maxHeartbeats 1000000 in
theorem vhas_any (A : Option Addr) (cap : Nat) (l : List Int) (v : Int) (w : World) (h : IAt w A l) (hl : l.length ≤ 1048576) :
    Calls Try.prog 28 #[.slice A l.length cap, .int .i64 v] w fun e w' => e = .returned (.bool (decide (v ∈ l))) ∧ w' = w := by
  have HA := Lib.hid h
  clear h
  go_enter Try.func28, Try.ntmps28
  go_wp2
  go_loopw [5] (fun i wr => ∃ k : Nat, k ≤ l.length ∧ i = .int .i64 k ∧ Hid (∀ j, j < k → l.getD j 0 ≠ v) ∧ wr = w) (fun i _ => l.length - (intOf i).toNat)
  case atStart => exact ⟨0, by omega, rfl, Lib.hid (fun j hj => absurd hj (by omega)), rfl⟩
  case round =>
    obtain ⟨k, hk, rfl, hno, hw⟩ := hrel
    replace hw := hw.symm
    subst hw
    by_cases hlt : k < l.length
    · obtain ⟨b, off, hA, hbl, h1⟩ := HA.out.at_ (i := k) hlt
      subst hA
      have hk0 : (0 : Int) ≤ (k : Int) := by omega
      have hkn : (k : Int) < (l.length : Int) := by omega
      by_cases he : l.getD k 0 = v
      · have HM := Lib.hid (show v ∈ l from by rw [← he]; simp [List.getD, hlt])
        rw [he] at h1
        clear he hno
        go_wp2
        go_ret
        exact ⟨by rw [decide_eq_true HM.out]; rfl, rfl⟩
      · have hne : ¬ v = l.getD k 0 := fun e => he e.symm
        have hno2 := Lib.hid (show ∀ j, j < k + 1 → l.getD j 0 ≠ v from fun j hj => by
          by_cases e : j = k
          · subst e; exact he
          · exact hno.out j (by omega))
        clear he hno
        generalize l.getD k 0 = x at *
        go_wp2
        go_roundw
        case rel => exact ⟨k + 1, by omega, by go_num, hno2, trivial⟩
        case measure => simp [intOf]; omega
    · have HM := Lib.hid (show v ∉ l from fun hm => by
        obtain ⟨j, hj, e⟩ := List.getElem_of_mem hm
        exact hno.out j (by omega) (by simp [List.getD, hj, e]))
      clear hno
      go_wp2
      go_ret
      exact ⟨by rw [decide_eq_false HM.out]; rfl, rfl⟩
end Go.Proofs.Ytjfpimldiokpbab.S2

namespace Go.Proofs.Ytjfpimldiokpbab.S2
open Go.RowKit P2

theorem zer_iat (K : Nat) (w : World) (hK : K ≤ 8) : IAt (w.alloc (.cells (madeCells #[.int .i64 0] K) 3)) (some ⟨w.heap.size, 0, none⟩) (List.replicate K 0) := by
  have h := made_own (List.replicate K 0) w (by simp; omega)
  rw [List.length_replicate] at h
  have h2 : IOwn (w.alloc (.cells (madeCells #[.int .i64 0] K) 3)) w.heap.size (.slice (some ⟨w.heap.size, 0, none⟩) (List.replicate K (0 : Int)).length K) (List.replicate K 0) := by
    unfold IOwn
    rw [List.length_replicate]
    simpa [fiI] using h
  exact h2.iat
theorem zer_dem {K : Nat} {ps : List Pp} (hg : P2.Good K ps) : demB K ps (List.replicate K 0) = true := by
  unfold demB amtB
  rw [good_mk hg, allR_mk (fun j hj => by rw [List.length_replicate] at hj; simp [inR, List.getD, hj])]
  simp
theorem node_in {K v : Nat} {ps : List Pp} (hg : P2.Good K ps) (h1 : 1 ≤ v) (h2 : v ≤ K) : nodeB K ps v = true := by
  rw [nodeB_eq, good_mk hg]
  simp
  omega
set_option maxHeartbeats 8000000 in
set_option maxRecDepth 100000 in
theorem walkPipes (a : Option Addr) (n cap : Nat) (w : World) (hc : S1.Cd w.heap.size a n w) :
    Calls Try.prog 3 #[.slice a n cap] w fun e w' => e = .returned (.bool true) ∧ Below w.heap.size w w' := by
  have HC := Lib.hid hc
  clear hc
  by_cases hbig : 65536 < n
  · have H := Lib.hid (fun w => vbig_yes a n cap w hbig)
    go_enter Try.func3, Try.ntmps3
    go_wp2_with (go_at_call 8; refine (H.out _).mono ?_; rintro e w1 ⟨rfl, rfl⟩)
    go_ret
    exact ⟨rfl, Below.refl _ _⟩
  have hn : n ≤ 65536 := by omega
  have HR := Lib.hid (fun w => vbig_no a n cap w hn)
  clear hbig
  go_enter Try.func3, Try.ntmps3
  refine Hid.out ?_
  refine Lib.hid ?_
  go_wp2_with (first
    | (go_at_call 8; refine (HR.out _).mono ?_; rintro e w0 ⟨rfl, hw0⟩; replace hw0 := hw0.symm; subst hw0)
    | (go_at_call 9; refine (drev_any a n cap _ HC.out hn).mono ?_; rintro e w1 ⟨N, A, c, ps, qa, ca, da, q1, c1, fl, x, rfl, hd⟩; refine Hid.out ?_)
    | fail)
  obtain ⟨hnet, -, -, hfl, hfo, hb1⟩ := hd
  have hcap := hnet.cap
  have hp12 := hnet.len
  obtain ⟨M, qs, gl, ok, HQF, hok, hHR⟩ := rev_pack N ps fl x (by unfold maxLen; omega) (by omega) (by omega)
  have HRV := Lib.hid hHR
  have HOK := Lib.hid hok
  have HPA := Lib.hid (fun w' (hb : Below w1.heap.size w1 w') => hnet.pat.kept hb (Nat.le_refl _))
  have HFL := Lib.hid (fun w' (hb : Below w1.heap.size w1 w') => hfo.iat.kept hb (Nat.le_refl _))
  have HB1 := Lib.hid hb1
  have HX1 := Lib.hid (Below.refl (w1.heap.size + 1) (w1.alloc (nb N A ps.length c)))
  obtain ⟨b0, b1⟩ := box2 HX1.out
  have hy1 := box_lt HX1.out
  have hne : (ok != ok) = false := by cases ok <;> rfl
  have hQ : qs.length ≤ 12 ∧ gl.length ≤ 13 := by
    cases ok with
    | false => exact HQF rfl
    | true =>
      obtain ⟨hf, _, i, hi, h1, h2, _⟩ := hok rfl
      rw [h1, h2, rvL_len, ngL_len]
      have := (floB_of hf).2.1
      omega
  clear hnet hfo hb1 hHR hok
  refine Lib.hid ?_
  go_upto_region 5 with (first
    | (go_at_call 10; refine (HRV.out A c _ c1 _ (HPA.out _ (below_box HX1.out)) hcap (HFL.out _ (below_box HX1.out))).1.mono ?_; rintro e w2 ⟨A2, k2, g2, o2, ci2, rfl, hqk2, hP2, hg2, hI2, hb2, hl2⟩; have HX2 := Lib.hid (on_call HX1.out hb2); have HP2 := Lib.hid hP2; have HI2 := Lib.hid hI2; clear b0 b1 hb2 hP2 hI2; obtain ⟨b0, b1⟩ := box2 HX2.out; have hy2 := box_lt HX2.out)
    | fail)
  have HX3 := Lib.hid (on_call HX2.out (alloc_below w2 (nb M A2 qs.length k2)))
  have HY3 := Lib.hid (Below.refl (w2.heap.size + 1) (w2.alloc (nb M A2 qs.length k2)))
  have HP3 := Lib.hid (fun w' (hb : Below w2.heap.size w2 w') => HP2.out.kept hb (Nat.le_refl _))
  have HI3 := Lib.hid (fun w' (hb : Below w2.heap.size w2 w') => HI2.out.kept hb (Nat.le_refl _))
  clear b0 b1
  obtain ⟨b0, b1⟩ := box2 HX3.out
  obtain ⟨d0, d1⟩ := box2 HY3.out
  have hy3 := box_lt HX3.out
  have hz3 := box_lt HY3.out
  clear HP2 HI2 HX2
  refine Hid.out ?_
  refine Lib.hid ?_
  go_upto_region 6 with (first
    | (go_at_call 11; refine (HRV.out A c _ c1 _ (HPA.out _ (below_box HX3.out)) hcap (HFL.out _ (below_box HX3.out))).2.mono ?_; rintro e w4 ⟨A3, k3, g3, o3, ci3, rfl, hqk3, hP4, hg3, hI4, hb4, hl4⟩; have HX4 := Lib.hid (on_call HX3.out hb4); have HY4 := Lib.hid (on_call HY3.out hb4); have HP4 := Lib.hid (fun w' (hb : Below w4.heap.size w4 w') => hP4.kept hb (Nat.le_refl _)); have HI4 := Lib.hid (fun w' (hb : Below w4.heap.size w4 w') => hI4.kept hb (Nat.le_refl _)); clear b0 b1 d0 d1 hb4 hP4 hI4; obtain ⟨b0, b1⟩ := box2 HX4.out; obtain ⟨d0, d1⟩ := box2 HY4.out; have hy4 := box_lt HX4.out; have hz4 := box_lt HY4.out)
    | fail)
  have HX5 := Lib.hid (on_call HX4.out (alloc_below w4 (nb M A3 qs.length k3)))
  have HY5 := Lib.hid (on_call HY4.out (alloc_below w4 (nb M A3 qs.length k3)))
  have HZ5 := Lib.hid (Below.refl (w4.heap.size + 1) (w4.alloc (nb M A3 qs.length k3)))
  clear b0 b1 d0 d1
  obtain ⟨b0, b1⟩ := box2 HX5.out
  obtain ⟨d0, d1⟩ := box2 HY5.out
  obtain ⟨e0, e1⟩ := box2 HZ5.out
  have hy5 := box_lt HX5.out
  have hz5 := box_lt HY5.out
  have hx5 := box_lt HZ5.out
  clear HX3 HX4 HY3 HY4
  refine Hid.out ?_
  refine Lib.hid ?_
  go_upto_if 75 with (first
    | (go_at_call 12; refine (vnet_same M A2 A3 k2 k3 qs _ (HP3.out _ (below_box HY5.out)) (HP4.out _ (below_box HZ5.out)) (by omega)).mono ?_; rintro e w6 ⟨rfl, hb6⟩; have HX6 := Lib.hid (on_call HX5.out hb6); have HY6 := Lib.hid (on_call HY5.out hb6); have HZ6 := Lib.hid (on_call HZ5.out hb6); clear b0 b1 d0 d1 e0 e1 hb6; obtain ⟨b0, b1⟩ := box2 HX6.out; obtain ⟨d0, d1⟩ := box2 HY6.out; have hy6 := box_lt HX6.out; have hz6 := box_lt HY6.out)
    | (go_at_call 13; refine (vints_same _ _ ci2 ci3 gl _ (HI3.out _ (below_box HY6.out)) (HI4.out _ (below_box HZ6.out)) (by omega)).mono ?_; rintro e w7 ⟨rfl, hb7⟩; have HX7 := Lib.hid (on_call HX6.out hb7); have HY7 := Lib.hid (on_call HY6.out hb7); clear b0 b1 d0 d1 hb7; obtain ⟨b0, b1⟩ := box2 HX7.out; obtain ⟨d0, d1⟩ := box2 HY7.out; have hy7 := box_lt HX7.out; have hz7 := box_lt HY7.out)
    | fail)
  clear HX5 HX6 HY5 HY6 HZ5 HZ6 HP4 HI4 hy1 hy2 hy3 hy4 hy5 hy6 hz3 hz4 hz5 hz6 hne
  go_cut [] (fun wx => Hid (Below (w1.heap.size + 1) (w1.alloc (nb N A ps.length c)) wx))
  case first => as_aux_lemma =>
    cases ok with
    | false =>
      go_wp2_with fail
      go_meet
      exact HX7
    | true =>
      obtain ⟨hf, hM, i, hi, hq, hgl, hfi⟩ := HOK.out rfl
      obtain ⟨hg, hl, hr⟩ := floB_of hf
      obtain ⟨K, rfl⟩ := good_nat hg
      subst hM
      have hK1 : 1 ≤ K := by have := hg.1; omega
      have hK8 : K ≤ 8 := by have := hg.2.1; omega
      have HR2 := Lib.hid (show ∀ w', Below w2.heap.size w2 w' → Calls Try.prog 10 #[nv (K : Int) A2 qs.length k2, .slice (some ⟨g2, o2, none⟩) gl.length ci2, .int .i64 x] w' (GivesXA w' (K : Int) ps fl true) from fun w' hb => by
        have hP := HP3.out w' hb
        have hI := HI3.out w' hb
        rw [hq] at hP ⊢
        rw [hgl] at hI ⊢
        have h := irev_yes K i A2 k2 (rvL ps i) _ ci2 (ngL fl i) x w' hP (by rw [rvL_len]; unfold maxLen; omega) hI (by rw [ngL_len]; omega) (rv_flo hi hf) (by rw [rvL_len]; exact hi) (rv_find i hfi)
        rw [rv_twice hi, ng_twice (by omega)] at h
        exact h.mono fun _ _ hx => hx.any)
      have HT1 := Lib.hid (show ∀ (v : Nat), 1 ≤ v → v ≤ K → ∀ (bz : Nat) w', Below w1.heap.size w1 w' → IAt w' (some ⟨bz, 0, none⟩) (List.replicate K 0) → Calls Try.prog 14 #[nv (K : Int) A ps.length c, .int .i64 1, .slice (some ⟨bz, 0, none⟩) K K, .slice (some ⟨q1, 0, none⟩) fl.length c1, .int .i64 (v : Int)] w' fun e w'' => e = .returned (.tuple #[.int .i64 (imbA 1 (List.replicate K 0) ps fl v), .bool true]) ∧ Below w'.heap.size w' w'' from fun v h1 h2 bz w' hb hz => by
        have h := imbat_yes K 1 v A c ps (some ⟨bz, 0, none⟩) K (List.replicate K 0) (some ⟨q1, 0, none⟩) c1 fl w' (HPA.out w' hb) (by unfold maxLen; omega) hz (by simp; omega) (HFL.out w' hb) (by omega) (by unfold askB; rw [node_in hg (by omega) hK1, zer_dem hg, hf]; rfl) (node_in hg h1 h2)
        rw [List.length_replicate] at h
        exact h)
      have HT2 := Lib.hid (show ∀ (v : Nat), 1 ≤ v → v ≤ K → ∀ (bz : Nat) w', Below w2.heap.size w2 w' → IAt w' (some ⟨bz, 0, none⟩) (List.replicate K 0) → Calls Try.prog 14 #[nv (K : Int) A2 qs.length k2, .int .i64 1, .slice (some ⟨bz, 0, none⟩) K K, .slice (some ⟨g2, o2, none⟩) gl.length ci2, .int .i64 (v : Int)] w' fun e w'' => e = .returned (.tuple #[.int .i64 (imbA 1 (List.replicate K 0) ps fl v), .bool true]) ∧ Below w'.heap.size w' w'' from fun v h1 h2 bz w' hb hz => by
        have hP := HP3.out w' hb
        have hI := HI3.out w' hb
        rw [hq] at hP ⊢
        rw [hgl] at hI ⊢
        have h := imbat_yes K 1 v A2 k2 (rvL ps i) (some ⟨bz, 0, none⟩) K (List.replicate K 0) (some ⟨g2, o2, none⟩) ci2 (ngL fl i) w' hP (by rw [rvL_len]; unfold maxLen; omega) hz (by simp; omega) hI (by rw [ngL_len]; omega) (by unfold askB; rw [node_in (rv_good hg i) (by omega) hK1, zer_dem (rv_good hg i), rv_flo hi hf]; rfl) (node_in (rv_good hg i) h1 h2)
        rw [imb_turn hi hl, List.length_replicate] at h
        exact h)
      have hmk : ∀ wx : World, (Instr.makeSlice 27 (.int .i64 (K : Int)) (.int .i64 (K : Int))).run Try.prog wx = .ok (.slice (some ⟨wx.heap.size, 0, none⟩) K K) (wx.alloc (.cells (madeCells #[.int .i64 0] K) 3)) := fun wx => run_make_row' (P := Try.prog) 27 3 (.int .i64 0) 8 Try.underlying27 infoI rfl .i64 .i64 K (by omega) (by omega) wx
      clear hq hgl hfi hf hg hl hr hi HOK HRV
      go_upto_region 10 with (first
        | (go_at_call 10; refine (HR2.out _ (below_box HY7.out)).mono ?_; rintro e w8 ⟨A8, k8, g8, o8, ci8, rfl, hk8, hP8, hg8, hI8, hb8, hl8⟩; have HX8 := Lib.hid (on_call HX7.out hb8); have HY8 := Lib.hid (on_call HY7.out hb8); have HP8 := Lib.hid (fun w' (hb : Below w8.heap.size w8 w') => hP8.kept hb (Nat.le_refl _)); have HI8 := Lib.hid (fun w' (hb : Below w8.heap.size w8 w') => hI8.kept hb (Nat.le_refl _)); clear b0 b1 d0 d1 hb8 hP8 hI8)
        | fail)
      have HX9 := Lib.hid (on_call HX8.out (alloc_below w8 (nb (K : Int) A8 ps.length k8)))
      have HY9 := Lib.hid (on_call HY8.out (alloc_below w8 (nb (K : Int) A8 ps.length k8)))
      have HZ9 := Lib.hid (Below.refl (w8.heap.size + 1) (w8.alloc (nb (K : Int) A8 ps.length k8)))
      obtain ⟨b0, b1⟩ := box2 HX9.out
      obtain ⟨e0, e1⟩ := box2 HZ9.out
      have hy9 := box_lt HX9.out
      have hx9 := box_lt HZ9.out
      refine Hid.out ?_
      refine Lib.hid ?_
      go_upto_region 12 with (first
        | (go_at_call 12; refine (vnet_same (K : Int) A8 A k8 c ps _ (HP8.out _ (below_box HZ9.out)) (HPA.out _ (below_box HX9.out)) (by omega)).mono ?_; rintro e w10 ⟨rfl, hb10⟩; have HX10 := Lib.hid (on_call HX9.out hb10); have HY10 := Lib.hid (on_call HY9.out hb10); have HZ10 := Lib.hid (on_call HZ9.out hb10); clear b0 b1 e0 e1 hb10; obtain ⟨b0, b1⟩ := box2 HX10.out; have hy10 := box_lt HX10.out)
        | (go_at_call 13; refine (vints_same _ _ ci8 c1 fl _ (HI8.out _ (below_box HZ10.out)) (HFL.out _ (below_box HX10.out)) (by omega)).mono ?_; rintro e w11 ⟨rfl, hb11⟩; have HX11 := Lib.hid (on_call HX10.out hb11); have HY11 := Lib.hid (on_call HY10.out hb11); clear b0 b1 hb11; obtain ⟨b0, b1⟩ := box2 HX11.out; have hy11 := box_lt HX11.out)
        | fail)
      refine Hid.out ?_
      refine Lib.hid ?_
      go_wp2_with fail
      clear hmk b0 b1
      have HX12 := Lib.hid (on_call HX11.out (alloc_below w11 (.cells (madeCells #[.int .i64 0] K) 3)))
      have HY12 := Lib.hid (on_call HY11.out (alloc_below w11 (.cells (madeCells #[.int .i64 0] K) 3)))
      have HZ12 := Lib.hid (zer_iat K w11 hK8)
      go_loopw [16] (fun v wr => ∃ k : Nat, v = .int .i64 (k : Int) ∧ 1 ≤ k ∧ k ≤ K + 1 ∧ Hid (Below (w1.heap.size + 1) (w1.alloc (nb (K : Int) A ps.length c)) wr) ∧ Hid (Below (w2.heap.size + 1) (w2.alloc (nb (K : Int) A2 qs.length k2)) wr) ∧ Hid (IAt wr (some ⟨w11.heap.size, 0, none⟩) (List.replicate K 0))) (fun v _ => K + 1 - (intOf v).toNat)
      case atStart => exact ⟨1, rfl, Nat.le_refl _, by omega, HX12, HY12, HZ12⟩
      case round =>
        clear HX12 HY12 HZ12
        obtain ⟨k, rfl, hk1, hkK, HX, HY, HZ⟩ := hrel
        obtain ⟨b0, b1⟩ := box2 HX.out
        obtain ⟨d0, d1⟩ := box2 HY.out
        have hyr := box_lt HX.out
        have hzr := box_lt HY.out
        by_cases hle : k ≤ K
        · have hle1 : decide ((k : Int) ≤ (K : Int)) = true := decide_eq_true (by omega)
          have hle2 : decide (k ≤ K) = true := decide_eq_true hle
          have wk : IntKind.i64.wrap ((k : Int) + 1) = (k : Int) + 1 := IntWalk.i64_in _ (by omega)
          refine Hid.out ?_
          refine Lib.hid ?_
          go_wp2_with (first
            | (go_at_call 14; refine (HT1.out k hk1 hle w11.heap.size _ (below_box HX.out) HZ.out).mono ?_; rintro e w20 ⟨rfl, hb20⟩; have HX20 := Lib.hid (on_call HX.out hb20); have HY20 := Lib.hid (on_call HY.out hb20); have HZ20 := Lib.hid (HZ.out.kept hb20 (Nat.le_refl _)); clear b0 b1 d0 d1 hb20 HT1; obtain ⟨d0, d1⟩ := box2 HY20.out; have hz20 := box_lt HY20.out)
            | (go_at_call 14; refine (HT2.out k hk1 hle w11.heap.size _ (below_box HY20.out) HZ20.out).mono ?_; rintro e w21 ⟨rfl, hb21⟩; have HX21 := Lib.hid (on_call HX20.out hb21); have HY21 := Lib.hid (on_call HY20.out hb21); have HZ21 := Lib.hid (HZ20.out.kept hb21 (Nat.le_refl _)); clear d0 d1 hb21)
            | fail)
          go_roundw
          case rel => exact ⟨k + 1, by go_num, by omega, by omega, HX21, HY21, HZ21⟩
          case measure => simp [intOf]; omega
        · have hle1 : decide ((k : Int) ≤ (K : Int)) = false := decide_eq_false (by omega)
          have hle2 : decide (k ≤ K) = false := decide_eq_false hle
          clear hle
          refine Hid.out ?_
          refine Lib.hid ?_
          go_wp2_with fail
          go_meet
          exact HX
  case rest => as_aux_lemma =>
    have HBc := Lib.hid (HB1.out.trans ((below_box hcut.out).mono HB1.out.size))
    obtain ⟨w8, hw8⟩ : ∃ w8, w8 = wc := ⟨_, rfl⟩
    subst hw8
    clear HX7 HY7 hy7 hz7 hx5 b0 b1 d0 d1 HRV HOK HPA HFL HB1 HP3 HI3 hcut
    refine Hid.out ?_
    refine Lib.hid ?_
    go_wp2_with (first
      | (go_at_call 15; refine (dspan_any a n cap _ (HC.out.later HBc.out (Nat.le_refl _)) hn).mono ?_; rintro e w9 ⟨N2, A4, k4, ps2, rfl, hnet, hb9⟩; refine Hid.out ?_)
      | fail)
    obtain ⟨M2, qs2, ok2, hq10, htree, hSP⟩ := spn_pack N2 ps2 (by have := hnet.len; unfold maxLen; omega)
    have HS := Lib.hid hSP
    have HTR := Lib.hid (show ok2 = true → isTA M2 qs2 = (true, true) from fun e => by
      obtain ⟨K, rfl, hg, ht⟩ := htree e
      unfold isTA
      rw [good_mk hg, Int.toNat_natCast, ht]
      rfl)
    have HPB := Lib.hid (fun w' (hb : Below w9.heap.size w9 w') => hnet.pat.kept hb (Nat.le_refl _))
    have HB9 := Lib.hid (HBc.out.trans (hb9.mono HBc.out.size))
    have HX9 := Lib.hid (Below.refl (w9.heap.size + 1) (w9.alloc (nb N2 A4 ps2.length k4)))
    obtain ⟨b0, b1⟩ := box2 HX9.out
    have hy9 := box_lt HX9.out
    have hne2 : (ok2 != ok2) = false := by cases ok2 <;> rfl
    clear hnet hb9 hSP htree HBc
    refine Lib.hid ?_
    go_upto_region 22 with (first
      | (go_at_call 16; refine (HS.out A4 k4 _ (HPB.out _ (below_box HX9.out))).1.mono ?_; rintro e w10 ⟨A5, k5, rfl, hqk5, hP10, hb10⟩; have HX10 := Lib.hid (on_call HX9.out hb10); have HP10 := Lib.hid (fun w' (hb : Below w10.heap.size w10 w') => hP10.kept hb (Nat.le_refl _)); clear b0 b1 hb10 hP10)
      | fail)
    have HX11 := Lib.hid (on_call HX10.out (alloc_below w10 (nb M2 A5 qs2.length k5)))
    have HY11 := Lib.hid (Below.refl (w10.heap.size + 1) (w10.alloc (nb M2 A5 qs2.length k5)))
    obtain ⟨b0, b1⟩ := box2 HX11.out
    obtain ⟨d0, d1⟩ := box2 HY11.out
    have hy11 := box_lt HX11.out
    have hz11 := box_lt HY11.out
    clear HX10
    refine Hid.out ?_
    refine Lib.hid ?_
    go_upto_region 23 with (first
      | (go_at_call 17; refine (HS.out A4 k4 _ (HPB.out _ (below_box HX11.out))).2.mono ?_; rintro e w12 ⟨A6, k6, rfl, hqk6, hP12, hb12⟩; have HX12 := Lib.hid (on_call HX11.out hb12); have HY12 := Lib.hid (on_call HY11.out hb12); have HP12 := Lib.hid (fun w' (hb : Below w12.heap.size w12 w') => hP12.kept hb (Nat.le_refl _)); clear b0 b1 d0 d1 hb12 hP12; obtain ⟨d0, d1⟩ := box2 HY12.out; have hz12 := box_lt HY12.out)
      | fail)
    have HX13 := Lib.hid (on_call HX12.out (alloc_below w12 (nb M2 A6 qs2.length k6)))
    have HY13 := Lib.hid (on_call HY12.out (alloc_below w12 (nb M2 A6 qs2.length k6)))
    have HZ13 := Lib.hid (Below.refl (w12.heap.size + 1) (w12.alloc (nb M2 A6 qs2.length k6)))
    clear d0 d1
    obtain ⟨d0, d1⟩ := box2 HY13.out
    obtain ⟨e0, e1⟩ := box2 HZ13.out
    have hz13 := box_lt HY13.out
    have hx13 := box_lt HZ13.out
    clear HX11 HX12 HY11 HY12
    refine Hid.out ?_
    refine Lib.hid ?_
    go_upto_if 155 with (first
      | (go_at_call 12; refine (vnet_same M2 A5 A6 k5 k6 qs2 _ (HP10.out _ (below_box HY13.out)) (HP12.out _ (below_box HZ13.out)) (by omega)).mono ?_; rintro e w14 ⟨rfl, hb14⟩; have HX14 := Lib.hid (on_call HX13.out hb14); have HY14 := Lib.hid (on_call HY13.out hb14); clear d0 d1 e0 e1 hb14; obtain ⟨d0, d1⟩ := box2 HY14.out; have hz14 := box_lt HY14.out)
      | fail)
    go_cut [] (fun wx => Hid (Below (w9.heap.size + 1) (w9.alloc (nb N2 A4 ps2.length k4)) wx))
    case first => as_aux_lemma =>
      cases ok2 with
      | false =>
        go_wp2_with fail
        go_meet
        exact HX14
      | true =>
        have HI := Lib.hid (fun w' (hb : Below w10.heap.size w10 w') => show Calls Try.prog 18 #[nv M2 A5 qs2.length k5] w' _ from itn_any M2 A5 k5 qs2 w' (HP10.out w' hb) (by unfold maxLen; omega))
        rw [HTR.out rfl] at HI
        clear HX13 HY13 HZ13 HTR HS HPB HP12
        go_wp2_with (first
          | (go_at_call 18; refine (HI.out _ (below_box HY14.out)).mono ?_; rintro e w15 ⟨rfl, hb15⟩; have HX15 := Lib.hid (on_call HX14.out hb15); clear d0 d1 hb15)
          | fail)
        go_meet
        exact HX15
    case rest => as_aux_lemma =>
      have HBd := Lib.hid (HB9.out.trans ((below_box hcut.out).mono HB9.out.size))
      obtain ⟨w16, hw16⟩ : ∃ w16, w16 = wc := ⟨_, rfl⟩
      subst hw16
      clear HX9 HX13 HX14 HY13 HY14 HZ13 HS HTR HPB HB9 HP10 HP12 hcut d0 d1 hy9 hy11 hz11 hz12 hz13 hz14 hx13 hne2
      refine Hid.out ?_
      refine Lib.hid ?_
      go_wp2_with (first
        | (go_at_call 19; refine (dheavy_any a n cap _ (HC.out.later HBd.out (Nat.le_refl _)) hn).mono ?_; rintro e w17 ⟨N3, A7, k7, ps3, qc, cc, dc, q3, c3, fl3, rfl, hd⟩; refine Hid.out ?_)
        | fail)
      obtain ⟨hnet, -, -, hfl3, hfo, hb17⟩ := hd
      obtain ⟨i3, v3, ok3, hHV⟩ := hvy_pack N3 ps3 fl3 (by have := hnet.len; unfold maxLen; omega) (by omega)
      have HV := Lib.hid hHV
      have HPC := Lib.hid (fun w' (hb : Below w17.heap.size w17 w') => hnet.pat.kept hb (Nat.le_refl _))
      have HFC := Lib.hid (fun w' (hb : Below w17.heap.size w17 w') => hfo.iat.kept hb (Nat.le_refl _))
      have HB17 := Lib.hid (HBd.out.trans (hb17.mono HBd.out.size))
      have HX17 := Lib.hid (Below.refl (w17.heap.size + 1) (w17.alloc (nb N3 A7 ps3.length k7)))
      obtain ⟨b0, b1⟩ := box2 HX17.out
      have hy17 := box_lt HX17.out
      clear hnet hfo hb17 hHV HBd
      refine Lib.hid ?_
      go_wp2_with (first
        | (go_at_call 20; refine (HV.out A7 k7 _ c3 _ (HPC.out _ (below_box HX17.out)) (HFC.out _ (below_box HX17.out))).1.mono ?_; rintro e w18 ⟨rfl, hb18⟩; have HX18 := Lib.hid (on_call HX17.out hb18); clear b0 b1 hb18; obtain ⟨b0, b1⟩ := box2 HX18.out; have hy18 := box_lt HX18.out)
        | (go_at_call 21; refine (HV.out A7 k7 _ c3 _ (HPC.out _ (below_box HX18.out)) (HFC.out _ (below_box HX18.out))).2.mono ?_; rintro e w19 ⟨rfl, hb19⟩; have HX19 := Lib.hid (on_call HX18.out hb19); clear b0 b1 hb19; obtain ⟨b0, b1⟩ := box2 HX19.out; have hy19 := box_lt HX19.out)
        | fail)
      go_ret
      exact ⟨by simp, HB17.out.trans ((below_box HX19.out).mono HB17.out.size)⟩
end Go.Proofs.Ytjfpimldiokpbab.S2

namespace Go.Proofs.Ytjfpimldiokpbab.S1
open Go.RowKit Go.ChangeShapes Go.WideShapes Go.ChangeAt
open Go.Lib

/-- What the walk is told of the bytes that came in. -/
def IsRow (k : IntKind) (w : World) (a : Option Addr) (len cap : Nat) (zs : List Int) : Prop :=
  (a = none ∧ len = 0 ∧ cap = 0 ∧ zs = []) ∨
  ∃ x, a = some x ∧ len ≤ cap ∧ cap ≤ maxLen ∧ zs.length = cap ∧ (∀ i, i < zs.length → w.cell? (x.add i) = some (.int k (zs.getD i 0))) ∧ ∀ n ∈ zs, (Lit.int k n).wf = true

theorem cd_of_row {w : World} {a : Option Addr} {len cap : Nat} {zs : List Int} (h : IsRow .u8 w a len cap zs) : Cd w.heap.size a len w := by
  rcases h with ⟨_, h0, _⟩ | ⟨x, rfl, hl, _, hz, hc, hwf⟩
  · exact .inl h0
  · by_cases h0 : len = 0
    · exact .inl h0
    · obtain ⟨b, off, rfl, hat⟩ := ints_at hc (by omega)
      refine .inr ⟨b, off, rfl, ?_, fun j hj => ?_⟩
      · have h00 := hat 0 (by omega)
        refine Decidable.byContradiction fun hlt => ?_
        unfold World.cell? at h00
        rw [Array.getElem?_eq_none (by simpa using hlt)] at h00
        cases h00
      · have hj' : j < zs.length := by omega
        have hm : zs.getD j 0 ∈ zs := by
          have e : zs.getD j 0 = zs[j] := by simp [List.getD, hj']
          rw [e]; exact List.getElem_mem hj'
        have hw := hwf _ hm
        have hb : 0 ≤ zs.getD j 0 ∧ zs.getD j 0 ≤ 255 := by
          have e1 : IntKind.u8.min = 0 := rfl
          have e2 : IntKind.u8.max = 255 := rfl
          simpa [Lit.wf, e1, e2] using hw
        exact ⟨(zs.getD j 0).toNat, by omega, by rw [hat j hj', Int.toNat_of_nonneg hb.1]⟩

section
variable {H : Type} {enc : TypeId × Value → H} {w : World}
set_option maxRecDepth 100000 in
theorem code_open {r : Reach} {b0 : Nat} {v : Value} {d : DataW H} {p : List MemPlace} (hv : Value.okWide Try.prog w r b0 22 v) (h : DataW.Trod enc Try.prog w 0 (fun _ => true) true 22 v d p) :
    ∃ (A : Option Addr) (len cap : Nat), v = .slice A len cap ∧ Cd w.heap.size A len w := by
  obtain ⟨a0, len0, cap0, rfl⟩ := okWide_slice Try.underlying22 hv
  refine ⟨a0, len0, cap0, rfl, ?_⟩
  obtain ⟨fuel, hf⟩ := h
  rcases open_ints Try.underlying22 Try.underlying5 (by kernel_rfl) hf with ⟨hcs, _⟩ | ⟨x, l, c, zs, hcs, _, hl, hm, hz, _, hcell, hwz⟩
  · simp [Value.cells] at hcs
    obtain ⟨rfl, rfl, rfl⟩ := hcs
    exact .inl rfl
  · simp [Value.cells] at hcs
    obtain ⟨rfl, rfl, rfl⟩ := hcs
    exact cd_of_row (zs := zs) (.inr ⟨_, rfl, hl, hm, by simpa using hz, hcell, hwz⟩)
end
end Go.Proofs.Ytjfpimldiokpbab.S1

namespace Go.Proofs.Ytjfpimldiokpbab.fnPipes
open Go.ChangeShapes Go.WideShapes Go.ChangeAt Go.RowKit P2 S2
set_option linter.unusedVariables false

theorem own : ownKnob Try.prog.godebug = none := by kernel_rfl
theorem laidOut : laidOutB Try.prog = true := by kernel_rfl

set_option maxRecDepth 100000 in
theorem lifted (os : Os) (started : os.Started) (H : Type) (enc : TypeId × Value → H) :
    ReturnsInHanded {} Try.checked os 3 .any (Rows.fnPipesSpec.pre6 enc Try.prog Try.f3 Rows.fnPipesRow.domain false) (Rows.fnPipesSpec.post enc Try.prog Try.f3 false true false false) := by
  refine returnsInHanded_of_change (C := Try.checked) own started (by kernel_rfl) Try.func3
    (ChangeSpec.witness6 (enc := enc) (C := Try.checked) false ⟨#[], #[.slice none 0 0], []⟩ 8 (by kernel_rfl) (by kernel_rfl) (by kernel_rfl) (by kernel_rfl)) ?_
  intro W base args ds gs before hval0 hW hcnd _
  have hval : ∀ (j : Nat) t v, Try.f3.params[j]? = some t → args[j]? = some v → Value.okWide Try.prog W .any base t v := hval0
  have hW' := hW
  obtain ⟨p, q, hA0, hV, rfl, hfz, hnd⟩ := hW
  have hA : DataW.TrodAll enc Try.prog W 0 (fun _ => true) true Try.f3.params.toList args.toList ds p := hA0
  rw [Try.params3] at hA hval
  obtain ⟨v0, d0, rfl, rfl, h0⟩ := trodAll_one hA
  obtain ⟨rfl, rfl⟩ := trodVars_none hV
  have k0 := h0
  have lt0 : ∀ x ∈ p, x.block < W.heap.size := by obtain ⟨m, hm⟩ := k0; exact DataW.trod_lt m _ _ _ hm
  obtain ⟨A0, len0, cap0, rfl, cd0⟩ := S1.code_open (hval 0 22 v0 rfl rfl) h0
  clear hA0 hval0
  refine (walkPipes A0 len0 cap0 W cd0).mono fun e W' ⟨he, bel⟩ => ?_
  subst he
  exact ⟨_, rfl, _, _, _, [], _, [], hW', trodAll_mk1 (shut_bool Try.underlying4 _), trodAll_mk1 (Below.trod laidOut (by kernel_rfl) (of_decide_eq_true (by kernel_rfl)) k0 bel lt0), rfl, bel.frame _, fun h => by cases h⟩

theorem andB {a b : Bool} (h : a = true) (g : b = true) : (a && b) = true := by rw [h, g]; rfl
theorem heavy : ((Rows.fnPipesRow.inPlace == Try.pinned.checked.prog.inPlace 3) && ((Rows.fnPipesRow.unfollowed == Try.pinned.checked.prog.unfollowed 3) && ((Rows.fnPipesRow.recurses == Try.pinned.checked.prog.recurses 3) && (Rows.fnPipesRow.named == Try.pinned.checked.prog.varsNamed 3)))) = true := by kernel_rfl
set_option maxHeartbeats 4000000 in
theorem closed : joinedFacts Try.pinned.checked.prog 3 Try.f3 Rows.fnPipesSpec Rows.fnPipesRow = true := by
  unfold joinedFacts
  simp only [Bool.and_assoc]
  have h := heavy
  rw [Bool.and_eq_true, Bool.and_eq_true, Bool.and_eq_true] at h
  obtain ⟨h1, h2, h3, h4⟩ := h
  iterate 9 refine andB (by as_aux_lemma => kernel_rfl) ?_
  refine andB (by with_reducible exact h1) (andB (by with_reducible exact h2) (andB (by with_reducible exact h3) (andB (by with_reducible exact h4) ?_)))
  as_aux_lemma => kernel_rfl
theorem named : Try.pinned.checked.prog.funcNamed Rows.fnPipesRow.func = some 3 := by kernel_rfl
theorem instd : Try.f3.isInstance Try.pinned.checked.prog Rows.fnPipesRow.origin Rows.fnPipesRow.targs := of_decide_eq_true (by kernel_rfl)
theorem proved : Rows.FnPipesSaid :=
  OpenClaim.holds_of_wide 3 Try.f3 rfl rfl rfl rfl rfl rfl rfl ⟨rfl, rfl, rfl, rfl, rfl⟩ rfl rfl rfl rfl rfl named Try.func3 closed
    instd (by unfold Func.isWrapper; first | (rw [if_pos (by decide +kernel)]; kernel_rfl) | (rw [if_neg (by decide +kernel)]; exact ⟨rfl, rfl⟩))
    (fun os started H enc _ => lifted os started H enc)
end Go.Proofs.Ytjfpimldiokpbab.fnPipes
namespace Go.Proofs.Ytjfpimldiokpbab
theorem FnPipes_holds : Rows.FnPipesSaid := fnPipes.proved
#print axioms FnPipes_holds
end Go.Proofs.Ytjfpimldiokpbab
