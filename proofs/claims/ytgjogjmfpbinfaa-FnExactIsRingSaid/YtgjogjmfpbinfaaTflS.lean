/- TreeFlows and DownstreamNodes of the model: contracts. Conditions: each theorem's own premises. -/
import Derived.Test.YtgjogjmfpbinfaaTflP
import Derived.Test.YtgjogjmfpbinfaaEnI
import Derived.Test.YtgjogjmfpbinfaaWoA
import Derived.Test.YtgjogjmfpbinfaaReachThree
import Derived.Test.YtgjogjmfpbinfaaNetKit
namespace Go.Proofs.Ytgjogjmfpbinfaa.S2
open Go.RowKit P2

theorem wo_mem {n : Int} {ps : List Pp} (hg : P2.Good n ps) {i : Nat} (hi : i < ps.length) {e : Pp} : e ∈ wo ps i ↔ e ∈ Wo ps (pAt ps i) := by
  rw [mem_Wo]
  have hid := good_ids hg
  constructor
  · intro h
    refine ⟨(wo_sub ps i).subset h, fun he => ?_⟩
    unfold wo at h
    rcases List.mem_append.1 h with h | h
    · obtain ⟨j, hj, hje⟩ := List.getElem_of_mem h
      rw [List.length_take] at hj
      have h2 : pAt ps j = e := by rw [List.getElem_take] at hje; simp [pAt, List.getD, show j < ps.length by omega, hje]
      have := hid j i (by omega) hi
      rw [h2, he] at this
      omega
    · obtain ⟨j, hj, hje⟩ := List.getElem_of_mem h
      rw [List.length_drop] at hj
      have h2 : pAt ps (i + 1 + j) = e := by rw [List.getElem_drop] at hje; simp [pAt, List.getD, show i + 1 + j < ps.length by omega, hje]
      have := hid i (i + 1 + j) (by omega) (by omega)
      rw [h2, he] at this
      omega
  · rintro ⟨h, hne⟩
    obtain ⟨j, hj, rfl⟩ := pp_at h
    unfold wo
    rw [List.mem_append]
    by_cases h1 : j < i
    · left
      have e1 : pAt ps j = (ps.take i)[j]'(by rw [List.length_take]; omega) := by rw [List.getElem_take]; simp [pAt, List.getD, hj]
      rw [e1]; exact List.getElem_mem _
    · have h2 : j ≠ i := fun e => hne (by rw [e])
      right
      have e1 : pAt ps j = (ps.drop (i + 1))[j - (i + 1)]'(by rw [List.length_drop]; omega) := by
        rw [List.getElem_drop]
        have : i + 1 + (j - (i + 1)) = j := by omega
        simp [pAt, List.getD, hj, this]
      rw [e1]; exact List.getElem_mem _
theorem wo_conn {n : Int} {ps : List Pp} (hg : P2.Good n ps) {i : Nat} (hi : i < ps.length) {a b : Int} : Conn (wo ps i) a b ↔ Conn (Wo ps (pAt ps i)) a b :=
  ⟨conn_mono fun _ h => (wo_mem hg hi).1 h, conn_mono fun _ h => (wo_mem hg hi).2 h⟩
theorem wet_has {N t : Nat} {ps : List Pp} (hg : P2.Good N ps) {i : Nat} (hi : i < ps.length) {v : Int} (h1 : 1 ≤ v) (h2 : v ≤ N) : hasB (conL N (wo ps i) t) v = !(dnB ps (pAt ps i) t v) := by
  unfold hasB
  cases e : dnB ps (pAt ps i) t v with
  | true =>
    rw [Bool.not_true]
    exact decide_eq_false fun h => dnB_true.1 e ((wo_conn hg hi).1 ((con_mem _ _ _ _).1 h).2.2)
  | false =>
    rw [Bool.not_false]
    refine decide_eq_true ((con_mem _ _ _ _).2 ⟨h1, h2, (wo_conn hg hi).2 (Classical.byContradiction fun h => ?_)⟩)
    rw [dnB_true.2 h] at e
    cases e
theorem dn_has {N : Nat} {ps : List Pp} {p : Pp} {s v : Int} (h1 : 1 ≤ v) (h2 : v ≤ N) : hasB (dnL N ps p s) v = dnB ps p s v := by
  unfold hasB
  cases e : dnB ps p s v with
  | true => exact decide_eq_true (dn_mem.2 ⟨⟨h1, h2⟩, dnB_true.1 e⟩)
  | false => exact decide_eq_false fun h => by rw [dnB_true.2 (dn_mem.1 h).2] at e; cases e
theorem dhas_v {l : List Int} {x : Int} {v : Bool} (hv : hasB l x = v) (A : Option Addr) (cap : Nat) (w : World) (h : IAt w A l) (hn : l.length ≤ 1048576) :
    Calls Try.prog 176 #[.slice A l.length cap, .int .i64 x] w fun e w' => e = .returned (.bool v) ∧ w' = w := by rw [← hv]; exact has_any A cap l x w h hn

set_option maxHeartbeats 4000000 in
set_option maxRecDepth 100000 in
theorem sdn_any (N t i : Nat) (A : Option Addr) (cap : Nat) (ps : List Pp) (w : World) (h : PAt w A ps) (hc : ps.length ≤ cap) (hg : P2.Good N ps) (ht1 : 1 ≤ t) (ht2 : t ≤ N) (hil : i < ps.length) :
    Calls Try.prog 205 #[nv N A ps.length cap, .int .i64 (t : Int), .int .i64 (i : Int)] w (GivesL w (dnL N ps (pAt ps i) t)) := by
  have hl10 := hg.2.2.1
  have hN : N ≤ 8 := by have := hg.2.1; omega
  have H1 := Lib.hid (fun w' (hb : Below w.heap.size w w') => sw_all N i cap A ps w' (h.kept hb (Nat.le_refl _)) hil hc hl10)
  have H2 := Lib.hid (fun A2 c w' (hp : PAt w' A2 (wo ps i)) => sreach_any N t A2 c (wo ps i) w' hp (good_sub hg (wo_sub ps i)) ht1 ht2)
  have HH := Lib.hid (fun (k : Nat) (hk : k < N) => wet_has (t := t) hg hil (v := (k : Int) + 1) (by omega) (by omega))
  have hcl := conL_len N (wo ps i) t
  have HL := Lib.hid (show dnL N ps (pAt ps i) t = dnTo ps (pAt ps i) t N from rfl)
  obtain ⟨i0, hi, hz0, hz1, hz2⟩ := info_parts infoI
  clear h hg hc
  generalize pAt ps i = p at *
  go_enter Try.func205, Try.ntmps205
  go_wp2_with (first
    | (go_at_call 130; refine (H1.out _ ((Below.refl _ _).alloc (Nat.le_refl _) _)).mono ?_; rintro e w1 ⟨A2, c2, rfl, hp2, hb1⟩; have HX1 := Lib.hid (show Below (w.heap.size + 1) (w.alloc (nb N A ps.length cap)) w1 by simpa using hb1); have HP2 := Lib.hid hp2; clear hb1 hp2)
    | (go_at_call 177; refine (H2.out _ _ _ HP2.out).mono ?_; rintro e w2 ⟨g, o, c, rfl, hg2, hla, hb2⟩; have HX2 := Lib.hid (on_call HX1.out hb2); have HLA := Lib.hid hla.iat; clear hb2 hla; refine Hid.out ?_))
  have hBX := HX2.out
  have hz2w := box_lt hBX
  have HB2 := Lib.hid (below_box hBX)
  obtain ⟨b0, b1⟩ := box2 hBX
  have HO0 := Lib.hid (own_empty w2 w2.heap.size (Nat.le_refl _))
  have HB0 := Lib.hid (show Below w2.heap.size w2 (w2.alloc (.cells #[] 3)) from (Below.refl _ _).alloc (Nat.le_refl _) _)
  clear H1 H2 HX1 HP2 hBX
  refine Lib.hid ?_
  go_wp2
  go_loopw [8, 9] (fun v i wr => ∃ k : Nat, k ≤ N ∧ i = .int .i64 ((k : Int) + 1) ∧ Hid (IOwn wr w2.heap.size v (dnTo ps p t k)) ∧ Hid (v ≠ .slice none 0 0) ∧ Hid (Below w2.heap.size w2 wr)) (fun _ i _ => N + 1 - (intOf i).toNat)
  case atStart => exact ⟨0, Nat.zero_le _, rfl, HO0, Lib.hid (by simp), HB0⟩
  case round =>
    clear HO0 HB0
    obtain ⟨k, hk, rfl, hown, hvn, hB⟩ := hrel
    have c0 := (hB.out.cell (p := ⟨w.heap.size, 0, none⟩) hz2w).trans b0
    have hzr : w.heap.size < wr.heap.size := by have := hB.out.size; omega
    by_cases hlt : k < N
    · have HW := Lib.hid (HLA.out.kept hB.out (Nat.le_refl _))
      have hhas := HH.out k hlt
      have hdl := dnTo_len ps p t k
      have hk0 : (k : Int) + 1 ≤ (N : Int) := by omega
      cases hd : dnB ps p t ((k : Int) + 1) with
      | false =>
        rw [hd, Bool.not_false] at hhas
        have HC := Lib.hid (fun w' h => dhas_v hhas (some ⟨g, o, none⟩) c w' h (by omega))
        have hs := Lib.hid (dnTo_no hd)
        rw [← hs.out] at hown
        clear hhas hd
        go_wp2_with (go_at_call 176; refine (HC.out _ HW.out).mono ?_; rintro e w4 ⟨rfl, hw⟩; replace hw := hw.symm; subst hw)
        go_roundw
        case rel => exact ⟨k + 1, by omega, by go_num, hown, hvn, hB⟩
        case measure => simp [intOf]; omega
      | true =>
        rw [hd, Bool.not_true] at hhas
        have HC := Lib.hid (fun w' h => dhas_v hhas (some ⟨g, o, none⟩) c w' h (by omega))
        have hs := Lib.hid (dnTo_yes hd)
        have ho := hown.out
        unfold IOwn at ho
        clear hhas hd
        go_wp2_with (first
          | (go_at_call 176; refine (HC.out _ HW.out).mono ?_; rintro e w4 ⟨rfl, hw⟩; replace hw := hw.symm; subst hw)
          | (at_builtin; go_must (refine wpList_append_own _ rfl _ _ 34 rfl w2.heap.size 3 i0 (.int .i64 0) 1 8 Try.underlying34 hi hz0 hz1 hz2 rfl (by decide) _ _ _ rfl (ho.alloc _) ⟨wr.heap.size, 0, none⟩ 1 1 [iv ((k : Int) + 1)] rfl rfl (cell_one_new _ _ _) (by intro u hu; simp at hu; subst hu; rfl) (by unfold maxLen; omega) (by omega) (by have := hB.out.size; simp; omega) ?_); intro v' w7 hown' hgrow hnil))
        have hown3 := Lib.hid (IOwn.push hown')
        rw [← hs.out] at hown3
        have hB7 := Lib.hid ((hB.out.alloc hB.out.size (.cells #[iv ((k : Int) + 1)] 3)).grown hgrow (by have := hB.out.size; simp; omega) (fun g hg => (ho.lt g hg).1))
        have hnil3 := Lib.hid (show v' ≠ .slice none 0 0 from fun e => by simp [e] at hnil)
        clear hown' hgrow hnil ho
        go_wp2
        go_roundw
        case rel => exact ⟨k + 1, by omega, by go_num, hown3, hnil3, hB7⟩
        case measure => simp [intOf]; omega
    · have hkN : k = N := by omega
      have hown2 := hown.out
      rw [hkN, ← HL.out] at hown2
      obtain ⟨g', capg, rfl, hg'⟩ := own_slice hown2 hvn.out
      have HO := Lib.hid hown2
      have hkn : ¬ (k : Int) + 1 ≤ (N : Int) := by omega
      clear hkN hown2
      go_wp2
      go_ret
      exact ⟨g', capg, rfl, by omega, own_lower HO.out, HB2.out.trans (hB.out.mono HB2.out.size)⟩

set_option maxHeartbeats 4000000 in
set_option maxRecDepth 100000 in
theorem stf_any (N t : Nat) (A : Option Addr) (cap : Nat) (ps : List Pp) (AD : Option Addr) (dc : Nat) (dm : List Int) (w : World) (h : PAt w A ps) (hc : ps.length ≤ cap) (hd : IAt w AD dm) (hg : P2.Good N ps) (ht1 : 1 ≤ t) (ht2 : t ≤ N) (hr : allR 0 1000 dm = true) (hdn : (dm.length : Int) = N) :
    Calls Try.prog 129 #[nv N A ps.length cap, .int .i64 (t : Int), .slice AD dm.length dc] w (GivesL w (tfL N ps t dm)) := by
  have hl10 := hg.2.2.1
  have hN : N ≤ 8 := by have := hg.2.1; omega
  have H := Lib.hid (fun (i : Nat) (hi : i < ps.length) w' (hb : Below w.heap.size w w') => sdn_any N t i A cap ps w' (h.kept hb (Nat.le_refl _)) hc hg ht1 ht2 hi)
  have HA := Lib.hid (fun w' (hb : Below w.heap.size w w') => h.kept hb (Nat.le_refl _))
  have HI := Lib.hid (fun w' (hb : Below w.heap.size w w') => hd.kept hb (Nat.le_refl _))
  have HTK := Lib.hid (fun (l : List Int) (hmm : ∀ v, v ∈ l → 1 ≤ v ∧ v ≤ (N : Int)) (hl : l.length ≤ 8) k (hk : k ≤ l.length) => sumT_in hr (by omega) hmm hl hk)
  have HG := Lib.hid (fun k (hk : k < ps.length) => good_pp hg (pAt_mem hk))
  have HL := Lib.hid (show tfL N ps t dm = tfTo N ps t dm ps.length from rfl)
  have HDL := Lib.hid hdn
  have HTL := Lib.hid (tfTo_len N ps t dm)
  have HTS := Lib.hid (tfTo_snoc N ps t dm)
  obtain ⟨i0, hi, hz0, hz1, hz2⟩ := info_parts infoI
  have HO0 := Lib.hid (show IOwn ((w.alloc (nb N A ps.length cap)).alloc (.cells #[] 3)) (w.heap.size + 1) (.slice (some ⟨w.heap.size + 1, 0, none⟩) 0 0) [] from by
    have := own_empty (w.alloc (nb N A ps.length cap)) (w.heap.size + 1) (by simp)
    simpa using this)
  have HB0 := Lib.hid (show Below (w.heap.size + 1) (w.alloc (nb N A ps.length cap)) ((w.alloc (nb N A ps.length cap)).alloc (.cells #[] 3)) from (Below.refl _ _).alloc (by simp) _)
  clear h hd hr hg hdn hc
  go_enter Try.func129, Try.ntmps129
  go_wp2
  go_loopw [7, 8] (fun v i wr => ∃ k : Nat, k ≤ ps.length ∧ i = .int .i64 (k : Int) ∧ Hid (IOwn wr (w.heap.size + 1) v (tfTo N ps t dm k)) ∧ Hid (v ≠ .slice none 0 0) ∧ Hid (Below (w.heap.size + 1) (w.alloc (nb N A ps.length cap)) wr)) (fun _ i _ => ps.length - (intOf i).toNat)
  case atStart => exact ⟨0, Nat.zero_le _, rfl, HO0, Lib.hid (by simp), HB0⟩
  case round =>
    clear HO0 HB0
    obtain ⟨k, hk, rfl, hown, hvn, hX⟩ := hrel
    obtain ⟨c0, c1⟩ := box2 hX.out
    have hzr := box_lt hX.out
    have hB := Lib.hid (below_box hX.out)
    by_cases hlt : k < ps.length
    · have hk0 : (0 : Int) ≤ (k : Int) := by omega
      have hkn : (k : Int) < (ps.length : Int) := by omega
      have hgp := HG.out k hlt
      have hdl := dn_len N ps (pAt ps k) t
      have HDM := Lib.hid (fun v (h : v ∈ dnL N ps (pAt ps k) t) => (dn_mem.1 h).1)
      have hhas := dn_has (N := N) (ps := ps) (p := pAt ps k) (s := t) (v := (pAt ps k).fr) hgp.2.2.1 hgp.2.2.2.1
      have HFA := Lib.hid (show flowA N ps t dm k = if dnB ps (pAt ps k) t (pAt ps k).fr = true then -(sumG (tk dm) (dnL N ps (pAt ps k) t)) else sumG (tk dm) (dnL N ps (pAt ps k) t) from rfl)
      have HLM := Lib.hid (fun j (hj : j < (dnL N ps (pAt ps k) t).length) => (show 1 ≤ lA (dnL N ps (pAt ps k) t) j ∧ lA (dnL N ps (pAt ps k) t) j ≤ (N : Int) from HDM.out _ (by
        have e : lA (dnL N ps (pAt ps k) t) j = (dnL N ps (pAt ps k) t)[j] := by simp [lA, List.getD, hj]
        rw [e]; exact List.getElem_mem hj)))
      have HSK := Lib.hid (fun j (hj : j ≤ (dnL N ps (pAt ps k) t).length) => HTK.out _ HDM.out (by omega) j hj)
      have hsum := sumG_all (tk dm) (dnL N ps (pAt ps k) t)
      rw [← hsum] at HFA
      obtain ⟨b, off, hA, hbl, p0, p1, p2, p3⟩ := (HA.out _ hB.out).at_ hlt
      subst hA
      have HK := Lib.hid (H.out k hlt _ hB.out)
      obtain ⟨F, hF⟩ : ∃ F, flowA N ps t dm k = F := ⟨_, rfl⟩
      rw [hF] at HFA
      have hsn := HTS.out k
      rw [hF] at hsn
      have HSN := Lib.hid hsn
      have hdlen := HTL.out k
      clear hsn hF hsum HDM hgp
      generalize dnB ps (pAt ps k) t (pAt ps k).fr = db at *
      generalize dnL N ps (pAt ps k) t = l at *
      generalize pAt ps k = p at *
      obtain ⟨SM, hSM⟩ : ∃ SM, SM = (fun j => sumK (fun i => tk dm (lA l i)) j) := ⟨_, rfl⟩
      have HSM0 := Lib.hid (fun j => (congrFun hSM j).symm)
      have HSM1 := Lib.hid (fun j => show SM (j + 1) = SM j + tk dm (lA l j) by rw [hSM]; rfl)
      clear hSM
      rw [HSM0.out l.length] at HFA
      have HSK2 := Lib.hid (fun j (hj : j ≤ l.length) => (show 0 ≤ SM j ∧ SM j ≤ 8000 by have := HSK.out j hj; rw [HSM0.out j] at this; exact this))
      have HSZ := Lib.hid (show SM 0 = 0 by rw [← HSM0.out 0]; rfl)
      clear HSM0 HSK
      go_wp2_with (go_at_call 205; refine HK.out.mono ?_; rintro e w3 ⟨gD, cD, rfl, hgD, hOD, hb3⟩; refine Hid.out ?_)
      have hX3 := Lib.hid (on_call hX.out hb3)
      have hB3 := Lib.hid (below_box hX3.out)
      have HD3 := Lib.hid hOD.iat
      have hO3 := Lib.hid (hown.out.on hb3)
      have r1 := (hb3.cell (p := ⟨b, off + k * 4 + 1, none⟩) hbl).trans p1
      have hbl3 : b < w3.heap.size := by have := hb3.size; omega
      clear c0 c1 hzr p0 p1 p2 p3 hbl hb3 hOD
      obtain ⟨c0, c1⟩ := box2 hX3.out
      have hzr := box_lt hX3.out
      refine Lib.hid ?_
      go_wp2
      go_loop [10, 11] (fun s i => ∃ j : Nat, j ≤ l.length ∧ i = .int .i64 (j : Int) ∧ s = .int .i64 (SM j)) (fun _ i => l.length - (intOf i).toNat)
      case atStart => exact ⟨0, Nat.zero_le _, rfl, by rw [HSZ.out]⟩
      case round =>
        obtain ⟨j, hj, rfl, rfl⟩ := hrel
        by_cases hjl : j < l.length
        · obtain ⟨v1, v2⟩ := HLM.out j hjl
          obtain ⟨u, hu⟩ : ∃ u : Nat, lA l j = (u : Int) + 1 := ⟨(lA l j - 1).toNat, by omega⟩
          have hud : u < dm.length := by have := HDL.out; omega
          obtain ⟨bb, of2, hA2, hbl2, x0⟩ := (HI.out _ hB3.out).at_ hud
          subst hA2
          obtain ⟨bN, oN, hAN, hblN, x1⟩ := HD3.out.at_ hjl
          simp only [Option.some.injEq, Addr.mk.injEq, and_true] at hAN
          obtain ⟨rfl, rfl⟩ := hAN
          rw [Nat.zero_add] at x1
          have hla : l.getD j 0 = lA l j := rfl
          rw [hla, hu] at x1
          have hs0 := HSK2.out j (by omega)
          have hs1 := HSK2.out (j + 1) hjl
          have hsn := HSM1.out j
          have htk : tk dm (lA l j) = dm.getD u 0 := by unfold tk; rw [hu, Int.add_sub_cancel, Int.toNat_natCast]
          rw [htk] at hsn
          have HSN2 := Lib.hid hsn
          rw [hsn] at hs1
          have hj0 : (0 : Int) ≤ (j : Int) := by omega
          have hjn : (j : Int) < (l.length : Int) := by omega
          have hu0 : (0 : Int) ≤ (u : Int) := by omega
          have hun : (u : Int) < (dm.length : Int) := by omega
          clear hsn htk hla hu v1 v2
          generalize dm.getD u 0 = x at *
          generalize SM j = s at *
          have wS : IntKind.i64.wrap (s + x) = s + x := w64 _ (by omega)
          have hu9 : (u : Int) < 9 := by have := HDL.out; omega
          have wU : IntKind.i64.wrap ((u : Int) + 1 - 1) = (u : Int) := by rw [w64 _ (by omega)]; omega
          have wU2 : IntKind.i64.wrap (u : Int) = (u : Int) := w64 _ (by omega)
          go_wp2
          go_round
          case rel => exact ⟨j + 1, by omega, by go_num, by rw [HSN2.out]⟩
          case measure => simp [intOf]; omega
        · have ej : j = l.length := by omega
          subst ej
          have HC := Lib.hid (fun w' h => dhas_v hhas (some ⟨gD, 0, none⟩) cD w' h (by omega))
          have hs0 := HSK2.out l.length (Nat.le_refl _)
          have ho := hO3.out
          unfold IOwn at ho
          have hz3 := hX3.out.size
          simp at hz3
          cases db with
          | true =>
            have hF : F = -(SM l.length) := by rw [HFA.out, if_pos rfl]
            have HFF := Lib.hid hF
            clear hF hhas
            generalize SM l.length = s at *
            go_wp2_with (first
              | (go_at_call 176; refine (HC.out _ HD3.out).mono ?_; rintro e w4 ⟨rfl, hw⟩; replace hw := hw.symm; subst hw)
              | (at_builtin; go_must (refine wpList_append_own _ rfl _ _ 34 rfl (w.heap.size + 1) 3 i0 (.int .i64 0) 1 8 Try.underlying34 hi hz0 hz1 hz2 rfl (by decide) _ _ _ rfl (ho.alloc _) ⟨w3.heap.size, 0, none⟩ 1 1 [iv (-s)] rfl rfl (cell_one_new _ _ _) (by intro u hu; simp at hu; subst hu; rfl) (by unfold maxLen; omega) (by omega) (by simp; omega) ?_); intro v' w7 hown' hgrow hnil))
            have hown3 := Lib.hid (IOwn.push hown')
            rw [← HFF.out, ← HSN.out] at hown3
            have hX7 := Lib.hid ((hX3.out.alloc (by omega) (.cells #[iv (-s)] 3)).grown hgrow (by simp; omega) (fun g hg => (ho.lt g hg).1))
            have hnil3 := Lib.hid (show v' ≠ .slice none 0 0 from fun e => by simp [e] at hnil)
            clear hown' hgrow hnil ho
            go_wp2
            go_roundw
            case rel => exact ⟨k + 1, by omega, by go_num, hown3, hnil3, hX7⟩
            case measure => simp [intOf]; omega
          | false =>
            have hF : F = SM l.length := by rw [HFA.out, if_neg (by simp)]
            have HFF := Lib.hid hF
            clear hF hhas
            generalize SM l.length = s at *
            go_wp2_with (first
              | (go_at_call 176; refine (HC.out _ HD3.out).mono ?_; rintro e w4 ⟨rfl, hw⟩; replace hw := hw.symm; subst hw)
              | (at_builtin; go_must (refine wpList_append_own _ rfl _ _ 34 rfl (w.heap.size + 1) 3 i0 (.int .i64 0) 1 8 Try.underlying34 hi hz0 hz1 hz2 rfl (by decide) _ _ _ rfl (ho.alloc _) ⟨w3.heap.size, 0, none⟩ 1 1 [iv s] rfl rfl (cell_one_new _ _ _) (by intro u hu; simp at hu; subst hu; rfl) (by unfold maxLen; omega) (by omega) (by simp; omega) ?_); intro v' w7 hown' hgrow hnil))
            have hown3 := Lib.hid (IOwn.push hown')
            rw [← HFF.out, ← HSN.out] at hown3
            have hX7 := Lib.hid ((hX3.out.alloc (by omega) (.cells #[iv s] 3)).grown hgrow (by simp; omega) (fun g hg => (ho.lt g hg).1))
            have hnil3 := Lib.hid (show v' ≠ .slice none 0 0 from fun e => by simp [e] at hnil)
            clear hown' hgrow hnil ho
            go_wp2
            go_roundw
            case rel => exact ⟨k + 1, by omega, by go_num, hown3, hnil3, hX7⟩
            case measure => simp [intOf]; omega
    · have hkN : k = ps.length := by omega
      have hown2 := hown.out
      rw [hkN, ← HL.out] at hown2
      obtain ⟨g', capg, rfl, hg'⟩ := own_slice hown2 hvn.out
      have HO := Lib.hid hown2
      clear hkN hown2
      go_wp2
      go_ret
      exact ⟨g', capg, rfl, by omega, own_lower HO.out, hB.out⟩
end Go.Proofs.Ytgjogjmfpbinfaa.S2
