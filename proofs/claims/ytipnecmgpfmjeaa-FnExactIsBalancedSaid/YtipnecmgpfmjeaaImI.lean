/- What the program's imbalances returns: contracts. Conditions: each theorem's own premises. -/
import Derived.Test.YtipnecmgpfmjeaaIm
namespace Go.Proofs.Ytipnecmgpfmjeaa.S2
open Go.RowKit P2

/-- It is asked of a valid network, a node, its demands and its flows. -/
noncomputable def askB (n : Int) (ps : List Pp) (s : Int) (dm fl : List Int) : Bool := nodeB n ps s && demB n ps dm && floB n ps fl
abbrev b9 : Obj := .cells #[.int .i64 0, .int .i64 0, .int .i64 0, .int .i64 0, .int .i64 0, .int .i64 0, .int .i64 0, .int .i64 0, .int .i64 0] 90
abbrev nb (n : Int) (A : Option Addr) (len cap : Nat) : Obj := .cells #[.int .i64 n, .slice A len cap] 26
theorem below3 (w : World) (o1 o2 o3 : Obj) : Below (w.heap.size + 1) (w.alloc o1) (((w.alloc o1).alloc o2).alloc o3) := (((Below.refl _ _).alloc (by simp) _).alloc (by simp) _)
theorem lift1 {w w1 w2 : World} (h : Below (w.heap.size + 1) w w1) (hb : Below w1.heap.size w1 w2) (hz : w.heap.size + 1 ≤ w1.heap.size) : Below (w.heap.size + 1) w w2 := h.trans (hb.mono hz)

set_option maxHeartbeats 2000000 in
theorem imb_no (n : Int) (A : Option Addr) (cap : Nat) (ps : List Pp) (s : Int) (AD : Option Addr) (dc : Nat) (dm : List Int) (AF : Option Addr) (fc : Nat) (fl : List Int) (w : World) (h : PAt w A ps) (hm : ps.length ≤ maxLen)
    (hd : IAt w AD dm) (hdl : dm.length ≤ 1048576) (hf : IAt w AF fl) (hfl : fl.length ≤ 1048576) (hv : askB n ps s dm fl = false) :
    Calls Try.prog 61 #[nv n A ps.length cap, .int .i64 s, .slice AD dm.length dc, .slice AF fl.length fc] w fun e w' => e = .returned (.tuple #[av (fun _ => 0), .bool false]) ∧ Below w.heap.size w w' := by
  obtain ⟨v1, hv1⟩ : ∃ v, nodeB n ps s = v := ⟨_, rfl⟩
  obtain ⟨v2, hv2⟩ : ∃ v, demB n ps dm = v := ⟨_, rfl⟩
  obtain ⟨v3, hv3⟩ : ∃ v, floB n ps fl = v := ⟨_, rfl⟩
  have H1 := Lib.hid (fun w' (hb : Below w.heap.size w w') => node_v hv1 A cap w' (h.kept hb (Nat.le_refl _)) hm)
  have H2 := Lib.hid (fun w' (hb : Below w.heap.size w w') => dem_v hv2 A cap AD dc w' (h.kept hb (Nat.le_refl _)) hm (hd.kept hb (Nat.le_refl _)) hdl)
  have H3 := Lib.hid (fun w' (hb : Below w.heap.size w w') => flo_v hv3 A cap AF fc w' (h.kept hb (Nat.le_refl _)) hm (hf.kept hb (Nat.le_refl _)) hfl)
  have HB3 := Lib.hid (fun w1 (hb : Below (((w.alloc (nb n A ps.length cap)).alloc b9).alloc b9).heap.size (((w.alloc (nb n A ps.length cap)).alloc b9).alloc b9) w1) => (show Below w.heap.size w w1 from ((((Below.refl _ _).alloc (Nat.le_refl _) _).alloc (by simp) _).alloc (by simp; omega) _).trans (hb.mono (by simp; omega))))
  have HW0 := Lib.hid (show Below w.heap.size w (((w.alloc (nb n A ps.length cap)).alloc b9).alloc b9) from ((((Below.refl _ _).alloc (Nat.le_refl _) _).alloc (by simp) _).alloc (by simp; omega) _))
  unfold askB at hv
  rw [hv1, hv2, hv3] at hv
  clear h hd hf hv1 hv2 hv3
  cases v1 with
  | false =>
    clear hv
    go_enter Try.func61, Try.ntmps61
    go_wp2_with (first | (go_at_call 69; refine (H1.out _ HW0.out).mono ?_; rintro e w1 ⟨rfl, hb1⟩; obtain ⟨hc1, hf1⟩ := bcell hb1; have hz1 := hb1.size; simp at hz1) | fail)
    exact bodyPost_ret (v := .tuple #[av (fun _ => 0), .bool false]) (by simp [results, Try.results61, go_sem, hc1]) rfl ⟨rfl, below_set9 (HB3.out _ hb1) (by omega) _ _ _ _ _ _ _ _ _⟩
  | true =>
    cases v2 with
    | false =>
      clear hv
      go_enter Try.func61, Try.ntmps61
      go_wp2_with (first
        | (go_at_call 69; refine (H1.out _ HW0.out).mono ?_; rintro e w1 ⟨rfl, hb1⟩; obtain ⟨hc1, hf1⟩ := bcell hb1; have hz1 := hb1.size; simp at hz1; have hq0 : w.heap.size < w1.heap.size := (by omega); have hq1 : w.heap.size + 1 < w1.heap.size := (by omega); have hq2 : w.heap.size + 1 + 1 < w1.heap.size := (by omega); have HB1 := Lib.hid (HB3.out _ hb1))
        | (go_at_call 54; refine (H2.out _ HB1.out).mono ?_; rintro e w2 ⟨rfl, hb2⟩; obtain ⟨hc2, hf2⟩ := bcell hb2; have hz2 := hb2.size; have hr0 : w.heap.size < w2.heap.size := (by omega); have hr1 : w.heap.size + 1 < w2.heap.size := (by omega); have hr2 : w.heap.size + 1 + 1 < w2.heap.size := (by omega); have HB2 := Lib.hid (HB1.out.trans (hb2.mono HB1.out.size)))
        | fail)
      exact bodyPost_ret (v := .tuple #[av (fun _ => 0), .bool false]) (by simp [results, Try.results61, go_sem, hc1, hc2, hq1]) rfl ⟨rfl, below_set9 HB2.out (by omega) _ _ _ _ _ _ _ _ _⟩
    | true =>
      cases v3 with
      | true => cases hv
      | false =>
        clear hv
        go_enter Try.func61, Try.ntmps61
        go_wp2_with (first
          | (go_at_call 69; refine (H1.out _ HW0.out).mono ?_; rintro e w1 ⟨rfl, hb1⟩; obtain ⟨hc1, hf1⟩ := bcell hb1; have hz1 := hb1.size; simp at hz1; have hq0 : w.heap.size < w1.heap.size := (by omega); have hq1 : w.heap.size + 1 < w1.heap.size := (by omega); have hq2 : w.heap.size + 1 + 1 < w1.heap.size := (by omega); have HB1 := Lib.hid (HB3.out _ hb1))
          | (go_at_call 54; refine (H2.out _ HB1.out).mono ?_; rintro e w2 ⟨rfl, hb2⟩; obtain ⟨hc2, hf2⟩ := bcell hb2; have hz2 := hb2.size; have hr0 : w.heap.size < w2.heap.size := (by omega); have hr1 : w.heap.size + 1 < w2.heap.size := (by omega); have hr2 : w.heap.size + 1 + 1 < w2.heap.size := (by omega); have HB2 := Lib.hid (HB1.out.trans (hb2.mono HB1.out.size)))
          | (go_at_call 71; refine (H3.out _ HB2.out).mono ?_; rintro e w3 ⟨rfl, hb3⟩; obtain ⟨hc3, hf3⟩ := bcell hb3; have hz3 := hb3.size; have hs0 : w.heap.size < w3.heap.size := (by omega); have hs1 : w.heap.size + 1 < w3.heap.size := (by omega); have hs2 : w.heap.size + 1 + 1 < w3.heap.size := (by omega); have HB4 := Lib.hid (HB2.out.trans (hb3.mono HB2.out.size)))
          | fail)
        exact bodyPost_ret (v := .tuple #[av (fun _ => 0), .bool false]) (by simp [results, Try.results61, go_sem, hc1, hc2, hc3, hq1, hr1]) rfl ⟨rfl, below_set9 HB4.out (by omega) _ _ _ _ _ _ _ _ _⟩

theorem askB_of {n : Int} {ps : List Pp} {s : Int} {dm fl : List Int} (h : askB n ps s dm fl = true) : nodeB n ps s = true ∧ demB n ps dm = true ∧ floB n ps fl = true := by
  unfold askB at h
  rw [Bool.and_eq_true, Bool.and_eq_true] at h
  exact ⟨h.1.1, h.1.2, h.2⟩

set_option maxHeartbeats 4000000 in
set_option maxRecDepth 100000 in
theorem imb_yes (N s : Nat) (A : Option Addr) (cap : Nat) (ps : List Pp) (AD : Option Addr) (dc : Nat) (dm : List Int) (AF : Option Addr) (fc : Nat) (fl : List Int) (w : World) (h : PAt w A ps) (hm : ps.length ≤ maxLen)
    (hd : IAt w AD dm) (hdl : dm.length ≤ 1048576) (hf : IAt w AF fl) (hfl : fl.length ≤ 1048576) (hv : askB N ps s dm fl = true) :
    Calls Try.prog 61 #[nv N A ps.length cap, .int .i64 (s : Int), .slice AD dm.length dc, .slice AF fl.length fc] w fun e w' => e = .returned (.tuple #[av (imbA s dm ps fl), .bool true]) ∧ Below w.heap.size w w' := by
  obtain ⟨hv1, hv2, hv3⟩ := askB_of hv
  obtain ⟨hg, hs1, hs2⟩ := nodeB_of hv1
  obtain ⟨_, hdn, hdr⟩ := demB_of hv2
  obtain ⟨_, hfn, hfr⟩ := floB_of hv3
  have hN8 : N ≤ 8 := by have := hg.2.1; omega
  have hl10 := hg.2.2.1
  have hdN : dm.length = N := by omega
  have hs9 : s < 9 := by omega
  have HG := Lib.hid hg
  have H1 := Lib.hid (fun w' (hb : Below w.heap.size w w') => node_v hv1 A cap w' (h.kept hb (Nat.le_refl _)) hm)
  have H2 := Lib.hid (fun w' (hb : Below w.heap.size w w') => dem_v hv2 A cap AD dc w' (h.kept hb (Nat.le_refl _)) hm (hd.kept hb (Nat.le_refl _)) hdl)
  have H3 := Lib.hid (fun w' (hb : Below w.heap.size w w') => flo_v hv3 A cap AF fc w' (h.kept hb (Nat.le_refl _)) hm (hf.kept hb (Nat.le_refl _)) hfl)
  have HA := Lib.hid (fun w' (hb : Below w.heap.size w w') => h.kept hb (Nat.le_refl _))
  have HD := Lib.hid (fun w' (hb : Below w.heap.size w w') => hd.kept hb (Nat.le_refl _))
  have HF := Lib.hid hf
  have HE := Lib.hid (fun k (hk : k < dm.length) => allR_at hdr hk)
  have HFE := Lib.hid (fun k (hk : k < fl.length) => allR_at hfr hk)
  have HI1 := Lib.hid (fun k (hk : k ≤ dm.length) v => dS_in (s := s) hdr (by omega) hk v)
  have HI2 := Lib.hid (fun k (hk : k ≤ fl.length) v => iS_in (s := s) (ps := ps) hdr (by omega) hfr (by omega) hk v)
  have HFN := Lib.hid hfn
  have HDN := Lib.hid hdN
  have HB3 := Lib.hid (fun w1 (hb : Below (((w.alloc (nb N A ps.length cap)).alloc b9).alloc b9).heap.size (((w.alloc (nb N A ps.length cap)).alloc b9).alloc b9) w1) => (show Below (w.heap.size + 1) (w.alloc (nb N A ps.length cap)) w1 from (((Below.refl _ _).alloc (by simp) _).alloc (by simp) _).trans (hb.mono (by simp))))
  have HW0 := Lib.hid (show Below w.heap.size w (((w.alloc (nb N A ps.length cap)).alloc b9).alloc b9) from ((((Below.refl _ _).alloc (Nat.le_refl _) _).alloc (by simp) _).alloc (by simp; omega) _))
  have HR0 := Lib.hid (show AR (((w.alloc (nb N A ps.length cap)).alloc b9).alloc b9) (w.heap.size + 1) (fun _ => 0) from by
    have := (AR.made (w.alloc (nb N A ps.length cap))).below ((Below.refl _ _).alloc (Nat.le_refl _) b9)
    simpa using this)
  have HR1 := Lib.hid (show AR (((w.alloc (nb N A ps.length cap)).alloc b9).alloc b9) (w.heap.size + 1 + 1) (fun _ => 0) from by
    have := AR.made ((w.alloc (nb N A ps.length cap)).alloc b9)
    simpa using this)
  clear h hd hf hv hv1 hv2 hv3 hg hdr hfr hfn hdN hdn hm hdl hfl
  go_enter Try.func61, Try.ntmps61
  go_wp2_with (first
    | (go_at_call 69; refine (H1.out _ HW0.out).mono ?_; rintro e w1 ⟨rfl, hb1⟩; have HB1 := Lib.hid (HB3.out _ hb1); have hR0 := Lib.hid (HR0.out.below hb1); have hR1 := Lib.hid (HR1.out.below hb1); clear HR0 HR1 hb1; obtain ⟨b0, b1⟩ := box2 HB1.out; have hz1 := box_lt HB1.out)
    | (go_at_call 54; refine (H2.out _ (below_box HB1.out)).mono ?_; rintro e w2 ⟨rfl, hb2⟩; have HB2 := Lib.hid (on_call HB1.out hb2); have hR2 := Lib.hid (hR0.out.below hb2); have hR3 := Lib.hid (hR1.out.below hb2); clear hR0 hR1 b0 b1 hb2 HB1; obtain ⟨b0, b1⟩ := box2 HB2.out; have hz2 := box_lt HB2.out)
    | (go_at_call 71; refine (H3.out _ (below_box HB2.out)).mono ?_; rintro e w3 ⟨rfl, hb3⟩; have HB4 := Lib.hid (on_call HB2.out hb3); have hR4 := Lib.hid (hR2.out.below hb3); have hR5 := Lib.hid (hR3.out.below hb3); clear hR2 hR3 b0 b1 hb3 HB2; obtain ⟨b0, b1⟩ := box2 HB4.out; have hz3 := box_lt HB4.out)
    | fail)
  clear H1 H2 H3 HW0 HB3 hz1 hz2
  have HR5 := Lib.hid (hR5.out.congr (fun v => (dS_zero s dm v).symm))
  clear hR5
  go_loopw [34] (fun i wr => ∃ k : Nat, k ≤ dm.length ∧ i = .int .i64 (k : Int) ∧ Hid (AR wr (w.heap.size + 1) (fun _ => 0)) ∧ Hid (AR wr (w.heap.size + 1 + 1) (dS s dm k)) ∧ Hid (Below (w.heap.size + 1) (w.alloc (nb N A ps.length cap)) wr)) (fun i _ => dm.length - (intOf i).toNat)
  case atStart => exact ⟨0, Nat.zero_le _, rfl, hR4, HR5, HB4⟩
  case round =>
    clear hR4 HR5 HB4 b0 b1 hz3
    obtain ⟨k, hk, rfl, hR4, hR5, HB4⟩ := hrel
    obtain ⟨b0, b1⟩ := box2 HB4.out
    have hz3 := box_lt HB4.out
    by_cases hlt : k < dm.length
    · obtain ⟨b, off, hA, hbl, q0⟩ := (HD.out _ (below_box HB4.out)).at_ hlt
      subst hA
      have hk0 : (0 : Int) ≤ (k : Int) := by omega
      have hkn : (k : Int) < (dm.length : Int) := by omega
      have hk9 : k + 1 < 9 := by have := HDN.out; omega
      have hk1 : (0 : Int) ≤ (k : Int) + 1 := by omega
      have hk19 : (k : Int) + 1 < 9 := by omega
      have hs0i : (0 : Int) ≤ (s : Int) := by omega
      have hs9i : (s : Int) < 9 := by omega
      have hy0 : 0 ≤ dm.getD k 0 := (HE.out k hlt).1
      have hy1 : dm.getD k 0 ≤ 1000 := (HE.out k hlt).2
      have hin1 := HI1.out k hk s
      have hin2 := HI1.out k hk (k + 1)
      have cs := hR5.out.cell hs9
      have ck := hR5.out.cell hk9
      have fs := hR5.out.frozen
      have fs1 := fs s
      have fk1 := fs (k + 1)
      have HST := Lib.hid (dS_step s dm k)
      have hlA : lA dm k = dm.getD k 0 := rfl
      rw [hlA] at HST
      clear hlA fs
      obtain ⟨y, hy⟩ : ∃ y, dm.getD k 0 = y := ⟨_, rfl⟩
      rw [hy] at q0 hy0 hy1 HST
      clear hy
      have hBn := Lib.hid (fun (x1 x2 : Value) => (HB4.out.setCell (p := ⟨w.heap.size + 1 + 1, s, none⟩) (by show w.heap.size + 1 ≤ w.heap.size + 1 + 1; omega) x1).setCell (p := ⟨w.heap.size + 1 + 1, k + 1, none⟩) (by show w.heap.size + 1 ≤ w.heap.size + 1 + 1; omega) x2)
      have hR4n := Lib.hid (fun (x1 x2 : Value) => (hR4.out.other (p := ⟨w.heap.size + 1 + 1, s, none⟩) x1 (by show w.heap.size + 1 ≠ w.heap.size + 1 + 1; omega)).other (p := ⟨w.heap.size + 1 + 1, k + 1, none⟩) x2 (by show w.heap.size + 1 ≠ w.heap.size + 1 + 1; omega))
      have hR5n := Lib.hid (fun (x1 x2 : Int) => (hR5.out.set s x1).set (k + 1) x2)
      by_cases hsk : s = k + 1
      · have HE1 : upd (dS s dm k) s (dS s dm k s + y) (k + 1) = dS s dm k s + y := by unfold upd; rw [if_pos hsk.symm]
        rw [HE1] at HST
        clear HE1 ck fk1 hin2
        rw [Int.add_sub_cancel] at HST
        subst hsk
        go_wp2
        go_roundw
        case rel => exact ⟨k + 1, by omega, by go_num, Lib.hid (hR4n.out _ _), Lib.hid ((hR5n.out _ _).congr HST.out), Lib.hid (hBn.out _ _)⟩
        case measure => simp [intOf]; omega
      · have HE1 : upd (dS s dm k) s (dS s dm k s + y) (k + 1) = dS s dm k (k + 1) := by unfold upd; rw [if_neg (fun h => hsk h.symm)]
        rw [HE1] at HST
        have hks : k + 1 ≠ s := fun h => hsk h.symm
        clear HE1
        go_wp2
        go_roundw
        case rel => exact ⟨k + 1, by omega, by go_num, Lib.hid (hR4n.out _ _), Lib.hid ((hR5n.out _ _).congr HST.out), Lib.hid (hBn.out _ _)⟩
        case measure => simp [intOf]; omega
    · have hkk : k = dm.length := by omega
      have HR6 := Lib.hid (show AR wr (w.heap.size + 1 + 1) (iS s dm ps fl 0) from hR5.out.congr (fun v => by unfold iS; rw [hkk, sumK]; omega))
      clear hR5 hkk HI1 HE HD
      go_wp2
      go_loopw [56] (fun i wr => ∃ k : Nat, k ≤ ps.length ∧ i = .int .i64 (k : Int) ∧ Hid (AR wr (w.heap.size + 1) (fun _ => 0)) ∧ Hid (AR wr (w.heap.size + 1 + 1) (iS s dm ps fl k)) ∧ Hid (Below (w.heap.size + 1) (w.alloc (nb N A ps.length cap)) wr)) (fun i _ => ps.length - (intOf i).toNat)
      case atStart => exact ⟨0, Nat.zero_le _, rfl, hR4, HR6, HB4⟩
      case round =>
        clear hR4 HR6 HB4 b0 b1 hz3 hlt hk
        obtain ⟨j, hj, rfl, hR4, hR5, HB4⟩ := hrel
        obtain ⟨b0, b1⟩ := box2 HB4.out
        have hz3 := box_lt HB4.out
        by_cases hlt : j < ps.length
        · obtain ⟨b, off, hA, hbl, p0, p1, p2, p3⟩ := (HA.out _ (below_box HB4.out)).at_ hlt
          subst hA
          have hjf : j < fl.length := by have := HFN.out; omega
          obtain ⟨bb, of2, hA2, hbl2, q00⟩ := HF.out.at_ hjf
          subst hA2
          have q0 := ((below_box HB4.out).cell (p := ⟨bb, of2 + j, none⟩) hbl2).trans q00
          clear q00
          have hmem : pAt ps j ∈ ps := by
            have e : pAt ps j = ps[j] := by simp [pAt, List.getD, hlt]
            rw [e]; exact List.getElem_mem hlt
          have hok := good_pp HG.out hmem
          have hk0 : (0 : Int) ≤ (j : Int) := by omega
          have hkn : (j : Int) < (ps.length : Int) := by omega
          have hknf : (j : Int) < (fl.length : Int) := by omega
          have hy0 : -8000 ≤ fl.getD j 0 := (HFE.out j hjf).1
          have hy1 : fl.getD j 0 ≤ 8000 := (HFE.out j hjf).2
          have HST := Lib.hid (fun a c h1 h2 h3 => iS_step (s := s) (dm := dm) (ps := ps) (fl := fl) (k := j) (a := a) (c := c) h1 h2 h3)
          have hlA : lA fl j = fl.getD j 0 := rfl
          rw [hlA] at HST
          clear hlA hmem
          obtain ⟨y, hy⟩ : ∃ y, fl.getD j 0 = y := ⟨_, rfl⟩
          rw [hy] at q0 hy0 hy1 HST
          clear hy
          unfold PpOk at hok
          generalize pAt ps j = p at *
          obtain ⟨id, fr, tt, sz⟩ := p
          simp only at hok p0 p1 p2 p3
          obtain ⟨a, rfl⟩ : ∃ a : Nat, fr = a := ⟨fr.toNat, by omega⟩
          obtain ⟨c, rfl⟩ : ∃ c : Nat, tt = c := ⟨tt.toNat, by omega⟩
          have hac : a ≠ c := by omega
          have hca : c ≠ a := by omega
          have ha9 : a < 9 := by omega
          have hc9 : c < 9 := by omega
          have ha0 : (0 : Int) ≤ (a : Int) := by omega
          have hc0 : (0 : Int) ≤ (c : Int) := by omega
          have ha9i : (a : Int) < 9 := by omega
          have hc9i : (c : Int) < 9 := by omega
          have HST2 := Lib.hid (HST.out a c rfl rfl hac)
          have hin1 := HI2.out j (by omega) a
          have hin2 := HI2.out j (by omega) c
          have hqa := (Below.refl wr.heap.size wr).alloc (Nat.le_refl _) (.cells #[.int .i64 id, .int .i64 (a : Int), .int .i64 (c : Int), .int .i64 sz] 40)
          have hR4q := Lib.hid (hR4.out.below hqa)
          have hR5q := Lib.hid (hR5.out.below hqa)
          have HBq := Lib.hid (on_call HB4.out hqa)
          have ca := hR5q.out.cell ha9
          have cc := hR5q.out.cell hc9
          have fa := hR5q.out.frozen a
          have fc' := hR5q.out.frozen c
          have r1 : (wr.alloc (.cells #[.int .i64 id, .int .i64 (a : Int), .int .i64 (c : Int), .int .i64 sz] 40)).cell? ⟨wr.heap.size, 1, none⟩ = some (.int .i64 (a : Int)) := by rw [World.cell?_alloc_at _ _ _ _ rfl]; rfl
          have r2 : (wr.alloc (.cells #[.int .i64 id, .int .i64 (a : Int), .int .i64 (c : Int), .int .i64 sz] 40)).cell? ⟨wr.heap.size, 2, none⟩ = some (.int .i64 (c : Int)) := by rw [World.cell?_alloc_at _ _ _ _ rfl]; rfl
          have q1 := (hqa.cell (p := ⟨bb, of2 + j, none⟩) (by show bb < wr.heap.size; have := (below_box HB4.out).size; omega)).trans q0
          have hzq : wr.heap.size < (wr.alloc (.cells #[.int .i64 id, .int .i64 (a : Int), .int .i64 (c : Int), .int .i64 sz] 40)).heap.size := by simp
          have hlt2 := hR5.out.lt
          clear hqa q0
          have hw1 : IntKind.i64.wrap (iS s dm ps fl j a - y) = iS s dm ps fl j a - y := IntWalk.i64_in _ (by omega)
          have hw2 : IntKind.i64.wrap (iS s dm ps fl j c + y) = iS s dm ps fl j c + y := IntWalk.i64_in _ (by omega)
          clear HST hok
          generalize iS s dm ps fl j a = ia at *
          generalize iS s dm ps fl j c = ic at *
          have hbb3 := (below_box HB4.out).size
          go_wp2
          generalize wr.alloc (.cells #[.int .i64 id, .int .i64 (a : Int), .int .i64 (c : Int), .int .i64 sz] 40) = wq at *
          have hbw : wr.heap.size ≠ w.heap.size + 1 + 1 := by omega
          have hwb : w.heap.size + 1 + 1 ≠ wr.heap.size := by omega
          have hbb : bb ≠ w.heap.size + 1 + 1 := by omega
          have hbb9 : w.heap.size + 1 + 1 ≠ bb := by omega
          have hbq : bb < wq.heap.size := by omega
          have hwq : w.heap.size + 1 + 1 < wq.heap.size := by omega
          clear hz3 b0 b1 p0 p1 p2 p3 hbl hbl2 HB4 hR4 hR5 hbb3 hlt2
          refine wp_region_held_drew (S := fun w' => w'.cell? ⟨wr.heap.size, 1, none⟩ = some (.int .i64 (a : Int)) ∧ w'.cell? ⟨bb, of2 + j, none⟩ = some (.int .i64 y)) (by kernel_rfl) (by go_keep) (fun hHeld => ?_)
          refine wpAnyH_take (i := 0) (v := .pointer (some ⟨wr.heap.size, 1, none⟩)) rfl (by kernel_rfl) (by kernel_rfl) (by kernel_rfl) (fun _ _ _ h => h) (Or.inl ⟨by rfl, ?_⟩) (by assumption) ?_
          · (intro w hSw; (try dsimp only at hSw); go_simp)
          simp only [Act.put, List.setIfInBounds_toArray]
          refine wpAnyH_take (i := 1) (v := .int .i64 (a : Int)) rfl (by kernel_rfl) (by kernel_rfl) (by kernel_rfl) (fun _ _ _ h => h) (Or.inl ⟨by rfl, ?_⟩) (by assumption) ?_
          · (intro w hSw; (try dsimp only at hSw); go_simp)
          simp only [Act.put]
          refine wpAnyH_take (i := 2) (v := .pointer (some ⟨w.heap.size + 1 + 1, a, none⟩)) rfl (by kernel_rfl) (by kernel_rfl) (by kernel_rfl) (fun _ _ _ h => h) (Or.inl ⟨by rfl, ?_⟩) (by assumption) ?_
          · (intro w hSw; (try dsimp only at hSw); go_simp)
          simp only [Act.put]
          refine wpAnyH_take (i := 4) (v := .slice (some ⟨bb, of2, none⟩) fl.length fc) rfl (by kernel_rfl) (by kernel_rfl) (by kernel_rfl) (fun _ _ _ h => h) (Or.inl ⟨by rfl, ?_⟩) (by assumption) ?_
          · (intro w hSw; (try dsimp only at hSw); go_simp)
          simp only [Act.put]
          refine wpAnyH_take (i := 5) (v := .int .i64 (j : Int)) rfl (by kernel_rfl) (by kernel_rfl) (by kernel_rfl) (fun _ _ _ h => h) (Or.inl ⟨by rfl, ?_⟩) (by assumption) ?_
          · (intro w hSw; (try dsimp only at hSw); go_simp)
          simp only [Act.put]
          refine wpAnyH_take (i := 6) (v := .pointer (some ⟨bb, of2 + j, none⟩)) rfl (by kernel_rfl) (by kernel_rfl) (by kernel_rfl) (fun _ _ _ h => h) (Or.inl ⟨by rfl, ?_⟩) (by assumption) ?_
          · (intro w hSw; (try dsimp only at hSw); go_simp)
          simp only [Act.put]
          refine wpAnyH_take (i := 7) (v := .int .i64 y) rfl (by kernel_rfl) (by kernel_rfl) (by kernel_rfl) (fun _ _ _ h => h) (Or.inl ⟨by rfl, ?_⟩) (by assumption) ?_
          · (intro w hSw; (try dsimp only at hSw); go_simp)
          simp only [Act.put]
          refine wpAnyH_ready (rs := [3]) (by kernel_rfl) (by simp) ?_
          refine AllReadyH.cons rfl (fun K hK => ?_) AllReadyH.nil
          go_simp
          refine hK.out _ _ (by first | assumption | go_keep) (fun hHeld => ?_)
          clear hK K
          refine wpAnyH_ready (rs := [8]) (by kernel_rfl) (by simp) ?_
          refine AllReadyH.cons rfl (fun K hK => ?_) AllReadyH.nil
          go_simp
          refine hK.out _ _ (by first | assumption | go_keep) (fun hHeld => ?_)
          clear hK K
          refine wpAnyH_ready (rs := [9]) (by kernel_rfl) (by simp) ?_
          refine AllReadyH.cons rfl (fun K hK => ?_) AllReadyH.nil
          go_simp
          refine hK.out _ _ (by first | assumption | go_keep) (fun hHeld => ?_)
          clear hK K
          refine wpAnyH_ready (rs := [10]) (by kernel_rfl) (by simp) ?_
          refine AllReadyH.cons rfl (fun K hK => ?_) AllReadyH.nil
          go_simp
          refine hK.out _ _ (by first | assumption | go_keep) (fun hHeld => ?_)
          clear hK K
          refine wpAnyH_done (by kernel_rfl) ?_ _
          go_wp2
          refine wp_region_held_drew (S := fun w' => w'.cell? ⟨wr.heap.size, 2, none⟩ = some (.int .i64 (c : Int)) ∧ w'.cell? ⟨bb, of2 + j, none⟩ = some (.int .i64 y)) (by kernel_rfl) (by go_keep) (fun hHeld => ?_)
          refine wpAnyH_take (i := 0) (v := .pointer (some ⟨wr.heap.size, 2, none⟩)) rfl (by kernel_rfl) (by kernel_rfl) (by kernel_rfl) (fun _ _ _ h => h) (Or.inl ⟨by rfl, ?_⟩) (by assumption) ?_
          · (intro w hSw; (try dsimp only at hSw); go_simp)
          simp only [Act.put, List.setIfInBounds_toArray]
          refine wpAnyH_take (i := 1) (v := .int .i64 (c : Int)) rfl (by kernel_rfl) (by kernel_rfl) (by kernel_rfl) (fun _ _ _ h => h) (Or.inl ⟨by rfl, ?_⟩) (by assumption) ?_
          · (intro w hSw; (try dsimp only at hSw); go_simp)
          simp only [Act.put]
          refine wpAnyH_take (i := 2) (v := .pointer (some ⟨w.heap.size + 1 + 1, c, none⟩)) rfl (by kernel_rfl) (by kernel_rfl) (by kernel_rfl) (fun _ _ _ h => h) (Or.inl ⟨by rfl, ?_⟩) (by assumption) ?_
          · (intro w hSw; (try dsimp only at hSw); go_simp)
          simp only [Act.put]
          refine wpAnyH_take (i := 4) (v := .slice (some ⟨bb, of2, none⟩) fl.length fc) rfl (by kernel_rfl) (by kernel_rfl) (by kernel_rfl) (fun _ _ _ h => h) (Or.inl ⟨by rfl, ?_⟩) (by assumption) ?_
          · (intro w hSw; (try dsimp only at hSw); go_simp)
          simp only [Act.put]
          refine wpAnyH_take (i := 5) (v := .int .i64 (j : Int)) rfl (by kernel_rfl) (by kernel_rfl) (by kernel_rfl) (fun _ _ _ h => h) (Or.inl ⟨by rfl, ?_⟩) (by assumption) ?_
          · (intro w hSw; (try dsimp only at hSw); go_simp)
          simp only [Act.put]
          refine wpAnyH_take (i := 6) (v := .pointer (some ⟨bb, of2 + j, none⟩)) rfl (by kernel_rfl) (by kernel_rfl) (by kernel_rfl) (fun _ _ _ h => h) (Or.inl ⟨by rfl, ?_⟩) (by assumption) ?_
          · (intro w hSw; (try dsimp only at hSw); go_simp)
          simp only [Act.put]
          refine wpAnyH_take (i := 7) (v := .int .i64 y) rfl (by kernel_rfl) (by kernel_rfl) (by kernel_rfl) (fun _ _ _ h => h) (Or.inl ⟨by rfl, ?_⟩) (by assumption) ?_
          · (intro w hSw; (try dsimp only at hSw); go_simp)
          simp only [Act.put]
          refine wpAnyH_ready (rs := [3]) (by kernel_rfl) (by simp) ?_
          refine AllReadyH.cons rfl (fun K hK => ?_) AllReadyH.nil
          go_simp
          refine hK.out _ _ (by first | assumption | go_keep) (fun hHeld => ?_)
          clear hK K
          refine wpAnyH_ready (rs := [8]) (by kernel_rfl) (by simp) ?_
          refine AllReadyH.cons rfl (fun K hK => ?_) AllReadyH.nil
          go_simp
          refine hK.out _ _ (by first | assumption | go_keep) (fun hHeld => ?_)
          clear hK K
          refine wpAnyH_ready (rs := [9]) (by kernel_rfl) (by simp) ?_
          refine AllReadyH.cons rfl (fun K hK => ?_) AllReadyH.nil
          go_simp
          refine hK.out _ _ (by first | assumption | go_keep) (fun hHeld => ?_)
          clear hK K
          refine wpAnyH_ready (rs := [10]) (by kernel_rfl) (by simp) ?_
          refine AllReadyH.cons rfl (fun K hK => ?_) AllReadyH.nil
          go_simp
          refine hK.out _ _ (by first | assumption | go_keep) (fun hHeld => ?_)
          clear hK K
          refine wpAnyH_done (by kernel_rfl) ?_ _
          go_wp2
          go_roundw
          case rel => exact ⟨j + 1, by omega, by go_num, Lib.hid (((hR4q.out.other (p := ⟨w.heap.size + 1 + 1, a, none⟩) (iv (ia - y)) (by show w.heap.size + 1 ≠ w.heap.size + 1 + 1; omega)).other (p := ⟨w.heap.size + 1 + 1, c, none⟩) (iv (ic + y)) (by show w.heap.size + 1 ≠ w.heap.size + 1 + 1; omega))), Lib.hid (((hR5q.out.set a (ia - y)).set c (ic + y)).congr HST2.out), Lib.hid ((HBq.out.setCell (p := ⟨w.heap.size + 1 + 1, a, none⟩) (by show w.heap.size + 1 ≤ w.heap.size + 1 + 1; omega) (iv (ia - y))).setCell (p := ⟨w.heap.size + 1 + 1, c, none⟩) (by show w.heap.size + 1 ≤ w.heap.size + 1 + 1; omega) (iv (ic + y))).drew.drew⟩
          case measure => simp [intOf]; omega
        · have hjj : j = ps.length := by omega
          have hR6 := hR5.out
          rw [hjj] at hR6
          have HR6 := Lib.hid (show AR wr (w.heap.size + 1 + 1) (imbA s dm ps fl) from hR6)
          clear hR6 hR5 hjj
          have c0 := HR6.out.cell (v := 0) (by omega)
          have d0 := hR4.out.cell (v := 0) (by omega)
          have f0 := hR4.out.frozen 0
          have c1 := HR6.out.cell (v := 1) (by omega)
          have d1 := hR4.out.cell (v := 1) (by omega)
          have f1 := hR4.out.frozen 1
          have c2 := HR6.out.cell (v := 2) (by omega)
          have d2 := hR4.out.cell (v := 2) (by omega)
          have f2 := hR4.out.frozen 2
          have c3 := HR6.out.cell (v := 3) (by omega)
          have d3 := hR4.out.cell (v := 3) (by omega)
          have f3 := hR4.out.frozen 3
          have c4 := HR6.out.cell (v := 4) (by omega)
          have d4 := hR4.out.cell (v := 4) (by omega)
          have f4 := hR4.out.frozen 4
          have c5 := HR6.out.cell (v := 5) (by omega)
          have d5 := hR4.out.cell (v := 5) (by omega)
          have f5 := hR4.out.frozen 5
          have c6 := HR6.out.cell (v := 6) (by omega)
          have d6 := hR4.out.cell (v := 6) (by omega)
          have f6 := hR4.out.frozen 6
          have c7 := HR6.out.cell (v := 7) (by omega)
          have d7 := hR4.out.cell (v := 7) (by omega)
          have f7 := hR4.out.frozen 7
          have c8 := HR6.out.cell (v := 8) (by omega)
          have d8 := hR4.out.cell (v := 8) (by omega)
          have f8 := hR4.out.frozen 8
          have hlt9 := HR6.out.lt
          go_wp2
          exact bodyPost_ret (v := .tuple #[av (imbA s dm ps fl), .bool true]) (by simp [results, Try.results61, go_sem, d0, d1, d2, d3, d4, d5, d6, d7, d8]) rfl ⟨rfl, below_set9 (below_box HB4.out) (by omega) _ _ _ _ _ _ _ _ _⟩
end Go.Proofs.Ytipnecmgpfmjeaa.S2
