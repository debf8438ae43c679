/- Both sides of TreeFlows and IsBalanced at once, and what holds of a tree's flows: contracts. Conditions: each theorem's own premises. -/
import Derived.Test.YtlkomipjamelkabTPB
import Derived.Test.YtlkomipjamelkabTB
import Derived.Test.YtlkomipjamelkabNetKit
import Derived.Maps.AppendAt
import Derived.Test.YtlkomipjamelkabTrS
import Derived.Test.YtlkomipjamelkabTPA
import Derived.Laws.StructEq
import Derived.Laws.Rows
import Derived.Test.YtlkomipjamelkabFindOne
import Derived.Test.YtlkomipjamelkabSortSh
import Derived.Sort.OwnSortedInts
namespace Go.Proofs.Ytlkomipjamelkab.S2
open Go.RowKit P2

theorem fiI_at0 (l : List Int) (k : Nat) (h : k < l.length) : (fiI l k)[k]? = some (iv 0) := by
  unfold fiI
  have e : ((l.take k).map iv).length = k := by simp; omega
  rw [List.getElem?_append_right (by omega), e, Nat.sub_self, List.getElem?_replicate, if_pos (by omega)]
theorem fiI_set0 (l : List Int) (k : Nat) (h : k < l.length) : (fiI l k).set k (iv 0) = fiI l k := by
  apply List.ext_getElem?
  intro i
  rw [List.getElem?_set]
  by_cases e : k = i
  · subst e
    rw [if_pos rfl, fiI_at0 l k h, if_pos (by rw [fiI_len l k (by omega)]; exact h)]
  · rw [if_neg e]
theorem grown_drewF (w : World) (row : Option Nat) : w.grownBy w.drew row := ⟨rfl, rfl, rfl, Nat.le_refl _, fun _ _ _ => rfl⟩
abbrev q00 : Pp := ⟨0, 0, 0, 0⟩

/-- A fresh slice of numbers that has no room for more, beside true. -/
def GivesC (w : World) (l : List Int) (e : Ending) (w' : World) : Prop :=
  ∃ g, e = .returned (.tuple #[.slice (some ⟨g, 0, none⟩) l.length l.length, .bool true]) ∧ w.heap.size ≤ g ∧ IOwn w' w.heap.size (.slice (some ⟨g, 0, none⟩) l.length l.length) l ∧ Below w.heap.size w w'

set_option maxHeartbeats 1000000 in
theorem tfl_no1 (n : Int) (A : Option Addr) (cap : Nat) (ps : List Pp) (x : Int) (AD : Option Addr) (dc : Nat) (dm : List Int) (w : World) (hT : ∀ w', Below w.heap.size w w' → Calls Try.prog 57 #[nv n A ps.length cap, .int .i64 x] w' fun e w'' => e = .returned (.tuple #[bv 0 ⟨0, 0, 0, 0⟩ none 0 0, .bool false]) ∧ Below w'.heap.size w' w'') :
    Calls Try.prog 9 #[nv n A ps.length cap, .int .i64 x, .slice AD dm.length dc] w (GivesI w [] false) := by
  have H := Lib.hid hT
  clear hT
  go_enter Try.func9, Try.ntmps9
  go_wp2_with (go_at_call 57; refine (H.out _ ((Below.refl _ _).alloc (Nat.le_refl _) _)).mono ?_; rintro e w1 ⟨rfl, hb1⟩; have hB1 := Lib.hid (((Below.refl w.heap.size w).alloc (Nat.le_refl _) (nb n A ps.length cap)).trans (hb1.mono (by simp))); clear hb1)
  go_ret2
  have h9 := gives_none (hB1.out.alloc hB1.out.size (.cells #[.int .i64 0, .int .i64 0, .int .i64 0, .int .i64 0, .int .i64 0, .slice none 0 0] 82))
  rw [show (w1.alloc (.cells #[.int .i64 0, .int .i64 0, .int .i64 0, .int .i64 0, .int .i64 0, .slice none 0 0] 82)).heap.size = w1.heap.size + 1 from by simp] at h9
  exact h9
set_option maxHeartbeats 2000000 in
set_option maxRecDepth 100000 in
theorem tfl_no2 (N t : Nat) (A : Option Addr) (cap : Nat) (ps : List Pp) (AD : Option Addr) (dc : Nat) (dm : List Int) (w : World) (h : PAt w A ps) (hm : ps.length ≤ maxLen) (hd : IAt w AD dm) (hdl : dm.length ≤ 1048576) (hv : demB N ps dm = false) (hT : ∀ w', Below w.heap.size w w' → Calls Try.prog 57 #[nv N A ps.length cap, .int .i64 (t : Int)] w' (TfIs N ps t w')) :
    Calls Try.prog 9 #[nv N A ps.length cap, .int .i64 (t : Int), .slice AD dm.length dc] w (GivesI w [] false) := by
  have H := Lib.hid hT
  have H2 := Lib.hid (fun w' (hb : Below w.heap.size w w') => dem_v hv A cap AD dc w' (h.kept hb (Nat.le_refl _)) hm (hd.kept hb (Nat.le_refl _)) hdl)
  clear hT h hd hv
  go_enter Try.func9, Try.ntmps9
  go_wp2_with (first
    | (go_at_call 57; refine (H.out _ ((Below.refl _ _).alloc (Nat.le_refl _) _)).mono ?_; rintro e w1 ⟨A4, c4, rfl, hrep, hb1⟩; have HB1 := Lib.hid (show Below (w.heap.size + 1) (w.alloc (nb N A ps.length cap)) w1 from by simpa using hb1); clear hb1 hrep; obtain ⟨b0, b1⟩ := box2 HB1.out; have hy1 : w.heap.size < w1.heap.size := box_lt HB1.out; generalize (kidsL ps (t : Int) ⟨0, 0, 0, 0⟩).length = m4)
    | (go_at_call 58; refine (H2.out _ ((below_box HB1.out).alloc (below_box HB1.out).size _)).mono ?_; rintro e w2 ⟨rfl, hb2⟩; have HB2 := Lib.hid (((below_box HB1.out).alloc (below_box HB1.out).size (.cells #[.int .i64 (t : Int), .int .i64 0, .int .i64 0, .int .i64 0, .int .i64 0, .slice A4 m4 c4] 82)).trans (hb2.mono (by have := (below_box HB1.out).size; simp; omega)))))
  go_ret2
  exact gives_none HB2.out

set_option maxHeartbeats 4000000 in
set_option maxRecDepth 100000 in
theorem tfl_cap (N t : Nat) (A : Option Addr) (cap : Nat) (ps : List Pp) (AD : Option Addr) (dc : Nat) (dm : List Int) (w : World) (h : PAt w A ps) (hm : ps.length ≤ maxLen) (hd : IAt w AD dm) (hdl : dm.length ≤ 1048576) (hn : nodeB N ps t = true) (ht : treeB N ps = true) (hv : demB N ps dm = true) :
    Calls Try.prog 9 #[nv N A ps.length cap, .int .i64 (t : Int), .slice AD dm.length dc] w (GivesC w (tfL N ps t dm)) := by
  obtain ⟨hg, hdn, hr⟩ := demB_of hv
  obtain ⟨_, ht1, ht2⟩ := nodeB_of hn
  have hl10 := hg.2.2.1
  have hN8 := hg.2.1
  have ha := (tree_full hg ht).1
  have H := Lib.hid (fun w' (hb : Below w.heap.size w w') => tf_ok hn ht ha A cap w' (h.kept hb (Nat.le_refl _)) hm)
  have H2 := Lib.hid (fun w' (hb : Below w.heap.size w w') => dem_v hv A cap AD dc w' (h.kept hb (Nat.le_refl _)) hm (hd.kept hb (Nat.le_refl _)) hdl)
  have HA := Lib.hid (fun w' (hb : Below w.heap.size w w') => h.kept hb (Nat.le_refl _))
  have HI := Lib.hid (fun w' (hb : Below w.heap.size w w') => hd.kept hb (Nat.le_refl _))
  have HFE := Lib.hid (fun k (hk : k < ps.length) => far_end (t := t) hg ht (by omega) (by omega) (pAt_mem hk))
  have HBB := Lib.hid (fun (B : Nat) (p0 : Pp) (A : Option Addr) (cap : Nat) (w : World) (hB : B ≤ w.heap.size) (hr : RepIn ps (fun b => b < B) (N + 1) w A t ⟨0, 0, 0, 0⟩) => bbeh_any (fun b => b < B) B (fun _ h => h) hg ha p0 (N + 1) t ⟨0, 0, 0, 0⟩ A cap w hB (br_root hg (by omega) (by omega)) (cnt_le _ _ _ _) hr)
  have HBN := Lib.hid (fun (B d : Nat) (x : Int) (q : Pp) (A : Option Addr) (cap : Nat) (w : World) => bnodes_any ps (fun b => b < B) hl10 d x q A cap w)
  have HTK := Lib.hid (fun (l : List Int) (hmm : ∀ v, v ∈ l → 1 ≤ v ∧ v ≤ (N : Int)) (hl : l.length ≤ 8) k (hk : k ≤ l.length) => sumT_in hr (by omega) hmm hl hk)
  have HTI := Lib.hid (fun v (h1 : 1 ≤ v) (h2 : v ≤ (N : Int)) => tk_in hr (by omega) h1 h2)
  have HLL := Lib.hid (tfL_len N ps t dm)
  have HLA := Lib.hid (fun k (hk : k < ps.length) => tfL_at (N := N) (s := t) (dm := dm) hk)
  have HDL := Lib.hid hdn
  have hmk := run_make_row' (P := Try.prog) 27 3 (.int .i64 0) 8 Try.underlying27 infoI rfl .i64 .i64 ps.length (by omega) (by omega)
  have HO := Lib.hid (fun w => made_own (tfL N ps t dm) w (by rw [tfL_len]; omega))
  have HF := Lib.hid (fiI_full (tfL N ps t dm))
  have HFS := Lib.hid (fun k (hk : k < ps.length) => fiI_set (tfL N ps t dm) k (by rw [tfL_len]; exact hk))
  have HF0 := Lib.hid (fun k (hk : k < ps.length) => fiI_set0 (tfL N ps t dm) k (by rw [tfL_len]; exact hk))
  have HFL := Lib.hid (fun k (hk : k ≤ ps.length) => fiI_len (tfL N ps t dm) k (by rw [tfL_len]; exact hk))
  rw [HLL.out] at HO HF HFL
  clear h hm hd hdl hn ht hv hr ha hg hdn
  go_enter Try.func9, Try.ntmps9
  go_wp2_with (first
    | (go_at_call 57; refine (H.out _ ((Below.refl _ _).alloc (Nat.le_refl _) _)).mono ?_; rintro e w1 ⟨A4, c4, rfl, hrep, hb1⟩; have HB1 := Lib.hid (show Below (w.heap.size + 1) (w.alloc (nb N A ps.length cap)) w1 from by simpa using hb1); have HREP1 := Lib.hid hrep; clear hb1 hrep; obtain ⟨b0, b1⟩ := box2 HB1.out; have hy1 : w.heap.size < w1.heap.size := box_lt HB1.out; obtain ⟨m4, hm4⟩ : ∃ m4, (kidsL ps (t : Int) ⟨0, 0, 0, 0⟩).length = m4 := ⟨_, rfl⟩; rw [hm4] at HBB; have HM4 := Lib.hid hm4; rw [hm4]; clear hm4)
    | (go_at_call 58; refine (H2.out _ ((below_box HB1.out).alloc (below_box HB1.out).size _)).mono ?_; rintro e w2 ⟨rfl, hb2⟩; refine Hid.out ?_))
  have hab1 := alloc_belowE w1 (.cells #[.int .i64 (t : Int), .int .i64 0, .int .i64 0, .int .i64 0, .int .i64 0, .slice A4 m4 c4] 82)
  have hb12 : Below w1.heap.size w1 w2 := hab1.trans (hb2.mono (by simp))
  have HX2 := Lib.hid (on_call HB1.out hb12)
  have HB2 := Lib.hid (below_box HX2.out)
  have hz12 : w1.heap.size < w2.heap.size := by have := hb2.size; simp at this; omega
  have HT2 : Hid (BC w2 w1.heap.size 0 t ⟨0, 0, 0, 0⟩ (.slice A4 m4 c4)) := Lib.hid (by
    have hz : w1.heap.size < (w1.alloc (.cells #[.int .i64 (t : Int), .int .i64 0, .int .i64 0, .int .i64 0, .int .i64 0, .slice A4 m4 c4] 82)).heap.size := by simp
    exact ⟨(hb2.cell (p := ⟨w1.heap.size, 0, none⟩) hz).trans (cells_new6 w1 _ _ _ _ _ _ _ 0 _ rfl), (hb2.cell (p := ⟨w1.heap.size, 1, none⟩) hz).trans (cells_new6 w1 _ _ _ _ _ _ _ 1 _ rfl), (hb2.cell (p := ⟨w1.heap.size, 2, none⟩) hz).trans (cells_new6 w1 _ _ _ _ _ _ _ 2 _ rfl), (hb2.cell (p := ⟨w1.heap.size, 3, none⟩) hz).trans (cells_new6 w1 _ _ _ _ _ _ _ 3 _ rfl), (hb2.cell (p := ⟨w1.heap.size, 4, none⟩) hz).trans (cells_new6 w1 _ _ _ _ _ _ _ 4 _ rfl), (hb2.cell (p := ⟨w1.heap.size, 5, none⟩) hz).trans (cells_new6 w1 _ _ _ _ _ _ _ 5 _ rfl)⟩)
  have HREP2 := Lib.hid (RepIn.kept (Q := fun b => b < w2.heap.size) (fun b _ hlt => (show b < w2.heap.size by omega)) (fun b _ hlt => hb12.block b hlt) hb12.size _ _ _ _ HREP1.out)
  have HO2 := Lib.hid (HO.out w2)
  clear b0 b1
  obtain ⟨b0, b1⟩ := box2 HX2.out
  have hy2 := box_lt HX2.out
  clear hab1 hb12 hb2 HB1 HREP1 H H2 HO
  refine Lib.hid ?_
  go_wp2
  clear hmk
  have HB0 := Lib.hid (show Below w2.heap.size w2 (w2.alloc (.cells (madeCells #[.int .i64 0] ps.length) 3)) from (Below.refl _ _).alloc (Nat.le_refl _) _)
  go_loopw [39] (fun i wr => ∃ k : Nat, k ≤ ps.length ∧ i = .int .i64 k ∧ Hid (wr.ownsRow w2.heap.size 3 1 (.slice (some ⟨w2.heap.size, 0, none⟩) ps.length ps.length) ps.length (fiI (tfL N ps t dm) k)) ∧ Hid (Below w2.heap.size w2 wr)) (fun i _ => ps.length - (intOf i).toNat)
  case atStart => exact ⟨0, Nat.zero_le _, rfl, HO2, HB0⟩
  case round =>
    clear HB0 HO2
    obtain ⟨k, hk, rfl, hown, hB⟩ := hrel
    by_cases hlt : k < ps.length
    · obtain ⟨b, off, hA, hbl, p0, p1, p2, p3⟩ := (HA.out _ (HB2.out.trans (hB.out.mono HB2.out.size))).at_ hlt
      subst hA
      have hk0 : (0 : Int) ≤ (k : Int) := by omega
      have hkn : (k : Int) < (ps.length : Int) := by omega
      obtain ⟨y, hfy, hy12, hyb, hys, hyp⟩ := HFE.out k hlt
      have HFA := Lib.hid (HLA.out k hlt)
      have HS0 := Lib.hid (HFS.out k hlt)
      have HZ0 := Lib.hid (HF0.out k hlt)
      rw [HFA.out] at HS0
      have HFLO := Lib.hid (show ((pAt ps k).fr = y → flowA N ps t dm k = -(sumG (tk dm) (dnL N ps (pAt ps k) t))) ∧ (¬ (pAt ps k).fr = y → flowA N ps t dm k = sumG (tk dm) (dnL N ps (pAt ps k) t)) from ⟨fun e => by unfold flowA; rw [if_pos (hys.2 e)], fun e => by unfold flowA; rw [if_neg (fun h => e (hys.1 h))]⟩)
      have HYP := Lib.hid hyp
      have HFY := Lib.hid hfy
      have HDM := Lib.hid (fun v (h : v ∈ dnL N ps (pAt ps k) t) => (dn_mem.1 h).1)
      have HDN := Lib.hid (dn_len N ps (pAt ps k) t)
      have hrow := (hown.out.lt w2.heap.size rfl).2
      clear hfy hyb hys hyp hy12 HFA HFE HLA HFS HF0
      generalize flowA N ps t dm k = F at *
      generalize pAt ps k = p at *
      have hab := alloc_belowE wr (.cells #[.int .i64 p.id, .int .i64 p.fr, .int .i64 p.to, .int .i64 p.sz] 40)
      have hO2 := Lib.hid (own_on hown.out hab)
      have hBa := Lib.hid (hB.out.trans (hab.mono hB.out.size))
      have d0 := cells4 wr (.int .i64 p.id) (.int .i64 p.fr) (.int .i64 p.to) (.int .i64 p.sz) 40 0 _ rfl
      have d1 := cells4 wr (.int .i64 p.id) (.int .i64 p.fr) (.int .i64 p.to) (.int .i64 p.sz) 40 1 _ rfl
      have d2 := cells4 wr (.int .i64 p.id) (.int .i64 p.fr) (.int .i64 p.to) (.int .i64 p.sz) 40 2 _ rfl
      have d3 := cells4 wr (.int .i64 p.id) (.int .i64 p.fr) (.int .i64 p.to) (.int .i64 p.sz) 40 3 _ rfl
      have hzz : wr.heap.size < (wr.alloc (.cells #[.int .i64 p.id, .int .i64 p.fr, .int .i64 p.to, .int .i64 p.sz] 40)).heap.size := by simp
      have hz2r := hB.out.size
      obtain ⟨t0, t1, t2, t3, t4, t5⟩ := HT2.out.kept (hBa.out.block w1.heap.size hz12)
      have htz : w1.heap.size < (wr.alloc (.cells #[.int .i64 p.id, .int .i64 p.fr, .int .i64 p.to, .int .i64 p.sz] 40)).heap.size := by omega
      have HRP := Lib.hid (HREP2.out.below hBa.out)
      go_wp2_with (first
        | (go_at_call 59; refine (HBB.out w2.heap.size p A4 c4 _ (by simp; omega) HRP.out).mono ?_; rintro e w5 ⟨hbe, hb5⟩; rw [HFY.out] at hbe; obtain ⟨A5, c5, d5, rfl, hbo, hcd, hrep5⟩ := beh_some hbe; obtain ⟨m5, hm5⟩ : ∃ m5, (kidsL ps y p).length = m5 := ⟨_, rfl⟩; have HBN5 := Lib.hid (HBN.out w2.heap.size d5 y p A5 c5); rw [hm5] at HBN5; rw [hm5]; clear hm5; refine Hid.out ?_))
      have hperm := HYP.out d5 hbo hcd
      obtain ⟨l, hl⟩ : ∃ l, nodesL ps d5 y p = l := ⟨_, rfl⟩
      rw [hl] at hperm HBN5
      have hl8 : l.length ≤ 8 := by rw [hperm.length_eq]; have := HDN.out; omega
      have hlm : ∀ v, v ∈ l → 1 ≤ v ∧ v ≤ (N : Int) := fun v hv => HDM.out v (hperm.mem_iff.1 hv)
      have HLM := Lib.hid (fun j (hj : j < l.length) => (show 1 ≤ lA l j ∧ lA l j ≤ (N : Int) from hlm _ (by
        have e : lA l j = l[j] := by simp [lA, List.getD, hj]
        rw [e]; exact List.getElem_mem hj)))
      have HSK := Lib.hid (fun j (hj : j ≤ l.length) => HTK.out l hlm hl8 j hj)
      have hsum : sumK (fun i => tk dm (lA l i)) l.length = sumG (tk dm) (dnL N ps p t) := by rw [sumG_all, sumG_perm hperm]
      rw [← hsum] at HFLO
      have hb5a := hBa.out.trans (hb5.mono hBa.out.size)
      have hbr5 := hab.trans (hb5.mono hab.size)
      clear hperm hl hlm hsum hbo hcd hbe HYP HFY HDN HDM HBN HRP t0 t1 t2 t3 t4 t5 htz p0 p1 p2 p3 hbl
      have HR5 := Lib.hid hrep5
      have hO5 := own_on hO2.out hb5
      have e1 := (hb5.cell (p := ⟨wr.heap.size, 1, none⟩) hzz).trans d1
      have hz5 : wr.heap.size < w5.heap.size := by have := hb5.size; omega
      have hab5 := alloc_belowE w5 (.cells #[.int .i64 y, .int .i64 p.id, .int .i64 p.fr, .int .i64 p.to, .int .i64 p.sz, .slice A5 m5 c5] 82)
      have e2 := (hab5.cell (p := ⟨wr.heap.size, 1, none⟩) hz5).trans e1
      have hO5a := Lib.hid (own_on hO5 hab5)
      have hbase5 := Lib.hid (hb5a.trans (hab5.mono hb5a.size))
      have f0 := cells_new6 w5 (.int .i64 y) (.int .i64 p.id) (.int .i64 p.fr) (.int .i64 p.to) (.int .i64 p.sz) (.slice A5 m5 c5) 82 0 _ rfl
      have hz55 : w5.heap.size < (w5.alloc (.cells #[.int .i64 y, .int .i64 p.id, .int .i64 p.fr, .int .i64 p.to, .int .i64 p.sz, .slice A5 m5 c5] 82)).heap.size := by simp
      have HRP5 := Lib.hid (hrep5.below hab5)
      have hzg5 : w2.heap.size < w5.heap.size := by omega
      clear d0 d1 d2 d3 hzz hab hO2 hBa hO5 e1 hb5 hrep5 hb5a hbr5 HR5 hab5
      refine Lib.hid ?_
      go_wp2_with (first
        | (go_at_call 60; refine (HBN5.out _ HRP5.out (by omega)).mono ?_; rintro e w6 ⟨gN, cN, rfl, hgN, hON, hb6⟩; refine Hid.out ?_))
      have g1 := (hb6.cell (p := ⟨wr.heap.size, 1, none⟩) (by simp; omega)).trans e2
      have g2 := (hb6.cell (p := ⟨w5.heap.size, 0, none⟩) hz55).trans f0
      have HO6 := Lib.hid (own_on hO5a.out hb6)
      have HB6 := Lib.hid (hbase5.out.trans (hb6.mono hbase5.out.size))
      have HN6 := Lib.hid hON.iat
      have hz6 : w5.heap.size < w6.heap.size := by have := hb6.size; omega
      have hgN2 : w5.heap.size < gN := by simp at hgN; omega
      have hgNl := iown_lt' hON
      clear e2 f0 hO5a hbase5 hb6 hON HRP5 hz55 HBN5 hgN
      refine Lib.hid ?_
      go_wp2
      have hkx := HFL.out k hk
      have HX0 := Lib.hid (show w6.ownsRow w2.heap.size 3 1 (.slice (some ⟨w2.heap.size, 0, none⟩) ps.length ps.length) ps.length ((fiI (tfL N ps t dm) k).set k (iv (sumK (fun i => tk dm (lA l i)) 0))) from by
        have := HO6.out
        rw [← HZ0.out] at this
        exact this)
      have HG0 := Lib.hid (show w6.grownBy w6 (some w2.heap.size) from grown_refl w6 _)
      have hgw6 : w2.heap.size < w6.heap.size := by omega
      generalize fiI (tfL N ps t dm) k = XS at *
      obtain ⟨XS1, hXS1⟩ : ∃ z, fiI (tfL N ps t dm) (k + 1) = z := ⟨_, rfl⟩
      rw [hXS1] at HS0
      have HXS1 := Lib.hid hXS1
      clear hXS1
      obtain ⟨SM, hSM⟩ : ∃ SM, SM = (fun j => sumK (fun i => tk dm (lA l i)) j) := ⟨_, rfl⟩
      have HSM0 := Lib.hid (fun j => (congrFun hSM j).symm)
      have HSM1 := Lib.hid (fun j => show SM (j + 1) = SM j + tk dm (lA l j) by rw [hSM]; rfl)
      clear hSM
      rw [HSM0.out 0] at HX0
      rw [HSM0.out l.length] at HFLO
      have HSK2 := Lib.hid (fun j (hj : j ≤ l.length) => (show 0 ≤ SM j ∧ SM j ≤ 8000 by have := HSK.out j hj; rw [HSM0.out j] at this; exact this))
      have HSZ := Lib.hid (show SM 0 = 0 by rw [← HSM0.out 0]; rfl)
      clear HSM0 HSK HO6 HZ0 hown hB
      obtain ⟨wo, hwo⟩ : ∃ wo, wo = wr := ⟨_, rfl⟩
      subst hwo
      go_loopw [53] (fun i wi => ∃ j : Nat, j ≤ l.length ∧ i = .int .i64 (j : Int) ∧ Hid (wi.ownsRow w2.heap.size 3 1 (.slice (some ⟨w2.heap.size, 0, none⟩) ps.length ps.length) ps.length (XS.set k (iv (SM j)))) ∧ Hid (w6.grownBy wi (some w2.heap.size)) ∧ Hid (Below w2.heap.size w2 wi)) (fun i _ => l.length - (intOf i).toNat)
      case atStart => exact ⟨0, Nat.zero_le _, rfl, HX0, HG0, HB6⟩
      case round =>
        obtain ⟨j, hj, rfl, hrw, hgr, hBi⟩ := hrel
        clear HX0 HG0
        by_cases hjl : j < l.length
        · obtain ⟨v1, v2⟩ := HLM.out j hjl
          obtain ⟨u, hu⟩ : ∃ u : Nat, lA l j = (u : Int) + 1 := ⟨(lA l j - 1).toNat, by omega⟩
          have hud : u < dm.length := by have := HDL.out; omega
          obtain ⟨bb, of2, hA2, hbl2, x0⟩ := (HI.out _ (HB2.out.trans (hBi.out.mono HB2.out.size))).at_ hud
          subst hA2
          obtain ⟨bN, oN, hAN, hblN, x1⟩ := (HN6.out.far hgr.out (by omega)).at_ hjl
          simp only [Option.some.injEq, Addr.mk.injEq, and_true] at hAN
          obtain ⟨rfl, rfl⟩ := hAN
          rw [Nat.zero_add] at x1
          have hla : l.getD j 0 = lA l j := rfl
          rw [hla, hu] at x1
          have hs0 := HSK2.out j (by omega)
          have hs1 := HSK2.out (j + 1) hjl
          have hsn := HSM1.out j
          have htk : tk dm (lA l j) = dm.getD u 0 := by unfold tk; rw [hu, Int.add_sub_cancel, Int.toNat_natCast]
          rw [htk] at hsn
          have HSN := Lib.hid hsn
          rw [hsn] at hs1
          have hgrow := (hrw.out.lt w2.heap.size rfl).2
          have hj0 : (0 : Int) ≤ (j : Int) := by omega
          have hjn : (j : Int) < (l.length : Int) := by omega
          have hu0 : (0 : Int) ≤ (u : Int) := by omega
          have hun : (u : Int) < (dm.length : Int) := by omega
          have hcell := (hrw.out.cellAt k (by omega)).trans (show (XS.set k (iv (SM j)))[k]? = some (iv (SM j)) by rw [List.getElem?_set, if_pos rfl, if_pos (by rw [hkx]; exact hlt)])
          have hfz := hrw.out.frozenAt k
          have hst0 := hrw.out.stored k (iv (SM j + dm.getD u 0))
          rw [List.set_set] at hst0
          have HST := Lib.hid hst0
          clear hst0 hsn htk hla hu v1 v2
          generalize dm.getD u 0 = x at *
          generalize SM j = s at *
          have wS : IntKind.i64.wrap (s + x) = s + x := w64 _ (by omega)
          have hu9 : (u : Int) < 9 := by have := HDL.out; omega
          have wU : IntKind.i64.wrap ((u : Int) + 1 - 1) = (u : Int) := by rw [w64 _ (by omega)]; omega
          have wU2 : IntKind.i64.wrap (u : Int) = (u : Int) := w64 _ (by omega)
          go_wp2
          go_region_with (fail)
          all_goals
            go_wp2
            go_roundw
            · exact ⟨j + 1, by omega, by go_num, by rw [HSN.out]; exact Lib.hid HST.out.1, Lib.hid ((hgr.out.trans HST.out.2).trans (grown_drewF _ _)), Lib.hid (hBi.out.setCell (p := ⟨w2.heap.size, k, none⟩) (Nat.le_refl _) _).drew⟩
            · simp [intOf]; omega
        · have ej : j = l.length := by omega
          subst ej
          have y1 := (hgr.out.cell_far ⟨wo.heap.size, 1, none⟩ (by dsimp only; omega) (by simp; omega)).trans g1
          have y2 := (hgr.out.cell_far ⟨w5.heap.size, 0, none⟩ (by dsimp only; omega) (by simp; omega)).trans g2
          have hszi := hgr.out.size
          have hyz1 : wo.heap.size < wr.heap.size := by omega
          have hyz2 : w5.heap.size < wr.heap.size := by omega
          have hs0 := HSK2.out l.length (Nat.le_refl _)
          have hgrow := (hrw.out.lt w2.heap.size rfl).2
          by_cases hpy : p.fr = y
          · have hF := HFLO.out.1 hpy
            have g0 : (p.fr == y) = true := beq_iff_eq.2 hpy
            have hcell := (hrw.out.cellAt k (by omega)).trans (show (XS.set k (iv (SM l.length)))[k]? = some (iv (SM l.length)) by rw [List.getElem?_set, if_pos rfl, if_pos (by rw [hkx]; exact hlt)])
            have hfz := hrw.out.frozenAt k
            have hst0 := hrw.out.stored k (iv (-(SM l.length)))
            rw [List.set_set, ← hF, HS0.out] at hst0
            have HST := Lib.hid hst0
            have HFF := Lib.hid hF
            clear hst0 hF hpy
            generalize SM l.length = s at *
            go_wp2
            go_roundw
            case rel => exact ⟨k + 1, by omega, by go_num, by rw [HXS1.out]; have := HST.out.1; rw [HFF.out] at this; exact Lib.hid this, Lib.hid (hBi.out.setCell (p := ⟨w2.heap.size, k, none⟩) (Nat.le_refl _) _)⟩
            case measure => simp [intOf]; omega
          · have hF := HFLO.out.2 hpy
            have g0 : (p.fr == y) = false := beq_eq_false_iff_ne.2 hpy
            have hrow2 := hrw.out
            rw [← hF, HS0.out] at hrow2
            have HRW := Lib.hid hrow2
            clear hrow2 hF hpy
            go_wp2
            go_roundw
            case rel => exact ⟨k + 1, by omega, by go_num, by rw [HXS1.out]; exact HRW, hBi⟩
            case measure => simp [intOf]; omega
    · have e : k = ps.length := by omega
      subst e
      have hown2 := hown.out
      rw [HF.out] at hown2
      have H2 := Lib.hid hown2
      clear hown hown2
      go_wp2
      go_ret2
      exact ⟨_, by rw [HLL.out]; rfl, by omega, own_lower (by unfold IOwn; rw [HLL.out]; exact H2.out), HB2.out.trans (hB.out.mono HB2.out.size)⟩
theorem tfl_yes (N t : Nat) (A : Option Addr) (cap : Nat) (ps : List Pp) (AD : Option Addr) (dc : Nat) (dm : List Int) (w : World) (h : PAt w A ps) (hm : ps.length ≤ maxLen) (hd : IAt w AD dm) (hdl : dm.length ≤ 1048576) (hn : nodeB N ps t = true) (ht : treeB N ps = true) (hv : demB N ps dm = true) :
    Calls Try.prog 9 #[nv N A ps.length cap, .int .i64 (t : Int), .slice AD dm.length dc] w (GivesI w (tfL N ps t dm) true) :=
  (tfl_cap N t A cap ps AD dc dm w h hm hd hdl hn ht hv).mono fun _ _ ⟨g, he, hg, ho, hb⟩ => ⟨g, _, he, hg, ho, hb⟩
end Go.Proofs.Ytlkomipjamelkab.S2

namespace Go.Proofs.Ytlkomipjamelkab.S2
open Go.RowKit P2
theorem gives_none9 {w w0 : World} (h : Below w0.heap.size w0 w) : GivesA w0 [] false (.returned (.tuple #[.slice (some ⟨w.heap.size, 0, none⟩) 0 0, .bool false])) (w.alloc (.cells #[] 3)) :=
  ⟨_, 0, 0, rfl, h.size, .inl rfl, h.alloc h.size _, by simp⟩
set_option maxHeartbeats 2000000 in
theorem stfl_no (n : Int) (A : Option Addr) (cap : Nat) (ps : List Pp) (x : Int) (AD : Option Addr) (dc : Nat) (dm : List Int) (w : World) (h : PAt w A ps) (hm : ps.length ≤ maxLen) (hd : IAt w AD dm) (hdl : dm.length ≤ 1048576)
    (hv : nodeB n ps x = false ∨ demB n ps dm = false ∨ ∃ N : Nat, n = N ∧ treeB N ps = false) :
    Calls Try.prog 10 #[nv n A ps.length cap, .int .i64 x, .slice AD dm.length dc] w (GivesA w [] false) := by
  obtain ⟨v1, hv1⟩ : ∃ v, nodeB n ps x = v := ⟨_, rfl⟩
  obtain ⟨v3, hv3⟩ : ∃ v, amtB dm n 0 1000 = v := ⟨_, rfl⟩
  have H1 := Lib.hid (fun w' (hb : Below w.heap.size w w') => snode_v hv1 A cap w' (h.kept hb (Nat.le_refl _)) hm)
  have H3 := Lib.hid (fun w' (hb : Below w.heap.size w w') => sdem_v hv3 A ps.length cap AD dc w' (hd.kept hb (Nat.le_refl _)) hdl)
  cases v1 with
  | false =>
    clear h hd hv hv1 hv3
    go_enter Try.func10, Try.ntmps10
    go_wp2_with (go_at_call 61; refine (H1.out _ ((Below.refl _ _).alloc (Nat.le_refl _) _)).mono ?_; rintro e w1 ⟨rfl, hb1⟩)
    go_ret2
    exact gives_none9 (below_alloc_call hb1)
  | true =>
    obtain ⟨hg, hx1, hx2⟩ := nodeB_of hv1
    obtain ⟨N, rfl⟩ := good_nat hg
    cases v3 with
    | false =>
      clear h hd hv hv1 hv3
      go_enter Try.func10, Try.ntmps10
      go_wp2_with (first
        | (go_at_call 61; refine (H1.out _ ((Below.refl _ _).alloc (Nat.le_refl _) _)).mono ?_; rintro e w1 ⟨rfl, hb1⟩; have HX1 := Lib.hid (show Below (w.heap.size + 1) (w.alloc (nb N A ps.length cap)) w1 by simpa using hb1); obtain ⟨b0, b1⟩ := box2 HX1.out; have hy1 := box_lt HX1.out; clear hb1)
        | (go_at_call 62; refine (H3.out _ (below_box HX1.out)).mono ?_; rintro e w3 ⟨rfl, hb3⟩; have HX3 := Lib.hid (on_call HX1.out hb3); clear b0 b1; obtain ⟨b0, b1⟩ := box2 HX3.out; have hy3 := box_lt HX3.out; clear hb3))
      go_ret2
      exact gives_none9 (below_box HX3.out)
    | true =>
      have ht : treeB N ps = false := by
        rcases hv with h | h | ⟨M, e, h⟩
        · exact absurd (h.symm.trans hv1) (by simp)
        · unfold demB at h; rw [good_mk hg, hv3] at h; cases h
        · have : M = N := by omega
          subst this
          exact h
      have H4 := Lib.hid (fun w' (hb : Below w.heap.size w w') => stree_v ht A cap w' (h.kept hb (Nat.le_refl _)) hg)
      clear h hd hv hv1 hv3 hg ht
      go_enter Try.func10, Try.ntmps10
      go_wp2_with (first
        | (go_at_call 61; refine (H1.out _ ((Below.refl _ _).alloc (Nat.le_refl _) _)).mono ?_; rintro e w1 ⟨rfl, hb1⟩; have HX1 := Lib.hid (show Below (w.heap.size + 1) (w.alloc (nb N A ps.length cap)) w1 by simpa using hb1); obtain ⟨b0, b1⟩ := box2 HX1.out; have hy1 := box_lt HX1.out; clear hb1)
        | (go_at_call 62; refine (H3.out _ (below_box HX1.out)).mono ?_; rintro e w3 ⟨rfl, hb3⟩; have HX3 := Lib.hid (on_call HX1.out hb3); clear b0 b1; obtain ⟨b0, b1⟩ := box2 HX3.out; have hy3 := box_lt HX3.out; clear hb3)
        | (go_at_call 63; refine (H4.out _ (below_box HX3.out)).mono ?_; rintro e w4 ⟨rfl, hb4⟩; have HX4 := Lib.hid (on_call HX3.out hb4); clear b0 b1; obtain ⟨b0, b1⟩ := box2 HX4.out; have hy4 := box_lt HX4.out; clear hb4))
      go_ret2
      exact gives_none9 (below_box HX4.out)

set_option maxHeartbeats 2000000 in
theorem stfl_yes (N t : Nat) (A : Option Addr) (cap : Nat) (ps : List Pp) (AD : Option Addr) (dc : Nat) (dm : List Int) (w : World) (h : PAt w A ps) (hm : ps.length ≤ maxLen) (hc : ps.length ≤ cap) (hd : IAt w AD dm) (hdl : dm.length ≤ 1048576) (hn : nodeB N ps t = true) (ht : treeB N ps = true) (hv : demB N ps dm = true) :
    Calls Try.prog 10 #[nv N A ps.length cap, .int .i64 (t : Int), .slice AD dm.length dc] w (GivesA w (tfL N ps t dm) true) := by
  obtain ⟨hg, hdn, hr⟩ := demB_of hv
  obtain ⟨_, hx1, hx2⟩ := nodeB_of hn
  unfold demB at hv
  rw [Bool.and_eq_true] at hv
  have H1 := Lib.hid (fun w' (hb : Below w.heap.size w w') => snode_v hn A cap w' (h.kept hb (Nat.le_refl _)) hm)
  have H3 := Lib.hid (fun w' (hb : Below w.heap.size w w') => sdem_v hv.2 A ps.length cap AD dc w' (hd.kept hb (Nat.le_refl _)) hdl)
  have H4 := Lib.hid (fun w' (hb : Below w.heap.size w w') => stree_v ht A cap w' (h.kept hb (Nat.le_refl _)) hg)
  have H5 := Lib.hid (fun w' (hb : Below w.heap.size w w') => stf_any N t A cap ps AD dc dm w' (h.kept hb (Nat.le_refl _)) hc (hd.kept hb (Nat.le_refl _)) hg (by omega) (by omega) hr hdn)
  clear h hd hv hn ht hg hdn hr hc
  go_enter Try.func10, Try.ntmps10
  go_wp2_with (first
    | (go_at_call 61; refine (H1.out _ ((Below.refl _ _).alloc (Nat.le_refl _) _)).mono ?_; rintro e w1 ⟨rfl, hb1⟩; have HX1 := Lib.hid (show Below (w.heap.size + 1) (w.alloc (nb N A ps.length cap)) w1 by simpa using hb1); obtain ⟨b0, b1⟩ := box2 HX1.out; have hy1 := box_lt HX1.out; clear hb1)
    | (go_at_call 62; refine (H3.out _ (below_box HX1.out)).mono ?_; rintro e w3 ⟨rfl, hb3⟩; have HX3 := Lib.hid (on_call HX1.out hb3); clear b0 b1; obtain ⟨b0, b1⟩ := box2 HX3.out; have hy3 := box_lt HX3.out; clear hb3)
    | (go_at_call 63; refine (H4.out _ (below_box HX3.out)).mono ?_; rintro e w4 ⟨rfl, hb4⟩; have HX4 := Lib.hid (on_call HX3.out hb4); clear b0 b1; obtain ⟨b0, b1⟩ := box2 HX4.out; have hy4 := box_lt HX4.out; clear hb4)
    | (go_at_call 64; refine (H5.out _ (below_box HX4.out)).mono ?_; rintro e w5 ⟨g, c, rfl, hg5, hO, hb5⟩))
  go_ret2
  have hz := (below_box HX4.out).size
  exact ⟨g, 0, c, rfl, by omega, hO.iat, (below_box HX4.out).trans (hb5.mono hz), iown_lt' hO⟩

/-! ### DownstreamNodes -/
end Go.Proofs.Ytlkomipjamelkab.S2

namespace Go.Proofs.Ytlkomipjamelkab.S2
open Go.RowKit P2

theorem tb_nn {g : Int → Int} : ∀ {l : List Int}, (∀ v, v ∈ l → 0 ≤ g v) → 0 ≤ sumG g l
  | [], _ => Int.le_refl _
  | x :: l, h => by
    have h1 := h x (by simp)
    have h2 := tb_nn (l := l) fun v hv => h v (by simp [hv])
    show 0 ≤ g x + sumG g l
    omega
theorem tb_filter {g : Int → Int} {p : Int → Bool} : ∀ {l : List Int}, (∀ v, v ∈ l → 0 ≤ g v) → sumG g (l.filter p) ≤ sumG g l
  | [], _ => Int.le_refl _
  | x :: l, h => by
    have h1 := h x (by simp)
    have h2 := tb_filter (p := p) (l := l) fun v hv => h v (by simp [hv])
    have e : sumG g (x :: l) = g x + sumG g l := rfl
    cases hp : p x with
    | false => rw [List.filter_cons_of_neg (by simp [hp])]; omega
    | true =>
      rw [List.filter_cons_of_pos hp]
      show g x + sumG g (l.filter p) ≤ _
      omega
theorem tk_up (dm : List Int) (k : Nat) : tk dm ((k : Int) + 1) = lA dm k := by
  unfold tk lA
  rw [show ((k : Int) + 1 - 1).toNat = k by omega]
theorem tb_up (dm : List Int) : ∀ k, sumG (tk dm) (upL k) = sumK (lA dm) k
  | 0 => rfl
  | k + 1 => by
    rw [upL_snoc, sumG_app, tb_up dm k]
    have e := tk_up dm k
    show sumK (lA dm) k + (tk dm ((k : Int) + 1) + 0) = sumK (lA dm) k + lA dm k
    omega
/-- What flows behind a pipe of a tree. -/
noncomputable def behS (N : Nat) (ps : List Pp) (s : Int) (dm : List Int) (i : Nat) : Int := sumG (tk dm) (dnL N ps (pAt ps i) s)
theorem beh_le {N : Nat} {ps : List Pp} {s : Int} {dm : List Int} (hr : allR 0 1000 dm = true) (hl : dm.length = N) (i : Nat) : 0 ≤ behS N ps s dm i ∧ behS N ps s dm i ≤ sumL dm := by
  have hnn : ∀ v, v ∈ upL N → 0 ≤ tk dm v := fun v hv => (tk_in hr hl (upL_mem.1 hv).1 (upL_mem.1 hv).2).1
  have h1 : sumG (tk dm) (dnL N ps (pAt ps i) s) ≤ sumL dm := by
    have := tb_filter (p := dnB ps (pAt ps i) s) hnn
    rw [tb_up] at this
    unfold sumL
    rw [hl]
    exact this
  exact ⟨tb_nn fun v hv => hnn v (List.mem_filter.1 hv).1, h1⟩
theorem beh_flow (N : Nat) (ps : List Pp) (s : Int) (dm : List Int) (i : Nat) : flowA N ps s dm i = if dnB ps (pAt ps i) s (pAt ps i).fr = true then -(behS N ps s dm i) else behS N ps s dm i := rfl
theorem beh_has {N : Nat} {ps : List Pp} {s : Int} (hg : P2.Good N ps) {i : Nat} (hi : i < ps.length) : decide ((pAt ps i).fr ∈ dnL N ps (pAt ps i) s) = dnB ps (pAt ps i) s (pAt ps i).fr := by
  have hp := good_pp hg (pAt_mem hi)
  obtain ⟨_, _, f1, f2, _⟩ := hp
  rw [Bool.eq_iff_iff, decide_eq_true_iff, dn_mem, dnB_true]
  exact ⟨fun h => h.2, fun h => ⟨⟨f1, f2⟩, h⟩⟩

/-! ### Sums -/
theorem sk_same {f g : Nat → Int} : ∀ {k : Nat}, (∀ i, i < k → f i = g i) → sumK f k = sumK g k
  | 0, _ => rfl
  | k + 1, h => by
    have h1 := sk_same (f := f) (g := g) (k := k) (fun i hi => h i (by omega))
    have h2 := h k (by omega)
    simp only [sumK, h1, h2]
theorem sk_add (f g : Nat → Int) : ∀ k, sumK (fun i => f i + g i) k = sumK f k + sumK g k
  | 0 => rfl
  | k + 1 => by simp only [sumK]; rw [sk_add f g k]; omega
theorem sk_zero : ∀ k, sumK (fun _ => 0) k = 0
  | 0 => rfl
  | k + 1 => by simp only [sumK]; rw [sk_zero k]; rfl
theorem sk_mul (c : Int) (f : Nat → Int) : ∀ k, sumK (fun i => c * f i) k = c * sumK f k
  | 0 => by simp [sumK]
  | k + 1 => by simp only [sumK]; rw [sk_mul c f k, Int.mul_add]
theorem sk_swap (f : Nat → Nat → Int) (m : Nat) : ∀ k, sumK (fun i => sumK (fun j => f i j) m) k = sumK (fun j => sumK (fun i => f i j) k) m
  | 0 => (sk_zero m).symm
  | k + 1 => by
    have e : sumK (fun i => sumK (fun j => f i j) m) (k + 1) = sumK (fun i => sumK (fun j => f i j) m) k + sumK (fun j => f k j) m := rfl
    rw [e, sk_swap f m k, ← sk_add]
    rfl
/-- Two sums that differ at one place. -/
theorem sk_one {f g : Nat → Int} {j : Nat} : ∀ {k : Nat}, j < k → (∀ i, i < k → i ≠ j → f i = g i) → sumK f k = sumK g k + (f j - g j)
  | 0, hj, _ => absurd hj (by omega)
  | k + 1, hj, h => by
    simp only [sumK]
    by_cases e : j = k
    · subst e
      rw [sk_same (f := f) (g := g) (k := j) (fun i hi => h i (by omega) (by omega))]
      omega
    · rw [sk_one (k := k) (by omega) (fun i hi hn => h i (by omega) hn), h k (by omega) (fun e2 => e e2.symm)]
      omega
theorem sk_pick {f : Nat → Int} {j k : Nat} (hj : j < k) (h : ∀ i, i < k → i ≠ j → f i = 0) : sumK f k = f j := by
  rw [sk_one (g := fun _ => 0) hj h, sk_zero]
  omega
theorem sumG_dn (g : Int → Int) (ps : List Pp) (p : Pp) (s : Int) : ∀ k, sumG g (dnTo ps p s k) = sumK (fun j => if dnB ps p s ((j : Int) + 1) = true then g ((j : Int) + 1) else 0) k
  | 0 => rfl
  | k + 1 => by
    have ih := sumG_dn g ps p s k
    simp only [sumK]
    by_cases h : dnB ps p s ((k : Int) + 1) = true
    · rw [dnTo_yes h, sumG_app, ih, if_pos h]
      show _ + (g ((k : Int) + 1) + 0) = _
      omega
    · rw [dnTo_no (by simpa using h), ih, if_neg h]
      omega

/-! ### One node's share -/
/-- Which way a unit from s to u takes a pipe. -/
noncomputable def phi (ps : List Pp) (s u : Int) (i : Nat) : Int :=
  if dnB ps (pAt ps i) s u = true then (if dnB ps (pAt ps i) s (pAt ps i).fr = true then -1 else 1) else 0
def ev (ps : List Pp) (v : Int) (i : Nat) : Int := (if (pAt ps i).to = v then 1 else 0) - (if (pAt ps i).fr = v then 1 else 0)
theorem pAt_inj {n : Int} {ps : List Pp} (hg : P2.Good n ps) {i j : Nat} (hi : i < ps.length) (hj : j < ps.length) (h : pAt ps i = pAt ps j) : i = j := by
  have h1 := (plc_at hg hi).1
  have h2 := (plc_at hg hj).1
  rw [h] at h1
  omega
theorem unit_bal {N : Nat} {ps : List Pp} (hg : P2.Good N ps) (ha : Acy ps) (s v : Int) : ∀ u, Conn ps s u → sumK (fun i => ev ps v i * phi ps s u i) ps.length = (if u = v then 1 else 0) - (if s = v then 1 else 0) := by
  refine conn_ind _ ?_ ?_
  · rw [sk_same (g := fun _ => 0) (fun i hi => ?_), sk_zero]
    · omega
    · show ev ps v i * phi ps s s i = 0
      unfold phi
      rw [dnB_false (Conn.rf _ s), if_neg Bool.false_ne_true, Int.mul_zero]
  · rintro u u' hsu ih ⟨p, hp, hj⟩
    obtain ⟨j, hjl, rfl⟩ := pp_at hp
    have hfar : ∀ i, i < ps.length → i ≠ j → ev ps v i * phi ps s u' i = ev ps v i * phi ps s u i := by
      intro i hi hne
      have hadj : Adj (Wo ps (pAt ps i)) u u' := ⟨pAt ps j, mem_Wo.2 ⟨hp, fun e => hne (pAt_inj hg hi hjl e.symm)⟩, hj⟩
      have e : dnB ps (pAt ps i) s u' = dnB ps (pAt ps i) s u := by
        rw [Bool.eq_iff_iff, dnB_true, dnB_true]
        exact ⟨fun h hc => h ((Conn.adj hadj.symm).tr hc), fun h hc => h ((Conn.adj hadj).tr hc)⟩
      unfold phi
      rw [e]
    rw [sk_one hjl hfar, ih]
    have hpp := good_pp hg hp
    obtain ⟨_, _, _, _, _, _, hft, _⟩ := hpp
    have hnc : ¬ Conn (Wo ps (pAt ps j)) u u' := by
      rcases hj with ⟨h1, h2⟩ | ⟨h1, h2⟩
      · rw [← h1, ← h2]; exact ha _ hp
      · rw [← h1, ← h2]; exact fun hc => ha _ hp hc.sy
    have hadj : Adj ps u u' := ⟨_, hp, hj⟩
    have key : ev ps v j * phi ps s u' j - ev ps v j * phi ps s u j = (if u' = v then 1 else 0) - (if u = v then 1 else 0) := by
      have hev : ∀ x y : Int, (pAt ps j).fr = x → (pAt ps j).to = y → ev ps v j = (if y = v then 1 else 0) - (if x = v then 1 else 0) := by
        rintro x y rfl rfl; rfl
      by_cases hu : Conn (Wo ps (pAt ps j)) u s
      · have hu' : ¬ Conn (Wo ps (pAt ps j)) u' s := fun hc => hnc (hu.tr hc.sy)
        have d1 : dnB ps (pAt ps j) s u = false := dnB_false hu
        have d2 : dnB ps (pAt ps j) s u' = true := dnB_true.2 hu'
        have f1 : phi ps s u j = 0 := by unfold phi; rw [d1, if_neg Bool.false_ne_true]
        rcases hj with ⟨h1, h2⟩ | ⟨h1, h2⟩
        · have f2 : phi ps s u' j = 1 := by unfold phi; rw [d2, if_pos rfl, h1, d1, if_neg Bool.false_ne_true]
          rw [f1, f2, hev u u' h1 h2]
          generalize (if u' = v then (1 : Int) else 0) = X
          generalize (if u = v then (1 : Int) else 0) = Y
          omega
        · have f2 : phi ps s u' j = -1 := by unfold phi; rw [d2, if_pos rfl, h2, d2, if_pos rfl]
          rw [f1, f2, hev u' u h2 h1]
          generalize (if u' = v then (1 : Int) else 0) = X
          generalize (if u = v then (1 : Int) else 0) = Y
          omega
      · have hu' : Conn (Wo ps (pAt ps j)) u' s := Classical.byContradiction fun hc => hnc ((behind hp (jn_tch hj).1 hu hsu.sy (Conn.adj hadj)).1 hc)
        have d1 : dnB ps (pAt ps j) s u = true := dnB_true.2 hu
        have d2 : dnB ps (pAt ps j) s u' = false := dnB_false hu'
        have f2 : phi ps s u' j = 0 := by unfold phi; rw [d2, if_neg Bool.false_ne_true]
        rcases hj with ⟨h1, h2⟩ | ⟨h1, h2⟩
        · have f1 : phi ps s u j = -1 := by unfold phi; rw [d1, if_pos rfl, h1, d1, if_pos rfl]
          rw [f1, f2, hev u u' h1 h2]
          generalize (if u' = v then (1 : Int) else 0) = X
          generalize (if u = v then (1 : Int) else 0) = Y
          omega
        · have f1 : phi ps s u j = 1 := by unfold phi; rw [d1, if_pos rfl, h2, d2, if_neg Bool.false_ne_true]
          rw [f1, f2, hev u' u h2 h1]
          generalize (if u' = v then (1 : Int) else 0) = X
          generalize (if u = v then (1 : Int) else 0) = Y
          omega
    omega
theorem flow_phi (N : Nat) (ps : List Pp) (s : Int) (dm : List Int) (i : Nat) : flowA N ps s dm i = sumK (fun j => lA dm j * phi ps s ((j : Int) + 1) i) N := by
  have h : ∀ b : Bool, dnB ps (pAt ps i) s (pAt ps i).fr = b → sumK (fun j => lA dm j * phi ps s ((j : Int) + 1) i) N = (if b = true then -1 else 1) * sumK (fun j => if dnB ps (pAt ps i) s ((j : Int) + 1) = true then tk dm ((j : Int) + 1) else 0) N := by
    intro b hb
    rw [← sk_mul]
    refine sk_same fun j _ => ?_
    show lA dm j * phi ps s ((j : Int) + 1) i = _
    unfold phi
    rw [hb, tk_up]
    by_cases hd : dnB ps (pAt ps i) s ((j : Int) + 1) = true
    · rw [if_pos hd, if_pos hd]
      exact Int.mul_comm _ _
    · rw [if_neg hd, if_neg hd, Int.mul_zero, Int.mul_zero]
  unfold flowA dnL
  rw [sumG_dn]
  cases hb : dnB ps (pAt ps i) s (pAt ps i).fr with
  | false => rw [h false hb, if_neg (by simp), if_neg (by simp)]; omega
  | true => rw [h true hb, if_pos rfl, if_pos rfl]; omega
/-- Tree flows balance at every node. -/
theorem tree_bal {N s : Nat} {ps : List Pp} (hg : P2.Good N ps) (ht : treeB N ps = true) (h1 : 1 ≤ s) (h2 : s ≤ N) {dm : List Int} (hl : dm.length = N) (v : Nat) : imbA s dm ps (tfL N ps s dm) v = 0 := by
  by_cases hv : v = 0 ∨ N < v
  · exact imbA_out hg hl h1 h2 hv
  · have v1 : 1 ≤ v := by omega
    have v2 : v ≤ N := by omega
    obtain ⟨ha, hc, _⟩ := tree_full hg ht
    have e : sumK (fT ps (tfL N ps s dm) v) ps.length = lA dm (v - 1) - (if v = s then sumK (lA dm) N else 0) := by
      have e1 : sumK (fT ps (tfL N ps s dm) v) ps.length = sumK (fun i => sumK (fun j => lA dm j * (ev ps v i * phi ps s ((j : Int) + 1) i)) N) ps.length := by
        refine sk_same fun i hi => ?_
        have e2 : sumK (fun j => lA dm j * (ev ps v i * phi ps s ((j : Int) + 1) i)) N = ev ps v i * flowA N ps s dm i := by
          rw [flow_phi, ← sk_mul]
          refine sk_same fun j _ => ?_
          show lA dm j * (ev ps v i * phi ps s ((j : Int) + 1) i) = ev ps v i * (lA dm j * phi ps s ((j : Int) + 1) i)
          rw [← Int.mul_assoc, ← Int.mul_assoc, Int.mul_comm (lA dm j)]
        rw [e2]
        unfold fT ev lA
        rw [tfL_at hi]
        by_cases c1 : (pAt ps i).to = (v : Int) <;> by_cases c2 : (pAt ps i).fr = (v : Int) <;> simp only [c1, c2, if_true, if_false] <;> omega
      rw [e1, sk_swap]
      have e3 : sumK (fun j => sumK (fun i => lA dm j * (ev ps v i * phi ps s ((j : Int) + 1) i)) ps.length) N = sumK (fun j => (if j = v - 1 then lA dm j else 0) + (if v = s then -(lA dm j) else 0)) N := by
        refine sk_same fun j hj => ?_
        have hb := unit_bal hg ha s v ((j : Int) + 1) (tree_conn hc (by omega) (by omega) (by omega) (by omega))
        show sumK (fun i => lA dm j * (ev ps v i * phi ps s ((j : Int) + 1) i)) ps.length = _
        rw [sk_mul, hb]
        by_cases c1 : j = v - 1 <;> by_cases c2 : v = s
        · rw [if_pos (by omega), if_pos (by omega), if_pos c1, if_pos c2]; omega
        · rw [if_pos (by omega), if_neg (by omega), if_pos c1, if_neg c2]; omega
        · rw [if_neg (by omega), if_pos (by omega), if_neg c1, if_pos c2]; omega
        · rw [if_neg (by omega), if_neg (by omega), if_neg c1, if_neg c2]; omega
      rw [e3, sk_add, sk_pick (j := v - 1) (by omega) (fun i _ hn => if_neg hn)]
      rw [if_pos rfl]
      by_cases c2 : v = s
      · rw [sk_same (g := fun j => (-1) * lA dm j) (fun j _ => by show (if v = s then -(lA dm j) else 0) = _; rw [if_pos c2]; omega), sk_mul, if_pos c2]; omega
      · rw [sk_same (g := fun _ => 0) (fun j _ => by show (if v = s then -(lA dm j) else 0) = _; rw [if_neg c2]), sk_zero, if_neg c2]; omega
    unfold imbA iS dS
    rw [e, hl, if_pos (show 1 ≤ v ∧ v ≤ N from ⟨v1, v2⟩)]
    omega

/-! ### All imbalances add up to nothing -/
/-- The imbalances at 1 to k. -/
noncomputable def totI (s : Nat) (dm : List Int) (ps : List Pp) (fl : List Int) (k : Nat) : Int := sumK (fun j => imbA s dm ps fl (j + 1)) k
noncomputable def zerI (s : Nat) (dm : List Int) (ps : List Pp) (fl : List Int) (k : Nat) : Bool := (List.range k).all fun j => imbA s dm ps fl (j + 1) == 0
theorem zerI_succ (s : Nat) (dm : List Int) (ps : List Pp) (fl : List Int) (k : Nat) : zerI s dm ps fl (k + 1) = (zerI s dm ps fl k && (imbA s dm ps fl (k + 1) == 0)) := by
  unfold zerI; rw [List.range_succ, List.all_append]; simp
theorem imb_in {s N : Nat} {dm : List Int} {ps : List Pp} {fl : List Int} (hN : N ≤ 8) (hr : allR 0 1000 dm = true) (hl : dm.length = N) (hf : allR (-8000) 8000 fl = true) (hfl : fl.length = ps.length) (hp : ps.length ≤ 10) (v : Nat) : -300000 ≤ imbA s dm ps fl v ∧ imbA s dm ps fl v ≤ 300000 :=
  iS_in hr (by omega) hf (by omega) (by omega) v
theorem tot_in {s N : Nat} {dm : List Int} {ps : List Pp} {fl : List Int} (hN : N ≤ 8) (hr : allR 0 1000 dm = true) (hl : dm.length = N) (hf : allR (-8000) 8000 fl = true) (hfl : fl.length = ps.length) (hp : ps.length ≤ 10) : ∀ k : Nat, -(300000 * (k : Int)) ≤ totI s dm ps fl k ∧ totI s dm ps fl k ≤ 300000 * (k : Int)
  | 0 => ⟨by simp [totI, sumK], by simp [totI, sumK]⟩
  | k + 1 => by
    have h1 := tot_in (s := s) hN hr hl hf hfl hp k
    have h2 := imb_in (s := s) hN hr hl hf hfl hp (k + 1)
    have e : totI s dm ps fl (k + 1) = totI s dm ps fl k + imbA s dm ps fl (k + 1) := rfl
    rw [e]; omega
theorem tot_zero {s N : Nat} {dm : List Int} {ps : List Pp} {fl : List Int} (hg : P2.Good N ps) (h1 : 1 ≤ s) (h2 : s ≤ N) (hl : dm.length = N) : totI s dm ps fl N = 0 := by
  have e1 : totI s dm ps fl N = sumK (fun j => ((if j = s - 1 then sumK (lA dm) N else 0) + (-1) * lA dm j) + sumK (fT ps fl (j + 1)) ps.length) N := by
    refine sk_same fun j hj => ?_
    show imbA s dm ps fl (j + 1) = _
    unfold imbA iS dS
    rw [hl, if_pos (show 1 ≤ j + 1 ∧ j + 1 ≤ N by omega), Nat.add_sub_cancel]
    by_cases c : j = s - 1
    · rw [if_pos c, if_pos (by omega)]; omega
    · rw [if_neg c, if_neg (by omega)]; omega
  have e2 : sumK (fun j => sumK (fun i => fT ps fl (j + 1) i) ps.length) N = 0 := by
    rw [sk_swap, sk_same (g := fun _ => 0) (fun i hi => ?_), sk_zero]
    obtain ⟨_, _, f1, f2, t1, t2, _⟩ := good_pp hg (pAt_mem hi)
    show sumK (fun j => fT ps fl (j + 1) i) N = 0
    have e3 : sumK (fun j => fT ps fl (j + 1) i) N = sumK (fun j => (if j = ((pAt ps i).to - 1).toNat then lA fl i else 0) + (if j = ((pAt ps i).fr - 1).toNat then -(lA fl i) else 0)) N := by
      refine sk_same fun j hj => ?_
      show fT ps fl (j + 1) i = _
      unfold fT
      have c1 : ((pAt ps i).to = ((j + 1 : Nat) : Int)) ↔ j = ((pAt ps i).to - 1).toNat := by omega
      have c2 : ((pAt ps i).fr = ((j + 1 : Nat) : Int)) ↔ j = ((pAt ps i).fr - 1).toNat := by omega
      by_cases d1 : j = ((pAt ps i).to - 1).toNat <;> by_cases d2 : j = ((pAt ps i).fr - 1).toNat
      · rw [if_pos (c1.2 d1), if_pos (c2.2 d2), if_pos d1, if_pos d2]; omega
      · rw [if_pos (c1.2 d1), if_neg (fun h => d2 (c2.1 h)), if_pos d1, if_neg d2]; omega
      · rw [if_neg (fun h => d1 (c1.1 h)), if_pos (c2.2 d2), if_neg d1, if_pos d2]; omega
      · rw [if_neg (fun h => d1 (c1.1 h)), if_neg (fun h => d2 (c2.1 h)), if_neg d1, if_neg d2]; omega
    rw [e3, sk_add, sk_pick (j := ((pAt ps i).to - 1).toNat) (by omega) (fun i _ hn => if_neg hn), sk_pick (j := ((pAt ps i).fr - 1).toNat) (by omega) (fun i _ hn => if_neg hn), if_pos rfl, if_pos rfl]
    omega
  rw [e1, sk_add, e2, sk_add, sk_pick (j := s - 1) (by omega) (fun i _ hn => if_neg hn), if_pos rfl, sk_mul]
  omega
end Go.Proofs.Ytlkomipjamelkab.S2

namespace Go.Proofs.Ytlkomipjamelkab.S2
open Go.RowKit P2

/-- Do they balance? -/
def balB (S : Nat → Int) : Bool := (List.range 9).all fun v => S v == 0
theorem balB_of {S : Nat → Int} (h : balB S = true) {v : Nat} (hv : v < 9) : S v = 0 := by
  unfold balB at h
  rw [List.all_eq_true] at h
  simpa using h v (List.mem_range.2 hv)
theorem balB_mk {S : Nat → Int} (h : ∀ v, v < 9 → S v = 0) : balB S = true := by
  unfold balB
  rw [List.all_eq_true]
  intro v hv
  simpa using h v (List.mem_range.1 hv)
theorem balB_no {S : Nat → Int} {v : Nat} (hv : v < 9) (h : S v ≠ 0) : balB S = false := by
  rw [← Bool.not_eq_true]
  exact fun hb => h (balB_of hb hv)
section
variable {P : Program} (w : World)
theorem run_equalIn_ints (d : Nat) (t e : TypeId) (n : Nat) (ht : P.underlying t = some (.array n e)) (he : P.underlying e = some (.int .i64)) (hsz : ∀ w, (sizeOf e).run P w = .ok 1 w)
    (xs ys : Array Value) (f g : Nat → Int) (hx : ∀ i, i < n → xs[i]? = some (.int .i64 (f i))) (hy : ∀ i, i < n → ys[i]? = some (.int .i64 (g i))) :
    (Op.equalIn (d + 2) t (.agg xs) (.agg ys)).run P w = .ok ((List.range n).all fun i => f i == g i) w := by
  rw [List.range_eq_range', Op.equalIn]
  simp only [Sem.run_bind, run_underlying ht, Result.andThen_ok, hsz, Std.Legacy.Range.forIn_eq_forIn_range', Std.Legacy.Range.size, Nat.sub_zero, Nat.add_sub_cancel, Nat.div_one]
  have hl : ∀ i ∈ List.range' 0 n 1, i < n := fun i hi => by simpa using (List.mem_range'_1.1 hi).2
  generalize List.range' 0 n 1 = l at hl ⊢
  induction l with
  | nil => simp
  | cons i l ih =>
    have hi : i < n := hl i (by simp)
    have px : (part e xs (i * 1)).run P w = .ok (.int .i64 (f i)) w := by
      simp [part, isAgg, run_underlying he, hx i hi]
    have py : (part e ys (i * 1)).run P w = .ok (.int .i64 (g i)) w := by
      simp [part, isAgg, run_underlying he, hy i hi]
    have pe : (Op.equalIn (d + 1) e (.int .i64 (f i)) (.int .i64 (g i))).run P w = .ok (f i == g i) w := run_equalIn_int w d e _ _ _ _ he
    simp only [List.forIn_cons, Sem.run_bind, px, py, pe, Result.andThen_ok, List.all_cons]
    cases hb : (f i == g i)
    · simp
    · simp only [Bool.not_true, Bool.false_eq_true, if_false, Sem.run_pure, Result.andThen_ok, Bool.true_and]
      exact ih fun j hj => hl j (by simp [hj])
end
theorem nine_get (S : Nat → Int) (i : Nat) (hi : i < 9) : (#[iv (S 0), iv (S 1), iv (S 2), iv (S 3), iv (S 4), iv (S 5), iv (S 6), iv (S 7), iv (S 8)] : Array Value)[i]? = some (.int .i64 (S i)) := by
  match i, hi with
  | 0, _ => rfl
  | 1, _ => rfl
  | 2, _ => rfl
  | 3, _ => rfl
  | 4, _ => rfl
  | 5, _ => rfl
  | 6, _ => rfl
  | 7, _ => rfl
  | 8, _ => rfl
theorem eq_nine (S : Nat → Int) (w : World) : (Op.equalIn 10000 91 (.agg #[.int .i64 (S 0), .int .i64 (S 1), .int .i64 (S 2), .int .i64 (S 3), .int .i64 (S 4), .int .i64 (S 5), .int .i64 (S 6), .int .i64 (S 7), .int .i64 (S 8)])
    (.agg #[.int .i64 0, .int .i64 0, .int .i64 0, .int .i64 0, .int .i64 0, .int .i64 0, .int .i64 0, .int .i64 0, .int .i64 0])).run Try.prog w = .ok (balB S) w :=
  run_equalIn_ints (P := Try.prog) w 9998 91 3 9 Try.underlying91 Try.underlying3 Try.sizeOf3 _ _ S (fun _ => 0) (nine_get S) (nine_get (fun _ => 0))
set_option maxHeartbeats 1000000 in
theorem bal_no (n : Int) (A : Option Addr) (cap : Nat) (ps : List Pp) (s : Int) (AD : Option Addr) (dc : Nat) (dm : List Int) (AF : Option Addr) (fc : Nat) (fl : List Int) (w : World) (h : PAt w A ps) (hm : ps.length ≤ maxLen)
    (hd : IAt w AD dm) (hdl : dm.length ≤ 1048576) (hf : IAt w AF fl) (hfl : fl.length ≤ 1048576) (hv : askB n ps s dm fl = false) :
    Calls Try.prog 12 #[nv n A ps.length cap, .int .i64 s, .slice AD dm.length dc, .slice AF fl.length fc] w fun e w' => e = .returned (.tuple #[.bool false, .bool false]) ∧ Below w.heap.size w w' := by
  have H1 := Lib.hid (fun w' (hb : Below w.heap.size w w') => imb_no n A cap ps s AD dc dm AF fc fl w' (h.kept hb (Nat.le_refl _)) hm (hd.kept hb (Nat.le_refl _)) hdl (hf.kept hb (Nat.le_refl _)) hfl hv)
  clear h hd hf hv
  go_enter Try.func12, Try.ntmps12
  go_wp2_with (go_at_call 65; refine (H1.out _ ((Below.refl _ _).alloc (Nat.le_refl _) _)).mono ?_; rintro e w1 ⟨rfl, hb1⟩)
  go_ret2
  have hb2 := below_alloc_call hb1
  exact ⟨rfl, hb2.alloc hb2.size _⟩
set_option maxHeartbeats 1000000 in
set_option maxRecDepth 100000 in
theorem bal_yes (N s : Nat) (A : Option Addr) (cap : Nat) (ps : List Pp) (AD : Option Addr) (dc : Nat) (dm : List Int) (AF : Option Addr) (fc : Nat) (fl : List Int) (w : World) (h : PAt w A ps) (hm : ps.length ≤ maxLen)
    (hd : IAt w AD dm) (hdl : dm.length ≤ 1048576) (hf : IAt w AF fl) (hfl : fl.length ≤ 1048576) (hv : askB N ps s dm fl = true) :
    Calls Try.prog 12 #[nv N A ps.length cap, .int .i64 (s : Int), .slice AD dm.length dc, .slice AF fl.length fc] w fun e w' => e = .returned (.tuple #[.bool (balB (imbA s dm ps fl)), .bool true]) ∧ Below w.heap.size w w' := by
  have H1 := Lib.hid (fun w' (hb : Below w.heap.size w w') => imb_yes N s A cap ps AD dc dm AF fc fl w' (h.kept hb (Nat.le_refl _)) hm (hd.kept hb (Nat.le_refl _)) hdl (hf.kept hb (Nat.le_refl _)) hfl hv)
  clear h hd hf hv hm hdl hfl
  generalize imbA s dm ps fl = S at *
  have hE := eq_nine S
  generalize balB S = bb at *
  go_enter Try.func12, Try.ntmps12
  go_wp2_with (go_at_call 65; refine (H1.out _ ((Below.refl _ _).alloc (Nat.le_refl _) _)).mono ?_; rintro e w1 ⟨rfl, hb1⟩)
  go_ret2
  have hb2 := below_alloc_call hb1
  exact ⟨rfl, hb2.alloc hb2.size _⟩
end Go.Proofs.Ytlkomipjamelkab.S2

namespace Go.Proofs.Ytlkomipjamelkab.S2
open Go.RowKit P2

set_option maxHeartbeats 1000000 in
set_option maxRecDepth 100000 in
theorem sbald_any (N s : Nat) (A : Option Addr) (cap : Nat) (ps : List Pp) (AD : Option Addr) (dc : Nat) (dm : List Int) (AF : Option Addr) (fc : Nat) (fl : List Int) (w : World) (h : PAt w A ps)
    (hd : IAt w AD dm) (hf : IAt w AF fl) (hg : P2.Good N ps) (hs1 : 1 ≤ s) (hs2 : s ≤ N) (hdN : dm.length = N) (hdr : allR 0 1000 dm = true) (hfn : fl.length = ps.length) (hfr : allR (-8000) 8000 fl = true) :
    Calls Try.prog 72 #[nv N A ps.length cap, .int .i64 (s : Int), .slice AD dm.length dc, .slice AF fl.length fc] w fun e w' => e = .returned (.bool (balB (imbA s dm ps fl))) ∧ Below w.heap.size w w' := by
  have hN8 : N ≤ 8 := by have := hg.2.1; omega
  have H := Lib.hid (fun v (hv1 : 1 ≤ v) (hv2 : v ≤ N) w' (hb : Below w.heap.size w w') => simb_any N s v A cap ps AD dc dm AF fc fl w' (h.kept hb (Nat.le_refl _)) (hd.kept hb (Nat.le_refl _)) (hf.kept hb (Nat.le_refl _)) hg hdN hdr hfn hfr hv1 hv2)
  have HO := Lib.hid (fun v hv => imbA_out (fl := fl) hg hdN hs1 hs2 (v := v) hv)
  clear h hd hf hg hdr hfn hfr hdN
  generalize imbA s dm ps fl = S at *
  go_enter Try.func72, Try.ntmps72
  go_wp2
  go_loopw [9] (fun i wr => ∃ k : Nat, 1 ≤ k ∧ k ≤ N + 1 ∧ i = .int .i64 (k : Int) ∧ Hid (∀ v, 1 ≤ v → v < k → S v = 0) ∧ Hid (Below (w.heap.size + 1) (w.alloc (nb N A ps.length cap)) wr)) (fun i _ => N + 1 - (intOf i).toNat)
  case atStart => exact ⟨1, Nat.le_refl _, by omega, rfl, Lib.hid (fun v h1 h2 => absurd h1 (by omega)), Lib.hid (Below.refl _ _)⟩
  case round =>
    obtain ⟨k, hk1, hk, rfl, hno, HB⟩ := hrel
    obtain ⟨b0, b1⟩ := box2 HB.out
    have hz := box_lt HB.out
    by_cases hlt : k ≤ N
    · have HC := Lib.hid (H.out k hk1 hlt wr (below_box HB.out))
      by_cases h0 : S k = 0
      · rw [h0] at HC
        have hno2 := Lib.hid (show ∀ v, 1 ≤ v → v < k + 1 → S v = 0 from fun v h1 h2 => by
          by_cases e : v = k
          · rw [e]; exact h0
          · exact hno.out v h1 (by omega))
        clear h0 hno
        go_wp2_with (first | (go_at_call 137; refine HC.out.mono ?_; rintro e w1 ⟨rfl, hb1⟩; have HB1 := Lib.hid (on_call HB.out hb1)) | fail)
        go_roundw
        case rel => exact ⟨k + 1, by omega, by omega, by go_num, hno2, HB1⟩
        case measure => simp [intOf]; omega
      · have HR := Lib.hid (balB_no (S := S) (v := k) (by omega) h0)
        have hne : (S k != 0) = true := by simpa using h0
        generalize S k = x at *
        clear h0 hno
        go_wp2_with (first | (go_at_call 137; refine HC.out.mono ?_; rintro e w1 ⟨rfl, hb1⟩; have HB1 := Lib.hid (on_call HB.out hb1)) | fail)
        go_ret
        exact ⟨by rw [HR.out]; rfl, below_box HB1.out⟩
    · have HR := Lib.hid (show balB S = true from balB_mk (fun v _ => by
        by_cases h1 : v = 0 ∨ N < v
        · exact HO.out v h1
        · exact hno.out v (by omega) (by omega)))
      go_wp2
      go_ret
      exact ⟨by rw [HR.out]; rfl, below_box HB.out⟩

set_option maxHeartbeats 1000000 in
theorem sbal_no (n : Int) (A : Option Addr) (cap : Nat) (ps : List Pp) (s : Int) (AD : Option Addr) (dc : Nat) (dm : List Int) (AF : Option Addr) (fc : Nat) (fl : List Int) (w : World) (h : PAt w A ps) (hm : ps.length ≤ maxLen)
    (hd : IAt w AD dm) (hdl : dm.length ≤ 1048576) (hf : IAt w AF fl) (hfl : fl.length ≤ 1048576) (hv : askB n ps s dm fl = false) :
    Calls Try.prog 18 #[nv n A ps.length cap, .int .i64 s, .slice AD dm.length dc, .slice AF fl.length fc] w fun e w' => e = .returned (.tuple #[.bool false, .bool false]) ∧ Below w.heap.size w w' := by
  have H1 := Lib.hid (fun w' (hb : Below w.heap.size w w') => sask_v hv A cap AD dc AF fc w' (h.kept hb (Nat.le_refl _)) hm (hd.kept hb (Nat.le_refl _)) hdl (hf.kept hb (Nat.le_refl _)) hfl)
  clear h hd hf hv
  go_enter Try.func18, Try.ntmps18
  go_wp2_with (go_at_call 71; refine (H1.out _ ((Below.refl _ _).alloc (Nat.le_refl _) _)).mono ?_; rintro e w1 ⟨rfl, hb1⟩)
  go_ret2
  exact ⟨rfl, below_alloc_call hb1⟩
set_option maxHeartbeats 1000000 in
theorem sbal_yes (N s : Nat) (A : Option Addr) (cap : Nat) (ps : List Pp) (AD : Option Addr) (dc : Nat) (dm : List Int) (AF : Option Addr) (fc : Nat) (fl : List Int) (w : World) (h : PAt w A ps) (hm : ps.length ≤ maxLen)
    (hd : IAt w AD dm) (hdl : dm.length ≤ 1048576) (hf : IAt w AF fl) (hfl : fl.length ≤ 1048576) (hv : askB N ps s dm fl = true) :
    Calls Try.prog 18 #[nv N A ps.length cap, .int .i64 (s : Int), .slice AD dm.length dc, .slice AF fl.length fc] w fun e w' => e = .returned (.tuple #[.bool (balB (imbA s dm ps fl)), .bool true]) ∧ Below w.heap.size w w' := by
  obtain ⟨hv1, hv2, hv3⟩ := askB_of hv
  obtain ⟨hg, hs1, hs2⟩ := nodeB_of hv1
  obtain ⟨_, hdn, hdr⟩ := demB_of hv2
  obtain ⟨_, hfn, hfr⟩ := floB_of hv3
  have H1 := Lib.hid (fun w' (hb : Below w.heap.size w w') => sask_v hv A cap AD dc AF fc w' (h.kept hb (Nat.le_refl _)) hm (hd.kept hb (Nat.le_refl _)) hdl (hf.kept hb (Nat.le_refl _)) hfl)
  have H2 := Lib.hid (fun w' (hb : Below w.heap.size w w') => sbald_any N s A cap ps AD dc dm AF fc fl w' (h.kept hb (Nat.le_refl _)) (hd.kept hb (Nat.le_refl _)) (hf.kept hb (Nat.le_refl _)) hg (by omega) (by omega) (by omega) hdr hfn hfr)
  clear h hd hf hv hv1 hv2 hv3 hg hs1 hs2 hdn hdr hfn hfr hm hdl hfl
  generalize balB (imbA s dm ps fl) = bb at *
  go_enter Try.func18, Try.ntmps18
  go_wp2_with (first
    | (go_at_call 71; refine (H1.out _ ((Below.refl _ _).alloc (Nat.le_refl _) _)).mono ?_; rintro e w1 ⟨rfl, hb1⟩; have HB1 := Lib.hid (show Below (w.heap.size + 1) (w.alloc (nb N A ps.length cap)) w1 from (by simpa using hb1)); obtain ⟨b0, b1⟩ := box2 HB1.out)
    | (go_at_call 72; refine (H2.out _ (below_box HB1.out)).mono ?_; rintro e w2 ⟨rfl, hb2⟩; have HB2 := Lib.hid (on_call HB1.out hb2); clear b0 b1; obtain ⟨b0, b1⟩ := box2 HB2.out)
    | fail)
  go_ret2
  exact ⟨rfl, below_box HB2.out⟩
end Go.Proofs.Ytlkomipjamelkab.S2

namespace Go.Proofs.Ytlkomipjamelkab.S2
open Go.RowKit P2

set_option maxHeartbeats 2000000 in
set_option maxRecDepth 100000 in
theorem idn_tf (n : Int) (A : Option Addr) (cap : Nat) (ps : List Pp) (x y : Int) (w : World) (hT : ∀ w', Below w.heap.size w w' → Calls Try.prog 57 #[nv n A ps.length cap, .int .i64 x] w' fun e w'' => e = .returned (.tuple #[bv 0 ⟨0, 0, 0, 0⟩ none 0 0, .bool false]) ∧ Below w'.heap.size w' w'') :
    Calls Try.prog 15 #[nv n A ps.length cap, .int .i64 x, .int .i64 y] w (GivesI w [] false) := by
  have H := Lib.hid hT
  clear hT
  go_enter Try.func15, Try.ntmps15
  go_wp2_with (go_at_call 57; refine (H.out _ ((Below.refl _ _).alloc (Nat.le_refl _) _)).mono ?_; rintro e w1 ⟨rfl, hb1⟩; have hB1 := Lib.hid (((Below.refl w.heap.size w).alloc (Nat.le_refl _) (nb n A ps.length cap)).trans (hb1.mono (by simp))); clear hb1)
  go_ret2
  have h9 := gives_none (hB1.out.alloc hB1.out.size (.cells #[.int .i64 0, .int .i64 0, .int .i64 0, .int .i64 0, .int .i64 0, .slice none 0 0] 82))
  rw [show (w1.alloc (.cells #[.int .i64 0, .int .i64 0, .int .i64 0, .int .i64 0, .int .i64 0, .slice none 0 0] 82)).heap.size = w1.heap.size + 1 from by simp] at h9
  exact h9

set_option maxHeartbeats 2000000 in
set_option maxRecDepth 100000 in
theorem idn_none (N t : Nat) (A : Option Addr) (cap : Nat) (ps : List Pp) (y : Int) (w : World) (h : PAt w A ps) (hg : P2.Good N ps) (hf : FindIs ps y (-1)) (hT : ∀ w', Below w.heap.size w w' → Calls Try.prog 57 #[nv N A ps.length cap, .int .i64 (t : Int)] w' (TfIs N ps t w')) :
    Calls Try.prog 15 #[nv N A ps.length cap, .int .i64 (t : Int), .int .i64 y] w (GivesI w [] false) := by
  have H := Lib.hid hT
  have H2 := Lib.hid (fun w' (hb : Below w.heap.size w w') => place_any N A cap ps y w' (h.kept hb (Nat.le_refl _)) hg)
  have HP := Lib.hid (fun (i : Nat) (f : Bool) (hp : Place ps y i f) => (show f = false from by
    cases f with
    | false => rfl
    | true => have := ((place_find (good_ids hg) hp hf).1 rfl).1; omega))
  clear hT h hf hg
  go_enter Try.func15, Try.ntmps15
  go_wp2_with (first
    | (go_at_call 57; refine (H.out _ ((Below.refl _ _).alloc (Nat.le_refl _) _)).mono ?_; rintro e w1 ⟨A4, c4, rfl, hrep, hb1⟩; have HB1 := Lib.hid (show Below (w.heap.size + 1) (w.alloc (nb N A ps.length cap)) w1 from by simpa using hb1); clear hb1 hrep; obtain ⟨b0, b1⟩ := box2 HB1.out; have hy1 : w.heap.size < w1.heap.size := box_lt HB1.out; generalize (kidsL ps (t : Int) ⟨0, 0, 0, 0⟩).length = m4)
    | (go_at_call 68; refine (H2.out _ ((below_box HB1.out).alloc (below_box HB1.out).size _)).mono ?_; rintro e w2 ⟨⟨i, f, rfl, hp⟩, hb2⟩; obtain rfl := HP.out i f hp; have HB2 := Lib.hid (((below_box HB1.out).alloc (below_box HB1.out).size (.cells #[.int .i64 (t : Int), .int .i64 0, .int .i64 0, .int .i64 0, .int .i64 0, .slice A4 m4 c4] 82)).trans (hb2.mono (by have := (below_box HB1.out).size; simp; omega)))))
  go_ret2
  exact gives_none HB2.out
end Go.Proofs.Ytlkomipjamelkab.S2

namespace Go.Proofs.Ytlkomipjamelkab.S2
open Go.RowKit P2

theorem sort_own {w : World} {B g c : Nat} {l : List Int} (h : IOwn w B (.slice (some ⟨g, 0, none⟩) l.length c) l) (hl : l.length ≤ 1000) :
    Calls Try.prog 69 #[.slice (some ⟨g, 0, none⟩) l.length c] w fun e w' => e = .returned (.tuple #[]) ∧ w'.ownsRow B 3 1 (.slice (some ⟨g, 0, none⟩) l.length c) l.length ((l.mergeSort fun x y => decide (x ≤ y)).map iv) ∧ w.grownBy w' (some g) := by
  rcases h.2 with ⟨h0, _⟩ | ⟨g', c', cur, hv, hbase, hheap, hn, hcap, hsz, htake⟩
  · cases h0
  · have e1 : g' = g ∧ c' = c := by
      have := hv
      simp only [Value.slice.injEq, Option.some.injEq, Addr.mk.injEq, and_true, true_and] at this
      exact ⟨this.1.symm, this.2.symm⟩
    obtain ⟨rfl, rfl⟩ := e1
    rw [Nat.mul_one] at htake
    refine (Try.slices_Sort_int g' 0 c' l w (holds_of_blockI hheap htake) (Array.getElem?_eq_some_iff.1 hheap).1 (by omega)).mono ?_
    rintro e w' ⟨he, n, os, rfl⟩
    exact ⟨he, ownsRow_sortedI (ts := l.mergeSort fun x y => decide (x ≤ y)) (List.length_mergeSort l) hbase hheap hn hcap hsz, grownBy_sortedI _⟩
/-- Sorted, the nodes behind a pipe are the nodes in order. -/
theorem sort_dn {l m : List Int} (hp : l.Perm m) (hm : m.Pairwise (· < ·)) : l.mergeSort (fun x y => decide (x ≤ y)) = m := by
  have h1 : (l.mergeSort (fun x y => decide (x ≤ y))).Perm m := (List.mergeSort_perm l _).trans hp
  have h2 : (l.mergeSort (fun x y => decide (x ≤ y))).Pairwise (fun a b => decide (a ≤ b) = true) := List.pairwise_mergeSort (fun a b c h1 h2 => by simp at h1 h2 ⊢; omega) (fun a b => by simp; omega) l
  have hnd : (l.mergeSort (fun x y => decide (x ≤ y))).Nodup := h1.nodup_iff.2 (hm.imp (fun h => by omega))
  have h3 : (l.mergeSort (fun x y => decide (x ≤ y))).Pairwise (· < ·) := by
    have := h2.and hnd
    exact this.imp (fun ⟨a, b⟩ => by simp at a; omega)
  exact sorted_ext _ _ h3 hm (fun y => h1.mem_iff)

/-- The branch behind a pipe, in a box. -/
def DnC (ps : List Pp) (N : Nat) (w2 wx : World) (z : Int) (p : Pp) (s : Value) : Prop :=
  ∃ T A5 c5 d5, s = .pointer (some ⟨T, 0, none⟩) ∧ BC wx T 0 z p (.slice A5 (kidsL ps z p).length c5) ∧ BrOk N ps z p ∧ cntB N ps z p ≤ d5 ∧ RepIn ps (fun b => b < w2.heap.size) d5 wx A5 z p ∧ w2.heap.size ≤ T ∧ T < wx.heap.size ∧ Below w2.heap.size w2 wx
theorem dnc_a {ps : List Pp} {N : Nat} {w2 w5 : World} {z : Int} {p : Pp} {A5 : Option Addr} {c5 d5 m5 : Nat} (hB : Below w2.heap.size w2 w5) (hbo : BrOk N ps z p) (hcd : cntB N ps z p ≤ d5) (hm5 : (kidsL ps z p).length = m5) (hr : RepIn ps (fun b => b < w2.heap.size) d5 w5 A5 z p) :
    DnC ps N w2 (w5.alloc (.cells #[.int .i64 z, .int .i64 p.id, .int .i64 p.fr, .int .i64 p.to, .int .i64 p.sz, .slice A5 m5 c5] 82)) z p (.pointer (some ⟨w5.heap.size, 0, none⟩)) :=
  ⟨w5.heap.size, A5, c5, d5, rfl, ⟨cells_new6 w5 _ _ _ _ _ _ _ 0 _ rfl, cells_new6 w5 _ _ _ _ _ _ _ 1 _ rfl, cells_new6 w5 _ _ _ _ _ _ _ 2 _ rfl, cells_new6 w5 _ _ _ _ _ _ _ 3 _ rfl, cells_new6 w5 _ _ _ _ _ _ _ 4 _ rfl, by rw [hm5]; exact cells_new6 w5 _ _ _ _ _ _ _ 5 _ rfl⟩, hbo, hcd, hr.below (alloc_belowE w5 _), hB.size, by simp, hB.alloc hB.size _⟩
theorem row6 {w : World} {T : Nat} {t : TypeId} {a0 a1 a2 a3 a4 a5 : Value} (v0 v1 v2 v3 v4 v5 : Value) (h0 : w.heap[T]? = some (.cells #[a0, a1, a2, a3, a4, a5] t (0, 0))) :
    ((((((w.setCell ⟨T, 0, none⟩ v0).setCell ⟨T, 1, none⟩ v1).setCell ⟨T, 2, none⟩ v2).setCell ⟨T, 3, none⟩ v3).setCell ⟨T, 4, none⟩ v4).setCell ⟨T, 5, none⟩ v5).heap[T]? = some (.cells #[v0, v1, v2, v3, v4, v5] t (0, 0)) ∧
    w.grownBy ((((((w.setCell ⟨T, 0, none⟩ v0).setCell ⟨T, 1, none⟩ v1).setCell ⟨T, 2, none⟩ v2).setCell ⟨T, 3, none⟩ v3).setCell ⟨T, 4, none⟩ v4).setCell ⟨T, 5, none⟩ v5) (some T) := by
  have h1 : (w.setCell ⟨T, 0, none⟩ v0).heap[T]? = some (.cells #[v0, a1, a2, a3, a4, a5] t (0, 0)) := heap_setCell_same w T 0 _ _ v0 h0
  have g1 := setCell_off w T 0 v0
  generalize w.setCell ⟨T, 0, none⟩ v0 = w1 at *
  have h2 : (w1.setCell ⟨T, 1, none⟩ v1).heap[T]? = some (.cells #[v0, v1, a2, a3, a4, a5] t (0, 0)) := heap_setCell_same w1 T 1 _ _ v1 h1
  have g2 := g1.trans (setCell_off w1 T 1 v1)
  generalize w1.setCell ⟨T, 1, none⟩ v1 = w2 at *
  have h3 : (w2.setCell ⟨T, 2, none⟩ v2).heap[T]? = some (.cells #[v0, v1, v2, a3, a4, a5] t (0, 0)) := heap_setCell_same w2 T 2 _ _ v2 h2
  have g3 := g2.trans (setCell_off w2 T 2 v2)
  generalize w2.setCell ⟨T, 2, none⟩ v2 = w3 at *
  have h4 : (w3.setCell ⟨T, 3, none⟩ v3).heap[T]? = some (.cells #[v0, v1, v2, v3, a4, a5] t (0, 0)) := heap_setCell_same w3 T 3 _ _ v3 h3
  have g4 := g3.trans (setCell_off w3 T 3 v3)
  generalize w3.setCell ⟨T, 3, none⟩ v3 = w4 at *
  have h5 : (w4.setCell ⟨T, 4, none⟩ v4).heap[T]? = some (.cells #[v0, v1, v2, v3, v4, a5] t (0, 0)) := heap_setCell_same w4 T 4 _ _ v4 h4
  have g5 := g4.trans (setCell_off w4 T 4 v4)
  generalize w4.setCell ⟨T, 4, none⟩ v4 = w5 at *
  exact ⟨heap_setCell_same w5 T 5 _ _ v5 h5, g5.trans (setCell_off w5 T 5 v5)⟩
theorem dnc_w {ps : List Pp} {N T : Nat} {w2 w5 W : World} {z : Int} {p : Pp} {A5 : Option Addr} {c5 d5 m5 : Nat} (hB : Below w2.heap.size w2 w5) (hT : w2.heap.size ≤ T) (hT2 : T < w5.heap.size) (h6 : W.heap[T]? = some (.cells #[.int .i64 z, .int .i64 p.id, .int .i64 p.fr, .int .i64 p.to, .int .i64 p.sz, .slice A5 m5 c5] 82 (0, 0))) (g : w5.grownBy W (some T)) (hbo : BrOk N ps z p) (hcd : cntB N ps z p ≤ d5) (hm5 : (kidsL ps z p).length = m5) (hr : RepIn ps (fun b => b < w2.heap.size) d5 w5 A5 z p) :
    DnC ps N w2 W z p (.pointer (some ⟨T, 0, none⟩)) := by
  refine ⟨T, A5, c5, d5, rfl, ⟨?_, ?_, ?_, ?_, ?_, ?_⟩, hbo, hcd, RepIn.kept (fun _ h _ => h) (fun b' hp' hlt' => g.block b' hlt' (fun e => by have h' : b' < w2.heap.size := hp'; simp at e; omega)) g.size _ _ _ _ hr, hT, Nat.lt_of_lt_of_le hT2 g.size, hB.grown g hB.size (fun y hy => by simp at hy; omega)⟩
  · exact cell_of_row W T 0 _ _ _ h6
  · exact cell_of_row W T 1 _ _ _ h6
  · exact cell_of_row W T 2 _ _ _ h6
  · exact cell_of_row W T 3 _ _ _ h6
  · exact cell_of_row W T 4 _ _ _ h6
  · rw [hm5]; exact cell_of_row W T 5 _ _ _ h6

set_option maxHeartbeats 800000 in
set_option maxRecDepth 100000 in
theorem idn_yes (N t i : Nat) (A : Option Addr) (cap : Nat) (ps : List Pp) (y : Int) (w : World) (h : PAt w A ps) (hm : ps.length ≤ maxLen) (hn : nodeB N ps t = true) (ht : treeB N ps = true) (hi : i < ps.length) (hf : FindIs ps y i) :
    Calls Try.prog 15 #[nv N A ps.length cap, .int .i64 (t : Int), .int .i64 y] w (GivesI w (dnL N ps (pAt ps i) t) true) := by
  obtain ⟨hg, ht1, ht2⟩ := nodeB_of hn
  have hl10 := hg.2.2.1
  have hN8 := hg.2.1
  have ha := (tree_full hg ht).1
  have H := Lib.hid (fun w' (hb : Below w.heap.size w w') => tf_ok hn ht ha A cap w' (h.kept hb (Nat.le_refl _)) hm)
  have H2 := Lib.hid (fun w' (hb : Below w.heap.size w w') => place_any N A cap ps y w' (h.kept hb (Nat.le_refl _)) hg)
  have HP := Lib.hid (fun (j : Nat) (f : Bool) (hp : Place ps y j f) => (show f = true ∧ j = i from by
    cases f with
    | false => have := (place_find (good_ids hg) hp hf).2 rfl; omega
    | true => have := ((place_find (good_ids hg) hp hf).1 rfl).1; exact ⟨rfl, by omega⟩))
  have HA := Lib.hid (fun w' (hb : Below w.heap.size w w') => (h.kept hb (Nat.le_refl _)).at_ hi)
  obtain ⟨z, hfy, hy12, hyb, hys, hyp⟩ := far_end (t := t) hg ht (by omega) (by omega) (pAt_mem hi)
  have HBB := Lib.hid (fun (B : Nat) (p0 : Pp) (A : Option Addr) (cap : Nat) (w : World) (hB : B ≤ w.heap.size) (hr : RepIn ps (fun b => b < B) (N + 1) w A t ⟨0, 0, 0, 0⟩) => bbeh_any (fun b => b < B) B (fun _ h => h) hg ha p0 (N + 1) t ⟨0, 0, 0, 0⟩ A cap w hB (br_root hg (by omega) (by omega)) (cnt_le _ _ _ _) hr)
  have HBN := Lib.hid (fun (B d : Nat) (x : Int) (q : Pp) (A : Option Addr) (cap : Nat) (w : World) => bnodes_any ps (fun b => b < B) hl10 d x q A cap w)
  have HYP := Lib.hid hyp
  have HFY := Lib.hid hfy
  have HDN := Lib.hid (dn_len N ps (pAt ps i) t)
  have HDS := Lib.hid (dn_sorted N ps (pAt ps i) t)
  have hin : (i : Int) < (ps.length : Int) := by omega
  have hi0 : (0 : Int) ≤ (i : Int) := by omega
  clear h hm hn ht hg ha hf hfy hy12 hyb hys hyp
  generalize dnL N ps (pAt ps i) t = DL at *
  generalize pAt ps i = p at *
  go_enter Try.func15, Try.ntmps15
  go_wp2_with (first
    | (go_at_call 57; refine (H.out _ ((Below.refl _ _).alloc (Nat.le_refl _) _)).mono ?_; rintro e w1 ⟨A4, c4, rfl, hrep, hb1⟩; have HB1 := Lib.hid (show Below (w.heap.size + 1) (w.alloc (nb N A ps.length cap)) w1 from by simpa using hb1); have HREP1 := Lib.hid hrep; clear hb1 hrep; obtain ⟨b0, b1⟩ := box2 HB1.out; have hy1 : w.heap.size < w1.heap.size := box_lt HB1.out; obtain ⟨m4, hm4⟩ : ∃ m4, (kidsL ps (t : Int) ⟨0, 0, 0, 0⟩).length = m4 := ⟨_, rfl⟩; rw [hm4] at HBB; rw [hm4]; clear hm4)
    | (go_at_call 68; refine (H2.out _ ((below_box HB1.out).alloc (below_box HB1.out).size _)).mono ?_; rintro e w2 ⟨⟨j', f', rfl, hp'⟩, hb2⟩; obtain ⟨rfl, rfl⟩ := HP.out j' f' hp'; refine Hid.out ?_))
  have hab1 := alloc_belowE w1 (.cells #[.int .i64 (t : Int), .int .i64 0, .int .i64 0, .int .i64 0, .int .i64 0, .slice A4 m4 c4] 82)
  have hb12 : Below w1.heap.size w1 w2 := hab1.trans (hb2.mono (by simp))
  have HX2 := Lib.hid (on_call HB1.out hb12)
  have HB2 := Lib.hid (below_box HX2.out)
  have hz12 : w1.heap.size < w2.heap.size := by have := hb2.size; simp at this; omega
  have HT2 : Hid (BC w2 w1.heap.size 0 t ⟨0, 0, 0, 0⟩ (.slice A4 m4 c4)) := Lib.hid (by
    have hz : w1.heap.size < (w1.alloc (.cells #[.int .i64 (t : Int), .int .i64 0, .int .i64 0, .int .i64 0, .int .i64 0, .slice A4 m4 c4] 82)).heap.size := by simp
    exact ⟨(hb2.cell (p := ⟨w1.heap.size, 0, none⟩) hz).trans (cells_new6 w1 _ _ _ _ _ _ _ 0 _ rfl), (hb2.cell (p := ⟨w1.heap.size, 1, none⟩) hz).trans (cells_new6 w1 _ _ _ _ _ _ _ 1 _ rfl), (hb2.cell (p := ⟨w1.heap.size, 2, none⟩) hz).trans (cells_new6 w1 _ _ _ _ _ _ _ 2 _ rfl), (hb2.cell (p := ⟨w1.heap.size, 3, none⟩) hz).trans (cells_new6 w1 _ _ _ _ _ _ _ 3 _ rfl), (hb2.cell (p := ⟨w1.heap.size, 4, none⟩) hz).trans (cells_new6 w1 _ _ _ _ _ _ _ 4 _ rfl), (hb2.cell (p := ⟨w1.heap.size, 5, none⟩) hz).trans (cells_new6 w1 _ _ _ _ _ _ _ 5 _ rfl)⟩)
  have HREP2 := Lib.hid (RepIn.kept (Q := fun b => b < w2.heap.size) (fun b _ hlt => (show b < w2.heap.size by omega)) (fun b _ hlt => hb12.block b hlt) hb12.size _ _ _ _ HREP1.out)
  have HRPK := Lib.hid (fun w' (hb : Below w2.heap.size w2 w') => HREP2.out.below hb)
  clear b0 b1
  obtain ⟨b0, b1⟩ := box2 HX2.out
  have hy2 := box_lt HX2.out
  obtain ⟨t0, t1, t2, t3, t4, t5⟩ := HT2.out
  obtain ⟨b, off, hA, hbl, p0, p1, p2, p3⟩ := HA.out _ HB2.out
  subst hA
  clear hab1 hb12 hb2 HB1 HREP1 H H2 hp'
  refine Lib.hid ?_
  go_wp2
  go_upto_region 7 with (fail)
  go_cut [12] (fun s wx => DnC ps N w2 wx z p s)
  case first =>
    refine wp_region_held_drew (S := fun w' => w'.cell? ⟨w.heap.size, 1, none⟩ = some (.slice (some ⟨b, off, none⟩) ps.length cap) ∧ w'.cell? ⟨w1.heap.size, 0, none⟩ = some (.int .i64 (t : Int)) ∧ w'.cell? ⟨w1.heap.size, 1, none⟩ = some (.int .i64 0) ∧ w'.cell? ⟨w1.heap.size, 2, none⟩ = some (.int .i64 0) ∧ w'.cell? ⟨w1.heap.size, 3, none⟩ = some (.int .i64 0) ∧ w'.cell? ⟨w1.heap.size, 4, none⟩ = some (.int .i64 0) ∧ w'.cell? ⟨w1.heap.size, 5, none⟩ = some (.slice A4 m4 c4) ∧ w'.cell? ⟨b, off + j' * 4, none⟩ = some (.int .i64 p.id) ∧ w'.cell? ⟨b, off + j' * 4 + 1, none⟩ = some (.int .i64 p.fr) ∧ w'.cell? ⟨b, off + j' * 4 + 2, none⟩ = some (.int .i64 p.to) ∧ w'.cell? ⟨b, off + j' * 4 + 3, none⟩ = some (.int .i64 p.sz)) (by kernel_rfl) (by go_keep) (fun hHeld => ?_)
    refine wpAnyH_take (i := 0) (v := bv (t : Int) ⟨0, 0, 0, 0⟩ A4 m4 c4) rfl (by kernel_rfl) (by kernel_rfl) (by kernel_rfl) (fun _ _ _ h => h) (Or.inl ⟨by rfl, ?_⟩) (by assumption) ?_
    · (intro w hSw; (try dsimp only at hSw); go_simp)
    simp only [Act.put, List.setIfInBounds_toArray]
    refine wpAnyH_take (i := 1) (v := .pointer (some ⟨w.heap.size, 1, none⟩)) rfl (by kernel_rfl) (by kernel_rfl) (by kernel_rfl) (fun _ _ _ h => h) (Or.inl ⟨by rfl, ?_⟩) (by assumption) ?_
    · (intro w hSw; (try dsimp only at hSw); go_simp)
    simp only [Act.put]
    refine wpAnyH_take (i := 2) (v := .slice (some ⟨b, off, none⟩) ps.length cap) rfl (by kernel_rfl) (by kernel_rfl) (by kernel_rfl) (fun _ _ _ h => h) (Or.inl ⟨by rfl, ?_⟩) (by assumption) ?_
    · (intro w hSw; (try dsimp only at hSw); go_simp)
    simp only [Act.put]
    refine wpAnyH_take (i := 3) (v := .int .i64 (j' : Int)) rfl (by kernel_rfl) (by kernel_rfl) (by kernel_rfl) (fun _ _ _ h => h) (Or.inl ⟨by rfl, ?_⟩) (by assumption) ?_
    · (intro w hSw; (try dsimp only at hSw); go_simp)
    simp only [Act.put]
    refine wpAnyH_take (i := 4) (v := .pointer (some ⟨b, off + j' * 4, none⟩)) rfl (by kernel_rfl) (by kernel_rfl) (by kernel_rfl) (fun _ _ _ h => h) (Or.inl ⟨by rfl, ?_⟩) (by assumption) ?_
    · (intro w hSw; (try dsimp only at hSw); go_simp)
    simp only [Act.put]
    refine wpAnyH_take (i := 5) (v := pv p) rfl (by kernel_rfl) (by kernel_rfl) (by kernel_rfl) (fun _ _ _ h => h) (Or.inl ⟨by rfl, ?_⟩) (by assumption) ?_
    · (intro w hSw; (try dsimp only at hSw); go_simp)
    simp only [Act.put]
    refine wpAnyH_ready (rs := [6, 10]) (by kernel_rfl) (by simp) ?_
    refine AllReadyH.cons rfl (fun K hK => ?_) (AllReadyH.cons rfl (fun K hK => ?_) AllReadyH.nil)
    · go_simp
      go_at_call 59
      refine (HBB.out w2.heap.size p A4 c4 _ (by simp) (HRPK.out _ (Below.refl w2.heap.size w2).drew)).mono ?_
      rintro e w5 ⟨hbe, hb5⟩
      rw [HFY.out] at hbe
      obtain ⟨A5, c5, d5, rfl, hbo, hcd, hrep5⟩ := beh_some hbe
      obtain ⟨m5, hm5⟩ : ∃ m5, (kidsL ps z p).length = m5 := ⟨_, rfl⟩
      rw [hm5]
      have hB25 := Lib.hid ((Below.refl w2.heap.size w2).drew.trans (hb5.mono (by simp)))
      refine hK.out _ _ (by (rcases hHeld with ⟨q0, q1, q2, q3, q4, q5, q6, q7, q8, q9, q10⟩; exact ⟨(hb5.cell (p := ⟨w.heap.size, 1, none⟩) (by simp <;> omega)).trans q0, (hb5.cell (p := ⟨w1.heap.size, 0, none⟩) (by simp <;> omega)).trans q1, (hb5.cell (p := ⟨w1.heap.size, 1, none⟩) (by simp <;> omega)).trans q2, (hb5.cell (p := ⟨w1.heap.size, 2, none⟩) (by simp <;> omega)).trans q3, (hb5.cell (p := ⟨w1.heap.size, 3, none⟩) (by simp <;> omega)).trans q4, (hb5.cell (p := ⟨w1.heap.size, 4, none⟩) (by simp <;> omega)).trans q5, (hb5.cell (p := ⟨w1.heap.size, 5, none⟩) (by simp <;> omega)).trans q6, (hb5.cell (p := ⟨b, off + j' * 4, none⟩) (by simp <;> omega)).trans q7, (hb5.cell (p := ⟨b, off + j' * 4 + 1, none⟩) (by simp <;> omega)).trans q8, (hb5.cell (p := ⟨b, off + j' * 4 + 2, none⟩) (by simp <;> omega)).trans q9, (hb5.cell (p := ⟨b, off + j' * 4 + 3, none⟩) (by simp <;> omega)).trans q10⟩)) (fun hHeld => ?_)
      clear hK K hb5
      refine wpAnyH_take (i := 7) (v := .tuple #[bv z p A5 m5 c5, .bool true]) rfl (by kernel_rfl) (by kernel_rfl) (by kernel_rfl) (fun _ _ _ h => h) (Or.inl ⟨by rfl, ?_⟩) (by assumption) ?_
      · (intro w hSw; (try dsimp only at hSw); go_simp)
      simp only [Act.put]
      refine wpAnyH_take (i := 8) (v := bv z p A5 m5 c5) rfl (by kernel_rfl) (by kernel_rfl) (by kernel_rfl) (fun _ _ _ h => h) (Or.inl ⟨by rfl, ?_⟩) (by assumption) ?_
      · (intro w hSw; (try dsimp only at hSw); go_simp)
      simp only [Act.put]
      refine wpAnyH_take (i := 9) (v := .bool true) rfl (by kernel_rfl) (by kernel_rfl) (by kernel_rfl) (fun _ _ _ h => h) (Or.inl ⟨by rfl, ?_⟩) (by assumption) ?_
      · (intro w hSw; (try dsimp only at hSw); go_simp)
      simp only [Act.put]
      refine wpAnyH_ready (rs := [10]) (by kernel_rfl) (by simp) ?_
      refine AllReadyH.cons rfl (fun K hK => ?_) AllReadyH.nil
      go_simp
      refine hK.out _ _ (by first | assumption | go_keep) (fun hHeld => ?_)
      clear hK K
      refine wpAnyH_ready (rs := [11]) (by kernel_rfl) (by simp) ?_
      refine AllReadyH.cons rfl (fun K hK => ?_) AllReadyH.nil
      go_simp
      refine hK.out _ _ (by first | assumption | go_keep) (fun hHeld => ?_)
      clear hK K
      refine wpAnyH_ready (rs := [12]) (by kernel_rfl) (by simp) ?_
      refine AllReadyH.cons rfl (fun K hK => ?_) AllReadyH.nil
      go_simp
      refine hK.out _ _ (by first | assumption | go_keep) (fun hHeld => ?_)
      clear hK K
      refine wpAnyH_done (by kernel_rfl) ?_ _
      go_wp2_with fail
      go_meet
      exact dnc_a hB25.out hbo hcd hm5 hrep5
    · go_simp
      refine hK.out _ _ (by first | assumption | go_keep) (fun hHeld => ?_)
      clear hK K
      refine wpAnyH_ready (rs := [6]) (by kernel_rfl) (by simp) ?_
      refine AllReadyH.cons rfl (fun K hK => ?_) AllReadyH.nil
      go_simp
      go_at_call 59
      refine (HBB.out w2.heap.size p A4 c4 _ (by simp) (HRPK.out _ ((Below.refl w2.heap.size w2).alloc (Nat.le_refl _) (.cells #[.int .i64 0, .int .i64 0, .int .i64 0, .int .i64 0, .int .i64 0, .slice none 0 0] 82)).drew)).mono ?_
      rintro e w5 ⟨hbe, hb5⟩
      rw [HFY.out] at hbe
      obtain ⟨A5, c5, d5, rfl, hbo, hcd, hrep5⟩ := beh_some hbe
      obtain ⟨m5, hm5⟩ : ∃ m5, (kidsL ps z p).length = m5 := ⟨_, rfl⟩
      rw [hm5]
      have hB25 := Lib.hid (((Below.refl w2.heap.size w2).alloc (Nat.le_refl _) (.cells #[.int .i64 0, .int .i64 0, .int .i64 0, .int .i64 0, .int .i64 0, .slice none 0 0] 82)).drew.trans (hb5.mono (by simp)))
      have hwr : w5.heap[w2.heap.size]? = some (.cells #[.int .i64 0, .int .i64 0, .int .i64 0, .int .i64 0, .int .i64 0, .slice none 0 0] 82 (0, 0)) := (hb5.block w2.heap.size (by simp)).trans (heap_alloc_new w2 _)
      have e0 : w5.cell? ⟨w2.heap.size, 0, none⟩ = some (.int .i64 0) := cell_of_row w5 w2.heap.size 0 _ _ _ hwr
      have e1 : w5.cell? ⟨w2.heap.size, 1, none⟩ = some (.int .i64 0) := cell_of_row w5 w2.heap.size 1 _ _ _ hwr
      have e2 : w5.cell? ⟨w2.heap.size, 2, none⟩ = some (.int .i64 0) := cell_of_row w5 w2.heap.size 2 _ _ _ hwr
      have e3 : w5.cell? ⟨w2.heap.size, 3, none⟩ = some (.int .i64 0) := cell_of_row w5 w2.heap.size 3 _ _ _ hwr
      have e4 : w5.cell? ⟨w2.heap.size, 4, none⟩ = some (.int .i64 0) := cell_of_row w5 w2.heap.size 4 _ _ _ hwr
      have e5 : w5.cell? ⟨w2.heap.size, 5, none⟩ = some (.slice none 0 0) := cell_of_row w5 w2.heap.size 5 _ _ _ hwr
      have f0 : w5.frozen? ⟨w2.heap.size, 0, none⟩ = false := by simp [World.frozen?, hwr]
      have f1 : w5.frozen? ⟨w2.heap.size, 1, none⟩ = false := by simp [World.frozen?, hwr]
      have f2 : w5.frozen? ⟨w2.heap.size, 2, none⟩ = false := by simp [World.frozen?, hwr]
      have f3 : w5.frozen? ⟨w2.heap.size, 3, none⟩ = false := by simp [World.frozen?, hwr]
      have f4 : w5.frozen? ⟨w2.heap.size, 4, none⟩ = false := by simp [World.frozen?, hwr]
      have f5 : w5.frozen? ⟨w2.heap.size, 5, none⟩ = false := by simp [World.frozen?, hwr]
      have HWR := Lib.hid hwr
      have hsz5 : w2.heap.size < w5.heap.size := (Array.getElem?_eq_some_iff.1 hwr).1
      clear hwr
      refine hK.out _ _ (by (rcases hHeld with ⟨q0, q1, q2, q3, q4, q5, q6, q7, q8, q9, q10⟩; exact ⟨(hb5.cell (p := ⟨w.heap.size, 1, none⟩) (by simp <;> omega)).trans q0, (hb5.cell (p := ⟨w1.heap.size, 0, none⟩) (by simp <;> omega)).trans q1, (hb5.cell (p := ⟨w1.heap.size, 1, none⟩) (by simp <;> omega)).trans q2, (hb5.cell (p := ⟨w1.heap.size, 2, none⟩) (by simp <;> omega)).trans q3, (hb5.cell (p := ⟨w1.heap.size, 3, none⟩) (by simp <;> omega)).trans q4, (hb5.cell (p := ⟨w1.heap.size, 4, none⟩) (by simp <;> omega)).trans q5, (hb5.cell (p := ⟨w1.heap.size, 5, none⟩) (by simp <;> omega)).trans q6, (hb5.cell (p := ⟨b, off + j' * 4, none⟩) (by simp <;> omega)).trans q7, (hb5.cell (p := ⟨b, off + j' * 4 + 1, none⟩) (by simp <;> omega)).trans q8, (hb5.cell (p := ⟨b, off + j' * 4 + 2, none⟩) (by simp <;> omega)).trans q9, (hb5.cell (p := ⟨b, off + j' * 4 + 3, none⟩) (by simp <;> omega)).trans q10⟩)) (fun hHeld => ?_)
      clear hK K hb5
      have hx5 := hB25.out.size
      have hn1 : w.heap.size ≠ w2.heap.size := by omega
      have hn1b : w2.heap.size ≠ w.heap.size := by omega
      have hn2 : w1.heap.size ≠ w2.heap.size := by omega
      have hn2b : w2.heap.size ≠ w1.heap.size := by omega
      have hn3 : b ≠ w2.heap.size := by omega
      have hn3b : w2.heap.size ≠ b := by omega
      refine wpAnyH_take (i := 7) (v := .tuple #[bv z p A5 m5 c5, .bool true]) rfl (by kernel_rfl) (by kernel_rfl) (by kernel_rfl) (fun _ _ _ h => h) (Or.inl ⟨by rfl, ?_⟩) (by assumption) ?_
      · (intro w hSw; (try dsimp only at hSw); go_simp)
      simp only [Act.put]
      refine wpAnyH_take (i := 8) (v := bv z p A5 m5 c5) rfl (by kernel_rfl) (by kernel_rfl) (by kernel_rfl) (fun _ _ _ h => h) (Or.inl ⟨by rfl, ?_⟩) (by assumption) ?_
      · (intro w hSw; (try dsimp only at hSw); go_simp)
      simp only [Act.put]
      refine wpAnyH_take (i := 9) (v := .bool true) rfl (by kernel_rfl) (by kernel_rfl) (by kernel_rfl) (fun _ _ _ h => h) (Or.inl ⟨by rfl, ?_⟩) (by assumption) ?_
      · (intro w hSw; (try dsimp only at hSw); go_simp)
      simp only [Act.put]
      have h66 := row6 (.int .i64 z) (.int .i64 p.id) (.int .i64 p.fr) (.int .i64 p.to) (.int .i64 p.sz) (.slice A5 m5 c5) HWR.out
      have g66 := Lib.hid h66.2
      have h67 := Lib.hid h66.1
      clear h66
      refine wpAnyH_ready (rs := [11]) (by kernel_rfl) (by simp) ?_
      refine AllReadyH.cons rfl (fun K hK => ?_) AllReadyH.nil
      go_simp
      refine hK.out _ _ (by (rcases hHeld with ⟨q0, q1, q2, q3, q4, q5, q6, q7, q8, q9, q10⟩; exact ⟨(g66.out.cell_far ⟨w.heap.size, 1, none⟩ (by dsimp only; omega) (by simp; omega)).trans q0, (g66.out.cell_far ⟨w1.heap.size, 0, none⟩ (by dsimp only; omega) (by simp; omega)).trans q1, (g66.out.cell_far ⟨w1.heap.size, 1, none⟩ (by dsimp only; omega) (by simp; omega)).trans q2, (g66.out.cell_far ⟨w1.heap.size, 2, none⟩ (by dsimp only; omega) (by simp; omega)).trans q3, (g66.out.cell_far ⟨w1.heap.size, 3, none⟩ (by dsimp only; omega) (by simp; omega)).trans q4, (g66.out.cell_far ⟨w1.heap.size, 4, none⟩ (by dsimp only; omega) (by simp; omega)).trans q5, (g66.out.cell_far ⟨w1.heap.size, 5, none⟩ (by dsimp only; omega) (by simp; omega)).trans q6, (g66.out.cell_far ⟨b, off + j' * 4, none⟩ (by dsimp only; omega) (by simp; omega)).trans q7, (g66.out.cell_far ⟨b, off + j' * 4 + 1, none⟩ (by dsimp only; omega) (by simp; omega)).trans q8, (g66.out.cell_far ⟨b, off + j' * 4 + 2, none⟩ (by dsimp only; omega) (by simp; omega)).trans q9, (g66.out.cell_far ⟨b, off + j' * 4 + 3, none⟩ (by dsimp only; omega) (by simp; omega)).trans q10⟩)) (fun hHeld => ?_)
      clear hK K
      refine wpAnyH_ready (rs := [12]) (by kernel_rfl) (by simp) ?_
      refine AllReadyH.cons rfl (fun K hK => ?_) AllReadyH.nil
      go_simp
      refine hK.out _ _ (by assumption) (fun hHeld => ?_)
      clear hK K
      refine wpAnyH_done (by kernel_rfl) ?_ _
      go_wp2_with fail
      go_meet
      exact dnc_w hB25.out (Nat.le_refl _) hsz5 h67.out g66.out hbo hcd hm5 hrep5
  case rest =>
    obtain ⟨T, A5, c5, d5, rfl, hbc, hbo, hcd, hrep, hT2, hTl, hBw⟩ := hcut
    obtain ⟨wx, hwx⟩ : ∃ wx, wx = wc := ⟨_, rfl⟩
    subst hwx
    obtain ⟨e0, e1, e2, e3, e4, e5⟩ := hbc
    obtain ⟨m5, hm5⟩ : ∃ m5, (kidsL ps z p).length = m5 := ⟨_, rfl⟩
    have HBN5 := Lib.hid (HBN.out w2.heap.size d5 z p A5 c5)
    rw [hm5] at HBN5 e5
    have hperm := HYP.out d5 hbo hcd
    obtain ⟨l, hl⟩ : ∃ l, nodesL ps d5 z p = l := ⟨_, rfl⟩
    rw [hl] at hperm HBN5
    have hl8 : l.length ≤ 8 := by rw [hperm.length_eq]; have := HDN.out; omega
    have HSO := Lib.hid (sort_dn hperm HDS.out)
    have HLL := Lib.hid hperm.length_eq
    have HRX := Lib.hid hrep
    have HBX := Lib.hid hBw
    clear hperm hl hm5 hbo hcd hrep hBw HYP HFY HDN HDS HBN b0 b1 t0 t1 t2 t3 t4 t5 p0 p1 p2 p3
    simp only [Nat.zero_add] at e0 e1 e2 e3 e4 e5
    go_wp2_with (first
      | (go_at_call 60; refine (HBN5.out wx HRX.out (by omega)).mono ?_; rintro e w6 ⟨gN, cN, rfl, hgN, hON, hb6⟩; have HO6 := Lib.hid hON; have HB6 := Lib.hid (HBX.out.trans (hb6.mono HBX.out.size)); clear hON hb6)
      | (go_at_call 69; refine (sort_own HO6.out (by omega)).mono ?_; rintro e w7 ⟨rfl, hO7, hg7⟩))
    rw [HSO.out, HLL.out] at hO7
    go_ret2
    have hz2w := HBX.out.size
    have hy22 := hy2
    exact ⟨gN, cN, by rw [← HLL.out]; rfl, by omega, own_lower (show IOwn w7 wx.heap.size (.slice (some ⟨gN, 0, none⟩) DL.length cN) DL from hO7), HB2.out.trans ((HB6.out.grown hg7 HB6.out.size (fun y hy => by simp at hy; omega)).mono HB2.out.size)⟩
end Go.Proofs.Ytlkomipjamelkab.S2

namespace Go.Proofs.Ytlkomipjamelkab.S2
open Go.RowKit P2

theorem nodeB_nat9 {n : Int} {ps : List Pp} {x : Int} (h : nodeB n ps x = true) : ∃ N X : Nat, n = N ∧ x = X := by
  obtain ⟨hg, h1, h2⟩ := nodeB_of h
  obtain ⟨N, rfl⟩ := good_nat hg
  exact ⟨N, x.toNat, rfl, by omega⟩
theorem tfl_pack (n : Int) (ps : List Pp) (x : Int) (dm : List Int) (hm : ps.length ≤ maxLen) (hdl : dm.length ≤ 1048576) : ∃ (L : List Int) (ok : Bool), L.length ≤ 12 ∧ (ok = true → ∃ N s : Nat, n = N ∧ x = s ∧ nodeB N ps s = true ∧ treeB N ps = true ∧ demB N ps dm = true ∧ L = tfL N ps s dm) ∧
    (∀ (A : Option Addr) (c : Nat) (AD : Option Addr) (dc : Nat) (w : World), PAt w A ps → ps.length ≤ c → IAt w AD dm →
      Calls Try.prog 9 #[nv n A ps.length c, .int .i64 x, .slice AD dm.length dc] w (GivesI w L ok) ∧
      Calls Try.prog 10 #[nv n A ps.length c, .int .i64 x, .slice AD dm.length dc] w (GivesA w L ok)) := by
  cases hv1 : nodeB n ps x with
  | false => exact ⟨[], false, by simp, by simp, fun A c AD dc w h hc hd => ⟨tfl_no1 n A c ps x AD dc dm w (fun w' hb => tf_node hv1 A c w' (h.kept hb (Nat.le_refl _)) hm), stfl_no n A c ps x AD dc dm w h hm hd hdl (.inl hv1)⟩⟩
  | true =>
    obtain ⟨hg, hx1, hx2⟩ := nodeB_of hv1
    obtain ⟨N, rfl⟩ := good_nat hg
    obtain ⟨X, rfl⟩ : ∃ X : Nat, x = X := ⟨x.toNat, by omega⟩
    cases ht : treeB N ps with
    | false => exact ⟨[], false, by simp, by simp, fun A c AD dc w h hc hd => ⟨tfl_no1 N A c ps X AD dc dm w (fun w' hb => tf_tree hv1 ht A c w' (h.kept hb (Nat.le_refl _)) hm), stfl_no N A c ps X AD dc dm w h hm hd hdl (.inr (.inr ⟨N, rfl, ht⟩))⟩⟩
    | true =>
      cases hv : demB N ps dm with
      | false => exact ⟨[], false, by simp, by simp, fun A c AD dc w h hc hd => ⟨tfl_no2 N X A c ps AD dc dm w h hm hd hdl hv (fun w' hb => tf_ok hv1 ht (tree_full hg ht).1 A c w' (h.kept hb (Nat.le_refl _)) hm), stfl_no N A c ps X AD dc dm w h hm hd hdl (.inr (.inl hv))⟩⟩
      | true => exact ⟨tfL N ps X dm, true, by rw [tfL_len]; have := hg.2.2.1; omega, fun _ => ⟨N, X, rfl, rfl, hv1, ht, hv, rfl⟩, fun A c AD dc w h hc hd => ⟨tfl_yes N X A c ps AD dc dm w h hm hd hdl hv1 ht hv, stfl_yes N X A c ps AD dc dm w h hm hc hd hdl hv1 ht hv⟩⟩
theorem bal_pack (n : Int) (ps : List Pp) (x : Int) (dm fl : List Int) (hm : ps.length ≤ maxLen) (hdl : dm.length ≤ 1048576) (hfl : fl.length ≤ 1048576) : ∃ (b ok : Bool), (ok = true → ∃ N s : Nat, n = N ∧ x = s ∧ askB N ps s dm fl = true ∧ b = balB (imbA s dm ps fl)) ∧
    (∀ (A : Option Addr) (c : Nat) (AD : Option Addr) (dc : Nat) (AF : Option Addr) (fc : Nat) (w : World), PAt w A ps → IAt w AD dm → IAt w AF fl →
      (Calls Try.prog 12 #[nv n A ps.length c, .int .i64 x, .slice AD dm.length dc, .slice AF fl.length fc] w fun e w' => e = .returned (.tuple #[.bool b, .bool ok]) ∧ Below w.heap.size w w') ∧
      (Calls Try.prog 18 #[nv n A ps.length c, .int .i64 x, .slice AD dm.length dc, .slice AF fl.length fc] w fun e w' => e = .returned (.tuple #[.bool b, .bool ok]) ∧ Below w.heap.size w w')) := by
  cases hv : askB n ps x dm fl with
  | false => exact ⟨false, false, by simp, fun A c AD dc AF fc w h hd hf => ⟨bal_no n A c ps x AD dc dm AF fc fl w h hm hd hdl hf hfl hv, sbal_no n A c ps x AD dc dm AF fc fl w h hm hd hdl hf hfl hv⟩⟩
  | true =>
    obtain ⟨N, S, rfl, rfl⟩ := nodeB_nat9 (askB_of hv).1
    exact ⟨_, true, fun _ => ⟨N, S, rfl, rfl, hv, rfl⟩, fun A c AD dc AF fc w h hd hf => ⟨bal_yes N S A c ps AD dc dm AF fc fl w h hm hd hdl hf hfl hv, sbal_yes N S A c ps AD dc dm AF fc fl w h hm hd hdl hf hfl hv⟩⟩
theorem tfl_ask {N s : Nat} {ps : List Pp} {dm : List Int} (hn : nodeB N ps s = true) (hd : demB N ps dm = true) : askB N ps s dm (tfL N ps s dm) = true := by
  obtain ⟨hg, hdn, hr⟩ := demB_of hd
  have hf : floB N ps (tfL N ps s dm) = true := by
    unfold floB amtB
    rw [good_mk hg, tfL_len, tfL_in (by have := hg.2.1; omega) hr (by omega)]
    simp
  unfold askB
  rw [hn, hd, hf]; rfl
theorem tfl_bal {N s : Nat} {ps : List Pp} {dm : List Int} (hn : nodeB N ps s = true) (ht : treeB N ps = true) (hd : demB N ps dm = true) : balB (imbA s dm ps (tfL N ps s dm)) = true := by
  obtain ⟨hg, hdn, hr⟩ := demB_of hd
  obtain ⟨_, h1, h2⟩ := nodeB_of hn
  exact balB_mk fun v _ => tree_bal hg ht (by omega) (by omega) (by omega) v
theorem zer_bal {N s : Nat} {ps : List Pp} {dm fl : List Int} (h : askB N ps s dm fl = true) : zerI s dm ps fl N = balB (imbA s dm ps fl) := by
  obtain ⟨hn, hd, _⟩ := askB_of h
  obtain ⟨hg, hdn, _⟩ := demB_of hd
  obtain ⟨_, h1, h2⟩ := nodeB_of hn
  have hN8 : N ≤ 8 := by have := hg.2.1; omega
  rw [Bool.eq_iff_iff]
  constructor
  · intro hz
    unfold zerI at hz
    rw [List.all_eq_true] at hz
    refine balB_mk fun v hv => ?_
    by_cases c : v = 0 ∨ N < v
    · exact imbA_out hg (by omega) (by omega) (by omega) c
    · have := hz (v - 1) (List.mem_range.2 (by omega))
      rw [show v - 1 + 1 = v by omega] at this
      simpa using this
  · intro hz
    unfold zerI
    rw [List.all_eq_true]
    intro v hv
    have hv2 := List.mem_range.1 hv
    have := balB_of hz (v := v + 1) (by omega)
    simpa using this
/-- What the law says of one pipe of a tree. -/
theorem pipe_pack {M s : Nat} {ps : List Pp} {dm : List Int} (hn : nodeB M ps s = true) (ht : treeB M ps = true) (hd : demB M ps dm = true) {i : Nat} (hi : i < ps.length) : ∃ (D : List Int) (B : Bool) (T : Int),
    (∀ (A : Option Addr) (c : Nat) (w : World), PAt w A ps → Calls Try.prog 15 #[nv M A ps.length c, .int .i64 (s : Int), .int .i64 (pAt ps i).id] w (GivesI w D true)) ∧ D.length ≤ 8 ∧ (∀ k, k < D.length → ∃ t : Nat, t < M ∧ D.getD k 0 = (t : Int) + 1 ∧ sumK (fun j => tk dm (lA D j)) (k + 1) = sumK (fun j => tk dm (lA D j)) k + dm.getD t 0) ∧
    (∀ k, k ≤ D.length → 0 ≤ sumK (fun j => tk dm (lA D j)) k ∧ sumK (fun j => tk dm (lA D j)) k ≤ 8000) ∧ sumK (fun j => tk dm (lA D j)) D.length = T ∧ T ≤ sumL dm ∧ decide ((pAt ps i).fr ∈ D) = B ∧ (tfL M ps s dm).getD i 0 = if B = true then -T else T := by
  obtain ⟨hg, hdn, hr⟩ := demB_of hd
  have hM8 : M ≤ 8 := by have := hg.2.1; omega
  have hlen := dn_len M ps (pAt ps i) s
  refine ⟨dnL M ps (pAt ps i) s, dnB ps (pAt ps i) s (pAt ps i).fr, behS M ps s dm i, fun A c w h => idn_yes M s i A c ps (pAt ps i).id w h (by have := hg.2.2.1; unfold maxLen; omega) hn ht hi (plc_at hg hi).2, by omega, fun k hk => ?_, fun k hk => sumT_in hr (by omega) (fun v hv => (dn_mem.1 hv).1) (by omega) hk, sumG_all _ _, (beh_le hr (by omega) i).2, beh_has hg hi, by rw [tfL_at hi, beh_flow]⟩
  have hm : (dnL M ps (pAt ps i) s).getD k 0 ∈ dnL M ps (pAt ps i) s := by
    have e : (dnL M ps (pAt ps i) s).getD k 0 = (dnL M ps (pAt ps i) s)[k] := by simp [List.getD, hk]
    rw [e]; exact List.getElem_mem hk
  obtain ⟨⟨h1, h2⟩, _⟩ := dn_mem.1 hm
  generalize hx : (dnL M ps (pAt ps i) s).getD k 0 = x at h1 h2
  refine ⟨(x - 1).toNat, by omega, by omega, ?_⟩
  simp only [sumK]
  unfold tk
  rw [show lA (dnL M ps (pAt ps i) s) k = x from hx]
end Go.Proofs.Ytlkomipjamelkab.S2
