/- TreeFlows of the program: contracts. Conditions: each theorem's own premises. -/
import Derived.Test.YtgjogjmfpbinfaaKW
import Derived.Test.YtgjogjmfpbinfaaKT
import Derived.Test.YtgjogjmfpbinfaaKB
import Derived.Test.YtgjogjmfpbinfaaKQ
import Derived.Maps.AppendAt
namespace Go.Proofs.Ytgjogjmfpbinfaa.S2
open Go.RowKit P2
set_option maxHeartbeats 2000000 in
theorem stfl_no (n : Int) (A : Option Addr) (cap : Nat) (ps : List Pp) (x : Int) (AD : Option Addr) (dc : Nat) (dm : List Int) (w : World) (h : PAt w A ps) (hm : ps.length ≤ maxLen) (hd : IAt w AD dm) (hdl : dm.length ≤ 1048576)
    (hv : nodeB n ps x = false ∨ demB n ps dm = false ∨ ∃ N : Nat, n = N ∧ treeB N ps = false) :
    Calls Try.prog 80 #[nv n A ps.length cap, .int .i64 x, .slice AD dm.length dc] w (GivesA w [] false) := by
  obtain ⟨v1, hv1⟩ : ∃ v, nodeB n ps x = v := ⟨_, rfl⟩
  obtain ⟨v3, hv3⟩ : ∃ v, amtB dm n 0 1000 = v := ⟨_, rfl⟩
  have H1 := Lib.hid (fun w' (hb : Below w.heap.size w w') => snode_v hv1 A cap w' (h.kept hb (Nat.le_refl _)) hm)
  have H3 := Lib.hid (fun w' (hb : Below w.heap.size w w') => sdem_v hv3 A ps.length cap AD dc w' (hd.kept hb (Nat.le_refl _)) hdl)
  cases v1 with
  | false =>
    clear h hd hv hv1 hv3
    go_enter Try.func80, Try.ntmps80
    go_wp2_with (go_at_call 126; refine (H1.out _ ((Below.refl _ _).alloc (Nat.le_refl _) _)).mono ?_; rintro e w1 ⟨rfl, hb1⟩)
    go_ret2
    exact gives_noneA (below_alloc_call hb1)
  | true =>
    obtain ⟨hg, hx1, hx2⟩ := nodeB_of hv1
    obtain ⟨N, rfl⟩ := good_nat hg
    cases v3 with
    | false =>
      clear h hd hv hv1 hv3
      go_enter Try.func80, Try.ntmps80
      go_wp2_with (first
        | (go_at_call 126; refine (H1.out _ ((Below.refl _ _).alloc (Nat.le_refl _) _)).mono ?_; rintro e w1 ⟨rfl, hb1⟩; have HX1 := Lib.hid (show Below (w.heap.size + 1) (w.alloc (nb N A ps.length cap)) w1 by simpa using hb1); obtain ⟨b0, b1⟩ := box2 HX1.out; have hy1 := box_lt HX1.out; clear hb1)
        | (go_at_call 127; refine (H3.out _ (below_box HX1.out)).mono ?_; rintro e w3 ⟨rfl, hb3⟩; have HX3 := Lib.hid (on_call HX1.out hb3); clear b0 b1; obtain ⟨b0, b1⟩ := box2 HX3.out; have hy3 := box_lt HX3.out; clear hb3))
      go_ret2
      exact gives_noneA (below_box HX3.out)
    | true =>
      have ht : treeB N ps = false := by
        rcases hv with h | h | ⟨M, e, h⟩
        · exact absurd (h.symm.trans hv1) (by simp)
        · unfold demB at h; rw [good_mk hg, hv3] at h; cases h
        · have : M = N := by omega
          subst this
          exact h
      have H4 := Lib.hid (fun w' (hb : Below w.heap.size w w') => stree_v ht A cap w' (h.kept hb (Nat.le_refl _)) hg)
      clear h hd hv hv1 hv3 hg ht
      go_enter Try.func80, Try.ntmps80
      go_wp2_with (first
        | (go_at_call 126; refine (H1.out _ ((Below.refl _ _).alloc (Nat.le_refl _) _)).mono ?_; rintro e w1 ⟨rfl, hb1⟩; have HX1 := Lib.hid (show Below (w.heap.size + 1) (w.alloc (nb N A ps.length cap)) w1 by simpa using hb1); obtain ⟨b0, b1⟩ := box2 HX1.out; have hy1 := box_lt HX1.out; clear hb1)
        | (go_at_call 127; refine (H3.out _ (below_box HX1.out)).mono ?_; rintro e w3 ⟨rfl, hb3⟩; have HX3 := Lib.hid (on_call HX1.out hb3); clear b0 b1; obtain ⟨b0, b1⟩ := box2 HX3.out; have hy3 := box_lt HX3.out; clear hb3)
        | (go_at_call 183; refine (H4.out _ (below_box HX3.out)).mono ?_; rintro e w4 ⟨rfl, hb4⟩; have HX4 := Lib.hid (on_call HX3.out hb4); clear b0 b1; obtain ⟨b0, b1⟩ := box2 HX4.out; have hy4 := box_lt HX4.out; clear hb4))
      go_ret2
      exact gives_noneA (below_box HX4.out)

set_option maxHeartbeats 2000000 in
theorem stfl_yes (N t : Nat) (A : Option Addr) (cap : Nat) (ps : List Pp) (AD : Option Addr) (dc : Nat) (dm : List Int) (w : World) (h : PAt w A ps) (hm : ps.length ≤ maxLen) (hc : ps.length ≤ cap) (hd : IAt w AD dm) (hdl : dm.length ≤ 1048576) (hn : nodeB N ps t = true) (ht : treeB N ps = true) (hv : demB N ps dm = true) :
    Calls Try.prog 80 #[nv N A ps.length cap, .int .i64 (t : Int), .slice AD dm.length dc] w (GivesA w (tfL N ps t dm) true) := by
  obtain ⟨hg, hdn, hr⟩ := demB_of hv
  obtain ⟨_, hx1, hx2⟩ := nodeB_of hn
  unfold demB at hv
  rw [Bool.and_eq_true] at hv
  have H1 := Lib.hid (fun w' (hb : Below w.heap.size w w') => snode_v hn A cap w' (h.kept hb (Nat.le_refl _)) hm)
  have H3 := Lib.hid (fun w' (hb : Below w.heap.size w w') => sdem_v hv.2 A ps.length cap AD dc w' (hd.kept hb (Nat.le_refl _)) hdl)
  have H4 := Lib.hid (fun w' (hb : Below w.heap.size w w') => stree_v ht A cap w' (h.kept hb (Nat.le_refl _)) hg)
  have H5 := Lib.hid (fun w' (hb : Below w.heap.size w w') => stf_any N t A cap ps AD dc dm w' (h.kept hb (Nat.le_refl _)) hc (hd.kept hb (Nat.le_refl _)) hg (by omega) (by omega) hr hdn)
  clear h hd hv hn ht hg hdn hr hc
  go_enter Try.func80, Try.ntmps80
  go_wp2_with (first
    | (go_at_call 126; refine (H1.out _ ((Below.refl _ _).alloc (Nat.le_refl _) _)).mono ?_; rintro e w1 ⟨rfl, hb1⟩; have HX1 := Lib.hid (show Below (w.heap.size + 1) (w.alloc (nb N A ps.length cap)) w1 by simpa using hb1); obtain ⟨b0, b1⟩ := box2 HX1.out; have hy1 := box_lt HX1.out; clear hb1)
    | (go_at_call 127; refine (H3.out _ (below_box HX1.out)).mono ?_; rintro e w3 ⟨rfl, hb3⟩; have HX3 := Lib.hid (on_call HX1.out hb3); clear b0 b1; obtain ⟨b0, b1⟩ := box2 HX3.out; have hy3 := box_lt HX3.out; clear hb3)
    | (go_at_call 183; refine (H4.out _ (below_box HX3.out)).mono ?_; rintro e w4 ⟨rfl, hb4⟩; have HX4 := Lib.hid (on_call HX3.out hb4); clear b0 b1; obtain ⟨b0, b1⟩ := box2 HX4.out; have hy4 := box_lt HX4.out; clear hb4)
    | (go_at_call 129; refine (H5.out _ (below_box HX4.out)).mono ?_; rintro e w5 ⟨g, c, rfl, hg5, hO, hb5⟩))
  go_ret2
  have hz := (below_box HX4.out).size
  exact ⟨g, 0, c, rfl, by omega, hO.iat, (below_box HX4.out).trans (hb5.mono hz), iown_lt' hO⟩

/-! ### DownstreamNodes -/
end Go.Proofs.Ytgjogjmfpbinfaa.S2

namespace Go.Proofs.Ytgjogjmfpbinfaa.S2
open Go.RowKit P2

theorem fiI_at0 (l : List Int) (k : Nat) (h : k < l.length) : (fiI l k)[k]? = some (iv 0) := by
  unfold fiI
  have e : ((l.take k).map iv).length = k := by simp; omega
  rw [List.getElem?_append_right (by omega), e, Nat.sub_self, List.getElem?_replicate, if_pos (by omega)]
theorem fiI_set0 (l : List Int) (k : Nat) (h : k < l.length) : (fiI l k).set k (iv 0) = fiI l k := by
  apply List.ext_getElem?
  intro i
  rw [List.getElem?_set]
  by_cases e : k = i
  · subst e
    rw [if_pos rfl, fiI_at0 l k h, if_pos (by rw [fiI_len l k (by omega)]; exact h)]
  · rw [if_neg e]
theorem grown_drewF (w : World) (row : Option Nat) : w.grownBy w.drew row := ⟨rfl, rfl, rfl, Nat.le_refl _, fun _ _ _ => rfl⟩
abbrev q00 : Pp := ⟨0, 0, 0, 0⟩

/-- A fresh slice of numbers that has no room for more, beside true. -/
def GivesC (w : World) (l : List Int) (e : Ending) (w' : World) : Prop :=
  ∃ g, e = .returned (.tuple #[.slice (some ⟨g, 0, none⟩) l.length l.length, .bool true]) ∧ w.heap.size ≤ g ∧ IOwn w' w.heap.size (.slice (some ⟨g, 0, none⟩) l.length l.length) l ∧ Below w.heap.size w w'

set_option maxHeartbeats 1000000 in
theorem tfl_no1 (n : Int) (A : Option Addr) (cap : Nat) (ps : List Pp) (x : Int) (AD : Option Addr) (dc : Nat) (dm : List Int) (w : World) (hT : ∀ w', Below w.heap.size w w' → Calls Try.prog 165 #[nv n A ps.length cap, .int .i64 x] w' fun e w'' => e = .returned (.tuple #[bv 0 ⟨0, 0, 0, 0⟩ none 0 0, .bool false]) ∧ Below w'.heap.size w' w'') :
    Calls Try.prog 61 #[nv n A ps.length cap, .int .i64 x, .slice AD dm.length dc] w (GivesI w [] false) := by
  have H := Lib.hid hT
  clear hT
  go_enter Try.func61, Try.ntmps61
  go_wp2_with (go_at_call 165; refine (H.out _ ((Below.refl _ _).alloc (Nat.le_refl _) _)).mono ?_; rintro e w1 ⟨rfl, hb1⟩; have hB1 := Lib.hid (((Below.refl w.heap.size w).alloc (Nat.le_refl _) (nb n A ps.length cap)).trans (hb1.mono (by simp))); clear hb1)
  go_ret2
  have h9 := gives_none (hB1.out.alloc hB1.out.size (.cells #[.int .i64 0, .int .i64 0, .int .i64 0, .int .i64 0, .int .i64 0, .slice none 0 0] 144))
  rw [show (w1.alloc (.cells #[.int .i64 0, .int .i64 0, .int .i64 0, .int .i64 0, .int .i64 0, .slice none 0 0] 144)).heap.size = w1.heap.size + 1 from by simp] at h9
  exact h9
set_option maxHeartbeats 2000000 in
set_option maxRecDepth 100000 in
theorem tfl_no2 (N t : Nat) (A : Option Addr) (cap : Nat) (ps : List Pp) (AD : Option Addr) (dc : Nat) (dm : List Int) (w : World) (h : PAt w A ps) (hm : ps.length ≤ maxLen) (hd : IAt w AD dm) (hdl : dm.length ≤ 1048576) (hv : demB N ps dm = false) (hT : ∀ w', Below w.heap.size w w' → Calls Try.prog 165 #[nv N A ps.length cap, .int .i64 (t : Int)] w' (TfIs N ps t w')) :
    Calls Try.prog 61 #[nv N A ps.length cap, .int .i64 (t : Int), .slice AD dm.length dc] w (GivesI w [] false) := by
  have H := Lib.hid hT
  have H2 := Lib.hid (fun w' (hb : Below w.heap.size w w') => dem_v hv A cap AD dc w' (h.kept hb (Nat.le_refl _)) hm (hd.kept hb (Nat.le_refl _)) hdl)
  clear hT h hd hv
  go_enter Try.func61, Try.ntmps61
  go_wp2_with (first
    | (go_at_call 165; refine (H.out _ ((Below.refl _ _).alloc (Nat.le_refl _) _)).mono ?_; rintro e w1 ⟨A4, c4, rfl, hrep, hb1⟩; have HB1 := Lib.hid (show Below (w.heap.size + 1) (w.alloc (nb N A ps.length cap)) w1 from by simpa using hb1); clear hb1 hrep; obtain ⟨b0, b1⟩ := box2 HB1.out; have hy1 : w.heap.size < w1.heap.size := box_lt HB1.out; generalize (kidsL ps (t : Int) ⟨0, 0, 0, 0⟩).length = m4)
    | (go_at_call 166; refine (H2.out _ ((below_box HB1.out).alloc (below_box HB1.out).size _)).mono ?_; rintro e w2 ⟨rfl, hb2⟩; have HB2 := Lib.hid (((below_box HB1.out).alloc (below_box HB1.out).size (.cells #[.int .i64 (t : Int), .int .i64 0, .int .i64 0, .int .i64 0, .int .i64 0, .slice A4 m4 c4] 144)).trans (hb2.mono (by have := (below_box HB1.out).size; simp; omega)))))
  go_ret2
  exact gives_none HB2.out

set_option maxHeartbeats 4000000 in
set_option maxRecDepth 100000 in
theorem tfl_cap (N t : Nat) (A : Option Addr) (cap : Nat) (ps : List Pp) (AD : Option Addr) (dc : Nat) (dm : List Int) (w : World) (h : PAt w A ps) (hm : ps.length ≤ maxLen) (hd : IAt w AD dm) (hdl : dm.length ≤ 1048576) (hn : nodeB N ps t = true) (ht : treeB N ps = true) (hv : demB N ps dm = true) :
    Calls Try.prog 61 #[nv N A ps.length cap, .int .i64 (t : Int), .slice AD dm.length dc] w (GivesC w (tfL N ps t dm)) := by
  obtain ⟨hg, hdn, hr⟩ := demB_of hv
  obtain ⟨_, ht1, ht2⟩ := nodeB_of hn
  have hl10 := hg.2.2.1
  have hN8 := hg.2.1
  have ha := (tree_full hg ht).1
  have H := Lib.hid (fun w' (hb : Below w.heap.size w w') => tf_ok hn ht ha A cap w' (h.kept hb (Nat.le_refl _)) hm)
  have H2 := Lib.hid (fun w' (hb : Below w.heap.size w w') => dem_v hv A cap AD dc w' (h.kept hb (Nat.le_refl _)) hm (hd.kept hb (Nat.le_refl _)) hdl)
  have HA := Lib.hid (fun w' (hb : Below w.heap.size w w') => h.kept hb (Nat.le_refl _))
  have HI := Lib.hid (fun w' (hb : Below w.heap.size w w') => hd.kept hb (Nat.le_refl _))
  have HFE := Lib.hid (fun k (hk : k < ps.length) => far_end (t := t) hg ht (by omega) (by omega) (pAt_mem hk))
  have HBB := Lib.hid (fun (B : Nat) (p0 : Pp) (A : Option Addr) (cap : Nat) (w : World) (hB : B ≤ w.heap.size) (hr : RepIn ps (fun b => b < B) (N + 1) w A t ⟨0, 0, 0, 0⟩) => bbeh_any (fun b => b < B) B (fun _ h => h) hg ha p0 (N + 1) t ⟨0, 0, 0, 0⟩ A cap w hB (br_root hg (by omega) (by omega)) (cnt_le _ _ _ _) hr)
  have HBN := Lib.hid (fun (B d : Nat) (x : Int) (q : Pp) (A : Option Addr) (cap : Nat) (w : World) => bnodes_any ps (fun b => b < B) hl10 d x q A cap w)
  have HTK := Lib.hid (fun (l : List Int) (hmm : ∀ v, v ∈ l → 1 ≤ v ∧ v ≤ (N : Int)) (hl : l.length ≤ 8) k (hk : k ≤ l.length) => sumT_in hr (by omega) hmm hl hk)
  have HTI := Lib.hid (fun v (h1 : 1 ≤ v) (h2 : v ≤ (N : Int)) => tk_in hr (by omega) h1 h2)
  have HLL := Lib.hid (tfL_len N ps t dm)
  have HLA := Lib.hid (fun k (hk : k < ps.length) => tfL_at (N := N) (s := t) (dm := dm) hk)
  have HDL := Lib.hid hdn
  have hmk := run_make_row' (P := Try.prog) 34 3 (.int .i64 0) 8 Try.underlying34 infoI rfl .i64 .i64 ps.length (by omega) (by omega)
  have HO := Lib.hid (fun w => made_own (tfL N ps t dm) w (by rw [tfL_len]; omega))
  have HF := Lib.hid (fiI_full (tfL N ps t dm))
  have HFS := Lib.hid (fun k (hk : k < ps.length) => fiI_set (tfL N ps t dm) k (by rw [tfL_len]; exact hk))
  have HF0 := Lib.hid (fun k (hk : k < ps.length) => fiI_set0 (tfL N ps t dm) k (by rw [tfL_len]; exact hk))
  have HFL := Lib.hid (fun k (hk : k ≤ ps.length) => fiI_len (tfL N ps t dm) k (by rw [tfL_len]; exact hk))
  rw [HLL.out] at HO HF HFL
  clear h hm hd hdl hn ht hv hr ha hg hdn
  go_enter Try.func61, Try.ntmps61
  go_wp2_with (first
    | (go_at_call 165; refine (H.out _ ((Below.refl _ _).alloc (Nat.le_refl _) _)).mono ?_; rintro e w1 ⟨A4, c4, rfl, hrep, hb1⟩; have HB1 := Lib.hid (show Below (w.heap.size + 1) (w.alloc (nb N A ps.length cap)) w1 from by simpa using hb1); have HREP1 := Lib.hid hrep; clear hb1 hrep; obtain ⟨b0, b1⟩ := box2 HB1.out; have hy1 : w.heap.size < w1.heap.size := box_lt HB1.out; obtain ⟨m4, hm4⟩ : ∃ m4, (kidsL ps (t : Int) ⟨0, 0, 0, 0⟩).length = m4 := ⟨_, rfl⟩; rw [hm4] at HBB; have HM4 := Lib.hid hm4; rw [hm4]; clear hm4)
    | (go_at_call 166; refine (H2.out _ ((below_box HB1.out).alloc (below_box HB1.out).size _)).mono ?_; rintro e w2 ⟨rfl, hb2⟩; refine Hid.out ?_))
  have hab1 := alloc_belowE w1 (.cells #[.int .i64 (t : Int), .int .i64 0, .int .i64 0, .int .i64 0, .int .i64 0, .slice A4 m4 c4] 144)
  have hb12 : Below w1.heap.size w1 w2 := hab1.trans (hb2.mono (by simp))
  have HX2 := Lib.hid (on_call HB1.out hb12)
  have HB2 := Lib.hid (below_box HX2.out)
  have hz12 : w1.heap.size < w2.heap.size := by have := hb2.size; simp at this; omega
  have HT2 : Hid (BC w2 w1.heap.size 0 t ⟨0, 0, 0, 0⟩ (.slice A4 m4 c4)) := Lib.hid (by
    have hz : w1.heap.size < (w1.alloc (.cells #[.int .i64 (t : Int), .int .i64 0, .int .i64 0, .int .i64 0, .int .i64 0, .slice A4 m4 c4] 144)).heap.size := by simp
    exact ⟨(hb2.cell (p := ⟨w1.heap.size, 0, none⟩) hz).trans (cells_new6 w1 _ _ _ _ _ _ _ 0 _ rfl), (hb2.cell (p := ⟨w1.heap.size, 1, none⟩) hz).trans (cells_new6 w1 _ _ _ _ _ _ _ 1 _ rfl), (hb2.cell (p := ⟨w1.heap.size, 2, none⟩) hz).trans (cells_new6 w1 _ _ _ _ _ _ _ 2 _ rfl), (hb2.cell (p := ⟨w1.heap.size, 3, none⟩) hz).trans (cells_new6 w1 _ _ _ _ _ _ _ 3 _ rfl), (hb2.cell (p := ⟨w1.heap.size, 4, none⟩) hz).trans (cells_new6 w1 _ _ _ _ _ _ _ 4 _ rfl), (hb2.cell (p := ⟨w1.heap.size, 5, none⟩) hz).trans (cells_new6 w1 _ _ _ _ _ _ _ 5 _ rfl)⟩)
  have HREP2 := Lib.hid (RepIn.kept (Q := fun b => b < w2.heap.size) (fun b _ hlt => (show b < w2.heap.size by omega)) (fun b _ hlt => hb12.block b hlt) hb12.size _ _ _ _ HREP1.out)
  have HO2 := Lib.hid (HO.out w2)
  clear b0 b1
  obtain ⟨b0, b1⟩ := box2 HX2.out
  have hy2 := box_lt HX2.out
  clear hab1 hb12 hb2 HB1 HREP1 H H2 HO
  refine Lib.hid ?_
  go_wp2
  clear hmk
  have HB0 := Lib.hid (show Below w2.heap.size w2 (w2.alloc (.cells (madeCells #[.int .i64 0] ps.length) 3)) from (Below.refl _ _).alloc (Nat.le_refl _) _)
  go_loopw [39] (fun i wr => ∃ k : Nat, k ≤ ps.length ∧ i = .int .i64 k ∧ Hid (wr.ownsRow w2.heap.size 3 1 (.slice (some ⟨w2.heap.size, 0, none⟩) ps.length ps.length) ps.length (fiI (tfL N ps t dm) k)) ∧ Hid (Below w2.heap.size w2 wr)) (fun i _ => ps.length - (intOf i).toNat)
  case atStart => exact ⟨0, Nat.zero_le _, rfl, HO2, HB0⟩
  case round =>
    clear HB0 HO2
    obtain ⟨k, hk, rfl, hown, hB⟩ := hrel
    by_cases hlt : k < ps.length
    · obtain ⟨b, off, hA, hbl, p0, p1, p2, p3⟩ := (HA.out _ (HB2.out.trans (hB.out.mono HB2.out.size))).at_ hlt
      subst hA
      have hk0 : (0 : Int) ≤ (k : Int) := by omega
      have hkn : (k : Int) < (ps.length : Int) := by omega
      obtain ⟨y, hfy, hy12, hyb, hys, hyp⟩ := HFE.out k hlt
      have HFA := Lib.hid (HLA.out k hlt)
      have HS0 := Lib.hid (HFS.out k hlt)
      have HZ0 := Lib.hid (HF0.out k hlt)
      rw [HFA.out] at HS0
      have HFLO := Lib.hid (show ((pAt ps k).fr = y → flowA N ps t dm k = -(sumG (tk dm) (dnL N ps (pAt ps k) t))) ∧ (¬ (pAt ps k).fr = y → flowA N ps t dm k = sumG (tk dm) (dnL N ps (pAt ps k) t)) from ⟨fun e => by unfold flowA; rw [if_pos (hys.2 e)], fun e => by unfold flowA; rw [if_neg (fun h => e (hys.1 h))]⟩)
      have HYP := Lib.hid hyp
      have HFY := Lib.hid hfy
      have HDM := Lib.hid (fun v (h : v ∈ dnL N ps (pAt ps k) t) => (dn_mem.1 h).1)
      have HDN := Lib.hid (dn_len N ps (pAt ps k) t)
      have hrow := (hown.out.lt w2.heap.size rfl).2
      clear hfy hyb hys hyp hy12 HFA HFE HLA HFS HF0
      generalize flowA N ps t dm k = F at *
      generalize pAt ps k = p at *
      have hab := alloc_belowE wr (.cells #[.int .i64 p.id, .int .i64 p.fr, .int .i64 p.to, .int .i64 p.sz] 75)
      have hO2 := Lib.hid (own_on hown.out hab)
      have hBa := Lib.hid (hB.out.trans (hab.mono hB.out.size))
      have d0 := cells4 wr (.int .i64 p.id) (.int .i64 p.fr) (.int .i64 p.to) (.int .i64 p.sz) 75 0 _ rfl
      have d1 := cells4 wr (.int .i64 p.id) (.int .i64 p.fr) (.int .i64 p.to) (.int .i64 p.sz) 75 1 _ rfl
      have d2 := cells4 wr (.int .i64 p.id) (.int .i64 p.fr) (.int .i64 p.to) (.int .i64 p.sz) 75 2 _ rfl
      have d3 := cells4 wr (.int .i64 p.id) (.int .i64 p.fr) (.int .i64 p.to) (.int .i64 p.sz) 75 3 _ rfl
      have hzz : wr.heap.size < (wr.alloc (.cells #[.int .i64 p.id, .int .i64 p.fr, .int .i64 p.to, .int .i64 p.sz] 75)).heap.size := by simp
      have hz2r := hB.out.size
      obtain ⟨t0, t1, t2, t3, t4, t5⟩ := HT2.out.kept (hBa.out.block w1.heap.size hz12)
      have htz : w1.heap.size < (wr.alloc (.cells #[.int .i64 p.id, .int .i64 p.fr, .int .i64 p.to, .int .i64 p.sz] 75)).heap.size := by omega
      have HRP := Lib.hid (HREP2.out.below hBa.out)
      go_wp2_with (first
        | (go_at_call 167; refine (HBB.out w2.heap.size p A4 c4 _ (by simp; omega) HRP.out).mono ?_; rintro e w5 ⟨hbe, hb5⟩; rw [HFY.out] at hbe; obtain ⟨A5, c5, d5, rfl, hbo, hcd, hrep5⟩ := beh_some hbe; obtain ⟨m5, hm5⟩ : ∃ m5, (kidsL ps y p).length = m5 := ⟨_, rfl⟩; have HBN5 := Lib.hid (HBN.out w2.heap.size d5 y p A5 c5); rw [hm5] at HBN5; rw [hm5]; clear hm5; refine Hid.out ?_))
      have hperm := HYP.out d5 hbo hcd
      obtain ⟨l, hl⟩ : ∃ l, nodesL ps d5 y p = l := ⟨_, rfl⟩
      rw [hl] at hperm HBN5
      have hl8 : l.length ≤ 8 := by rw [hperm.length_eq]; have := HDN.out; omega
      have hlm : ∀ v, v ∈ l → 1 ≤ v ∧ v ≤ (N : Int) := fun v hv => HDM.out v (hperm.mem_iff.1 hv)
      have HLM := Lib.hid (fun j (hj : j < l.length) => (show 1 ≤ lA l j ∧ lA l j ≤ (N : Int) from hlm _ (by
        have e : lA l j = l[j] := by simp [lA, List.getD, hj]
        rw [e]; exact List.getElem_mem hj)))
      have HSK := Lib.hid (fun j (hj : j ≤ l.length) => HTK.out l hlm hl8 j hj)
      have hsum : sumK (fun i => tk dm (lA l i)) l.length = sumG (tk dm) (dnL N ps p t) := by rw [sumG_all, sumG_perm hperm]
      rw [← hsum] at HFLO
      have hb5a := hBa.out.trans (hb5.mono hBa.out.size)
      have hbr5 := hab.trans (hb5.mono hab.size)
      clear hperm hl hlm hsum hbo hcd hbe HYP HFY HDN HDM HBN HRP t0 t1 t2 t3 t4 t5 htz p0 p1 p2 p3 hbl
      have HR5 := Lib.hid hrep5
      have hO5 := own_on hO2.out hb5
      have e1 := (hb5.cell (p := ⟨wr.heap.size, 1, none⟩) hzz).trans d1
      have hz5 : wr.heap.size < w5.heap.size := by have := hb5.size; omega
      have hab5 := alloc_belowE w5 (.cells #[.int .i64 y, .int .i64 p.id, .int .i64 p.fr, .int .i64 p.to, .int .i64 p.sz, .slice A5 m5 c5] 144)
      have e2 := (hab5.cell (p := ⟨wr.heap.size, 1, none⟩) hz5).trans e1
      have hO5a := Lib.hid (own_on hO5 hab5)
      have hbase5 := Lib.hid (hb5a.trans (hab5.mono hb5a.size))
      have f0 := cells_new6 w5 (.int .i64 y) (.int .i64 p.id) (.int .i64 p.fr) (.int .i64 p.to) (.int .i64 p.sz) (.slice A5 m5 c5) 144 0 _ rfl
      have hz55 : w5.heap.size < (w5.alloc (.cells #[.int .i64 y, .int .i64 p.id, .int .i64 p.fr, .int .i64 p.to, .int .i64 p.sz, .slice A5 m5 c5] 144)).heap.size := by simp
      have HRP5 := Lib.hid (hrep5.below hab5)
      have hzg5 : w2.heap.size < w5.heap.size := by omega
      clear d0 d1 d2 d3 hzz hab hO2 hBa hO5 e1 hb5 hrep5 hb5a hbr5 HR5 hab5
      refine Lib.hid ?_
      go_wp2_with (first
        | (go_at_call 168; refine (HBN5.out _ HRP5.out (by omega)).mono ?_; rintro e w6 ⟨gN, cN, rfl, hgN, hON, hb6⟩; refine Hid.out ?_))
      have g1 := (hb6.cell (p := ⟨wr.heap.size, 1, none⟩) (by simp; omega)).trans e2
      have g2 := (hb6.cell (p := ⟨w5.heap.size, 0, none⟩) hz55).trans f0
      have HO6 := Lib.hid (own_on hO5a.out hb6)
      have HB6 := Lib.hid (hbase5.out.trans (hb6.mono hbase5.out.size))
      have HN6 := Lib.hid hON.iat
      have hz6 : w5.heap.size < w6.heap.size := by have := hb6.size; omega
      have hgN2 : w5.heap.size < gN := by simp at hgN; omega
      have hgNl := iown_lt' hON
      clear e2 f0 hO5a hbase5 hb6 hON HRP5 hz55 HBN5 hgN
      refine Lib.hid ?_
      go_wp2
      have hkx := HFL.out k hk
      have HX0 := Lib.hid (show w6.ownsRow w2.heap.size 3 1 (.slice (some ⟨w2.heap.size, 0, none⟩) ps.length ps.length) ps.length ((fiI (tfL N ps t dm) k).set k (iv (sumK (fun i => tk dm (lA l i)) 0))) from by
        have := HO6.out
        rw [← HZ0.out] at this
        exact this)
      have HG0 := Lib.hid (show w6.grownBy w6 (some w2.heap.size) from grown_refl w6 _)
      have hgw6 : w2.heap.size < w6.heap.size := by omega
      generalize fiI (tfL N ps t dm) k = XS at *
      obtain ⟨XS1, hXS1⟩ : ∃ z, fiI (tfL N ps t dm) (k + 1) = z := ⟨_, rfl⟩
      rw [hXS1] at HS0
      have HXS1 := Lib.hid hXS1
      clear hXS1
      obtain ⟨SM, hSM⟩ : ∃ SM, SM = (fun j => sumK (fun i => tk dm (lA l i)) j) := ⟨_, rfl⟩
      have HSM0 := Lib.hid (fun j => (congrFun hSM j).symm)
      have HSM1 := Lib.hid (fun j => show SM (j + 1) = SM j + tk dm (lA l j) by rw [hSM]; rfl)
      clear hSM
      rw [HSM0.out 0] at HX0
      rw [HSM0.out l.length] at HFLO
      have HSK2 := Lib.hid (fun j (hj : j ≤ l.length) => (show 0 ≤ SM j ∧ SM j ≤ 8000 by have := HSK.out j hj; rw [HSM0.out j] at this; exact this))
      have HSZ := Lib.hid (show SM 0 = 0 by rw [← HSM0.out 0]; rfl)
      clear HSM0 HSK HO6 HZ0 hown hB
      obtain ⟨wo, hwo⟩ : ∃ wo, wo = wr := ⟨_, rfl⟩
      subst hwo
      go_loopw [53] (fun i wi => ∃ j : Nat, j ≤ l.length ∧ i = .int .i64 (j : Int) ∧ Hid (wi.ownsRow w2.heap.size 3 1 (.slice (some ⟨w2.heap.size, 0, none⟩) ps.length ps.length) ps.length (XS.set k (iv (SM j)))) ∧ Hid (w6.grownBy wi (some w2.heap.size)) ∧ Hid (Below w2.heap.size w2 wi)) (fun i _ => l.length - (intOf i).toNat)
      case atStart => exact ⟨0, Nat.zero_le _, rfl, HX0, HG0, HB6⟩
      case round =>
        obtain ⟨j, hj, rfl, hrw, hgr, hBi⟩ := hrel
        clear HX0 HG0
        by_cases hjl : j < l.length
        · obtain ⟨v1, v2⟩ := HLM.out j hjl
          obtain ⟨u, hu⟩ : ∃ u : Nat, lA l j = (u : Int) + 1 := ⟨(lA l j - 1).toNat, by omega⟩
          have hud : u < dm.length := by have := HDL.out; omega
          obtain ⟨bb, of2, hA2, hbl2, x0⟩ := (HI.out _ (HB2.out.trans (hBi.out.mono HB2.out.size))).at_ hud
          subst hA2
          obtain ⟨bN, oN, hAN, hblN, x1⟩ := (HN6.out.far hgr.out (by omega)).at_ hjl
          simp only [Option.some.injEq, Addr.mk.injEq, and_true] at hAN
          obtain ⟨rfl, rfl⟩ := hAN
          rw [Nat.zero_add] at x1
          have hla : l.getD j 0 = lA l j := rfl
          rw [hla, hu] at x1
          have hs0 := HSK2.out j (by omega)
          have hs1 := HSK2.out (j + 1) hjl
          have hsn := HSM1.out j
          have htk : tk dm (lA l j) = dm.getD u 0 := by unfold tk; rw [hu, Int.add_sub_cancel, Int.toNat_natCast]
          rw [htk] at hsn
          have HSN := Lib.hid hsn
          rw [hsn] at hs1
          have hgrow := (hrw.out.lt w2.heap.size rfl).2
          have hj0 : (0 : Int) ≤ (j : Int) := by omega
          have hjn : (j : Int) < (l.length : Int) := by omega
          have hu0 : (0 : Int) ≤ (u : Int) := by omega
          have hun : (u : Int) < (dm.length : Int) := by omega
          have hcell := (hrw.out.cellAt k (by omega)).trans (show (XS.set k (iv (SM j)))[k]? = some (iv (SM j)) by rw [List.getElem?_set, if_pos rfl, if_pos (by rw [hkx]; exact hlt)])
          have hfz := hrw.out.frozenAt k
          have hst0 := hrw.out.stored k (iv (SM j + dm.getD u 0))
          rw [List.set_set] at hst0
          have HST := Lib.hid hst0
          clear hst0 hsn htk hla hu v1 v2
          generalize dm.getD u 0 = x at *
          generalize SM j = s at *
          have wS : IntKind.i64.wrap (s + x) = s + x := w64 _ (by omega)
          have hu9 : (u : Int) < 9 := by have := HDL.out; omega
          have wU : IntKind.i64.wrap ((u : Int) + 1 - 1) = (u : Int) := by rw [w64 _ (by omega)]; omega
          have wU2 : IntKind.i64.wrap (u : Int) = (u : Int) := w64 _ (by omega)
          go_wp2
          go_region_with (fail)
          all_goals
            go_wp2
            go_roundw
            · exact ⟨j + 1, by omega, by go_num, by rw [HSN.out]; exact Lib.hid HST.out.1, Lib.hid ((hgr.out.trans HST.out.2).trans (grown_drewF _ _)), Lib.hid (hBi.out.setCell (p := ⟨w2.heap.size, k, none⟩) (Nat.le_refl _) _).drew⟩
            · simp [intOf]; omega
        · have ej : j = l.length := by omega
          subst ej
          have y1 := (hgr.out.cell_far ⟨wo.heap.size, 1, none⟩ (by dsimp only; omega) (by simp; omega)).trans g1
          have y2 := (hgr.out.cell_far ⟨w5.heap.size, 0, none⟩ (by dsimp only; omega) (by simp; omega)).trans g2
          have hszi := hgr.out.size
          have hyz1 : wo.heap.size < wr.heap.size := by omega
          have hyz2 : w5.heap.size < wr.heap.size := by omega
          have hs0 := HSK2.out l.length (Nat.le_refl _)
          have hgrow := (hrw.out.lt w2.heap.size rfl).2
          by_cases hpy : p.fr = y
          · have hF := HFLO.out.1 hpy
            have g0 : (p.fr == y) = true := beq_iff_eq.2 hpy
            have hcell := (hrw.out.cellAt k (by omega)).trans (show (XS.set k (iv (SM l.length)))[k]? = some (iv (SM l.length)) by rw [List.getElem?_set, if_pos rfl, if_pos (by rw [hkx]; exact hlt)])
            have hfz := hrw.out.frozenAt k
            have hst0 := hrw.out.stored k (iv (-(SM l.length)))
            rw [List.set_set, ← hF, HS0.out] at hst0
            have HST := Lib.hid hst0
            have HFF := Lib.hid hF
            clear hst0 hF hpy
            generalize SM l.length = s at *
            go_wp2
            go_roundw
            case rel => exact ⟨k + 1, by omega, by go_num, by rw [HXS1.out]; have := HST.out.1; rw [HFF.out] at this; exact Lib.hid this, Lib.hid (hBi.out.setCell (p := ⟨w2.heap.size, k, none⟩) (Nat.le_refl _) _)⟩
            case measure => simp [intOf]; omega
          · have hF := HFLO.out.2 hpy
            have g0 : (p.fr == y) = false := beq_eq_false_iff_ne.2 hpy
            have hrow2 := hrw.out
            rw [← hF, HS0.out] at hrow2
            have HRW := Lib.hid hrow2
            clear hrow2 hF hpy
            go_wp2
            go_roundw
            case rel => exact ⟨k + 1, by omega, by go_num, by rw [HXS1.out]; exact HRW, hBi⟩
            case measure => simp [intOf]; omega
    · have e : k = ps.length := by omega
      subst e
      have hown2 := hown.out
      rw [HF.out] at hown2
      have H2 := Lib.hid hown2
      clear hown hown2
      go_wp2
      go_ret2
      exact ⟨_, by rw [HLL.out]; rfl, by omega, own_lower (by unfold IOwn; rw [HLL.out]; exact H2.out), HB2.out.trans (hB.out.mono HB2.out.size)⟩
theorem tfl_yes (N t : Nat) (A : Option Addr) (cap : Nat) (ps : List Pp) (AD : Option Addr) (dc : Nat) (dm : List Int) (w : World) (h : PAt w A ps) (hm : ps.length ≤ maxLen) (hd : IAt w AD dm) (hdl : dm.length ≤ 1048576) (hn : nodeB N ps t = true) (ht : treeB N ps = true) (hv : demB N ps dm = true) :
    Calls Try.prog 61 #[nv N A ps.length cap, .int .i64 (t : Int), .slice AD dm.length dc] w (GivesI w (tfL N ps t dm) true) :=
  (tfl_cap N t A cap ps AD dc dm w h hm hd hdl hn ht hv).mono fun _ _ ⟨g, he, hg, ho, hb⟩ => ⟨g, _, he, hg, ho, hb⟩
end Go.Proofs.Ytgjogjmfpbinfaa.S2
