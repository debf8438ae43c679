/- SegmentOfPipe and SegmentOfNode of the model: contracts. Conditions: each theorem's own premises. -/
import Derived.Test.YtbljmibaemgfeaaSIds
import Derived.Test.YtbljmibaemgfeaaSValIs
import Derived.Test.YtbljmibaemgfeaaLawKit
namespace Go.Proofs.Ytbljmibaemgfeaa.S2
open Go.RowKit Go.Sort P2 P4

theorem sgoodv_v {n : Int} {ps : List Pp} {vs : List Vv} {v : Bool} (hg : goodV n ps vs = v) (A : Option Addr) (cap : Nat) (AV : Option Addr) (capv : Nat) (w : World) (h : PAt w A ps) (hm : ps.length ≤ maxLen) (hv : VAt w AV vs) (hmv : vs.length ≤ maxLen) :
    Calls Try.prog 101 #[nv n A ps.length cap, .slice AV vs.length capv] w fun e w' => e = .returned (.bool v) ∧ Below w.heap.size w w' := by
  rw [← hg]; exact sgoodv_any n A cap ps AV capv vs w h hm hv hmv
theorem sOf_pipe1 (i : Nat) : sOf [] [(i : Int)] = one (9 + i) := by
  funext e
  unfold sOf one
  by_cases h : e < 9
  · rw [if_pos h]
    have h1 : ¬ e = 9 + i := by omega
    simp [h1]
  · rw [if_neg h, Bool.eq_iff_iff]
    simp
    omega
theorem sOf_node1 (v : Nat) (h9 : v < 9) : sOf [(v : Int)] [] = one v := by
  funext e
  unfold sOf one
  by_cases h : e < 9
  · rw [if_pos h, Bool.eq_iff_iff]
    simp
    omega
  · rw [if_neg h]
    have h1 : ¬ e = v := by omega
    simp [h1]
theorem bar_all (vs : List Vv) : bar vs false = vs := by simp [bar]
theorem lat_nil (w : World) : LAt (w.alloc (.cells #[] 3)) w.heap.size 0 0 [] := ⟨by simp, by simp, by simp [maxLen], fun i hi => by simp at hi⟩
theorem lat_one (w : World) (x : Int) : LAt (w.alloc (.cells #[iv x] 3)) w.heap.size 0 1 [x] :=
  ⟨by simp, by simp, by simp [maxLen], fun i hi => by
    have e : i = 0 := by simpa using hi
    subst e
    rw [World.cell?_alloc_at _ _ _ _ rfl]; rfl⟩
theorem lat_new {w : World} {g o c : Nat} {r : List Int} (h : LAt w g o c r) (o' : Obj) : LAt (w.alloc o') g o c r := h.kept ((Below.refl w.heap.size w).alloc (Nat.le_refl _) o')
theorem ls_pipe {N m i : Nat} (h : i < m) : Ls N m [] [(i : Int)] := ⟨List.Pairwise.nil, List.pairwise_singleton _ _, fun y hy => by simp at hy, fun y hy => by simp at hy; omega⟩
theorem ls_node {N m v : Nat} (h1 : 1 ≤ v) (h2 : v ≤ N) : Ls N m [(v : Int)] [] := ⟨List.pairwise_singleton _ _, List.Pairwise.nil, fun y hy => by simp at hy; omega, fun y hy => by simp at hy⟩
theorem idxL_range {m : Nat} {s : Nat → Bool} {b : Bool} : ∀ y, y ∈ idxL m s b → 0 ≤ y ∧ y < m := by
  intro y hy
  obtain ⟨i, rfl, h, _⟩ := idxL_mem.1 hy
  omega
theorem sidsp_any (N : Int) (A : Option Addr) (cap : Nat) (ps : List Pp) (g1 o1 c1 : Nat) (s : Nat → Bool) (b : Bool) (w : World) (h : PAt w A ps) (h1 : LAt w g1 o1 c1 (idxL ps.length s b)) (hl : ps.length ≤ 10) :
    Calls Try.prog 124 #[nv N A ps.length cap, .slice (some ⟨g1, o1, none⟩) (idxL ps.length s b).length c1] w (GivesN w (pipesL ps ps.length s b)) :=
  sids_any N A cap ps g1 o1 c1 _ w h h1 idxL_range (Nat.le_trans (idxL_len _ _ _) (by omega))
/-- l4Spread from one pipe or one node. -/
theorem spread_pipe (N i : Nat) (A : Option Addr) (cap : Nat) (ps : List Pp) (AV : Option Addr) (capv : Nat) (vs : List Vv) (w : World) (h : PAt w A ps) (hv : VAt w AV vs) (hg : P2.Good N ps) (hvl : vs.length ≤ 10) (hi : i < ps.length) :
    Calls Try.prog 123 #[nv N A ps.length cap, .slice AV vs.length capv, .bool false, .slice (some ⟨w.heap.size, 0, none⟩) 0 0, .slice (some ⟨w.heap.size + 1, 0, none⟩) 1 1] ((w.alloc (.cells #[] 3)).alloc (.cells #[iv (i : Int)] 3)) fun e w' => GivesL2 ((w.alloc (.cells #[] 3)).alloc (.cells #[iv (i : Int)] 3)) (nodesL N (coB ps vs (one (9 + i))) true) (idxL ps.length (coB ps vs (one (9 + i))) true) e w' ∧ Below w.heap.size w w' := by
  have hb : Below w.heap.size w ((w.alloc (.cells #[] 3)).alloc (.cells #[iv (i : Int)] 3)) := ((Below.refl _ _).alloc (Nat.le_refl _) _).alloc (by simp) _
  have h2 := lat_one (w.alloc (.cells #[] 3)) (i : Int)
  rw [show (w.alloc (.cells #[] 3)).heap.size = w.heap.size + 1 by simp] at h2
  have H := spread_any N A cap ps AV capv vs false w.heap.size 0 0 (w.heap.size + 1) 0 1 [] [(i : Int)] _ (h.kept hb (Nat.le_refl _)) (hv.kept hb (Nat.le_refl _)) hg hvl (lat_new (lat_nil w) _) h2 (ls_pipe hi)
  rw [bar_all, sOf_pipe1] at H
  refine H.mono fun e w' hh => ⟨hh, ?_⟩
  obtain ⟨g1, o1, c1, g2, o2, c2, _, _, _, hb2⟩ := hh
  exact hb.trans (hb2.mono (by simp; omega))
theorem spread_node (N v : Nat) (A : Option Addr) (cap : Nat) (ps : List Pp) (AV : Option Addr) (capv : Nat) (vs : List Vv) (shut : Bool) (w : World) (h : PAt w A ps) (hv : VAt w AV vs) (hg : P2.Good N ps) (hvl : vs.length ≤ 10) (h1 : 1 ≤ v) (hN : v ≤ N) :
    Calls Try.prog 123 #[nv N A ps.length cap, .slice AV vs.length capv, .bool shut, .slice (some ⟨w.heap.size, 0, none⟩) 1 1, .slice (some ⟨w.heap.size + 1, 0, none⟩) 0 0] ((w.alloc (.cells #[iv (v : Int)] 3)).alloc (.cells #[] 3)) fun e w' => GivesL2 ((w.alloc (.cells #[iv (v : Int)] 3)).alloc (.cells #[] 3)) (nodesL N (coB ps (bar vs shut) (one v)) true) (idxL ps.length (coB ps (bar vs shut) (one v)) true) e w' ∧ Below w.heap.size w w' := by
  have hb : Below w.heap.size w ((w.alloc (.cells #[iv (v : Int)] 3)).alloc (.cells #[] 3)) := ((Below.refl _ _).alloc (Nat.le_refl _) _).alloc (by simp) _
  have h2 := lat_nil (w.alloc (.cells #[iv (v : Int)] 3))
  rw [show (w.alloc (.cells #[iv (v : Int)] 3)).heap.size = w.heap.size + 1 by simp] at h2
  have hN8 : N ≤ 8 := by have := hg.2.1; omega
  have H := spread_any N A cap ps AV capv vs shut w.heap.size 0 1 (w.heap.size + 1) 0 0 [(v : Int)] [] _ (h.kept hb (Nat.le_refl _)) (hv.kept hb (Nat.le_refl _)) hg hvl (lat_new (lat_one w v) _) h2 (ls_node h1 hN)
  rw [sOf_node1 v (by omega)] at H
  refine H.mono fun e w' hh => ⟨hh, ?_⟩
  obtain ⟨g1, o1, c1, g2, o2, c2, _, _, _, hb2⟩ := hh
  exact hb.trans (hb2.mono (by simp; omega))
theorem givesa2_none {w w0 : World} (h : Below w0.heap.size w0 w) : GivesA2 w0 [] [] false (.returned (.tuple #[.slice (some ⟨w.heap.size, 0, none⟩) 0 0, .slice (some ⟨w.heap.size + 1, 0, none⟩) 0 0, .bool false])) ((w.alloc (.cells #[] 3)).alloc (.cells #[] 3)) :=
  ⟨_, _, _, _, _, _, rfl, .inl rfl, by simp; omega, .inl rfl, by simp, (h.alloc h.size _).alloc (by have := h.size; simp; omega) _⟩

theorem find_of {ps : List Pp} {x r : Int} {i : Nat} (hs : ∀ i j, i < j → j < ps.length → (pAt ps i).id < (pAt ps j).id) (h : FindIs ps x r) (hi : At ps x i) : r = (i : Int) := by
  rcases h with ⟨_, hno⟩ | ⟨j, hj, hr, hx, _⟩
  · exact absurd hi.2 (hno i hi.1)
  · rw [hr]
    by_cases h1 : j < i
    · have := hs j i h1 hi.1; have := hi.2; omega
    · by_cases h2 : i < j
      · have := hs i j h2 hj; have := hi.2; omega
      · omega
theorem find_no {ps : List Pp} {x r : Int} (h : FindIs ps x r) (hno : ∀ i, i < ps.length → (pAt ps i).id ≠ x) : r = -1 := by
  rcases h with ⟨h, _⟩ | ⟨j, hj, _, hx, _⟩
  · exact h
  · exact absurd hx (hno j hj)
set_option maxHeartbeats 4000000 in
set_option maxRecDepth 100000 in
theorem ssegp_no1 (n : Int) (A : Option Addr) (cap : Nat) (ps : List Pp) (AV : Option Addr) (capv : Nat) (vs : List Vv) (x : Int) (w : World) (h : PAt w A ps) (hm : ps.length ≤ 1048576) (hv : VAt w AV vs) (hmv : vs.length ≤ maxLen) (hb : goodV n ps vs = false) :
    Calls Try.prog 57 #[nv n A ps.length cap, .slice AV vs.length capv, .int .i64 x] w (GivesA2 w [] [] false) := by
  have hmm : ps.length ≤ maxLen := by unfold maxLen; omega
  have H := Lib.hid (fun w' (hb' : Below w.heap.size w w') => sgoodv_v hb A cap AV capv w' (h.kept hb' (Nat.le_refl _)) hmm (hv.kept hb' (Nat.le_refl _)) hmv)
  have HF := Lib.hid (fun w' (hb' : Below w.heap.size w w') => find_any n A cap ps x w' (h.kept hb' (Nat.le_refl _)) hm)
  clear h hm hv hmv hb hmm
  go_enter Try.func57, Try.ntmps57
  go_wp2_with (first
    | (go_at_call 119; refine (HF.out _ ((Below.refl _ _).alloc (Nat.le_refl _) _)).mono ?_; rintro e w1 ⟨⟨r, rfl, hr⟩, hb1⟩; clear hr; have HX1 := Lib.hid hb1; have HB1 := Lib.hid (((Below.refl w.heap.size w).alloc (Nat.le_refl _) (.cells #[.int .i64 n, .slice A ps.length cap] 32)).trans (hb1.mono (by simp))); have hw1 : w.heap.size < w1.heap.size := (by have := hb1.size; simp at this; omega); have a0 := (hb1.cell (p := ⟨w.heap.size, 0, none⟩) (by simp)).trans (show (w.alloc (.cells #[.int .i64 n, .slice A ps.length cap] 32)).cell? ⟨w.heap.size, 0, none⟩ = some (.int .i64 n) by go_simp); have a1 := (hb1.cell (p := ⟨w.heap.size, 1, none⟩) (by simp)).trans (show (w.alloc (.cells #[.int .i64 n, .slice A ps.length cap] 32)).cell? ⟨w.heap.size, 1, none⟩ = some (.slice A ps.length cap) by go_simp); clear hb1)
    | (go_at_call 101; refine (H.out _ HB1.out).mono ?_; rintro e w2 ⟨rfl, hb2⟩; have HB2 := Lib.hid (HB1.out.trans (hb2.mono HB1.out.size)); clear hb2))
  go_ret3
  exact givesa2_none HB2.out
set_option maxHeartbeats 4000000 in
set_option maxRecDepth 100000 in
theorem ssegp_no2 (n : Int) (A : Option Addr) (cap : Nat) (ps : List Pp) (AV : Option Addr) (capv : Nat) (vs : List Vv) (x : Int) (w : World) (h : PAt w A ps) (hm : ps.length ≤ 1048576) (hv : VAt w AV vs) (hmv : vs.length ≤ maxLen) (hb : goodV n ps vs = true) (hno : ∀ i, i < ps.length → (pAt ps i).id ≠ x) :
    Calls Try.prog 57 #[nv n A ps.length cap, .slice AV vs.length capv, .int .i64 x] w (GivesA2 w [] [] false) := by
  have hmm : ps.length ≤ maxLen := by unfold maxLen; omega
  have H := Lib.hid (fun w' (hb' : Below w.heap.size w w') => sgoodv_v hb A cap AV capv w' (h.kept hb' (Nat.le_refl _)) hmm (hv.kept hb' (Nat.le_refl _)) hmv)
  have HF := Lib.hid (fun w' (hb' : Below w.heap.size w w') => find_any n A cap ps x w' (h.kept hb' (Nat.le_refl _)) hm)
  have HNO := Lib.hid hno
  clear h hm hv hmv hb hmm hno
  go_enter Try.func57, Try.ntmps57
  go_wp2_with (first
    | (go_at_call 119; refine (HF.out _ ((Below.refl _ _).alloc (Nat.le_refl _) _)).mono ?_; rintro e w1 ⟨⟨r, rfl, hr⟩, hb1⟩; have hr1 := find_no hr HNO.out; subst hr1; clear hr; have HX1 := Lib.hid hb1; have HB1 := Lib.hid (((Below.refl w.heap.size w).alloc (Nat.le_refl _) (.cells #[.int .i64 n, .slice A ps.length cap] 32)).trans (hb1.mono (by simp))); have hw1 : w.heap.size < w1.heap.size := (by have := hb1.size; simp at this; omega); have a0 := (hb1.cell (p := ⟨w.heap.size, 0, none⟩) (by simp)).trans (show (w.alloc (.cells #[.int .i64 n, .slice A ps.length cap] 32)).cell? ⟨w.heap.size, 0, none⟩ = some (.int .i64 n) by go_simp); have a1 := (hb1.cell (p := ⟨w.heap.size, 1, none⟩) (by simp)).trans (show (w.alloc (.cells #[.int .i64 n, .slice A ps.length cap] 32)).cell? ⟨w.heap.size, 1, none⟩ = some (.slice A ps.length cap) by go_simp); clear hb1)
    | (go_at_call 101; refine (H.out _ HB1.out).mono ?_; rintro e w2 ⟨rfl, hb2⟩; have HB2 := Lib.hid (HB1.out.trans (hb2.mono HB1.out.size)); clear hb2))
  go_ret3
  exact givesa2_none HB2.out

set_option maxHeartbeats 4000000 in
set_option maxRecDepth 100000 in
theorem ssegp_yes (N : Nat) (A : Option Addr) (cap : Nat) (ps : List Pp) (AV : Option Addr) (capv : Nat) (vs : List Vv) (x : Int) (w : World) (h : PAt w A ps) (hv : VAt w AV vs) (hb : goodV N ps vs = true) (i : Nat) (hi : At ps x i) :
    Calls Try.prog 57 #[nv N A ps.length cap, .slice AV vs.length capv, .int .i64 x] w (GivesA2 w (nodesL N (coB ps vs (one (9 + i))) true) (pipesL ps ps.length (coB ps vs (one (9 + i))) true) true) := by
  have hgd := goodV_of hb
  have hm : ps.length ≤ 1048576 := by have := hgd.1.2.2.1; omega
  have hmv : vs.length ≤ maxLen := by have := hgd.2.1; unfold maxLen; omega
  have hmm : ps.length ≤ maxLen := by unfold maxLen; omega
  have H := Lib.hid (fun w' (hb' : Below w.heap.size w w') => sgoodv_v hb A cap AV capv w' (h.kept hb' (Nat.le_refl _)) hmm (hv.kept hb' (Nat.le_refl _)) hmv)
  have HF := Lib.hid (fun w' (hb' : Below w.heap.size w w') => find_any N A cap ps x w' (h.kept hb' (Nat.le_refl _)) hm)
  have HSP := Lib.hid (fun w' (hb' : Below w.heap.size w w') => spread_pipe N i A cap ps AV capv vs w' (h.kept hb' (Nat.le_refl _)) (hv.kept hb' (Nat.le_refl _)) hgd.1 hgd.2.1 hi.1)
  have HID := Lib.hid (fun g o c w' (hb' : Below w.heap.size w w') hl => sidsp_any N A cap ps g o c (coB ps vs (one (9 + i))) true w' (h.kept hb' (Nat.le_refl _)) hl hgd.1.2.2.1)
  have HS := Lib.hid (good_ids hgd.1)
  have HI := Lib.hid hi
  clear h hm hv hmv hb hmm hi hgd
  go_enter Try.func57, Try.ntmps57
  go_wp2_with (first
    | (go_at_call 119; refine (HF.out _ ((Below.refl _ _).alloc (Nat.le_refl _) _)).mono ?_; rintro e w1 ⟨⟨r, rfl, hr⟩, hb1⟩; have hr1 := find_of HS.out hr HI.out; subst hr1; clear hr; have HX1 := Lib.hid hb1; have HB1 := Lib.hid (((Below.refl w.heap.size w).alloc (Nat.le_refl _) (.cells #[.int .i64 (N : Int), .slice A ps.length cap] 32)).trans (hb1.mono (by simp))); have hw1 : w.heap.size < w1.heap.size := (by have := hb1.size; simp at this; omega); have a0 := (hb1.cell (p := ⟨w.heap.size, 0, none⟩) (by simp)).trans (show (w.alloc (.cells #[.int .i64 (N : Int), .slice A ps.length cap] 32)).cell? ⟨w.heap.size, 0, none⟩ = some (.int .i64 (N : Int)) by go_simp); have a1 := (hb1.cell (p := ⟨w.heap.size, 1, none⟩) (by simp)).trans (show (w.alloc (.cells #[.int .i64 (N : Int), .slice A ps.length cap] 32)).cell? ⟨w.heap.size, 1, none⟩ = some (.slice A ps.length cap) by go_simp); clear hb1)
    | (go_at_call 101; refine (H.out _ HB1.out).mono ?_; rintro e w2 ⟨rfl, hb2⟩; have HB2 := Lib.hid (HB1.out.trans (hb2.mono HB1.out.size)); have c0 := (hb2.cell (p := ⟨w.heap.size, 0, none⟩) hw1).trans a0; have c1 := (hb2.cell (p := ⟨w.heap.size, 1, none⟩) hw1).trans a1; have hw2 : w.heap.size < w2.heap.size := (by have := hb2.size; omega); clear hb2)
    | (go_at_call 123; refine (HSP.out _ HB2.out).mono ?_; rintro e w3 ⟨⟨g1, o1, c1x, g2, o2, c2x, rfl, hL1, hL2, hb3⟩, hb3w⟩; have HL1 := Lib.hid hL1; have HL2 := Lib.hid hL2; have HB3 := Lib.hid (HB2.out.trans (hb3w.mono HB2.out.size)); have d0 := (hb3w.cell (p := ⟨w.heap.size, 0, none⟩) hw2).trans c0; have d1 := (hb3w.cell (p := ⟨w.heap.size, 1, none⟩) hw2).trans c1; clear hL1 hL2 hb3 hb3w)
    | (go_at_call 124; refine (HID.out g2 o2 c2x _ HB3.out HL2.out).mono ?_; rintro e w4 ⟨g3, c3, rfl, hg3, hO3, hb4⟩; have HL14 := Lib.hid (HL1.out.kept hb4); have HI4 := Lib.hid hO3.iat; have hl3 := iown_lt' hO3; have HB4 := Lib.hid (HB3.out.trans (hb4.mono HB3.out.size)); clear hO3 hb4))
  go_ret3
  exact ⟨_, _, _, _, _, _, rfl, HL14.out.iat, HL14.out.1, HI4.out, hl3, HB4.out⟩

set_option maxHeartbeats 4000000 in
set_option maxRecDepth 100000 in
theorem ssegn_no1 (n : Int) (A : Option Addr) (cap : Nat) (ps : List Pp) (AV : Option Addr) (capv : Nat) (vs : List Vv) (x : Int) (w : World) (h : PAt w A ps) (hm : ps.length ≤ maxLen) (hv : VAt w AV vs) (hmv : vs.length ≤ maxLen) (hb : goodV n ps vs = false) :
    Calls Try.prog 67 #[nv n A ps.length cap, .slice AV vs.length capv, .int .i64 x] w (GivesA2 w [] [] false) := by
  have H := Lib.hid (fun w' (hb' : Below w.heap.size w w') => sgoodv_v hb A cap AV capv w' (h.kept hb' (Nat.le_refl _)) hm (hv.kept hb' (Nat.le_refl _)) hmv)
  clear h hm hv hmv hb
  go_enter Try.func67, Try.ntmps67
  go_wp2_with (go_at_call 101; refine (H.out _ ((Below.refl _ _).alloc (Nat.le_refl _) _)).mono ?_; rintro e w1 ⟨rfl, hb1⟩; have HB1 := Lib.hid (((Below.refl w.heap.size w).alloc (Nat.le_refl _) (.cells #[.int .i64 n, .slice A ps.length cap] 32)).trans (hb1.mono (by simp))); clear hb1)
  go_ret3
  exact givesa2_none HB1.out

set_option maxHeartbeats 4000000 in
set_option maxRecDepth 100000 in
theorem ssegn_no2 (n : Int) (A : Option Addr) (cap : Nat) (ps : List Pp) (AV : Option Addr) (capv : Nat) (vs : List Vv) (x : Int) (w : World) (h : PAt w A ps) (hm : ps.length ≤ maxLen) (hv : VAt w AV vs) (hmv : vs.length ≤ maxLen) (hb : goodV n ps vs = true) (hx : nodeB n ps x = false) :
    Calls Try.prog 67 #[nv n A ps.length cap, .slice AV vs.length capv, .int .i64 x] w (GivesA2 w [] [] false) := by
  have H := Lib.hid (fun w' (hb' : Below w.heap.size w w') => sgoodv_v hb A cap AV capv w' (h.kept hb' (Nat.le_refl _)) hm (hv.kept hb' (Nat.le_refl _)) hmv)
  have HN := Lib.hid (fun w' (hb' : Below w.heap.size w w') => snode_v hx A cap w' (h.kept hb' (Nat.le_refl _)) hm)
  clear h hm hv hmv hb hx
  go_enter Try.func67, Try.ntmps67
  go_wp2_with (first
    | (go_at_call 101; refine (H.out _ ((Below.refl _ _).alloc (Nat.le_refl _) _)).mono ?_; rintro e w1 ⟨rfl, hb1⟩; have HB1 := Lib.hid (((Below.refl w.heap.size w).alloc (Nat.le_refl _) (.cells #[.int .i64 n, .slice A ps.length cap] 32)).trans (hb1.mono (by simp))); have hw1 : w.heap.size < w1.heap.size := (by have := hb1.size; simp at this; omega); have a0 := (hb1.cell (p := ⟨w.heap.size, 0, none⟩) (by simp)).trans (show (w.alloc (.cells #[.int .i64 n, .slice A ps.length cap] 32)).cell? ⟨w.heap.size, 0, none⟩ = some (.int .i64 n) by go_simp); have a1 := (hb1.cell (p := ⟨w.heap.size, 1, none⟩) (by simp)).trans (show (w.alloc (.cells #[.int .i64 n, .slice A ps.length cap] 32)).cell? ⟨w.heap.size, 1, none⟩ = some (.slice A ps.length cap) by go_simp); clear hb1)
    | (go_at_call 102; refine (HN.out _ HB1.out).mono ?_; rintro e w2 ⟨rfl, hb2⟩; have HB2 := Lib.hid (HB1.out.trans (hb2.mono HB1.out.size)); clear hb2))
  go_ret3
  exact givesa2_none HB2.out

set_option maxHeartbeats 4000000 in
set_option maxRecDepth 100000 in
theorem ssegn_yes (N X : Nat) (A : Option Addr) (cap : Nat) (ps : List Pp) (AV : Option Addr) (capv : Nat) (vs : List Vv) (w : World) (h : PAt w A ps) (hv : VAt w AV vs) (hb : goodV N ps vs = true) (hx : nodeB N ps X = true) :
    Calls Try.prog 67 #[nv N A ps.length cap, .slice AV vs.length capv, .int .i64 X] w (GivesA2 w (nodesL N (coB ps vs (one X)) true) (pipesL ps ps.length (coB ps vs (one X)) true) true) := by
  have hgd := goodV_of hb
  have hm : ps.length ≤ maxLen := by have := hgd.1.2.2.1; unfold maxLen; omega
  have hmv : vs.length ≤ maxLen := by have := hgd.2.1; unfold maxLen; omega
  obtain ⟨_, hx1, hx2⟩ := nodeB_of hx
  have H := Lib.hid (fun w' (hb' : Below w.heap.size w w') => sgoodv_v hb A cap AV capv w' (h.kept hb' (Nat.le_refl _)) hm (hv.kept hb' (Nat.le_refl _)) hmv)
  have HN := Lib.hid (fun w' (hb' : Below w.heap.size w w') => snode_v hx A cap w' (h.kept hb' (Nat.le_refl _)) hm)
  have HSP := Lib.hid (fun w' (hb' : Below w.heap.size w w') => by
    have := spread_node N X A cap ps AV capv vs false w' (h.kept hb' (Nat.le_refl _)) (hv.kept hb' (Nat.le_refl _)) hgd.1 hgd.2.1 (by omega) (by omega)
    rwa [bar_all] at this)
  have HID := Lib.hid (fun g o c w' (hb' : Below w.heap.size w w') hl => sidsp_any N A cap ps g o c (coB ps vs (one X)) true w' (h.kept hb' (Nat.le_refl _)) hl hgd.1.2.2.1)
  clear h hm hv hmv hb hx hgd hx1 hx2
  go_enter Try.func67, Try.ntmps67
  go_wp2_with (first
    | (go_at_call 101; refine (H.out _ ((Below.refl _ _).alloc (Nat.le_refl _) _)).mono ?_; rintro e w1 ⟨rfl, hb1⟩; have HB1 := Lib.hid (((Below.refl w.heap.size w).alloc (Nat.le_refl _) (.cells #[.int .i64 (N : Int), .slice A ps.length cap] 32)).trans (hb1.mono (by simp))); have hw1 : w.heap.size < w1.heap.size := (by have := hb1.size; simp at this; omega); have a0 := (hb1.cell (p := ⟨w.heap.size, 0, none⟩) (by simp)).trans (show (w.alloc (.cells #[.int .i64 (N : Int), .slice A ps.length cap] 32)).cell? ⟨w.heap.size, 0, none⟩ = some (.int .i64 (N : Int)) by go_simp); have a1 := (hb1.cell (p := ⟨w.heap.size, 1, none⟩) (by simp)).trans (show (w.alloc (.cells #[.int .i64 (N : Int), .slice A ps.length cap] 32)).cell? ⟨w.heap.size, 1, none⟩ = some (.slice A ps.length cap) by go_simp); clear hb1)
    | (go_at_call 102; refine (HN.out _ HB1.out).mono ?_; rintro e w2 ⟨rfl, hb2⟩; have HB2 := Lib.hid (HB1.out.trans (hb2.mono HB1.out.size)); have c0 := (hb2.cell (p := ⟨w.heap.size, 0, none⟩) hw1).trans a0; have c1 := (hb2.cell (p := ⟨w.heap.size, 1, none⟩) hw1).trans a1; have hw2 : w.heap.size < w2.heap.size := (by have := hb2.size; omega); clear hb2)
    | (go_at_call 123; refine (HSP.out _ HB2.out).mono ?_; rintro e w3 ⟨⟨g1, o1, c1x, g2, o2, c2x, rfl, hL1, hL2, hb3⟩, hb3w⟩; have HL1 := Lib.hid hL1; have HL2 := Lib.hid hL2; have HB3 := Lib.hid (HB2.out.trans (hb3w.mono HB2.out.size)); have d0 := (hb3w.cell (p := ⟨w.heap.size, 0, none⟩) hw2).trans c0; have d1 := (hb3w.cell (p := ⟨w.heap.size, 1, none⟩) hw2).trans c1; clear hL1 hL2 hb3 hb3w)
    | (go_at_call 124; refine (HID.out g2 o2 c2x _ HB3.out HL2.out).mono ?_; rintro e w4 ⟨g3, c3, rfl, hg3, hO3, hb4⟩; have HL14 := Lib.hid (HL1.out.kept hb4); have HI4 := Lib.hid hO3.iat; have hl3 := iown_lt' hO3; have HB4 := Lib.hid (HB3.out.trans (hb4.mono HB3.out.size)); clear hO3 hb4))
  go_ret3
  exact ⟨_, _, _, _, _, _, rfl, HL14.out.iat, HL14.out.1, HI4.out, hl3, HB4.out⟩
end Go.Proofs.Ytbljmibaemgfeaa.S2
