/- The model's OpenedRing: contracts. Conditions: each theorem's own premises. -/
import Derived.Test.YtgjogjmfpbinfaaKL
import Derived.Test.YtgjogjmfpbinfaaKM
import Derived.Test.YtgjogjmfpbinfaaSpI
import Derived.Test.YtgjogjmfpbinfaaKR
namespace Go.Proofs.Ytgjogjmfpbinfaa.S2
open Go.RowKit P2

/-- The Id of a pipe is in the list of the loop where the pipe has a sign. -/
theorem loI_mem {ps : List Pp} (sg : List Int) {x : Int} {i : Nat} (hids : ∀ i j, i < j → j < ps.length → (pAt ps i).id < (pAt ps j).id) (hi : i < ps.length) (hx : (pAt ps i).id = x) : x ∈ loI ps sg ps.length ↔ dA sg i ≠ 0 := by
  unfold loI
  rw [List.mem_map]
  constructor
  · rintro ⟨j, hj, he⟩
    obtain ⟨h1, h2⟩ := List.mem_filter.1 hj
    have hjl := List.mem_range.1 h1
    have e : j = i := by
      have a : ¬ i < j := fun y => by have := hids i j y hjl; omega
      have b : ¬ j < i := fun y => by have := hids j i y hi; omega
      omega
    subst e
    simpa using h2
  · intro h
    exact ⟨i, List.mem_filter.2 ⟨List.mem_range.2 hi, by simpa using h⟩, hx⟩
theorem loI_not {ps : List Pp} (sg : List Int) {x : Int} (h : ∀ i, i < ps.length → (pAt ps i).id ≠ x) : x ∉ loI ps sg ps.length := by
  unfold loI
  rw [List.mem_map]
  rintro ⟨j, hj, he⟩
  exact h j (List.mem_range.1 (List.mem_filter.1 hj).1) he

set_option maxHeartbeats 2000000 in
set_option maxRecDepth 100000 in
theorem opr_no1 (n : Int) (A : Option Addr) (cap : Nat) (ps : List Pp) (x : Int) (w : World) (hL : ∀ w', Below w.heap.size w w' → Calls Try.prog 25 #[nv n A ps.length cap] w' (GivesII w' [] [] false)) :
    Calls Try.prog 42 #[nv n A ps.length cap, .int .i64 x] w fun e w' => GivesN0 w 0 false e w' := by
  have HW0 := Lib.hid (show Below w.heap.size w ((w.alloc (nb n A ps.length cap)).alloc (nb 0 none 0 0)) from ((Below.refl _ _).alloc (Nat.le_refl _) _).alloc (by simp) _)
  have HB3 := Lib.hid (fun w1 (hb : Below ((w.alloc (nb n A ps.length cap)).alloc (nb 0 none 0 0)).heap.size ((w.alloc (nb n A ps.length cap)).alloc (nb 0 none 0 0)) w1) => (show Below (w.heap.size + 1) (w.alloc (nb n A ps.length cap)) w1 from ((Below.refl _ _).alloc (by simp) _).trans (hb.mono (by simp))))
  have HR0 := Lib.hid (show TB ((w.alloc (nb n A ps.length cap)).alloc (nb 0 none 0 0)) (w.heap.size + 1) (.int .i64 0) (.slice none 0 0) from by
    have := TB.made (w.alloc (nb n A ps.length cap)) (.int .i64 0) (.slice none 0 0)
    simpa using this)
  have H := Lib.hid hL
  clear hL
  go_enter Try.func42, Try.ntmps42
  go_wp2_with (first
    | (go_at_call 25; refine (H.out _ HW0.out).mono ?_; rintro e w1 ⟨gI, cI, gJ, cJ, rfl, hgI, hgJ, hIJ, hOI, hOJ, hb1⟩; have HB1 := Lib.hid (HB3.out _ hb1); have HT1 := Lib.hid (HR0.out.below hb1); obtain ⟨b0, b1⟩ := box2 HB1.out; have hz1 := HT1.out.lt; have hy1 : w.heap.size < w1.heap.size := (by omega); obtain ⟨s0, s1⟩ := HT1.out.cell; have f0 := HT1.out.frozen 0; have f1 := HT1.out.frozen 1)
    | fail)
  have hB := (((below_box HB1.out).setCell (p := ⟨w.heap.size + 1, 0, none⟩) (by show w.heap.size ≤ w.heap.size + 1; omega) (.int .i64 0)).setCell (p := ⟨w.heap.size + 1, 1, none⟩) (by show w.heap.size ≤ w.heap.size + 1; omega) (.slice none 0 0))
  exact bodyPost_ret (v := .tuple #[nv 0 none 0 0, .bool false]) (by simp [results, Try.results42, go_sem, s0, s1]) rfl ⟨rfl, hB⟩
set_option maxHeartbeats 2000000 in
set_option maxRecDepth 100000 in
theorem opr_no2 (n : Int) (A : Option Addr) (cap : Nat) (ps : List Pp) (x : Int) (I J : List Int) (hIl : I.length ≤ 1048576) (hx : x ∉ I) (w : World) (hL : ∀ w', Below w.heap.size w w' → Calls Try.prog 25 #[nv n A ps.length cap] w' (GivesII w' I J true)) :
    Calls Try.prog 42 #[nv n A ps.length cap, .int .i64 x] w fun e w' => GivesN0 w 0 false e w' := by
  have HW0 := Lib.hid (show Below w.heap.size w ((w.alloc (nb n A ps.length cap)).alloc (nb 0 none 0 0)) from ((Below.refl _ _).alloc (Nat.le_refl _) _).alloc (by simp) _)
  have HB3 := Lib.hid (fun w1 (hb : Below ((w.alloc (nb n A ps.length cap)).alloc (nb 0 none 0 0)).heap.size ((w.alloc (nb n A ps.length cap)).alloc (nb 0 none 0 0)) w1) => (show Below (w.heap.size + 1) (w.alloc (nb n A ps.length cap)) w1 from ((Below.refl _ _).alloc (by simp) _).trans (hb.mono (by simp))))
  have HR0 := Lib.hid (show TB ((w.alloc (nb n A ps.length cap)).alloc (nb 0 none 0 0)) (w.heap.size + 1) (.int .i64 0) (.slice none 0 0) from by
    have := TB.made (w.alloc (nb n A ps.length cap)) (.int .i64 0) (.slice none 0 0)
    simpa using this)
  have H := Lib.hid hL
  have HX := Lib.hid (decide_eq_false hx)
  clear hL hx
  go_enter Try.func42, Try.ntmps42
  go_wp2_with (first
    | (go_at_call 25; refine (H.out _ HW0.out).mono ?_; rintro e w1 ⟨gI, cI, gJ, cJ, rfl, hgI, hgJ, hIJ, hOI, hOJ, hb1⟩; have HB1 := Lib.hid (HB3.out _ hb1); have HT1 := Lib.hid (HR0.out.below hb1); obtain ⟨b0, b1⟩ := box2 HB1.out; have hz1 := HT1.out.lt; have hy1 : w.heap.size < w1.heap.size := (by omega); have HI1 := Lib.hid hOI.iat; clear hOI hOJ; obtain ⟨s0, s1⟩ := HT1.out.cell; have f0 := HT1.out.frozen 0; have f1 := HT1.out.frozen 1)
    | (go_at_call 147; refine (ctn_v HX.out (some ⟨gI, 0, none⟩) cI w1 HI1.out hIl).mono ?_; rintro e w2 ⟨rfl, hw⟩; replace hw := hw.symm; subst hw)
    | fail)
  have hB := (((below_box HB1.out).setCell (p := ⟨w.heap.size + 1, 0, none⟩) (by show w.heap.size ≤ w.heap.size + 1; omega) (.int .i64 0)).setCell (p := ⟨w.heap.size + 1, 1, none⟩) (by show w.heap.size ≤ w.heap.size + 1; omega) (.slice none 0 0))
  exact bodyPost_ret (v := .tuple #[nv 0 none 0 0, .bool false]) (by simp [results, Try.results42, go_sem, s0, s1]) rfl ⟨rfl, hB⟩
set_option maxHeartbeats 2000000 in
set_option maxRecDepth 100000 in
theorem opr_yes (n : Int) (A : Option Addr) (cap : Nat) (ps : List Pp) (x : Int) (I J : List Int) (hIl : I.length ≤ 1048576) (hx : x ∈ I) (L : List Pp) (w : World) (hL : ∀ w', Below w.heap.size w w' → Calls Try.prog 25 #[nv n A ps.length cap] w' (GivesII w' I J true)) (hR : ∀ w', Below w.heap.size w w' → Calls Try.prog 101 #[nv n A ps.length cap, .int .i64 x] w' fun e w2 => ∃ g c B, e = .returned (.tuple #[nv n (some ⟨g, 0, none⟩) L.length c, .bool true]) ∧ w'.heap.size ≤ g ∧ w'.heap.size ≤ B ∧ w2.ownsRow B 75 4 (.slice (some ⟨g, 0, none⟩) L.length c) L.length (pcs L) ∧ Below w'.heap.size w' w2) :
    Calls Try.prog 42 #[nv n A ps.length cap, .int .i64 x] w (GivesNI w n L true) := by
  have HW0 := Lib.hid (show Below w.heap.size w ((w.alloc (nb n A ps.length cap)).alloc (nb 0 none 0 0)) from ((Below.refl _ _).alloc (Nat.le_refl _) _).alloc (by simp) _)
  have HB3 := Lib.hid (fun w1 (hb : Below ((w.alloc (nb n A ps.length cap)).alloc (nb 0 none 0 0)).heap.size ((w.alloc (nb n A ps.length cap)).alloc (nb 0 none 0 0)) w1) => (show Below (w.heap.size + 1) (w.alloc (nb n A ps.length cap)) w1 from ((Below.refl _ _).alloc (by simp) _).trans (hb.mono (by simp))))
  have HR0 := Lib.hid (show TB ((w.alloc (nb n A ps.length cap)).alloc (nb 0 none 0 0)) (w.heap.size + 1) (.int .i64 0) (.slice none 0 0) from by
    have := TB.made (w.alloc (nb n A ps.length cap)) (.int .i64 0) (.slice none 0 0)
    simpa using this)
  have H := Lib.hid hL
  have HX := Lib.hid (decide_eq_true hx)
  have HR := Lib.hid hR
  clear hL hx hR
  go_enter Try.func42, Try.ntmps42
  go_wp2_with (first
    | (go_at_call 25; refine (H.out _ HW0.out).mono ?_; rintro e w1 ⟨gI, cI, gJ, cJ, rfl, hgI, hgJ, hIJ, hOI, hOJ, hb1⟩; have HB1 := Lib.hid (HB3.out _ hb1); have HT1 := Lib.hid (HR0.out.below hb1); obtain ⟨b0, b1⟩ := box2 HB1.out; have hz1 := HT1.out.lt; have hy1 : w.heap.size < w1.heap.size := (by omega); have HI1 := Lib.hid hOI.iat; clear hOI hOJ; obtain ⟨s0, s1⟩ := HT1.out.cell; have f0 := HT1.out.frozen 0; have f1 := HT1.out.frozen 1)
    | (go_at_call 147; refine (ctn_v HX.out (some ⟨gI, 0, none⟩) cI w1 HI1.out hIl).mono ?_; rintro e w2 ⟨rfl, hw⟩; replace hw := hw.symm; subst hw)
    | (go_at_call 101; refine (HR.out _ (below_box HB1.out)).mono ?_; rintro e w3 ⟨g, c, B, rfl, hg3, hBB, ho3, hb3⟩; have HB3 := Lib.hid (on_call HB1.out hb3); have HT3 := Lib.hid (HT1.out.below hb3); have hv3 := hb3.size; clear b0 b1 s0 s1 f0 f1; have HO3 := Lib.hid ho3; obtain ⟨s0, s1⟩ := HT3.out.cell; have f0 := HT3.out.frozen 0; have f1 := HT3.out.frozen 1; have hz3 := HT3.out.lt; clear hb3 ho3)
    | fail)
  have hB := (((below_box HB3.out).setCell (p := ⟨w.heap.size + 1, 0, none⟩) (by show w.heap.size ≤ w.heap.size + 1; omega) (.int .i64 n)).setCell (p := ⟨w.heap.size + 1, 1, none⟩) (by show w.heap.size ≤ w.heap.size + 1; omega) (.slice (some ⟨g, 0, none⟩) L.length c))
  exact bodyPost_ret (v := .tuple #[nv n (some ⟨g, 0, none⟩) L.length c, .bool true]) (by simp [results, Try.results42, go_sem, s0, s1]) rfl ⟨g, c, B, rfl, by omega, ownsRow_setCell_below (ownsRow_setCell_below HO3.out (a := ⟨w.heap.size + 1, 0, none⟩) (by show w.heap.size + 1 < B; omega) _) (a := ⟨w.heap.size + 1, 1, none⟩) (by show w.heap.size + 1 < B; omega) _, hB⟩
end Go.Proofs.Ytgjogjmfpbinfaa.S2

namespace Go.Proofs.Ytgjogjmfpbinfaa.S2
open Go.RowKit P2

set_option maxHeartbeats 2000000 in
set_option maxRecDepth 100000 in
theorem sopr_no1 (n : Int) (A : Option Addr) (cap : Nat) (ps : List Pp) (x : Int) (w : World) (h : PAt w A ps) (hm : ps.length ≤ 1048576) (hv : goodB n ps = false) :
    Calls Try.prog 41 #[nv n A ps.length cap, .int .i64 x] w (GivesNA w 0 [] false) := by
  have HW0 := Lib.hid (show Below w.heap.size w ((w.alloc (nb n A ps.length cap)).alloc (nb 0 none 0 0)) from ((Below.refl _ _).alloc (Nat.le_refl _) _).alloc (by simp) _)
  have HB3 := Lib.hid (fun w1 (hb : Below ((w.alloc (nb n A ps.length cap)).alloc (nb 0 none 0 0)).heap.size ((w.alloc (nb n A ps.length cap)).alloc (nb 0 none 0 0)) w1) => (show Below (w.heap.size + 1) (w.alloc (nb n A ps.length cap)) w1 from ((Below.refl _ _).alloc (by simp) _).trans (hb.mono (by simp))))
  have HR0 := Lib.hid (show TB ((w.alloc (nb n A ps.length cap)).alloc (nb 0 none 0 0)) (w.heap.size + 1) (.int .i64 0) (.slice none 0 0) from by
    have := TB.made (w.alloc (nb n A ps.length cap)) (.int .i64 0) (.slice none 0 0)
    simpa using this)
  have HF := Lib.hid (fun w' (hb : Below w.heap.size w w') => find_any n A cap ps x w' (h.kept hb (Nat.le_refl _)) hm)
  have HG := Lib.hid (fun w' (hb : Below w.heap.size w w') => sgood_v hv A cap w' (h.kept hb (Nat.le_refl _)) (by unfold maxLen; omega))
  clear h hm hv
  go_enter Try.func41, Try.ntmps41
  go_wp2_with (first
    | (go_at_call 146; refine (HF.out _ HW0.out).mono ?_; rintro e w1 ⟨⟨r, rfl, hr⟩, hb1⟩; have HB1 := Lib.hid (HB3.out _ hb1); have HT1 := Lib.hid (HR0.out.below hb1); obtain ⟨b0, b1⟩ := box2 HB1.out; have hz1 := HT1.out.lt; have hy1 : w.heap.size < w1.heap.size := (by omega))
    | (go_at_call 112; refine (HG.out _ (below_box HB1.out)).mono ?_; rintro e w2 ⟨rfl, hb2⟩; have HB2 := Lib.hid (on_call HB1.out hb2); have HT2 := Lib.hid (HT1.out.below hb2); clear b0 b1; obtain ⟨b0, b1⟩ := box2 HB2.out; have hz2 := HT2.out.lt; have hy2 : w.heap.size < w2.heap.size := (by omega); have hv2 : w1.heap.size ≤ w2.heap.size := hb2.size; obtain ⟨s0, s1⟩ := HT2.out.cell; have f0 := HT2.out.frozen 0; have f1 := HT2.out.frozen 1)
    | fail)
  have hB := (((below_box HB2.out).setCell (p := ⟨w.heap.size + 1, 0, none⟩) (by show w.heap.size ≤ w.heap.size + 1; omega) (.int .i64 0)).setCell (p := ⟨w.heap.size + 1, 1, none⟩) (by show w.heap.size ≤ w.heap.size + 1; omega) (.slice none 0 0))
  exact bodyPost_ret (v := .tuple #[nv 0 none 0 0, .bool false]) (by simp [results, Try.results41, go_sem, s0, s1]) rfl (GivesNA.none hB)
set_option maxHeartbeats 2000000 in
set_option maxRecDepth 100000 in
theorem sopr_no2 (N : Nat) (A : Option Addr) (cap : Nat) (ps : List Pp) (x : Int) (w : World) (h : PAt w A ps) (hm : ps.length ≤ 1048576) (hv : goodB N ps = true) (hr : ringB N ps = false) :
    Calls Try.prog 41 #[nv N A ps.length cap, .int .i64 x] w (GivesNA w 0 [] false) := by
  have HW0 := Lib.hid (show Below w.heap.size w ((w.alloc (nb N A ps.length cap)).alloc (nb 0 none 0 0)) from ((Below.refl _ _).alloc (Nat.le_refl _) _).alloc (by simp) _)
  have HB3 := Lib.hid (fun w1 (hb : Below ((w.alloc (nb N A ps.length cap)).alloc (nb 0 none 0 0)).heap.size ((w.alloc (nb N A ps.length cap)).alloc (nb 0 none 0 0)) w1) => (show Below (w.heap.size + 1) (w.alloc (nb N A ps.length cap)) w1 from ((Below.refl _ _).alloc (by simp) _).trans (hb.mono (by simp))))
  have HR0 := Lib.hid (show TB ((w.alloc (nb N A ps.length cap)).alloc (nb 0 none 0 0)) (w.heap.size + 1) (.int .i64 0) (.slice none 0 0) from by
    have := TB.made (w.alloc (nb N A ps.length cap)) (.int .i64 0) (.slice none 0 0)
    simpa using this)
  have HF := Lib.hid (fun w' (hb : Below w.heap.size w w') => find_any N A cap ps x w' (h.kept hb (Nat.le_refl _)) hm)
  have HG := Lib.hid (fun w' (hb : Below w.heap.size w w') => sgood_v hv A cap w' (h.kept hb (Nat.le_refl _)) (by unfold maxLen; omega))
  have HRG := Lib.hid (fun w' (hb : Below w.heap.size w w') => sring_v hr A cap w' (h.kept hb (Nat.le_refl _)) (good_of hv))
  clear h hm hv hr
  go_enter Try.func41, Try.ntmps41
  go_wp2_with (first
    | (go_at_call 146; refine (HF.out _ HW0.out).mono ?_; rintro e w1 ⟨⟨r, rfl, hr⟩, hb1⟩; have HB1 := Lib.hid (HB3.out _ hb1); have HT1 := Lib.hid (HR0.out.below hb1); obtain ⟨b0, b1⟩ := box2 HB1.out; have hz1 := HT1.out.lt; have hy1 : w.heap.size < w1.heap.size := (by omega))
    | (go_at_call 112; refine (HG.out _ (below_box HB1.out)).mono ?_; rintro e w2 ⟨rfl, hb2⟩; have HB2 := Lib.hid (on_call HB1.out hb2); have HT2 := Lib.hid (HT1.out.below hb2); clear b0 b1; obtain ⟨b0, b1⟩ := box2 HB2.out; have hz2 := HT2.out.lt; have hy2 : w.heap.size < w2.heap.size := (by omega); have hv2 : w1.heap.size ≤ w2.heap.size := hb2.size)
    | (go_at_call 113; refine (HRG.out _ (below_box HB2.out)).mono ?_; rintro e w3 ⟨rfl, hb3⟩; have HB3 := Lib.hid (on_call HB2.out hb3); have HT3 := Lib.hid (HT2.out.below hb3); clear b0 b1; obtain ⟨b0, b1⟩ := box2 HB3.out; have hz3 := HT3.out.lt; have hy3 : w.heap.size < w3.heap.size := (by omega); have hv3 : w2.heap.size ≤ w3.heap.size := hb3.size; obtain ⟨s0, s1⟩ := HT3.out.cell; have f0 := HT3.out.frozen 0; have f1 := HT3.out.frozen 1)
    | fail)
  have hB := (((below_box HB3.out).setCell (p := ⟨w.heap.size + 1, 0, none⟩) (by show w.heap.size ≤ w.heap.size + 1; omega) (.int .i64 0)).setCell (p := ⟨w.heap.size + 1, 1, none⟩) (by show w.heap.size ≤ w.heap.size + 1; omega) (.slice none 0 0))
  exact bodyPost_ret (v := .tuple #[nv 0 none 0 0, .bool false]) (by simp [results, Try.results41, go_sem, s0, s1]) rfl (GivesNA.none hB)
set_option maxHeartbeats 2000000 in
set_option maxRecDepth 100000 in
theorem sopr_no3 (N : Nat) (A : Option Addr) (cap : Nat) (ps : List Pp) (x : Int) (w : World) (h : PAt w A ps) (hm : ps.length ≤ 1048576) (hv : goodB N ps = true) (hr : ringB N ps = true) (hf : FindIs ps x (-1)) :
    Calls Try.prog 41 #[nv N A ps.length cap, .int .i64 x] w (GivesNA w 0 [] false) := by
  have HW0 := Lib.hid (show Below w.heap.size w ((w.alloc (nb N A ps.length cap)).alloc (nb 0 none 0 0)) from ((Below.refl _ _).alloc (Nat.le_refl _) _).alloc (by simp) _)
  have HB3 := Lib.hid (fun w1 (hb : Below ((w.alloc (nb N A ps.length cap)).alloc (nb 0 none 0 0)).heap.size ((w.alloc (nb N A ps.length cap)).alloc (nb 0 none 0 0)) w1) => (show Below (w.heap.size + 1) (w.alloc (nb N A ps.length cap)) w1 from ((Below.refl _ _).alloc (by simp) _).trans (hb.mono (by simp))))
  have HR0 := Lib.hid (show TB ((w.alloc (nb N A ps.length cap)).alloc (nb 0 none 0 0)) (w.heap.size + 1) (.int .i64 0) (.slice none 0 0) from by
    have := TB.made (w.alloc (nb N A ps.length cap)) (.int .i64 0) (.slice none 0 0)
    simpa using this)
  have HF := Lib.hid (fun w' (hb : Below w.heap.size w w') => find_any N A cap ps x w' (h.kept hb (Nat.le_refl _)) hm)
  have HG := Lib.hid (fun w' (hb : Below w.heap.size w w') => sgood_v hv A cap w' (h.kept hb (Nat.le_refl _)) (by unfold maxLen; omega))
  have HRG := Lib.hid (fun w' (hb : Below w.heap.size w w') => sring_v hr A cap w' (h.kept hb (Nat.le_refl _)) (good_of hv))
  have HX := Lib.hid hf
  clear h hm hv hr hf
  go_enter Try.func41, Try.ntmps41
  go_wp2_with (first
    | (go_at_call 146; refine (HF.out _ HW0.out).mono ?_; rintro e w1 ⟨⟨r, rfl, hr⟩, hb1⟩; have HB1 := Lib.hid (HB3.out _ hb1); have HT1 := Lib.hid (HR0.out.below hb1); obtain ⟨b0, b1⟩ := box2 HB1.out; have hz1 := HT1.out.lt; have hy1 : w.heap.size < w1.heap.size := (by omega); obtain rfl := find_one hr HX.out)
    | (go_at_call 112; refine (HG.out _ (below_box HB1.out)).mono ?_; rintro e w2 ⟨rfl, hb2⟩; have HB2 := Lib.hid (on_call HB1.out hb2); have HT2 := Lib.hid (HT1.out.below hb2); clear b0 b1; obtain ⟨b0, b1⟩ := box2 HB2.out; have hz2 := HT2.out.lt; have hy2 : w.heap.size < w2.heap.size := (by omega); have hv2 : w1.heap.size ≤ w2.heap.size := hb2.size)
    | (go_at_call 113; refine (HRG.out _ (below_box HB2.out)).mono ?_; rintro e w3 ⟨rfl, hb3⟩; have HB3 := Lib.hid (on_call HB2.out hb3); have HT3 := Lib.hid (HT2.out.below hb3); clear b0 b1; obtain ⟨b0, b1⟩ := box2 HB3.out; have hz3 := HT3.out.lt; have hy3 : w.heap.size < w3.heap.size := (by omega); have hv3 : w2.heap.size ≤ w3.heap.size := hb3.size; obtain ⟨s0, s1⟩ := HT3.out.cell; have f0 := HT3.out.frozen 0; have f1 := HT3.out.frozen 1)
    | fail)
  have hB := (((below_box HB3.out).setCell (p := ⟨w.heap.size + 1, 0, none⟩) (by show w.heap.size ≤ w.heap.size + 1; omega) (.int .i64 0)).setCell (p := ⟨w.heap.size + 1, 1, none⟩) (by show w.heap.size ≤ w.heap.size + 1; omega) (.slice none 0 0))
  exact bodyPost_ret (v := .tuple #[nv 0 none 0 0, .bool false]) (by simp [results, Try.results41, go_sem, s0, s1]) rfl (GivesNA.none hB)
set_option maxHeartbeats 2000000 in
set_option maxRecDepth 100000 in
theorem sopr_no4 (N : Nat) (A : Option Addr) (cap : Nat) (ps : List Pp) (x : Int) (w : World) (h : PAt w A ps) (hm : ps.length ≤ 1048576) (hv : goodB N ps = true) (hr : ringB N ps = true) (hc : ps.length ≤ cap) {i : Nat} (hi : i < ps.length) (hf : FindIs ps x i) (hs : dA (sgL N ps) i = 0) :
    Calls Try.prog 41 #[nv N A ps.length cap, .int .i64 x] w (GivesNA w 0 [] false) := by
  have HW0 := Lib.hid (show Below w.heap.size w ((w.alloc (nb N A ps.length cap)).alloc (nb 0 none 0 0)) from ((Below.refl _ _).alloc (Nat.le_refl _) _).alloc (by simp) _)
  have HB3 := Lib.hid (fun w1 (hb : Below ((w.alloc (nb N A ps.length cap)).alloc (nb 0 none 0 0)).heap.size ((w.alloc (nb N A ps.length cap)).alloc (nb 0 none 0 0)) w1) => (show Below (w.heap.size + 1) (w.alloc (nb N A ps.length cap)) w1 from ((Below.refl _ _).alloc (by simp) _).trans (hb.mono (by simp))))
  have HR0 := Lib.hid (show TB ((w.alloc (nb N A ps.length cap)).alloc (nb 0 none 0 0)) (w.heap.size + 1) (.int .i64 0) (.slice none 0 0) from by
    have := TB.made (w.alloc (nb N A ps.length cap)) (.int .i64 0) (.slice none 0 0)
    simpa using this)
  have HF := Lib.hid (fun w' (hb : Below w.heap.size w w') => find_any N A cap ps x w' (h.kept hb (Nat.le_refl _)) hm)
  have HG := Lib.hid (fun w' (hb : Below w.heap.size w w') => sgood_v hv A cap w' (h.kept hb (Nat.le_refl _)) (by unfold maxLen; omega))
  have HRG := Lib.hid (fun w' (hb : Below w.heap.size w w') => sring_v hr A cap w' (h.kept hb (Nat.le_refl _)) (good_of hv))
  have HL := Lib.hid (fun w' (hb : Below w.heap.size w w') => slp_any N A cap ps w' (h.kept hb (Nat.le_refl _)) hc (good_of hv) hr)
  have HSL := Lib.hid (sgL_len N ps)
  have HX := Lib.hid hf
  have hi0 : (0 : Int) ≤ (i : Int) := by omega
  have hi1 : ¬ (i : Int) < 0 := by omega
  have hi2 : (i : Int) < ((sgL N ps).length : Int) := by rw [HSL.out]; omega
  have hs0 : (dA (sgL N ps) i == 0) = true := beq_iff_eq.2 hs
  clear h hm hv hr hf hs
  go_enter Try.func41, Try.ntmps41
  go_wp2_with (first
    | (go_at_call 146; refine (HF.out _ HW0.out).mono ?_; rintro e w1 ⟨⟨r, rfl, hr⟩, hb1⟩; have HB1 := Lib.hid (HB3.out _ hb1); have HT1 := Lib.hid (HR0.out.below hb1); obtain ⟨b0, b1⟩ := box2 HB1.out; have hz1 := HT1.out.lt; have hy1 : w.heap.size < w1.heap.size := (by omega); obtain rfl := find_one hr HX.out)
    | (go_at_call 112; refine (HG.out _ (below_box HB1.out)).mono ?_; rintro e w2 ⟨rfl, hb2⟩; have HB2 := Lib.hid (on_call HB1.out hb2); have HT2 := Lib.hid (HT1.out.below hb2); clear b0 b1; obtain ⟨b0, b1⟩ := box2 HB2.out; have hz2 := HT2.out.lt; have hy2 : w.heap.size < w2.heap.size := (by omega); have hv2 : w1.heap.size ≤ w2.heap.size := hb2.size)
    | (go_at_call 113; refine (HRG.out _ (below_box HB2.out)).mono ?_; rintro e w3 ⟨rfl, hb3⟩; have HB3 := Lib.hid (on_call HB2.out hb3); have HT3 := Lib.hid (HT2.out.below hb3); clear b0 b1; obtain ⟨b0, b1⟩ := box2 HB3.out; have hz3 := HT3.out.lt; have hy3 : w.heap.size < w3.heap.size := (by omega); have hv3 : w2.heap.size ≤ w3.heap.size := hb3.size)
    | (go_at_call 118; refine (HL.out _ (below_box HB3.out)).mono ?_; rintro e w4 ⟨g, c, rfl, hg4, hO, hb4⟩; have HB4 := Lib.hid (on_call HB3.out hb4); have HT4 := Lib.hid (HT3.out.below hb4); clear b0 b1; obtain ⟨b0, b1⟩ := box2 HB4.out; have hz4 := HT4.out.lt; have hy4 : w.heap.size < w4.heap.size := (by omega); have hv4 : w3.heap.size ≤ w4.heap.size := hb4.size; have hcs := hO.cell rfl (v := i) (by rw [HSL.out]; exact hi); obtain ⟨s0, s1⟩ := HT4.out.cell; have f0 := HT4.out.frozen 0; have f1 := HT4.out.frozen 1)
    | fail)
  have hB := (((below_box HB4.out).setCell (p := ⟨w.heap.size + 1, 0, none⟩) (by show w.heap.size ≤ w.heap.size + 1; omega) (.int .i64 0)).setCell (p := ⟨w.heap.size + 1, 1, none⟩) (by show w.heap.size ≤ w.heap.size + 1; omega) (.slice none 0 0))
  exact bodyPost_ret (v := .tuple #[nv 0 none 0 0, .bool false]) (by simp [results, Try.results41, go_sem, s0, s1]) rfl (GivesNA.none hB)
set_option maxHeartbeats 2000000 in
set_option maxRecDepth 100000 in
theorem sopr_yes (N : Nat) (A : Option Addr) (cap : Nat) (ps : List Pp) (x : Int) (w : World) (h : PAt w A ps) (hm : ps.length ≤ 1048576) (hv : goodB N ps = true) (hr : ringB N ps = true) (hc : ps.length ≤ cap) {i : Nat} (hi : i < ps.length) (hf : FindIs ps x i) (hs : dA (sgL N ps) i ≠ 0) :
    Calls Try.prog 41 #[nv N A ps.length cap, .int .i64 x] w (GivesNA w N (wo ps i) true) := by
  have HW0 := Lib.hid (show Below w.heap.size w ((w.alloc (nb N A ps.length cap)).alloc (nb 0 none 0 0)) from ((Below.refl _ _).alloc (Nat.le_refl _) _).alloc (by simp) _)
  have HB3 := Lib.hid (fun w1 (hb : Below ((w.alloc (nb N A ps.length cap)).alloc (nb 0 none 0 0)).heap.size ((w.alloc (nb N A ps.length cap)).alloc (nb 0 none 0 0)) w1) => (show Below (w.heap.size + 1) (w.alloc (nb N A ps.length cap)) w1 from ((Below.refl _ _).alloc (by simp) _).trans (hb.mono (by simp))))
  have HR0 := Lib.hid (show TB ((w.alloc (nb N A ps.length cap)).alloc (nb 0 none 0 0)) (w.heap.size + 1) (.int .i64 0) (.slice none 0 0) from by
    have := TB.made (w.alloc (nb N A ps.length cap)) (.int .i64 0) (.slice none 0 0)
    simpa using this)
  have HF := Lib.hid (fun w' (hb : Below w.heap.size w w') => find_any N A cap ps x w' (h.kept hb (Nat.le_refl _)) hm)
  have HG := Lib.hid (fun w' (hb : Below w.heap.size w w') => sgood_v hv A cap w' (h.kept hb (Nat.le_refl _)) (by unfold maxLen; omega))
  have HRG := Lib.hid (fun w' (hb : Below w.heap.size w w') => sring_v hr A cap w' (h.kept hb (Nat.le_refl _)) (good_of hv))
  have HL := Lib.hid (fun w' (hb : Below w.heap.size w w') => slp_any N A cap ps w' (h.kept hb (Nat.le_refl _)) hc (good_of hv) hr)
  have HSL := Lib.hid (sgL_len N ps)
  have HX := Lib.hid hf
  have hi0 : (0 : Int) ≤ (i : Int) := by omega
  have hi1 : ¬ (i : Int) < 0 := by omega
  have hi2 : (i : Int) < ((sgL N ps).length : Int) := by rw [HSL.out]; omega
  have hs0 : (dA (sgL N ps) i == 0) = false := beq_eq_false_iff_ne.2 hs
  have HW := Lib.hid (fun w' (hb : Below w.heap.size w w') => sw_at N i cap A ps w' (h.kept hb (Nat.le_refl _)) hi hc (good_of hv).2.2.1)
  clear h hm hv hr hf hs
  go_enter Try.func41, Try.ntmps41
  go_wp2_with (first
    | (go_at_call 146; refine (HF.out _ HW0.out).mono ?_; rintro e w1 ⟨⟨r, rfl, hr⟩, hb1⟩; have HB1 := Lib.hid (HB3.out _ hb1); have HT1 := Lib.hid (HR0.out.below hb1); obtain ⟨b0, b1⟩ := box2 HB1.out; have hz1 := HT1.out.lt; have hy1 : w.heap.size < w1.heap.size := (by omega); obtain rfl := find_one hr HX.out)
    | (go_at_call 112; refine (HG.out _ (below_box HB1.out)).mono ?_; rintro e w2 ⟨rfl, hb2⟩; have HB2 := Lib.hid (on_call HB1.out hb2); have HT2 := Lib.hid (HT1.out.below hb2); clear b0 b1; obtain ⟨b0, b1⟩ := box2 HB2.out; have hz2 := HT2.out.lt; have hy2 : w.heap.size < w2.heap.size := (by omega); have hv2 : w1.heap.size ≤ w2.heap.size := hb2.size)
    | (go_at_call 113; refine (HRG.out _ (below_box HB2.out)).mono ?_; rintro e w3 ⟨rfl, hb3⟩; have HB3 := Lib.hid (on_call HB2.out hb3); have HT3 := Lib.hid (HT2.out.below hb3); clear b0 b1; obtain ⟨b0, b1⟩ := box2 HB3.out; have hz3 := HT3.out.lt; have hy3 : w.heap.size < w3.heap.size := (by omega); have hv3 : w2.heap.size ≤ w3.heap.size := hb3.size)
    | (go_at_call 118; refine (HL.out _ (below_box HB3.out)).mono ?_; rintro e w4 ⟨g, c, rfl, hg4, hO, hb4⟩; have HB4 := Lib.hid (on_call HB3.out hb4); have HT4 := Lib.hid (HT3.out.below hb4); clear b0 b1; obtain ⟨b0, b1⟩ := box2 HB4.out; have hz4 := HT4.out.lt; have hy4 : w.heap.size < w4.heap.size := (by omega); have hv4 : w3.heap.size ≤ w4.heap.size := hb4.size; have hcs := hO.cell rfl (v := i) (by rw [HSL.out]; exact hi))
    | (go_at_call 130; refine (HW.out _ (below_box HB4.out)).mono ?_; rintro e w5 ⟨g5, c5, rfl, hg5, hc5, hp5, hb5⟩; have HB5 := Lib.hid (on_call HB4.out hb5); have HT5 := Lib.hid (HT4.out.below hb5); have hv5 := hb5.size; have HP := Lib.hid hp5; obtain ⟨s0, s1⟩ := HT5.out.cell; have f0 := HT5.out.frozen 0; have f1 := HT5.out.frozen 1; have hz5 := HT5.out.lt; clear hb5 hp5)
    | fail)
  have hB := (((below_box HB5.out).setCell (p := ⟨w.heap.size + 1, 0, none⟩) (by show w.heap.size ≤ w.heap.size + 1; omega) (.int .i64 N)).setCell (p := ⟨w.heap.size + 1, 1, none⟩) (by show w.heap.size ≤ w.heap.size + 1; omega) (.slice (some ⟨g5, 0, none⟩) (wo ps i).length c5))
  exact bodyPost_ret (v := .tuple #[nv N (some ⟨g5, 0, none⟩) (wo ps i).length c5, .bool true]) (by simp [results, Try.results41, go_sem, s0, s1]) rfl ⟨some ⟨g5, 0, none⟩, c5, rfl, hc5, pat_set1 (pat_set1 HP.out (by dsimp only; omega)) (by dsimp only; omega), hB⟩
end Go.Proofs.Ytgjogjmfpbinfaa.S2
