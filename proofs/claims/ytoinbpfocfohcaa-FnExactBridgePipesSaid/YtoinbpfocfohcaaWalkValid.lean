/- The walk of the law FnExactIsValidNetwork: contracts. Conditions: each theorem's own premises. -/
import Derived.Test.YtoinbpfocfohcaaEqOne
import Derived.Test.YtoinbpfocfohcaaGoodTwo
namespace Go.Proofs.Ytoinbpfocfohcaa.S2
open Go.RowKit P2

theorem valid_v {n : Int} {ps : List Pp} {v : Bool} (hv : goodB n ps = v) (A : Option Addr) (cap : Nat) (w : World) (h : PAt w A ps) (hm : ps.length ≤ maxLen) :
    Calls Try.prog 35 #[nv n A ps.length cap] w fun e w' => e = .returned (.bool v) ∧ Below w.heap.size w w' := by
  rw [← hv]; exact valid_any n A cap ps w h hm
theorem svalid_v {n : Int} {ps : List Pp} {v : Bool} (hv : goodB n ps = v) (A : Option Addr) (cap : Nat) (w : World) (h : PAt w A ps) (hm : ps.length ≤ maxLen) :
    Calls Try.prog 33 #[nv n A ps.length cap] w fun e w' => e = .returned (.bool v) ∧ Below w.heap.size w w' := by
  rw [← hv]; exact svalid_any n A cap ps w h hm

theorem box2 {w w' : World} {x y : Value} {t : TypeId} (h : Below (w.heap.size + 1) (w.alloc (.cells #[x, y] t)) w') : w'.cell? ⟨w.heap.size, 0, none⟩ = some x ∧ w'.cell? ⟨w.heap.size, 1, none⟩ = some y := by
  have h0 := h.cell (p := ⟨w.heap.size, 0, none⟩) (by show w.heap.size < w.heap.size + 1; omega)
  have h1 := h.cell (p := ⟨w.heap.size, 1, none⟩) (by show w.heap.size < w.heap.size + 1; omega)
  rw [h0, h1, World.cell?_alloc_at _ _ _ _ rfl, World.cell?_alloc_at _ _ _ _ rfl]
  exact ⟨rfl, rfl⟩
theorem on_call {w a b : World} {o : Obj} (h : Below (w.heap.size + 1) (w.alloc o) a) (hb : Below a.heap.size a b) : Below (w.heap.size + 1) (w.alloc o) b :=
  h.trans (hb.mono (by have := h.size; simpa using this))
theorem box_lt {w a : World} {o : Obj} (h : Below (w.heap.size + 1) (w.alloc o) a) : w.heap.size < a.heap.size := by have := h.size; simp at this; omega

set_option maxHeartbeats 4000000 in
theorem law_valid (n : Int) (A : Option Addr) (cap : Nat) (ps : List Pp) (w : World) (h : PAt w A ps) (hm : ps.length ≤ maxLen) :
    Calls Try.prog 5 #[nv n A ps.length cap] w fun e w' => e = .returned (.bool true) ∧ Below w.heap.size w w' := by
  have HA := Lib.hid h
  obtain ⟨v, hv⟩ : ∃ v, goodB n ps = v := ⟨_, rfl⟩
  have HV := Lib.hid (fun A cap w h hm => valid_v hv A cap w h hm)
  have HS := Lib.hid (fun A cap w h hm => svalid_v hv A cap w h hm)
  have HM := Lib.hid hm
  clear h hv hm
  go_enter Try.func5, Try.ntmps5
  go_wp2_with (go_at_call 32; refine (sznet_any n A ps.length cap _ HM.out).mono ?_; rintro e w1 ⟨⟨r, rfl, hr⟩, hb1⟩; refine Hid.out ?_)
  have hB1 : Below (w.heap.size + 1) (w.alloc (.cells #[.int .i64 n, .slice A ps.length cap] 49)) w1 := by simpa using hb1
  clear hb1
  obtain ⟨x0, x1⟩ := box2 hB1
  by_cases hr0 : r < 0
  · refine Lib.hid ?_
    go_wp2
    go_ret
    exact ⟨rfl, below_box hB1⟩
  · have hlen : ps.length ≤ 1048576 := by rcases hr with h | h; exact absurd h hr0; exact h.2
    refine Lib.hid ?_
    clear hr
    -- the model's answer
    go_wp2_with (first | (go_at_call 34; refine (tonet_any n A cap ps _ (HA.out.kept (below_box hB1) (Nat.le_refl _)) hlen).mono ?_; rintro e w2 ⟨⟨g, rfl, hg, hrow2⟩, hb2⟩; refine Hid.out ?_) | fail)
    have hB2 := on_call hB1 hb2
    have hat2 := Lib.hid hrow2.at_
    clear x0 x1 hB1 hb2 hrow2 hg
    obtain ⟨x0, x1⟩ := box2 hB2
    refine Lib.hid ?_
    go_wp2_with (first | (go_at_call 33; refine (HS.out _ _ _ hat2.out HM.out).mono ?_; rintro e w3 ⟨rfl, hb3⟩; refine Hid.out ?_) | fail)
    have hB3 := on_call hB2 hb3
    clear x0 x1 hB2 hb3 hat2
    obtain ⟨x0, x1⟩ := box2 hB3
    refine Lib.hid ?_
    -- the program's answer
    go_wp2_with (first | (go_at_call 34; refine (tonet_any n A cap ps _ (HA.out.kept (below_box hB3) (Nat.le_refl _)) hlen).mono ?_; rintro e w4 ⟨⟨g4, rfl, hg4, hrow4⟩, hb4⟩; refine Hid.out ?_) | fail)
    have hB4 := on_call hB3 hb4
    clear x0 x1 hB3 hb4
    obtain ⟨x0, x1⟩ := box2 hB4
    have hgl4 := hrow4.lt
    have hwl4 := box_lt hB4
    have hrow5 := Lib.hid (hrow4.alloc (.cells #[.int .i64 n, .slice (some ⟨g4, 0, none⟩) ps.length ps.length] 26))
    have hB5 := hB4.alloc hwl4 (.cells #[.int .i64 n, .slice (some ⟨g4, 0, none⟩) ps.length ps.length] 26)
    refine Lib.hid ?_
    go_wp2_with (first | (go_at_call 35; refine (HV.out _ _ _ (PRow.at_ hrow5.out) HM.out).mono ?_; rintro e w6 ⟨rfl, hb6⟩; refine Hid.out ?_) | fail)
    have hz6 := hb6.size
    have y := box2 (w := w4) (by simpa using hb6)
    obtain ⟨y0, y1⟩ := y
    have hB6 := on_call hB5 hb6
    have hat6 := Lib.hid (PRow.at_ (PRow.kept hrow5.out hb6 (by simp; omega)))
    have hgl6 : g4 < w6.heap.size := by simp at hz6; omega
    have hwl6 := box_lt hB6
    have hyl6 : w4.heap.size < w6.heap.size := by simp at hz6; omega
    clear x0 x1 hB4 hB5 hb6 hz6 hrow4 hrow5 hg4
    obtain ⟨x0, x1⟩ := box2 hB6
    have HB6 := Lib.hid hB6
    have hA6 := Lib.hid (HA.out.kept (below_box hB6) (Nat.le_refl _))
    clear hB6
    refine Lib.hid ?_
    go_wp2_with fail
    -- the argument as it was
    go_region_with (first
      | (go_at_call 34; refine (tonet_any n A cap ps w6.drew hA6.out hlen).mono ?_; rintro e w7 ⟨⟨g7, rfl, hg7, hrow7⟩, hb7⟩; have HB7 := Lib.hid hb7; have hat7 := Lib.hid hrow7.at_; have hat6' := Lib.hid (PAt.kept (w := w6.drew) hat6.out hb7 (Nat.le_refl _)); have y0' := (hb7.cell (p := ⟨w4.heap.size, 0, none⟩) hyl6).trans y0; have y1' := (hb7.cell (p := ⟨w4.heap.size, 1, none⟩) hyl6).trans y1; clear hg7 hrow7 hb7)
      | (go_at_call 36; refine (eqnet_same n _ _ _ _ ps w7 hat6'.out hat7.out hlen).mono ?_; rintro e w8 ⟨rfl, hb8⟩))
    all_goals go_wp2
    all_goals go_ret
    all_goals exact ⟨rfl, below_box ((HB6.out.trans ((Below.refl _ w6).drew.trans (HB7.out.mono hwl6)) |>.trans (hb8.mono (by have := HB7.out.size; simp at this; omega))))⟩
end Go.Proofs.Ytoinbpfocfohcaa.S2
