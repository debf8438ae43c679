/- TreeFlows of the model, DownstreamNodes of the model: answers. Conditions: each theorem's own premises. -/
import Derived.Test.YtpldbakllegheaaTflS
namespace Go.Proofs.Ytpldbakllegheaa.S2
open Go.RowKit P2

theorem gives_noneA {w w0 : World} (h : Below w0.heap.size w0 w) : GivesA w0 [] false (.returned (.tuple #[.slice (some ⟨w.heap.size, 0, none⟩) 0 0, .bool false])) (w.alloc (.cells #[] 3)) :=
  ⟨_, 0, 0, rfl, h.size, .inl rfl, h.alloc h.size _, by simp⟩

set_option maxHeartbeats 2000000 in
theorem stfl_no (n : Int) (A : Option Addr) (cap : Nat) (ps : List Pp) (x : Int) (AD : Option Addr) (dc : Nat) (dm : List Int) (w : World) (h : PAt w A ps) (hm : ps.length ≤ maxLen) (hd : IAt w AD dm) (hdl : dm.length ≤ 1048576)
    (hv : nodeB n ps x = false ∨ demB n ps dm = false ∨ ∃ N : Nat, n = N ∧ treeB N ps = false) :
    Calls Try.prog 39 #[nv n A ps.length cap, .int .i64 x, .slice AD dm.length dc] w (GivesA w [] false) := by
  obtain ⟨v1, hv1⟩ : ∃ v, nodeB n ps x = v := ⟨_, rfl⟩
  obtain ⟨v3, hv3⟩ : ∃ v, amtB dm n 0 1000 = v := ⟨_, rfl⟩
  have H1 := Lib.hid (fun w' (hb : Below w.heap.size w w') => snode_v hv1 A cap w' (h.kept hb (Nat.le_refl _)) hm)
  have H3 := Lib.hid (fun w' (hb : Below w.heap.size w w') => sdem_v hv3 A ps.length cap AD dc w' (hd.kept hb (Nat.le_refl _)) hdl)
  cases v1 with
  | false =>
    clear h hd hv hv1 hv3
    go_enter Try.func39, Try.ntmps39
    go_wp2_with (go_at_call 72; refine (H1.out _ ((Below.refl _ _).alloc (Nat.le_refl _) _)).mono ?_; rintro e w1 ⟨rfl, hb1⟩)
    go_ret2
    exact gives_noneA (below_alloc_call hb1)
  | true =>
    obtain ⟨hg, hx1, hx2⟩ := nodeB_of hv1
    obtain ⟨N, rfl⟩ := good_nat hg
    cases v3 with
    | false =>
      clear h hd hv hv1 hv3
      go_enter Try.func39, Try.ntmps39
      go_wp2_with (first
        | (go_at_call 72; refine (H1.out _ ((Below.refl _ _).alloc (Nat.le_refl _) _)).mono ?_; rintro e w1 ⟨rfl, hb1⟩; have HX1 := Lib.hid (show Below (w.heap.size + 1) (w.alloc (nb N A ps.length cap)) w1 by simpa using hb1); obtain ⟨b0, b1⟩ := box2 HX1.out; have hy1 := box_lt HX1.out; clear hb1)
        | (go_at_call 86; refine (H3.out _ (below_box HX1.out)).mono ?_; rintro e w3 ⟨rfl, hb3⟩; have HX3 := Lib.hid (on_call HX1.out hb3); clear b0 b1; obtain ⟨b0, b1⟩ := box2 HX3.out; have hy3 := box_lt HX3.out; clear hb3))
      go_ret2
      exact gives_noneA (below_box HX3.out)
    | true =>
      have ht : treeB N ps = false := by
        rcases hv with h | h | ⟨M, e, h⟩
        · exact absurd (h.symm.trans hv1) (by simp)
        · unfold demB at h; rw [good_mk hg, hv3] at h; cases h
        · have : M = N := by omega
          subst this
          exact h
      have H4 := Lib.hid (fun w' (hb : Below w.heap.size w w') => stree_v ht A cap w' (h.kept hb (Nat.le_refl _)) hg)
      clear h hd hv hv1 hv3 hg ht
      go_enter Try.func39, Try.ntmps39
      go_wp2_with (first
        | (go_at_call 72; refine (H1.out _ ((Below.refl _ _).alloc (Nat.le_refl _) _)).mono ?_; rintro e w1 ⟨rfl, hb1⟩; have HX1 := Lib.hid (show Below (w.heap.size + 1) (w.alloc (nb N A ps.length cap)) w1 by simpa using hb1); obtain ⟨b0, b1⟩ := box2 HX1.out; have hy1 := box_lt HX1.out; clear hb1)
        | (go_at_call 86; refine (H3.out _ (below_box HX1.out)).mono ?_; rintro e w3 ⟨rfl, hb3⟩; have HX3 := Lib.hid (on_call HX1.out hb3); clear b0 b1; obtain ⟨b0, b1⟩ := box2 HX3.out; have hy3 := box_lt HX3.out; clear hb3)
        | (go_at_call 87; refine (H4.out _ (below_box HX3.out)).mono ?_; rintro e w4 ⟨rfl, hb4⟩; have HX4 := Lib.hid (on_call HX3.out hb4); clear b0 b1; obtain ⟨b0, b1⟩ := box2 HX4.out; have hy4 := box_lt HX4.out; clear hb4))
      go_ret2
      exact gives_noneA (below_box HX4.out)

set_option maxHeartbeats 2000000 in
theorem stfl_yes (N t : Nat) (A : Option Addr) (cap : Nat) (ps : List Pp) (AD : Option Addr) (dc : Nat) (dm : List Int) (w : World) (h : PAt w A ps) (hm : ps.length ≤ maxLen) (hc : ps.length = cap) (hd : IAt w AD dm) (hdl : dm.length ≤ 1048576) (hn : nodeB N ps t = true) (ht : treeB N ps = true) (hv : demB N ps dm = true) :
    Calls Try.prog 39 #[nv N A ps.length cap, .int .i64 (t : Int), .slice AD dm.length dc] w (GivesA w (tfL N ps t dm) true) := by
  obtain ⟨hg, hdn, hr⟩ := demB_of hv
  obtain ⟨_, hx1, hx2⟩ := nodeB_of hn
  unfold demB at hv
  rw [Bool.and_eq_true] at hv
  have H1 := Lib.hid (fun w' (hb : Below w.heap.size w w') => snode_v hn A cap w' (h.kept hb (Nat.le_refl _)) hm)
  have H3 := Lib.hid (fun w' (hb : Below w.heap.size w w') => sdem_v hv.2 A ps.length cap AD dc w' (hd.kept hb (Nat.le_refl _)) hdl)
  have H4 := Lib.hid (fun w' (hb : Below w.heap.size w w') => stree_v ht A cap w' (h.kept hb (Nat.le_refl _)) hg)
  have H5 := Lib.hid (fun w' (hb : Below w.heap.size w w') => stf_any N t A cap ps AD dc dm w' (h.kept hb (Nat.le_refl _)) hc (hd.kept hb (Nat.le_refl _)) hg (by omega) (by omega) hr hdn)
  clear h hd hv hn ht hg hdn hr hc
  go_enter Try.func39, Try.ntmps39
  go_wp2_with (first
    | (go_at_call 72; refine (H1.out _ ((Below.refl _ _).alloc (Nat.le_refl _) _)).mono ?_; rintro e w1 ⟨rfl, hb1⟩; have HX1 := Lib.hid (show Below (w.heap.size + 1) (w.alloc (nb N A ps.length cap)) w1 by simpa using hb1); obtain ⟨b0, b1⟩ := box2 HX1.out; have hy1 := box_lt HX1.out; clear hb1)
    | (go_at_call 86; refine (H3.out _ (below_box HX1.out)).mono ?_; rintro e w3 ⟨rfl, hb3⟩; have HX3 := Lib.hid (on_call HX1.out hb3); clear b0 b1; obtain ⟨b0, b1⟩ := box2 HX3.out; have hy3 := box_lt HX3.out; clear hb3)
    | (go_at_call 87; refine (H4.out _ (below_box HX3.out)).mono ?_; rintro e w4 ⟨rfl, hb4⟩; have HX4 := Lib.hid (on_call HX3.out hb4); clear b0 b1; obtain ⟨b0, b1⟩ := box2 HX4.out; have hy4 := box_lt HX4.out; clear hb4)
    | (go_at_call 88; refine (H5.out _ (below_box HX4.out)).mono ?_; rintro e w5 ⟨g, c, rfl, hg5, hO, hb5⟩))
  go_ret2
  have hz := (below_box HX4.out).size
  exact ⟨g, 0, c, rfl, by omega, hO.iat, (below_box HX4.out).trans (hb5.mono hz), iown_lt' hO⟩

/-! ### DownstreamNodes -/
set_option maxHeartbeats 2000000 in
theorem sdw_no (n : Int) (A : Option Addr) (cap : Nat) (ps : List Pp) (x y : Int) (w : World) (h : PAt w A ps) (hm : ps.length ≤ 1048576)
    (hv : nodeB n ps x = false ∨ FindIs ps y (-1) ∨ ∃ N : Nat, n = N ∧ treeB N ps = false) :
    Calls Try.prog 41 #[nv n A ps.length cap, .int .i64 x, .int .i64 y] w (GivesA w [] false) := by
  obtain ⟨v1, hv1⟩ : ∃ v, nodeB n ps x = v := ⟨_, rfl⟩
  have HF := Lib.hid (fun w' (hb : Below w.heap.size w w') => find_any n A cap ps y w' (h.kept hb (Nat.le_refl _)) hm)
  have H1 := Lib.hid (fun w' (hb : Below w.heap.size w w') => snode_v hv1 A cap w' (h.kept hb (Nat.le_refl _)) (by unfold maxLen; omega))
  cases v1 with
  | false =>
    clear h hv hv1
    go_enter Try.func41, Try.ntmps41
    go_wp2_with (first
      | (go_at_call 52; refine (HF.out _ ((Below.refl _ _).alloc (Nat.le_refl _) _)).mono ?_; rintro e w1 ⟨⟨r, rfl, hr⟩, hb1⟩; have HX1 := Lib.hid (show Below (w.heap.size + 1) (w.alloc (nb n A ps.length cap)) w1 by simpa using hb1); obtain ⟨b0, b1⟩ := box2 HX1.out; have hy1 := box_lt HX1.out; clear hb1)
      | (go_at_call 72; refine (H1.out _ (below_box HX1.out)).mono ?_; rintro e w2 ⟨rfl, hb2⟩; have HX2 := Lib.hid (on_call HX1.out hb2)))
    go_ret2
    exact gives_noneA (below_box HX2.out)
  | true =>
    obtain ⟨hg, hx1, hx2⟩ := nodeB_of hv1
    obtain ⟨N, rfl⟩ := good_nat hg
    by_cases hfi : FindIs ps y (-1)
    · have HV := Lib.hid (fun r (hr : FindIs ps y r) => find_one hr hfi)
      clear h hv hv1 hfi hg
      go_enter Try.func41, Try.ntmps41
      go_wp2_with (first
        | (go_at_call 52; refine (HF.out _ ((Below.refl _ _).alloc (Nat.le_refl _) _)).mono ?_; rintro e w1 ⟨⟨r, rfl, hr⟩, hb1⟩; obtain rfl := HV.out r hr; have HX1 := Lib.hid (show Below (w.heap.size + 1) (w.alloc (nb N A ps.length cap)) w1 by simpa using hb1); obtain ⟨b0, b1⟩ := box2 HX1.out; have hy1 := box_lt HX1.out; clear hb1)
        | (go_at_call 72; refine (H1.out _ (below_box HX1.out)).mono ?_; rintro e w2 ⟨rfl, hb2⟩; have HX2 := Lib.hid (on_call HX1.out hb2)))
      go_ret2
      exact gives_noneA (below_box HX2.out)
    · have ht : treeB N ps = false := by
        rcases hv with h | h | ⟨M, e, h⟩
        · exact absurd (h.symm.trans hv1) (by simp)
        · exact absurd h hfi
        · have : M = N := by omega
          subst this
          exact h
      have HV := Lib.hid (fun r (hr : FindIs ps y r) => (show 0 ≤ r by
        rcases id hr with ⟨rfl, _⟩ | ⟨i, _, rfl, _⟩
        · exact absurd hr hfi
        · omega))
      have H4 := Lib.hid (fun w' (hb : Below w.heap.size w w') => stree_v ht A cap w' (h.kept hb (Nat.le_refl _)) hg)
      clear h hv hv1 hfi hg ht
      go_enter Try.func41, Try.ntmps41
      go_wp2_with (first
        | (go_at_call 52; refine (HF.out _ ((Below.refl _ _).alloc (Nat.le_refl _) _)).mono ?_; rintro e w1 ⟨⟨r, rfl, hr⟩, hb1⟩; have hr0 := HV.out r hr; have HX1 := Lib.hid (show Below (w.heap.size + 1) (w.alloc (nb N A ps.length cap)) w1 by simpa using hb1); obtain ⟨b0, b1⟩ := box2 HX1.out; have hy1 := box_lt HX1.out; clear hb1)
        | (go_at_call 72; refine (H1.out _ (below_box HX1.out)).mono ?_; rintro e w2 ⟨rfl, hb2⟩; have HX2 := Lib.hid (on_call HX1.out hb2); clear b0 b1; obtain ⟨b0, b1⟩ := box2 HX2.out; have hy2 := box_lt HX2.out)
        | (go_at_call 87; refine (H4.out _ (below_box HX2.out)).mono ?_; rintro e w4 ⟨rfl, hb4⟩; have HX4 := Lib.hid (on_call HX2.out hb4)))
      go_ret2
      exact gives_noneA (below_box HX4.out)
set_option maxHeartbeats 2000000 in
theorem sdw_yes (N t i : Nat) (A : Option Addr) (cap : Nat) (ps : List Pp) (y : Int) (w : World) (h : PAt w A ps) (hm : ps.length ≤ 1048576) (hc : ps.length = cap) (hn : nodeB N ps t = true) (ht : treeB N ps = true) (hi : i < ps.length) (hf : FindIs ps y i) :
    Calls Try.prog 41 #[nv N A ps.length cap, .int .i64 (t : Int), .int .i64 y] w (GivesA w (dnL N ps (pAt ps i) t) true) := by
  obtain ⟨hg, hx1, hx2⟩ := nodeB_of hn
  have HF := Lib.hid (fun w' (hb : Below w.heap.size w w') => find_any N A cap ps y w' (h.kept hb (Nat.le_refl _)) hm)
  have H1 := Lib.hid (fun w' (hb : Below w.heap.size w w') => snode_v hn A cap w' (h.kept hb (Nat.le_refl _)) (by unfold maxLen; omega))
  have H4 := Lib.hid (fun w' (hb : Below w.heap.size w w') => stree_v ht A cap w' (h.kept hb (Nat.le_refl _)) hg)
  have H5 := Lib.hid (fun w' (hb : Below w.heap.size w w') => sdn_any N t i A cap ps w' (h.kept hb (Nat.le_refl _)) hc hg (by omega) (by omega) hi)
  have HV := Lib.hid (fun r (hr : FindIs ps y r) => find_one hr hf)
  have hng : decide ((i : Int) < 0) = false := decide_eq_false (by omega)
  clear h hn ht hg hf hc
  generalize dnL N ps (pAt ps i) t = L at *
  go_enter Try.func41, Try.ntmps41
  go_wp2_with (first
    | (go_at_call 52; refine (HF.out _ ((Below.refl _ _).alloc (Nat.le_refl _) _)).mono ?_; rintro e w1 ⟨⟨r, rfl, hr⟩, hb1⟩; obtain rfl := HV.out r hr; have HX1 := Lib.hid (show Below (w.heap.size + 1) (w.alloc (nb N A ps.length cap)) w1 by simpa using hb1); obtain ⟨b0, b1⟩ := box2 HX1.out; have hy1 := box_lt HX1.out; clear hb1)
    | (go_at_call 72; refine (H1.out _ (below_box HX1.out)).mono ?_; rintro e w2 ⟨rfl, hb2⟩; have HX2 := Lib.hid (on_call HX1.out hb2); clear b0 b1; obtain ⟨b0, b1⟩ := box2 HX2.out; have hy2 := box_lt HX2.out)
    | (go_at_call 87; refine (H4.out _ (below_box HX2.out)).mono ?_; rintro e w4 ⟨rfl, hb4⟩; have HX4 := Lib.hid (on_call HX2.out hb4); clear b0 b1; obtain ⟨b0, b1⟩ := box2 HX4.out; have hy4 := box_lt HX4.out; clear hb4)
    | (go_at_call 93; refine (H5.out _ (below_box HX4.out)).mono ?_; rintro e w5 ⟨g, c, rfl, hg5, hO, hb5⟩))
  go_ret2
  have hz := (below_box HX4.out).size
  exact ⟨g, 0, c, rfl, by omega, hO.iat, (below_box HX4.out).trans (hb5.mono hz), iown_lt' hO⟩
end Go.Proofs.Ytpldbakllegheaa.S2
