/- ImbalanceAt of the program and of the model: contracts. Conditions: each theorem's own premises. -/
import Derived.Test.YtipnecmgpfmjeaaImS
namespace Go.Proofs.Ytipnecmgpfmjeaa.S2
open Go.RowKit P2

theorem nodeB_good {n : Int} {ps : List Pp} {s : Int} (h : nodeB n ps s = true) : goodB n ps = true := good_mk (nodeB_of h).1
set_option maxHeartbeats 1000000 in
theorem sask_any (n : Int) (A : Option Addr) (cap : Nat) (ps : List Pp) (s : Int) (AD : Option Addr) (dc : Nat) (dm : List Int) (AF : Option Addr) (fc : Nat) (fl : List Int) (w : World) (h : PAt w A ps) (hm : ps.length ≤ maxLen)
    (hd : IAt w AD dm) (hdl : dm.length ≤ 1048576) (hf : IAt w AF fl) (hfl : fl.length ≤ 1048576) :
    Calls Try.prog 67 #[nv n A ps.length cap, .int .i64 s, .slice AD dm.length dc, .slice AF fl.length fc] w fun e w' => e = .returned (.bool (askB n ps s dm fl)) ∧ Below w.heap.size w w' := by
  obtain ⟨v1, hv1⟩ : ∃ v, nodeB n ps s = v := ⟨_, rfl⟩
  obtain ⟨v2, hv2⟩ : ∃ v, amtB dm n 0 1000 = v := ⟨_, rfl⟩
  obtain ⟨v3, hv3⟩ : ∃ v, amtB fl ps.length (-8000) 8000 = v := ⟨_, rfl⟩
  have H1 := Lib.hid (fun w' (hb : Below w.heap.size w w') => snode_v hv1 A cap w' (h.kept hb (Nat.le_refl _)) hm)
  have H2 := Lib.hid (fun w' (hb : Below w.heap.size w w') => sdem_v hv2 A ps.length cap AD dc w' (hd.kept hb (Nat.le_refl _)) hdl)
  have H3 := Lib.hid (fun w' (hb : Below w.heap.size w w') => sflo_v hv3 (n := n) A cap AF fc w' (hf.kept hb (Nat.le_refl _)) hfl)
  have HV := Lib.hid (show askB n ps s dm fl = (v1 && v2 && v3) from by
    unfold askB demB floB
    rw [hv1, hv2, hv3]
    cases v1 with
    | false => rfl
    | true => rw [nodeB_good hv1]; simp)
  rw [HV.out]
  clear h hd hf hv1 hv2 hv3 HV
  cases v1 with
  | false =>
    go_enter Try.func67, Try.ntmps67
    go_wp2_with (go_at_call 57; refine (H1.out _ ((Below.refl _ _).alloc (Nat.le_refl _) _)).mono ?_; rintro e w1 ⟨rfl, hb1⟩)
    go_ret
    exact ⟨rfl, below_alloc_call hb1⟩
  | true =>
    cases v2 with
    | false =>
      go_enter Try.func67, Try.ntmps67
      go_wp2_with (first
        | (go_at_call 57; refine (H1.out _ ((Below.refl _ _).alloc (Nat.le_refl _) _)).mono ?_; rintro e w1 ⟨rfl, hb1⟩; obtain ⟨hc1, hf1⟩ := bcell hb1; have hz1 := hb1.size; simp at hz1; have hb2 := Lib.hid (below_alloc_call hb1))
        | (go_at_call 58; refine (H2.out _ hb2.out).mono ?_; rintro e w2 ⟨rfl, hb3⟩))
      go_ret
      exact ⟨rfl, hb2.out.trans (hb3.mono hb2.out.size)⟩
    | true =>
      go_enter Try.func67, Try.ntmps67
      go_wp2_with (first
        | (go_at_call 57; refine (H1.out _ ((Below.refl _ _).alloc (Nat.le_refl _) _)).mono ?_; rintro e w1 ⟨rfl, hb1⟩; have HB1 := Lib.hid (show Below (w.heap.size + 1) (w.alloc (nb n A ps.length cap)) w1 from (by simpa using hb1)); obtain ⟨b0, b1⟩ := box2 HB1.out)
        | (go_at_call 58; refine (H2.out _ (below_box HB1.out)).mono ?_; rintro e w2 ⟨rfl, hb2⟩; have HB2 := Lib.hid (on_call HB1.out hb2); clear b0 b1; obtain ⟨b0, b1⟩ := box2 HB2.out)
        | (go_at_call 76; refine (H3.out _ (below_box HB2.out)).mono ?_; rintro e w3 ⟨rfl, hb3⟩; have HB3 := Lib.hid (on_call HB2.out hb3); clear b0 b1; obtain ⟨b0, b1⟩ := box2 HB3.out)
        | fail)
      go_ret
      exact ⟨by simp, below_box HB3.out⟩
theorem sask_v {n : Int} {ps : List Pp} {s : Int} {dm fl : List Int} {v : Bool} (hv : askB n ps s dm fl = v) (A : Option Addr) (cap : Nat) (AD : Option Addr) (dc : Nat) (AF : Option Addr) (fc : Nat) (w : World) (h : PAt w A ps) (hm : ps.length ≤ maxLen)
    (hd : IAt w AD dm) (hdl : dm.length ≤ 1048576) (hf : IAt w AF fl) (hfl : fl.length ≤ 1048576) :
    Calls Try.prog 67 #[nv n A ps.length cap, .int .i64 s, .slice AD dm.length dc, .slice AF fl.length fc] w fun e w' => e = .returned (.bool v) ∧ Below w.heap.size w w' := by
  rw [← hv]; exact sask_any n A cap ps s AD dc dm AF fc fl w h hm hd hdl hf hfl

set_option maxHeartbeats 1000000 in
theorem simbat_no (n : Int) (A : Option Addr) (cap : Nat) (ps : List Pp) (s : Int) (AD : Option Addr) (dc : Nat) (dm : List Int) (AF : Option Addr) (fc : Nat) (fl : List Int) (x : Int) (w : World) (h : PAt w A ps) (hm : ps.length ≤ maxLen)
    (hd : IAt w AD dm) (hdl : dm.length ≤ 1048576) (hf : IAt w AF fl) (hfl : fl.length ≤ 1048576) (hv : (askB n ps s dm fl && nodeB n ps x) = false) :
    Calls Try.prog 41 #[nv n A ps.length cap, .int .i64 s, .slice AD dm.length dc, .slice AF fl.length fc, .int .i64 x] w fun e w' => e = .returned (.tuple #[.int .i64 0, .bool false]) ∧ Below w.heap.size w w' := by
  obtain ⟨v1, hv1⟩ : ∃ v, askB n ps s dm fl = v := ⟨_, rfl⟩
  have H1 := Lib.hid (fun w' (hb : Below w.heap.size w w') => sask_v hv1 A cap AD dc AF fc w' (h.kept hb (Nat.le_refl _)) hm (hd.kept hb (Nat.le_refl _)) hdl (hf.kept hb (Nat.le_refl _)) hfl)
  rw [hv1] at hv
  cases v1 with
  | false =>
    clear h hd hf hv hv1
    go_enter Try.func41, Try.ntmps41
    go_wp2_with (go_at_call 67; refine (H1.out _ ((Below.refl _ _).alloc (Nat.le_refl _) _)).mono ?_; rintro e w1 ⟨rfl, hb1⟩)
    go_ret2
    exact ⟨rfl, below_alloc_call hb1⟩
  | true =>
    rw [Bool.true_and] at hv
    have H2 := Lib.hid (fun w' (hb : Below w.heap.size w w') => snode_v hv A cap w' (h.kept hb (Nat.le_refl _)) hm)
    clear h hd hf hv hv1
    go_enter Try.func41, Try.ntmps41
    go_wp2_with (first
      | (go_at_call 67; refine (H1.out _ ((Below.refl _ _).alloc (Nat.le_refl _) _)).mono ?_; rintro e w1 ⟨rfl, hb1⟩; obtain ⟨hc1, hf1⟩ := bcell hb1; have hz1 := hb1.size; simp at hz1; have hb2 := Lib.hid (below_alloc_call hb1))
      | (go_at_call 57; refine (H2.out _ hb2.out).mono ?_; rintro e w2 ⟨rfl, hb3⟩))
    go_ret2
    exact ⟨rfl, hb2.out.trans (hb3.mono hb2.out.size)⟩

set_option maxHeartbeats 1000000 in
theorem simbat_yes (N s v : Nat) (A : Option Addr) (cap : Nat) (ps : List Pp) (AD : Option Addr) (dc : Nat) (dm : List Int) (AF : Option Addr) (fc : Nat) (fl : List Int) (w : World) (h : PAt w A ps) (hm : ps.length ≤ maxLen)
    (hd : IAt w AD dm) (hdl : dm.length ≤ 1048576) (hf : IAt w AF fl) (hfl : fl.length ≤ 1048576) (hv : askB N ps s dm fl = true) (hx : nodeB N ps v = true) :
    Calls Try.prog 41 #[nv N A ps.length cap, .int .i64 (s : Int), .slice AD dm.length dc, .slice AF fl.length fc, .int .i64 (v : Int)] w fun e w' => e = .returned (.tuple #[.int .i64 (imbA s dm ps fl v), .bool true]) ∧ Below w.heap.size w w' := by
  obtain ⟨hv1, hv2, hv3⟩ := askB_of hv
  obtain ⟨hg, hx1, hx2⟩ := nodeB_of hx
  obtain ⟨_, hdn, hdr⟩ := demB_of hv2
  obtain ⟨_, hfn, hfr⟩ := floB_of hv3
  have H1 := Lib.hid (fun w' (hb : Below w.heap.size w w') => sask_v hv A cap AD dc AF fc w' (h.kept hb (Nat.le_refl _)) hm (hd.kept hb (Nat.le_refl _)) hdl (hf.kept hb (Nat.le_refl _)) hfl)
  have H2 := Lib.hid (fun w' (hb : Below w.heap.size w w') => snode_v hx A cap w' (h.kept hb (Nat.le_refl _)) hm)
  have H3 := Lib.hid (fun w' (hb : Below w.heap.size w w') => simb_any N s v A cap ps AD dc dm AF fc fl w' (h.kept hb (Nat.le_refl _)) (hd.kept hb (Nat.le_refl _)) (hf.kept hb (Nat.le_refl _)) hg (by omega) hdr hfn hfr (by omega) (by omega))
  clear h hd hf hv hv1 hv2 hv3 hg hx hx1 hx2 hdn hdr hfn hfr hm hdl hfl
  go_enter Try.func41, Try.ntmps41
  go_wp2_with (first
    | (go_at_call 67; refine (H1.out _ ((Below.refl _ _).alloc (Nat.le_refl _) _)).mono ?_; rintro e w1 ⟨rfl, hb1⟩; have HB1 := Lib.hid (show Below (w.heap.size + 1) (w.alloc (nb N A ps.length cap)) w1 from (by simpa using hb1)); obtain ⟨b0, b1⟩ := box2 HB1.out)
    | (go_at_call 57; refine (H2.out _ (below_box HB1.out)).mono ?_; rintro e w2 ⟨rfl, hb2⟩; have HB2 := Lib.hid (on_call HB1.out hb2); clear b0 b1; obtain ⟨b0, b1⟩ := box2 HB2.out)
    | (go_at_call 87; refine (H3.out _ (below_box HB2.out)).mono ?_; rintro e w3 ⟨rfl, hb3⟩; have HB3 := Lib.hid (on_call HB2.out hb3); clear b0 b1; obtain ⟨b0, b1⟩ := box2 HB3.out)
    | fail)
  go_ret2
  exact ⟨rfl, below_box HB3.out⟩

/-! ### The program -/
theorem AR.of (w : World) (S : Nat → Int) : AR (w.alloc (.cells #[iv (S 0), iv (S 1), iv (S 2), iv (S 3), iv (S 4), iv (S 5), iv (S 6), iv (S 7), iv (S 8)] 90)) w.heap.size S := by
  unfold AR
  rw [show (List.map (fun i => iv (S i)) (List.range 9)).toArray = #[iv (S 0), iv (S 1), iv (S 2), iv (S 3), iv (S 4), iv (S 5), iv (S 6), iv (S 7), iv (S 8)] from rfl]
  simpa using (MapKept.heap_alloc w (.cells #[iv (S 0), iv (S 1), iv (S 2), iv (S 3), iv (S 4), iv (S 5), iv (S 6), iv (S 7), iv (S 8)] 90)).1
set_option maxHeartbeats 1000000 in
theorem imbat_no (n : Int) (A : Option Addr) (cap : Nat) (ps : List Pp) (s : Int) (AD : Option Addr) (dc : Nat) (dm : List Int) (AF : Option Addr) (fc : Nat) (fl : List Int) (x : Int) (w : World) (h : PAt w A ps) (hm : ps.length ≤ maxLen)
    (hd : IAt w AD dm) (hdl : dm.length ≤ 1048576) (hf : IAt w AF fl) (hfl : fl.length ≤ 1048576) (hv : askB n ps s dm fl = false) :
    Calls Try.prog 26 #[nv n A ps.length cap, .int .i64 s, .slice AD dm.length dc, .slice AF fl.length fc, .int .i64 x] w fun e w' => e = .returned (.tuple #[.int .i64 0, .bool false]) ∧ Below w.heap.size w w' := by
  have H1 := Lib.hid (fun w' (hb : Below w.heap.size w w') => imb_no n A cap ps s AD dc dm AF fc fl w' (h.kept hb (Nat.le_refl _)) hm (hd.kept hb (Nat.le_refl _)) hdl (hf.kept hb (Nat.le_refl _)) hfl hv)
  clear h hd hf hv
  go_enter Try.func26, Try.ntmps26
  go_wp2_with (go_at_call 61; refine (H1.out _ ((Below.refl _ _).alloc (Nat.le_refl _) _)).mono ?_; rintro e w1 ⟨rfl, hb1⟩)
  go_ret2
  have hb2 := below_alloc_call hb1
  exact ⟨rfl, hb2.alloc hb2.size _⟩
set_option maxHeartbeats 1000000 in
theorem imbat_off (N s : Nat) (A : Option Addr) (cap : Nat) (ps : List Pp) (AD : Option Addr) (dc : Nat) (dm : List Int) (AF : Option Addr) (fc : Nat) (fl : List Int) (x : Int) (w : World) (h : PAt w A ps) (hm : ps.length ≤ maxLen)
    (hd : IAt w AD dm) (hdl : dm.length ≤ 1048576) (hf : IAt w AF fl) (hfl : fl.length ≤ 1048576) (hv : askB N ps s dm fl = true) (hx : nodeB N ps x = false) :
    Calls Try.prog 26 #[nv N A ps.length cap, .int .i64 (s : Int), .slice AD dm.length dc, .slice AF fl.length fc, .int .i64 x] w fun e w' => e = .returned (.tuple #[.int .i64 0, .bool false]) ∧ Below w.heap.size w w' := by
  have H1 := Lib.hid (fun w' (hb : Below w.heap.size w w') => imb_yes N s A cap ps AD dc dm AF fc fl w' (h.kept hb (Nat.le_refl _)) hm (hd.kept hb (Nat.le_refl _)) hdl (hf.kept hb (Nat.le_refl _)) hfl hv)
  have H2 := Lib.hid (fun w' (hb : Below w.heap.size w w') => node_v hx A cap w' (h.kept hb (Nat.le_refl _)) hm)
  clear h hd hf hv hx
  generalize imbA s dm ps fl = S at *
  go_enter Try.func26, Try.ntmps26
  go_wp2_with (first
    | (go_at_call 61; refine (H1.out _ ((Below.refl _ _).alloc (Nat.le_refl _) _)).mono ?_; rintro e w1 ⟨rfl, hb1⟩; have HB1 := Lib.hid (show Below (w.heap.size + 1) (w.alloc (nb N A ps.length cap)) w1 from (by simpa using hb1)); obtain ⟨b0, b1⟩ := box2 HB1.out; have HB2 := Lib.hid (HB1.out.alloc (box_lt HB1.out) (.cells #[iv (S 0), iv (S 1), iv (S 2), iv (S 3), iv (S 4), iv (S 5), iv (S 6), iv (S 7), iv (S 8)] 90)); have hzx := box_lt HB1.out)
    | (go_at_call 69; refine (H2.out _ (below_box HB2.out)).mono ?_; rintro e w3 ⟨rfl, hb3⟩; have HB3 := Lib.hid (on_call HB2.out hb3))
    | fail)
  go_ret2
  exact ⟨rfl, below_box HB3.out⟩
set_option maxHeartbeats 1000000 in
theorem imbat_yes (N s v : Nat) (A : Option Addr) (cap : Nat) (ps : List Pp) (AD : Option Addr) (dc : Nat) (dm : List Int) (AF : Option Addr) (fc : Nat) (fl : List Int) (w : World) (h : PAt w A ps) (hm : ps.length ≤ maxLen)
    (hd : IAt w AD dm) (hdl : dm.length ≤ 1048576) (hf : IAt w AF fl) (hfl : fl.length ≤ 1048576) (hv : askB N ps s dm fl = true) (hx : nodeB N ps v = true) :
    Calls Try.prog 26 #[nv N A ps.length cap, .int .i64 (s : Int), .slice AD dm.length dc, .slice AF fl.length fc, .int .i64 (v : Int)] w fun e w' => e = .returned (.tuple #[.int .i64 (imbA s dm ps fl v), .bool true]) ∧ Below w.heap.size w w' := by
  obtain ⟨hg, hx1, hx2⟩ := nodeB_of hx
  have hv9 : v < 9 := by have := hg.2.1; omega
  have hvi0 : (0 : Int) ≤ (v : Int) := by omega
  have hvi9 : (v : Int) < 9 := by omega
  have H1 := Lib.hid (fun w' (hb : Below w.heap.size w w') => imb_yes N s A cap ps AD dc dm AF fc fl w' (h.kept hb (Nat.le_refl _)) hm (hd.kept hb (Nat.le_refl _)) hdl (hf.kept hb (Nat.le_refl _)) hfl hv)
  have H2 := Lib.hid (fun w' (hb : Below w.heap.size w w') => node_v hx A cap w' (h.kept hb (Nat.le_refl _)) hm)
  clear h hd hf hv hx hg hm hdl hfl
  generalize imbA s dm ps fl = S at *
  go_enter Try.func26, Try.ntmps26
  go_wp2_with (first
    | (go_at_call 61; refine (H1.out _ ((Below.refl _ _).alloc (Nat.le_refl _) _)).mono ?_; rintro e w1 ⟨rfl, hb1⟩; have HB1 := Lib.hid (show Below (w.heap.size + 1) (w.alloc (nb N A ps.length cap)) w1 from (by simpa using hb1)); obtain ⟨b0, b1⟩ := box2 HB1.out; have HB2 := Lib.hid (HB1.out.alloc (box_lt HB1.out) (.cells #[iv (S 0), iv (S 1), iv (S 2), iv (S 3), iv (S 4), iv (S 5), iv (S 6), iv (S 7), iv (S 8)] 90)); have hzx := box_lt HB1.out)
    | (go_at_call 69; refine (H2.out _ (below_box HB2.out)).mono ?_; rintro e w3 ⟨rfl, hb3⟩; have HB3 := Lib.hid (on_call HB2.out hb3); have cv := ((AR.of w1 S).below hb3).cell hv9)
    | fail)
  go_ret2
  exact ⟨rfl, below_box HB3.out⟩
end Go.Proofs.Ytipnecmgpfmjeaa.S2
