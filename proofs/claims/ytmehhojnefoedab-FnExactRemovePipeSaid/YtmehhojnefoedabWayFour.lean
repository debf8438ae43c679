/- ShortestWay of the model: contracts. Conditions: each theorem's own premises. -/
import Derived.Test.YtmehhojnefoedabWayTwo
import Derived.Test.YtmehhojnefoedabWayThree
import Derived.Test.YtmehhojnefoedabReachThree
namespace Go.Proofs.Ytmehhojnefoedab.S2
open Go.RowKit P2

theorem con_mem (n : Nat) (ps : List Pp) (t : Int) (y : Int) : y ∈ conL n ps t ↔ 1 ≤ y ∧ y ≤ n ∧ Conn ps y t := by
  unfold conL conTo
  rw [List.mem_map]
  constructor
  · rintro ⟨v, hv, rfl⟩
    obtain ⟨hv1, hv2⟩ := List.mem_filter.1 hv
    have hvn : v ≤ n := by have := List.mem_range.1 hv1; omega
    have hv0 : v ≠ 0 := by
      intro e
      rw [e, distL_zero] at hv2
      simp at hv2
    rw [distL_at n ps t v hvn hv0] at hv2
    exact ⟨by omega, by omega, dist_conn.1 (by simpa using hv2)⟩
  · rintro ⟨h1, h2, h3⟩
    refine ⟨y.toNat, List.mem_filter.2 ⟨List.mem_range.2 (by omega), ?_⟩, by omega⟩
    rw [distL_at n ps t _ (by omega) (by omega), Int.toNat_of_nonneg (by omega)]
    simpa using dist_conn.2 h3
theorem conn_symm {ps : List Pp} {a b : Int} (h : Conn ps a b) : Conn ps b a := by
  obtain ⟨k, hk⟩ := h
  exact ⟨k, hk.symm⟩
theorem has_con {N X T : Nat} {ps : List Pp} (h1 : 1 ≤ T) (h2 : T ≤ N) : hasB (conL N ps X) T = decide (dist ps T X ≠ -1) := by
  unfold hasB
  refine decide_eq_decide.2 ?_
  rw [con_mem, dist_conn]
  exact ⟨fun h => conn_symm h.2.2, fun h => ⟨by omega, by omega, conn_symm h⟩⟩
theorem has_v {l : List Int} {x : Int} {v : Bool} (hv : hasB l x = v) (A : Option Addr) (cap : Nat) (w : World) (h : IAt w A l) (hn : l.length ≤ 1048576) :
    Calls Try.prog 123 #[.slice A l.length cap, .int .i64 x] w fun e w' => e = .returned (.bool v) ∧ w' = w := by
  rw [← hv]; exact has_any A cap l x w h hn

theorem gives_noneA {w w0 : World} (h : Below w0.heap.size w0 w) : GivesA w0 [] false (.returned (.tuple #[.slice (some ⟨w.heap.size, 0, none⟩) 0 0, .bool false])) (w.alloc (.cells #[] 3)) :=
  ⟨_, 0, 0, rfl, h.size, .inl rfl, h.alloc h.size _, by simp⟩

theorem sway_no1 (n : Int) (A : Option Addr) (cap : Nat) (ps : List Pp) (x y : Int) (w : World) (h : PAt w A ps) (hm : ps.length ≤ maxLen) (hv : nodeB n ps x = false) :
    Calls Try.prog 33 #[nv n A ps.length cap, .int .i64 x, .int .i64 y] w (GivesA w [] false) := by
  have H := Lib.hid (fun w' (hb : Below w.heap.size w w') => snode_v hv A cap w' (h.kept hb (Nat.le_refl _)) hm)
  clear h hv
  go_enter Try.func33, Try.ntmps33
  go_wp2_with (go_at_call 122; refine (H.out _ ((Below.refl _ _).alloc (Nat.le_refl _) _)).mono ?_; rintro e w1 ⟨rfl, hb1⟩)
  go_ret2
  exact gives_noneA (below_alloc_call hb1)

theorem sway_no2 (n : Int) (A : Option Addr) (cap : Nat) (ps : List Pp) (x y : Int) (w : World) (h : PAt w A ps) (hm : ps.length ≤ maxLen) (hv : nodeB n ps x = true) (hv2 : nodeB n ps y = false) :
    Calls Try.prog 33 #[nv n A ps.length cap, .int .i64 x, .int .i64 y] w (GivesA w [] false) := by
  have H := Lib.hid (fun w' (hb : Below w.heap.size w w') => snode_v hv A cap w' (h.kept hb (Nat.le_refl _)) hm)
  have H2 := Lib.hid (fun w' (hb : Below w.heap.size w w') => snode_v hv2 A cap w' (h.kept hb (Nat.le_refl _)) hm)
  clear h hv hv2
  go_enter Try.func33, Try.ntmps33
  go_wp2_with (first
    | (go_at_call_of 122 (Value.int IntKind.i64 x); refine (H.out _ ((Below.refl _ _).alloc (Nat.le_refl _) _)).mono ?_; rintro e w1 ⟨rfl, hb1⟩; obtain ⟨hc1, hf1⟩ := bcell hb1; have hB1 := Lib.hid (below_alloc_call hb1))
    | (go_at_call_of 122 (Value.int IntKind.i64 y); refine (H2.out _ hB1.out).mono ?_; rintro e w2 ⟨rfl, hb2⟩))
  go_ret2
  exact gives_noneA (hB1.out.trans (hb2.mono hB1.out.size))

set_option maxHeartbeats 2000000 in
theorem sway_no3 (N X T : Nat) (A : Option Addr) (cap : Nat) (ps : List Pp) (w : World) (h : PAt w A ps) (hm : ps.length ≤ maxLen) (hv : nodeB N ps X = true) (hv2 : nodeB N ps T = true) (hd : dist ps T X = -1) :
    Calls Try.prog 33 #[nv N A ps.length cap, .int .i64 X, .int .i64 T] w (GivesA w [] false) := by
  obtain ⟨hg, hx1, hx2⟩ := nodeB_of hv
  obtain ⟨_, hy1, hy2⟩ := nodeB_of hv2
  have H := Lib.hid (fun w' (hb : Below w.heap.size w w') => snode_v hv A cap w' (h.kept hb (Nat.le_refl _)) hm)
  have H2 := Lib.hid (fun w' (hb : Below w.heap.size w w') => snode_v hv2 A cap w' (h.kept hb (Nat.le_refl _)) hm)
  have HR := Lib.hid (fun w' (hb : Below w.heap.size w w') => sreach_any N X A cap ps w' (h.kept hb (Nat.le_refl _)) hg (by omega) (by omega))
  have hN : N ≤ 8 := by have := hg.2.1; omega
  have hcl := conL_len N ps X
  have HH := Lib.hid (show hasB (conL N ps X) T = false by rw [has_con (by omega) (by omega)]; exact decide_eq_false (fun h => h hd))
  clear h hv hv2 hg hd
  go_enter Try.func33, Try.ntmps33
  go_wp2_with (first
    | (go_at_call_of 122 (Value.int IntKind.i64 (X : Int)); refine (H.out _ ((Below.refl _ _).alloc (Nat.le_refl _) _)).mono ?_; rintro e w1 ⟨rfl, hb1⟩; obtain ⟨hc1, hf1⟩ := bcell hb1; have hB1 := Lib.hid (below_alloc_call hb1))
    | (go_at_call_of 122 (Value.int IntKind.i64 (T : Int)); refine (H2.out _ hB1.out).mono ?_; rintro e w2 ⟨rfl, hb2⟩; have hb12 := Lib.hid (hb1.trans (hb2.mono hb1.size)); obtain ⟨hc2, hf2⟩ := bcell hb12.out; have hB2 := Lib.hid (below_alloc_call hb12.out))
    | (go_at_call 124; refine (HR.out _ hB2.out).mono ?_; rintro e w3 ⟨g, o, c, rfl, hg3, hla, hb3⟩)
    | (go_at_call 123; refine (has_v HH.out _ _ _ hla.iat (by omega)).mono ?_; rintro e w4 ⟨rfl, rfl⟩))
  go_ret2
  exact gives_noneA (hB2.out.trans (hb3.mono hB2.out.size))

set_option maxHeartbeats 2000000 in
theorem sway_yes (N X T : Nat) (A : Option Addr) (cap : Nat) (ps : List Pp) (w : World) (h : PAt w A ps) (hm : ps.length ≤ maxLen) (hv : nodeB N ps X = true) (hv2 : nodeB N ps T = true) (K : Nat) (hd : dist ps T X = K) :
    Calls Try.prog 33 #[nv N A ps.length cap, .int .i64 X, .int .i64 T] w (GivesA w (wayL ps T K X) true) := by
  obtain ⟨hg, hx1, hx2⟩ := nodeB_of hv
  obtain ⟨_, hy1, hy2⟩ := nodeB_of hv2
  have H := Lib.hid (fun w' (hb : Below w.heap.size w w') => snode_v hv A cap w' (h.kept hb (Nat.le_refl _)) hm)
  have H2 := Lib.hid (fun w' (hb : Below w.heap.size w w') => snode_v hv2 A cap w' (h.kept hb (Nat.le_refl _)) hm)
  have HR := Lib.hid (fun w' (hb : Below w.heap.size w w') => sreach_any N X A cap ps w' (h.kept hb (Nat.le_refl _)) hg (by omega) (by omega))
  have HW := Lib.hid (fun w' (hb : Below w.heap.size w w') => l2way_any N X T A cap ps w' (h.kept hb (Nat.le_refl _)) hg (by omega) (by omega) (by omega) (by omega) K hd)
  have hN : N ≤ 8 := by have := hg.2.1; omega
  have hcl := conL_len N ps X
  have HH := Lib.hid (show hasB (conL N ps X) T = true by rw [has_con (by omega) (by omega)]; exact decide_eq_true (by omega))
  clear h hv hv2 hg hd
  go_enter Try.func33, Try.ntmps33
  go_wp2_with (first
    | (go_at_call_of 122 (Value.int IntKind.i64 (X : Int)); refine (H.out _ ((Below.refl _ _).alloc (Nat.le_refl _) _)).mono ?_; rintro e w1 ⟨rfl, hb1⟩; obtain ⟨hc1, hf1⟩ := bcell hb1; have hB1 := Lib.hid (below_alloc_call hb1))
    | (go_at_call_of 122 (Value.int IntKind.i64 (T : Int)); refine (H2.out _ hB1.out).mono ?_; rintro e w2 ⟨rfl, hb2⟩; have hb12 := Lib.hid (hb1.trans (hb2.mono hb1.size)); obtain ⟨hc2, hf2⟩ := bcell hb12.out; have hB2 := Lib.hid (below_alloc_call hb12.out))
    | (go_at_call 124; refine (HR.out _ hB2.out).mono ?_; rintro e w3 ⟨g, o, c, rfl, hg3, hla, hb3⟩; have hb13 := Lib.hid (hb12.out.trans (hb3.mono hb12.out.size)); obtain ⟨hc3, hf3⟩ := bcell hb13.out; have hB3 := Lib.hid (below_alloc_call hb13.out))
    | (go_at_call 123; refine (has_v HH.out _ _ _ hla.iat (by omega)).mono ?_; rintro e w4 ⟨rfl, rfl⟩)
    | (go_at_call 125; refine (HW.out _ hB3.out).mono ?_; rintro e w5 ⟨gW, cW, rfl, hgW, hoW, hbW⟩))
  go_ret2
  have hz := hB3.out.size
  exact ⟨gW, 0, cW, rfl, by omega, hoW.iat, hB3.out.trans (hbW.mono hz), (World.ownsRow.lt hoW gW rfl).2⟩
end Go.Proofs.Ytmehhojnefoedab.S2
