/- The networks that the laws of chapter 2 draw: contracts. Conditions: each theorem's own premises. -/
import Derived.Test.YtikppgbipdflbabNwAny
import Derived.Test.YtikppgbipdflbabNwNod
import Derived.Deep.DeepCutAuto
namespace Go.Proofs.Ytikppgbipdflbab.S2
open Go.RowKit Go.Sort P2

/-- A drawn network: its nodes' number, its pipes in a row that the draw made. -/
structure DNet (B : Nat) (w : World) (N : Int) (A : Option Addr) (c : Nat) (ps : List Pp) : Prop where
  n0 : 0 ≤ N
  n9 : N ≤ 9
  len : ps.length ≤ 12
  cap : ps.length ≤ c
  own : w.ownsRow B 40 4 (.slice A ps.length c) ps.length (pcs ps)
theorem DNet.pat {B : Nat} {w : World} {N : Int} {A : Option Addr} {c : Nat} {ps : List Pp} (h : DNet B w N A c ps) : PAt w A ps := own_patP h.own
theorem DNet.low {B B' : Nat} {w : World} {N : Int} {A : Option Addr} {c : Nat} {ps : List Pp} (h : DNet B w N A c ps) (hB : B' ≤ B) : DNet B' w N A c ps := ⟨h.n0, h.n9, h.len, h.cap, ownP_lower h.own hB⟩
theorem DNet.on {B : Nat} {w w' : World} {N : Int} {A : Option Addr} {c : Nat} {ps : List Pp} (h : DNet B w N A c ps) (hb : Below w.heap.size w w') : DNet B w' N A c ps := ⟨h.n0, h.n9, h.len, h.cap, own_onP h.own hb⟩
theorem DNet.grown {B g : Nat} {w w' : World} {N : Int} {A : Option Addr} {c : Nat} {ps : List Pp} (h : DNet B w N A c ps) (hg : w.grownBy w' (some g)) (hB : g < B) : DNet B w' N A c ps :=
  ⟨h.n0, h.n9, h.len, h.cap, World.ownsRow.kept h.own hg (.inr (fun e => by have := (h.own.lt g e).1; omega))⟩
theorem DNet.set {B : Nat} {w : World} {N : Int} {A : Option Addr} {c : Nat} {ps : List Pp} (h : DNet B w N A c ps) (b i : Nat) (u : Value) (hb : b < B) : DNet B (w.setCell ⟨b, i, none⟩ u) N A c ps :=
  ⟨h.n0, h.n9, h.len, h.cap, ownsRow_setCell_other h.own (a := ⟨b, i, none⟩) (fun e => by have := (h.own.lt b e).1; omega) u⟩
theorem DNet.of {B g : Nat} {a : Option Addr} {n cap K : Nat} {w w' : World} {e : Ending} (h : NetPost B g a n cap K 12 w e w') : ∃ N A c ps, e = .returned (nv N A ps.length c) ∧ DNet w.heap.size w' N A c ps ∧ S1.St B g a n cap K w' ∧ w.grownBy w' (some g) := by
  obtain ⟨N, v, ps, he, hN, hpl, ho, hs, hg⟩ := h
  obtain ⟨A, c, rfl⟩ := ownP_slice ho
  refine ⟨N, A, c, ps, he, ⟨hN.1, hN.2, hpl, ?_, ho⟩, hs, hg⟩
  rcases ho.2 with ⟨hv, hn⟩ | ⟨g', c', cur, hv, _, _, hle, _, _⟩
  · rw [hn]; exact Nat.zero_le _
  · injection hv with _ _ h3
    rw [h3]; exact hle
/-- The cursor made, behind the result's box. -/
theorem cur_start {a : Option Addr} {n : Nat} (cap : Nat) {w : World} (o : Obj) (h : S1.Cd w.heap.size a n w) (hn : n ≤ 65536) : S1.St (w.heap.size + 1) (w.heap.size + 1) a n cap 0 ((w.alloc o).alloc (.cells #[.slice a n cap, .int .i64 0, .int .u64 0] 87)) := by
  have := S1.st_start cap (h.later (alloc_below w o) (Nat.le_refl _)) hn
  rw [size_alloc] at this
  exact this
theorem below2 {w w1 : World} {o1 o2 : Obj} {g : Nat} (hg : ((w.alloc o1).alloc o2).grownBy w1 (some g)) (hgw : w.heap.size < g) : Below w.heap.size w w1 :=
  (((Below.refl _ _).alloc (Nat.le_refl _) o1).alloc (by simp) o2).trans (S1.grown_below hg (by omega) (by simp; omega))

set_option maxHeartbeats 2000000 in
set_option maxRecDepth 100000 in
theorem dvalid_any (a : Option Addr) (n cap : Nat) (w : World) (h : S1.Cd w.heap.size a n w) (hn : n ≤ 65536) :
    Calls Try.prog 131 #[.slice a n cap] w fun e w' => ∃ N A c ps, e = .returned (nv N A ps.length c) ∧ DNet (w.heap.size + 1) w' N A c ps ∧ Below w.heap.size w w' := by
  have HST := Lib.hid (cur_start cap (nb 0 none 0 0) h hn)
  clear h
  go_enter Try.func131, Try.ntmps131
  refine Hid.out ?_
  refine Lib.hid ?_
  go_wp2_with (first | (go_at_call 157; refine (anynet_any (w.heap.size + 1) (w.heap.size + 1) a n cap 0 _ (by omega) HST.out (by simp)).mono ?_; rintro e w1 hpost; obtain ⟨N, A, c, ps, rfl, hd, hs, hg⟩ := DNet.of hpost; refine Hid.out ?_) | fail)
  have HT := ((TN.made w (.int .i64 0) (.slice none 0 0)).below (alloc_below _ _)).grown hg (by omega)
  obtain ⟨r0, r1⟩ := HT.cell
  have hRf := HT.frozen
  have hRz := HT.lt
  have hD := Lib.hid (((hd.low (show w.heap.size + 1 ≤ ((w.alloc (nb 0 none 0 0)).alloc (.cells #[.slice a n cap, .int .i64 0, .int .u64 0] 87)).heap.size by simp)).set w.heap.size 0 (.int .i64 N) (by omega)).set w.heap.size 1 (.slice A ps.length c) (by omega))
  have hB := Lib.hid (((below2 hg (by omega)).setCell (p := ⟨w.heap.size, 0, none⟩) (Nat.le_refl _) (.int .i64 N)).setCell (p := ⟨w.heap.size, 1, none⟩) (Nat.le_refl _) (.slice A ps.length c))
  clear hd hs hg HT
  refine Lib.hid ?_
  go_wp2_with fail
  refine bodyPost_ret (v := nv N A ps.length c) (by simp [results, Try.results131, go_sem, r0, r1]) rfl ⟨N, A, c, ps, rfl, hD.out, hB.out⟩
end Go.Proofs.Ytikppgbipdflbab.S2
