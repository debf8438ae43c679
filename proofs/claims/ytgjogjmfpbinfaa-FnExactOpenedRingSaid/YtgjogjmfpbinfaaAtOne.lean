/- The pipes at a node: what the program and the model return: contracts. Conditions: each theorem's own premises. -/
import Derived.Test.YtgjogjmfpbinfaaIntsOne
import Derived.Test.YtgjogjmfpbinfaaGivesNone
import Derived.Test.YtgjogjmfpbinfaaNodeOne
import Derived.Test.YtgjogjmfpbinfaaBkTwo
namespace Go.Proofs.Ytgjogjmfpbinfaa.S2
open Go.RowKit P2

/-- The Ids of the pipes at a node. -/
def atL (ps : List Pp) (x : Int) : List Int := (ps.filter fun p => decide (p.fr = x ∨ p.to = x)).map (·.id)
def idsTo (ps : List Pp) (k : Nat) : List Int := (ps.take k).map (·.id)
theorem idsTo_len (ps : List Pp) (k : Nat) : (idsTo ps k).length ≤ k := by unfold idsTo; rw [List.length_map]; exact List.length_take_le _ _
theorem idsTo_succ (ps : List Pp) (k : Nat) (h : k < ps.length) : idsTo ps (k + 1) = idsTo ps k ++ [(pAt ps k).id] := by
  unfold idsTo
  rw [List.take_succ_eq_append_getElem h, List.map_append]
  simp [pAt, List.getD, h]
theorem idsTo_all (ps : List Pp) (k : Nat) (h : ps.length ≤ k) : idsTo ps k = ps.map (·.id) := by unfold idsTo; rw [List.take_of_length_le h]
theorem rowOf_len (ps : List Pp) (i : Nat) : (rowOf ps i).length ≤ ps.length := List.length_filter_le _ _
theorem atL_row (ps : List Pp) (i : Nat) : atL ps i = (rowOf ps i).map (·.id) := rfl

/-- One bucket, read. -/
theorem ByNode.at_ {w : World} {lo G N : Nat} {ps : List Pp} (h : ByNode w lo G N ps) {i : Nat} (hi : i < N) :
    ∃ A cap, w.cell? ⟨G, i, none⟩ = some (.slice A (rowOf ps i).length cap) ∧ PAt w A (rowOf ps i) ∧ ∀ b, A.map (·.block) = some b → lo ≤ b := by
  obtain ⟨vs, B, hB, hb⟩ := h
  have ho := hb.own i hi
  have hc := hb.row.cell hi
  rcases ho.2 with ⟨hv, h0⟩ | ⟨g, cap, cur, hv, hbg, _⟩
  · rw [hv] at hc
    rw [← h0] at hc
    exact ⟨none, _, hc, .inl (List.length_eq_zero_iff.1 h0), fun b hb => by cases hb⟩
  · rw [hv] at hc ho
    refine ⟨_, _, hc, own_pat ho, fun b hb => ?_⟩
    simp at hb
    omega
theorem ByNode.kept {w w' : World} {lo G N : Nat} {ps : List Pp} (h : ByNode w lo G N ps) (hb : Below w.heap.size w w') : ByNode w' lo G N ps := by
  obtain ⟨vs, B, hB, h⟩ := h
  exact ⟨vs, B, hB, h.kept hb⟩
theorem ByNode.lt {w : World} {lo G N : Nat} {ps : List Pp} (h : ByNode w lo G N ps) : G < w.heap.size := by
  obtain ⟨vs, B, hB, h⟩ := h
  exact h.row.lt
/-- Pipes in another block than the row that grows. -/
theorem PAt.grown {w w' : World} {A : Option Addr} {ps : List Pp} {row : Option Nat} (h : PAt w A ps) (hg : w.grownBy w' row) (hne : ∀ b, A.map (·.block) = some b → row ≠ some b) : PAt w' A ps := by
  rcases h with h | ⟨b, off, hA, hlt, h⟩
  · exact .inl h
  · have hb : w'.heap[b]? = w.heap[b]? := hg.block b hlt (fun e => hne b (by rw [hA]; rfl) e.symm)
    have hc : ∀ o, w'.cell? ⟨b, o, none⟩ = w.cell? ⟨b, o, none⟩ := fun o => World.cell?_of_block hb
    refine .inr ⟨b, off, hA, Nat.lt_of_lt_of_le hlt hg.size, fun i hi => ?_⟩
    obtain ⟨h0, h1, h2, h3⟩ := h i hi
    rw [hc, hc, hc, hc]
    exact ⟨h0, h1, h2, h3⟩
theorem PAt.alloc {w : World} {A : Option Addr} {ps : List Pp} (h : PAt w A ps) (o : Obj) : PAt (w.alloc o) A ps := h.kept ((Below.refl w.heap.size w).alloc (Nat.le_refl _) o) (Nat.le_refl _)
/-- The row lies elsewhere still. -/
theorem far_next {A : Option Addr} {ps : List Pp} {w : World} {v : Value} {g H l cap : Nat} (h : PAt w A ps) (hp : 0 < ps.length) (hne : ∀ b, A.map (·.block) = some b → v.ownBlock ≠ some b) (hat : v.ownBlock = some g ∨ g = H) (hH : w.heap.size ≤ H) :
    ∀ b, A.map (·.block) = some b → (Value.slice (some ⟨g, 0, none⟩) l cap).ownBlock ≠ some b := by
  intro b hb e
  have hgb : g = b := by simpa [Value.ownBlock] using e
  subst hgb
  rcases hat with hat | hat
  · exact hne g hb hat
  · rcases h with h | ⟨b', off, hA, hlt, _⟩
    · subst h; simp at hp
    · rw [hA] at hb
      simp at hb
      omega

set_option maxHeartbeats 2000000 in
theorem at_no (n : Int) (A : Option Addr) (cap : Nat) (ps : List Pp) (x : Int) (w : World) (h : PAt w A ps) (hm : ps.length ≤ maxLen) (hv : nodeB n ps x = false) :
    Calls Try.prog 108 #[nv n A ps.length cap, .int .i64 x] w (GivesI w [] false) := by
  have H := Lib.hid (fun w' (hb : Below w.heap.size w w') => node_v hv A cap w' (h.kept hb (Nat.le_refl _)) hm)
  clear h hv
  go_enter Try.func108, Try.ntmps108
  go_wp2_with (go_at_call 188; refine (H.out _ ((Below.refl _ _).alloc (Nat.le_refl _) _)).mono ?_; rintro e w1 ⟨rfl, hb1⟩)
  go_ret2
  exact gives_none (below_alloc_call hb1)

set_option maxHeartbeats 2000000 in
set_option maxRecDepth 100000 in
theorem at_yes (N X : Nat) (A : Option Addr) (cap : Nat) (ps : List Pp) (w : World) (h : PAt w A ps) (hv : nodeB N ps X = true) :
    Calls Try.prog 108 #[nv N A ps.length cap, .int .i64 X] w (GivesI w (atL ps X) true) := by
  obtain ⟨hg, hx1, hx2⟩ := nodeB_of hv
  have hl10 := hg.2.2.1
  have hm : ps.length ≤ maxLen := by unfold maxLen; omega
  have H := Lib.hid (fun w' (hb : Below w.heap.size w w') => node_v hv A cap w' (h.kept hb (Nat.le_refl _)) hm)
  have HB := Lib.hid (fun w' (hb : Below w.heap.size w w') => bynode_any N A cap ps w' (h.kept hb (Nat.le_refl _)) hg)
  have hX : X < N + 1 := by omega
  have hX0 : (0 : Int) ≤ (X : Int) := by omega
  have hXN : (X : Int) < (N : Int) + 1 := by omega
  have hR := rowOf_len ps X
  have HAT := Lib.hid (atL_row ps X)
  obtain ⟨i0, hi, hz0, hz1, hz2⟩ := info_parts infoI
  clear h hv hg hx1 hx2 hm
  go_enter Try.func108, Try.ntmps108
  go_wp2_with (first
    | (go_at_call 188; refine (H.out _ ((Below.refl _ _).alloc (Nat.le_refl _) _)).mono ?_; rintro e w1 ⟨rfl, hb1⟩; obtain ⟨hc1, hf1⟩ := bcell hb1; have hz1' := hb1.size; have hB1 := Lib.hid (below_alloc_call hb1); have hs1 : w.heap.size < w1.heap.size := by (simp at hz1'; omega))
    | (go_at_call 197; refine (HB.out _ (hB1.out.alloc hB1.out.size _)).mono ?_; rintro e w2 ⟨⟨G, rfl, hbn⟩, hb2⟩; obtain ⟨AR, capR, hcR, hpR, hloR⟩ := hbn.at_ hX))
  have hB2 : Below w.heap.size w w2 := (hB1.out.alloc hB1.out.size (.cells #[] 3)).trans (hb2.mono (by simp; omega))
  have hO2 : IOwn w2 w.heap.size (.slice (some ⟨w1.heap.size, 0, none⟩) 0 0) [] := (own_empty w1 w.heap.size hB1.out.size).on hb2
  have HP := Lib.hid hpR
  have hF0 : Hid (∀ b, AR.map (·.block) = some b → (Value.slice (some ⟨w1.heap.size, 0, none⟩) 0 0).ownBlock ≠ some b) := Lib.hid (by
    intro b hb e
    have h1 := hloR b hb
    have h2 : w1.heap.size = b := by simpa [Value.ownBlock] using e
    simp at h1
    omega)
  generalize rowOf ps X = R at *
  clear hbn hc1 hf1 hz1' hb1 hb2 hcR hpR hloR
  go_loopw [6, 21] (fun v i wr => ∃ k : Nat, k ≤ R.length ∧ i = .int .i64 k ∧ Hid (IOwn wr w.heap.size v (idsTo R k)) ∧ Hid (v ≠ .slice none 0 0) ∧ Below w.heap.size w wr ∧ Hid (PAt wr AR R) ∧ Hid (∀ b, AR.map (·.block) = some b → v.ownBlock ≠ some b)) (fun _ i _ => R.length - (intOf i).toNat)
  case atStart => exact ⟨0, Nat.zero_le _, rfl, Lib.hid hO2, Lib.hid (by simp), hB2, HP, hF0⟩
  case round =>
    obtain ⟨k, hk, rfl, hown, hvn, hb, hpr, hfar⟩ := hrel
    by_cases hlt : k < R.length
    · obtain ⟨b, off, hA, hbl, h0, h1, h2, h3⟩ := hpr.out.at_ hlt
      subst hA
      have hsn := Lib.hid (idsTo_succ R k hlt)
      have hil := idsTo_len R k
      generalize pAt R k = p at *
      have ho := hown.out
      unfold IOwn at ho
      go_wp2_with (at_builtin; refine wpList_append_lies _ rfl _ _ 34 rfl w.heap.size 3 i0 (.int .i64 0) 1 8 Try.underlying34 hi hz0 hz1 hz2 rfl (by decide) _ _ _ rfl ((ho.alloc _).alloc _) ⟨wr.heap.size + 1, 0, none⟩ 1 1 [iv p.id] rfl rfl (cell_new2 _ _ _ _) ?c2 (by omega) ?c3 ?c4 ?c5 (wr.heap.size + 2) (by simp) ?_)
      case c2 => intro u hu; simp at hu; subst hu; rfl
      case c3 => unfold maxLen; omega
      case c4 => omega
      case c5 => have := hb.size; simp; omega
      intro gg cap' w3 hown' hgrow hat hlt1
      have hown3 := Lib.hid (IOwn.push hown')
      have hB3 := Lib.hid (((hb.alloc hb.size _).alloc (by have := hb.size; simp; omega) _).grown hgrow (by have := hb.size; simp; omega) (fun g hg => (ho.lt g hg).1))
      have hP3 := Lib.hid (((hpr.out.alloc _).alloc _).grown hgrow (fun b hb => hfar.out b hb))
      have hF3 := Lib.hid (far_next (l := k + 1) (cap := cap') hpr.out (by omega) hfar.out hat (by omega))
      rw [← hsn.out] at hown3
      clear hown' hgrow ho hat
      go_wp2
      go_roundw
      case rel => exact ⟨k + 1, by omega, by go_num, hown3, Lib.hid (by simp), hB3.out, hP3, Lib.hid (fun b hb e => hF3.out b hb (by simpa [Value.ownBlock] using e))⟩
      case measure => simp [intOf]; omega
    · have hfin := Lib.hid (idsTo_all R k (by omega))
      rw [hfin.out] at hown
      obtain ⟨g, capg, rfl, hg⟩ := own_slice hown.out hvn.out
      go_wp2
      go_ret2
      exact ⟨g, capg, by rw [HAT.out]; rfl, hg, by rw [HAT.out]; exact hown.out, hb⟩
end Go.Proofs.Ytgjogjmfpbinfaa.S2
