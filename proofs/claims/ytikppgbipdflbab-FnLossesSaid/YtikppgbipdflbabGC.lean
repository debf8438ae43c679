/- Both sides of LossAlong, EnergyOf, SteepestPipe, PressuresOf, HeadsOf, LossOf at once: contracts. Conditions: each theorem's own premises. -/
import Derived.Test.YtikppgbipdflbabTrOne
import Derived.Test.YtikppgbipdflbabTrI
import Derived.Test.YtikppgbipdflbabOpenOne
import Derived.Deep.DeepCutAuto
import Derived.Test.YtikppgbipdflbabGA
import Derived.Test.YtikppgbipdflbabGB
import Derived.Test.YtikppgbipdflbabNetKit
import Derived.Test.YtikppgbipdflbabBkTwo
import Derived.Laws.StructEq
import Derived.Laws.Rows
import Derived.Test.YtikppgbipdflbabDistOne
import Derived.Test.YtikppgbipdflbabAmB
import Derived.StillTailTactics
import Derived.Maps.AppendAt
namespace Go.Proofs.Ytikppgbipdflbab.S2
open Go.RowKit P2

/-- A branch as a value: its node, its inlet, the branches behind it. -/
abbrev bv (x : Int) (q : Pp) (A : Option Addr) (len cap : Nat) : Value := .agg #[.int .i64 x, .int .i64 q.id, .int .i64 q.fr, .int .i64 q.to, .int .i64 q.sz, .slice A len cap]
/-- A branch in memory. -/
def BC (w : World) (b o : Nat) (x : Int) (q : Pp) (v : Value) : Prop :=
  w.cell? ⟨b, o, none⟩ = some (.int .i64 x) ∧ w.cell? ⟨b, o + 1, none⟩ = some (.int .i64 q.id) ∧ w.cell? ⟨b, o + 2, none⟩ = some (.int .i64 q.fr) ∧ w.cell? ⟨b, o + 3, none⟩ = some (.int .i64 q.to) ∧ w.cell? ⟨b, o + 4, none⟩ = some (.int .i64 q.sz) ∧ w.cell? ⟨b, o + 5, none⟩ = some v
theorem BC.kept {w w' : World} {b o : Nat} {x : Int} {q : Pp} {v : Value} (h : BC w b o x q v) (hb : w'.heap[b]? = w.heap[b]?) : BC w' b o x q v := by
  have hc : ∀ k, w'.cell? ⟨b, k, none⟩ = w.cell? ⟨b, k, none⟩ := fun k => World.cell?_of_block hb
  obtain ⟨h0, h1, h2, h3, h4, h5⟩ := h
  exact ⟨(hc _).trans h0, (hc _).trans h1, (hc _).trans h2, (hc _).trans h3, (hc _).trans h4, (hc _).trans h5⟩
/-- The branches behind a node that water reaches through q lie there, in blocks that P tells. -/
def RepIn (ps : List Pp) (P : Nat → Prop) : Nat → World → Option Addr → Int → Pp → Prop
  | 0, _, _, _, _ => False
  | d + 1, w, A, x, q => kidsL ps x q = [] ∨ ∃ b, A = some ⟨b, 0, none⟩ ∧ P b ∧ b < w.heap.size ∧ ∀ i p, (kidsL ps x q)[i]? = some p → ∃ A' c', BC w b (i * 6) (oth p x) p (.slice A' (kidsL ps (oth p x) p).length c') ∧ RepIn ps P d w A' (oth p x) p
theorem RepIn.kept {ps : List Pp} {P Q : Nat → Prop} {w w' : World} (hPQ : ∀ b, P b → b < w.heap.size → Q b) (hb : ∀ b, P b → b < w.heap.size → w'.heap[b]? = w.heap[b]?) (hs : w.heap.size ≤ w'.heap.size) : ∀ (d : Nat) (A : Option Addr) (x : Int) (q : Pp), RepIn ps P d w A x q → RepIn ps Q d w' A x q
  | 0, _, _, _, h => h
  | d + 1, A, x, q, h => by
    rcases h with h | ⟨b, hA, hP, hlt, hk⟩
    · exact .inl h
    · refine .inr ⟨b, hA, hPQ b hP hlt, Nat.lt_of_lt_of_le hlt hs, fun i p hp => ?_⟩
      obtain ⟨A', c', hc, hr⟩ := hk i p hp
      exact ⟨A', c', hc.kept (hb b hP hlt), RepIn.kept hPQ hb hs d A' _ _ hr⟩
theorem RepIn.below {ps : List Pp} {P : Nat → Prop} {w w' : World} {d : Nat} {A : Option Addr} {x : Int} {q : Pp} (h : RepIn ps P d w A x q) (hb : Below w.heap.size w w') : RepIn ps P d w' A x q :=
  RepIn.kept (fun _ h _ => h) (fun b _ hlt => hb.block b hlt) hb.size d A x q h

/-- The nodes of the first k branches behind it. -/
def kidN (ps : List Pp) (d : Nat) (x : Int) (q : Pp) (k : Nat) : List Int := ((kidsL ps x q).take k).flatMap fun p => nodesL ps d (oth p x) p
theorem kidN_step {ps : List Pp} {d : Nat} {x : Int} {q : Pp} {k : Nat} {p : Pp} (h : (kidsL ps x q)[k]? = some p) : kidN ps d x q (k + 1) = kidN ps d x q k ++ nodesL ps d (oth p x) p := by
  unfold kidN
  have hk : k < (kidsL ps x q).length := (List.getElem?_eq_some_iff.1 h).1
  rw [List.take_succ_eq_append_getElem hk, List.flatMap_append]
  have e : (kidsL ps x q)[k] = p := (List.getElem?_eq_some_iff.1 h).2
  simp [e]
theorem kidN_le {ps : List Pp} {d : Nat} {x : Int} {q : Pp} (k : Nat) : (kidN ps d x q k).length ≤ (kidN ps d x q (kidsL ps x q).length).length := by
  have h1 : kidN ps d x q (kidsL ps x q).length = kidN ps d x q k ++ ((kidsL ps x q).drop k).flatMap fun p => nodesL ps d (oth p x) p := by
    unfold kidN
    rw [List.take_length, ← List.flatMap_append, List.take_append_drop]
  rw [h1, List.length_append]; omega
theorem nodes_succ (ps : List Pp) (d : Nat) (x : Int) (q : Pp) : nodesL ps (d + 1) x q = x :: kidN ps d x q (kidsL ps x q).length := by
  unfold kidN
  rw [List.take_length]; rfl
theorem nodes_pos (ps : List Pp) (d : Nat) (x : Int) (q : Pp) : 0 < (nodesL ps d x q).length := by
  cases d with
  | zero => simp [nodesL]
  | succ d => rw [nodes_succ]; simp
theorem cells_new6 (w : World) (a b c d e f : Value) (t : TypeId) (k : Nat) (u : Value) (h : [a, b, c, d, e, f][k]? = some u) : (w.alloc (.cells #[a, b, c, d, e, f] t)).cell? ⟨w.heap.size, k, none⟩ = some u := by
  rw [World.cell?_alloc_at _ _ _ _ rfl]
  simpa using h

theorem own_oneI (w : World) (B : Nat) (x : Int) (hB : B ≤ w.heap.size) : IOwn (w.alloc (.cells #[iv x] 3)) B (.slice (some ⟨w.heap.size, 0, none⟩) 1 1) [x] :=
  ⟨rfl, .inr ⟨w.heap.size, 1, #[iv x], rfl, hB, by simpa using (MapKept.heap_alloc w (.cells #[iv x] 3)).1, Nat.le_refl _, by simp [maxLen], rfl, rfl⟩⟩
theorem iown_cells {w : World} {B g c : Nat} {l : List Int} (h : IOwn w B (.slice (some ⟨g, 0, none⟩) l.length c) l) : ∀ j u, (l.map iv)[j]? = some u → w.cell? ((⟨g, 0, none⟩ : Addr).add j) = some u := by
  intro j u hu
  have hj : j < l.length := by
    have := (List.getElem?_eq_some_iff.1 hu).1
    simpa using this
  rw [add_plus, Nat.zero_add, World.ownsRow.cellAt h j (by omega)]
  exact hu

set_option maxHeartbeats 2000000 in
set_option maxRecDepth 100000 in
theorem bnodes_any (ps : List Pp) (P : Nat → Prop) (hl10 : ps.length ≤ 10) : ∀ (d : Nat) (x : Int) (q : Pp) (A : Option Addr) (cap : Nat) (w : World), RepIn ps P d w A x q → (nodesL ps d x q).length ≤ 1000 →
    Calls Try.prog 81 #[bv x q A (kidsL ps x q).length cap] w (GivesL w (nodesL ps d x q)) := by
  intro d
  induction d with
  | zero => intro x q A cap w h; exact h.elim
  | succ d ih =>
    intro x q A cap w h hlen
    have hkl : (kidsL ps x q).length ≤ 10 := Nat.le_trans (List.length_filter_le _ _) hl10
    have HR := Lib.hid (fun w' (hb : Below w.heap.size w w') => h.below hb)
    have HIH := Lib.hid ih
    have HN := Lib.hid (nodes_succ ps d x q)
    have hlen2 : (kidN ps d x q (kidsL ps x q).length).length < 1000 := by rw [nodes_succ] at hlen; simp at hlen; omega
    have HKL := Lib.hid (fun k => kidN_le (ps := ps) (d := d) (x := x) (q := q) k)
    have HKS := Lib.hid (fun k p (h : (kidsL ps x q)[k]? = some p) => kidN_step (d := d) h)
    have HK0 := Lib.hid (show kidN ps d x q 0 = [] from by simp [kidN])
    obtain ⟨i0, hi, hz0, hz1, hz2⟩ := info_parts infoI
    clear h ih hlen
    obtain ⟨Ks, hKs⟩ : ∃ Ks, kidsL ps x q = Ks := ⟨_, rfl⟩
    have HKs := Lib.hid hKs
    rw [hKs] at hkl hlen2 HKL HKS HN ⊢
    clear hKs
    go_enter Try.func81, Try.ntmps81
    go_wp2
    have hO1 : Hid (IOwn ((w.alloc (.cells #[.int .i64 x, .int .i64 q.id, .int .i64 q.fr, .int .i64 q.to, .int .i64 q.sz, .slice A Ks.length cap] 93)).alloc (.cells #[iv x] 3)) w.heap.size (.slice (some ⟨w.heap.size + 1, 0, none⟩) 1 1) [x]) := Lib.hid (by
      have := own_oneI (w.alloc (.cells #[.int .i64 x, .int .i64 q.id, .int .i64 q.fr, .int .i64 q.to, .int .i64 q.sz, .slice A Ks.length cap] 93)) w.heap.size x (by simp)
      simpa using this)
    have hB1 := Lib.hid (((Below.refl w.heap.size w).alloc (Nat.le_refl _) (.cells #[.int .i64 x, .int .i64 q.id, .int .i64 q.fr, .int .i64 q.to, .int .i64 q.sz, .slice A Ks.length cap] 93)).alloc (by simp) (.cells #[iv x] 3))
    go_loopw [3, 12] (fun v i wr => ∃ k : Nat, k ≤ Ks.length ∧ i = .int .i64 (k : Int) ∧ Hid (IOwn wr w.heap.size v (x :: kidN ps d x q k)) ∧ Hid (v ≠ .slice none 0 0) ∧ Hid (Below w.heap.size w wr)) (fun _ i _ => Ks.length - (intOf i).toNat)
    case atStart => exact ⟨0, Nat.zero_le _, rfl, Lib.hid (by rw [HK0.out]; exact hO1.out), Lib.hid (by simp), hB1⟩
    case round =>
      clear hO1 hB1
      obtain ⟨k, hk, rfl, hown, hvn, hB⟩ := hrel
      by_cases hlt : k < Ks.length
      · obtain ⟨p, hp⟩ : ∃ p, Ks[k]? = some p := ⟨_, List.getElem?_eq_getElem hlt⟩
        have hrep := HR.out wr hB.out
        rcases hrep with h0 | ⟨b, hA, _, hbl, hkids⟩
        · rw [HKs.out] at h0; rw [h0] at hlt; simp at hlt
        · subst hA
          rw [HKs.out] at hkids
          obtain ⟨A', c', hbc, hrp⟩ := hkids k p hp
          obtain ⟨c0, c1, c2, c3, c4, c5⟩ := hbc
          have HRP := Lib.hid hrp
          have hst := HKS.out k p hp
          have hle := HKL.out (k + 1)
          rw [hst] at hle
          have hle2 : (kidN ps d x q k).length + (nodesL ps d (oth p x) p).length < 1000 := by rw [List.length_append] at hle; omega
          have HST := Lib.hid hst
          have hk0 : (0 : Int) ≤ (k : Int) := by omega
          have hkn : (k : Int) < (Ks.length : Int) := by omega
          have HC := Lib.hid (fun w' (hb : Below wr.heap.size wr w') => HIH.out (oth p x) p A' c' w' (HRP.out.below hb) (by omega))
          have hnp := nodes_pos ps d (oth p x) p
          clear hkids hrp hst hle hp
          generalize nodesL ps d (oth p x) p = L at *
          generalize oth p x = y at *
          generalize (kidsL ps y p).length = m at *
          go_wp2_with (first
            | (go_at_call 81; refine (HC.out _ ((Below.refl _ _).alloc (Nat.le_refl _) _)).mono ?_; rintro e w5 ⟨gc, cc, rfl, hgc, hoc, hb5⟩; have hba := (Below.refl wr.heap.size wr).alloc (Nat.le_refl _) (.cells #[.int .i64 y, .int .i64 p.id, .int .i64 p.fr, .int .i64 p.to, .int .i64 p.sz, .slice A' m c'] 93); have hb6 := hba.trans (hb5.mono hba.size); have HO5 := Lib.hid (hown.out.on hb6); have HC5 := Lib.hid (iown_cells hoc); have HB5 := Lib.hid (hB.out.trans (hb6.mono hB.out.size)); have ho := HO5.out; unfold IOwn at ho)
            | (at_builtin; go_must (refine wpList_append_own _ rfl _ _ 27 rfl w.heap.size 3 i0 (.int .i64 0) 1 8 Try.underlying27 hi hz0 hz1 hz2 rfl (by decide) _ _ _ rfl ho ⟨gc, 0, none⟩ L.length cc (L.map iv) rfl (by simp) HC5.out (by intro u hu; obtain ⟨z, _, rfl⟩ := List.mem_map.1 hu; rfl) ?c3 ?c4 ?c5 ?_)))
          case c3 => simp [maxLen]; omega
          case c4 => simp; omega
          case c5 => have := HB5.out.size; omega
          intro v' w7 hown' hgrow hnil
          have hown7 := Lib.hid (show IOwn w7 w.heap.size v' (x :: kidN ps d x q (k + 1)) from by
            unfold IOwn
            rw [HST.out]
            simpa [Nat.add_assoc, Nat.add_comm, Nat.add_left_comm] using hown')
          have hv7 := Lib.hid (show v' ≠ .slice none 0 0 from fun e => hvn.out (hnil.1 e).1)
          have HB7 := Lib.hid (HB5.out.grown hgrow (by have := HB5.out.size; omega) (fun z hz => (ho.lt z hz).1))
          clear hown' hgrow hnil ho HO5 HC5
          go_wp2
          go_roundw
          case rel => exact ⟨k + 1, by omega, by go_num, hown7, hv7, HB7⟩
          case measure => simp [intOf]; omega
      · have hkk : k = Ks.length := by omega
        subst hkk
        obtain ⟨g, cg, rfl, hg⟩ := own_slice hown.out hvn.out
        go_wp2
        go_ret
        rw [HN.out]
        exact ⟨g, cg, rfl, hg, hown.out, hB.out⟩
end Go.Proofs.Ytikppgbipdflbab.S2

namespace Go.Proofs.Ytikppgbipdflbab.S2
open Go.RowKit P2

/-- The way to a node. -/
noncomputable def wyA (ps : List Pp) (s : Nat) (v : Int) : List Int := wayL ps v (dist ps v s).toNat s
noncomputable def fallA (N : Nat) (ps : List Pp) (s : Nat) (dm : List Int) (v : Int) : Int := alongA ps (tfL N ps s dm) (wyA ps s v) s
noncomputable def hdF (N : Nat) (ps : List Pp) (s : Nat) (dm : List Int) (h : Int) (i : Nat) : Int := h - fallA N ps s dm ((i : Int) + 1)
noncomputable def hdTo (N : Nat) (ps : List Pp) (s : Nat) (dm : List Int) (h : Int) (k : Nat) : List Int := (List.range k).map (hdF N ps s dm h)
noncomputable def hdL (N : Nat) (ps : List Pp) (s : Nat) (dm : List Int) (h : Int) : List Int := hdTo N ps s dm h N
theorem hdTo_snoc (N : Nat) (ps : List Pp) (s : Nat) (dm : List Int) (h : Int) (k : Nat) : hdTo N ps s dm h (k + 1) = hdTo N ps s dm h k ++ [hdF N ps s dm h k] := by unfold hdTo; rw [List.range_succ, List.map_append]; rfl
theorem hdTo_len (N : Nat) (ps : List Pp) (s : Nat) (dm : List Int) (h : Int) (k : Nat) : (hdTo N ps s dm h k).length = k := by simp [hdTo]
theorem hdL_len (N : Nat) (ps : List Pp) (s : Nat) (dm : List Int) (h : Int) : (hdL N ps s dm h).length = N := hdTo_len N ps s dm h N
theorem hdL_at {N : Nat} {ps : List Pp} {s : Nat} {dm : List Int} {h : Int} {i : Nat} (hi : i < N) : (hdL N ps s dm h).getD i 0 = hdF N ps s dm h i := by
  simp [hdL, hdTo, List.getD, hi]
theorem node_mk {n : Int} {ps : List Pp} {x : Int} (hg : P2.Good n ps) (h1 : 1 ≤ x) (h2 : x ≤ n) : nodeB n ps x = true := by
  rw [nodeB_eq, good_mk hg]; simp [h1, h2]
theorem tfl_flo {N : Nat} {ps : List Pp} {s : Int} {dm : List Int} (hg : P2.Good N ps) (hr : allR 0 1000 dm = true) (hl : (dm.length : Int) = N) : floB N ps (tfL N ps s dm) = true := by
  have hN : N ≤ 8 := by have := hg.2.1; omega
  unfold floB amtB
  rw [good_mk hg, tfL_in hN hr (by omega)]
  simp [tfL_len]
theorem tree_dist {N : Nat} {ps : List Pp} (hg : P2.Good N ps) (ht : treeB N ps = true) {s : Nat} (h1 : 1 ≤ s) (h2 : s ≤ N) {v : Int} (v1 : 1 ≤ v) (v2 : v ≤ N) : dist ps v s = ((dist ps v s).toNat : Int) := by
  have hc := dist_conn.2 (tree_conn (tree_full hg ht).2.1 (a := s) (b := v) (by omega) (by omega) v1 v2)
  have := dist_lo ps v s
  omega
theorem wy_ok {N : Nat} {ps : List Pp} (hg : P2.Good N ps) (ht : treeB N ps = true) {s : Nat} (h1 : 1 ≤ s) (h2 : s ≤ N) {v : Int} (v1 : 1 ≤ v) (v2 : v ≤ N) : WayOk ps (wyA ps s v) s :=
  way_ok hg h2 (tree_dist hg ht h1 h2 v1 v2)
theorem fall_in {N : Nat} {ps : List Pp} (hg : P2.Good N ps) (ht : treeB N ps = true) {s : Nat} {dm : List Int} (hr : allR 0 1000 dm = true) (hl : (dm.length : Int) = N) (h1 : 1 ≤ s) (h2 : s ≤ N) {v : Int} (v1 : 1 ≤ v) (v2 : v ≤ N) : -4608000000 ≤ fallA N ps s dm v ∧ fallA N ps s dm v ≤ 4608000000 := by
  obtain ⟨hg2, hfl, hr2⟩ := floB_of (tfl_flo (s := s) hg hr hl)
  exact along_in hg hr2 hfl (wy_ok hg ht h1 h2 v1 v2) (Nat.le_refl _)
theorem hdF_in {N : Nat} {ps : List Pp} (hg : P2.Good N ps) (ht : treeB N ps = true) {s : Nat} {dm : List Int} (hr : allR 0 1000 dm = true) (hl : (dm.length : Int) = N) (h1 : 1 ≤ s) (h2 : s ≤ N) {h : Int} (g1 : 0 ≤ h) (g2 : h ≤ 100000000000) {i : Nat} (hi : i < N) : -5000000000 ≤ hdF N ps s dm h i ∧ hdF N ps s dm h i ≤ 105000000000 := by
  have := fall_in hg ht hr hl h1 h2 (v := (i : Int) + 1) (by omega) (by omega)
  unfold hdF
  omega
/-- At the source nothing is lost. -/
theorem fall_self (N : Nat) (ps : List Pp) (s : Nat) (dm : List Int) : fallA N ps s dm s = 0 := by
  unfold fallA wyA
  rw [dist_self]
  rfl

/-! ### Ranges of heads -/
def hdR (x : Int) : Bool := inR 0 100000000000 x
theorem hdR_of {x : Int} (h : hdR x = true) : 0 ≤ x ∧ x ≤ 100000000000 := by simpa [hdR, inR] using h
theorem ahd_v {l : List Int} {v : Bool} (hv : allR 0 100000000000 l = v) (A : Option Addr) (cap : Nat) (w : World) (h : IAt w A l) (hl : l.length ≤ 1048576) :
    Calls Try.prog 96 #[.slice A l.length cap] w fun e w' => e = .returned (.bool v) ∧ Below w.heap.size w w' := by
  have hv2 : amtB l l.length 0 100000000000 = v := by rw [amt_self]; exact hv
  have H := Lib.hid (am_v hv2 A cap w h hl)
  clear h hv hv2
  go_enter Try.func96, Try.ntmps96
  go_wp2_with (go_at_call 113; refine H.out.mono ?_; rintro e w1 ⟨rfl, hb1⟩)
  go_ret
  exact ⟨rfl, hb1⟩
/-- One head. -/
theorem ahd_one {x : Int} {v : Bool} (hv : hdR x = v) (w : World) :
    Calls Try.prog 96 #[.slice (some ⟨w.heap.size, 0, none⟩) 1 1] (w.alloc (.cells #[.int .i64 x] 3)) fun e w' => e = .returned (.bool v) ∧ Below w.heap.size w w' := by
  have hI : IAt (w.alloc (.cells #[.int .i64 x] 3)) (some ⟨w.heap.size, 0, none⟩) [x] := (own_oneI w w.heap.size x (Nat.le_refl _)).iat
  refine (ahd_v (l := [x]) (v := v) (by rw [← hv]; simp [allR, hdR]) _ 1 _ hI (by simp)).mono ?_
  rintro e w' ⟨he, hb⟩
  exact ⟨he, (alloc_belowE w _).trans (hb.mono (by simp))⟩
theorem shd_v {x : Int} {v : Bool} (hv : hdR x = v) (w : World) : Calls Try.prog 106 #[.int .i64 x] w fun e w' => e = .returned (.bool v) ∧ w' = w := by
  have HC := Lib.hid (fun w' => in_eq x 0 100000000000 v hv w')
  clear hv
  go_enter Try.func106, Try.ntmps106
  go_wp2_with (go_at_call 115; refine (HC.out _).mono ?_; rintro e w1 ⟨rfl, hw⟩; replace hw := hw.symm; subst hw)
  go_ret
  exact ⟨rfl, rfl⟩
end Go.Proofs.Ytikppgbipdflbab.S2

namespace Go.Proofs.Ytikppgbipdflbab.S2
open Go.RowKit P2

/-- A child: its pipe, where the branches behind it lie. -/
abbrev Kd := Pp × Option Addr × Nat
def bl6 (ps : List Pp) (x : Int) (k : Kd) : List Value := [.int .i64 (oth k.1 x), .int .i64 k.1.id, .int .i64 k.1.fr, .int .i64 k.1.to, .int .i64 k.1.sz, .slice k.2.1 (kidsL ps (oth k.1 x) k.1).length k.2.2]
def bls (ps : List Pp) (x : Int) (ks : List Kd) : List Value := ks.flatMap (bl6 ps x)
theorem bls_snoc (ps : List Pp) (x : Int) (ks : List Kd) (k : Kd) : bls ps x (ks ++ [k]) = bls ps x ks ++ bl6 ps x k := by simp [bls, List.flatMap_append]
theorem bls_get (ps : List Pp) (x : Int) (ks : List Kd) : ∀ (i : Nat) (k : Kd), ks[i]? = some k → ∀ j, j < 6 → (bls ps x ks)[i * 6 + j]? = (bl6 ps x k)[j]? := by
  induction ks with
  | nil => intro i k h; simp at h
  | cons a ks ih =>
    intro i k hi j hj
    have e : bls ps x (a :: ks) = bl6 ps x a ++ bls ps x ks := rfl
    have l6 : (bl6 ps x a).length = 6 := rfl
    match i with
    | 0 =>
      have e2 : a = k := by simpa using hi
      subst e2
      rw [e, Nat.zero_mul, Nat.zero_add, List.getElem?_append_left (by omega)]
    | i + 1 =>
      rw [e, List.getElem?_append_right (by omega), ← ih i k (by simpa using hi) j hj, l6]
      congr 1; omega

/-- The branches gathered so far: a row of one's own from block B on, what hangs below them in other blocks. -/
structure KIn (ps : List Pp) (d : Nat) (w : World) (x : Int) (B : Nat) (V : Value) (ks : List Kd) : Prop where
  own : w.ownsRow B 93 6 V ks.length (bls ps x ks)
  rep : ∀ k, k ∈ ks → RepIn ps (fun b => B ≤ b ∧ V.ownBlock ≠ some b) d w k.2.1 (oth k.1 x) k.1
theorem KIn.nil (ps : List Pp) (d : Nat) (w : World) (x : Int) (B : Nat) : KIn ps d w x B (.slice none 0 0) [] :=
  ⟨World.ownsRow_nil w B 93 6, fun k h => by simp at h⟩
theorem KIn.below {ps : List Pp} {d : Nat} {w w' : World} {x : Int} {B : Nat} {V : Value} {ks : List Kd} (h : KIn ps d w x B V ks) (hb : Below w.heap.size w w') : KIn ps d w' x B V ks :=
  ⟨own_on h.own hb, fun k hk => (h.rep k hk).below hb⟩
theorem KIn.push {ps : List Pp} {d : Nat} {w w' : World} {x : Int} {B b0 : Nat} {V V' : Value} {ks : List Kd} {k : Kd} (h : KIn ps d w x B V ks)
    (ho : w'.ownsRow B 93 6 V' (ks.length + 1) (bls ps x ks ++ bl6 ps x k)) (hg : w.grownBy w' V.ownBlock) (hl : V'.ownBlock = V.ownBlock ∨ V'.ownBlock = some w.heap.size)
    (hr : RepIn ps (fun b => b0 ≤ b) d w k.2.1 (oth k.1 x) k.1) (hB : B ≤ b0) (hv : ∀ g, V.ownBlock = some g → g < b0) : KIn ps d w' x B V' (ks ++ [k]) := by
  refine ⟨by rw [bls_snoc, List.length_append]; exact ho, fun c hc => ?_⟩
  have hne : ∀ b, V.ownBlock ≠ some b → b < w.heap.size → V'.ownBlock ≠ some b := fun b h1 h2 e => by
    rcases hl with h3 | h3
    · exact h1 (h3 ▸ e)
    · rw [h3] at e; injection e with e; omega
  rcases List.mem_append.1 hc with hc | hc
  · exact RepIn.kept (fun b hp hlt => ⟨hp.1, hne b hp.2 hlt⟩) (fun b hp hlt => hg.block b hlt (fun e => hp.2 e.symm)) hg.size _ _ _ _ (h.rep c hc)
  · have e : c = k := by simpa using hc
    subst e
    have hn : ∀ b, b0 ≤ b → V.ownBlock ≠ some b := fun b hb e => by have := hv b e; omega
    exact RepIn.kept (fun b hp hlt => ⟨Nat.le_trans hB hp, hne b (hn b hp) hlt⟩) (fun b hp hlt => hg.block b hlt (fun e => hn b hp e.symm)) hg.size _ _ _ _ hr
theorem KIn.done {ps : List Pp} {d : Nat} {w : World} {x : Int} {q : Pp} {B : Nat} {A : Option Addr} {l c : Nat} {ks : List Kd} (h : KIn ps d w x B (.slice A l c) ks) (hk : ks.map (·.1) = kidsL ps x q) : RepIn ps (fun b => B ≤ b) (d + 1) w A x q := by
  have hlen : ks.length = (kidsL ps x q).length := by rw [← hk, List.length_map]
  rcases Nat.eq_zero_or_pos ks.length with h0 | h0
  · exact .inl (List.length_eq_zero_iff.1 (by omega))
  · obtain ⟨g, cap', hv, hbg, hlt⟩ := h.own.form h0
    injection hv with hA hl hc
    subst hA
    subst hl
    refine .inr ⟨g, rfl, hbg, hlt, fun i p hp => ?_⟩
    have hik : i < ks.length := by rw [hlen]; exact (List.getElem?_eq_some_iff.1 hp).1
    obtain ⟨k, hki⟩ : ∃ k, ks[i]? = some k := ⟨_, List.getElem?_eq_getElem hik⟩
    have hp1 : k.1 = p := by
      rw [← hk, List.getElem?_map, hki] at hp
      simpa using hp
    subst hp1
    have hcell := fun j (hj : j < 6) => (h.own.cellAt (i * 6 + j) (by have : ks.length * 6 = 6 * ks.length := Nat.mul_comm _ _; omega)).trans (bls_get ps x ks i k hki j hj)
    refine ⟨k.2.1, k.2.2, ⟨hcell 0 (by omega), hcell 1 (by omega), hcell 2 (by omega), hcell 3 (by omega), hcell 4 (by omega), hcell 5 (by omega)⟩, ?_⟩
    exact RepIn.kept (fun b hp _ => hp.1) (fun b _ _ => rfl) (Nat.le_refl _) _ _ _ _ (h.rep k (List.mem_of_getElem? hki))

/-! ### The pipes at a node, without the one by which the water comes -/
def kidsTo (R : List Pp) (q : Pp) (k : Nat) : List Pp := (R.take k).filter fun e => decide (e ≠ q)
theorem kidsTo_yes {R : List Pp} {q p : Pp} {k : Nat} (h : R[k]? = some p) (hn : p ≠ q) : kidsTo R q (k + 1) = kidsTo R q k ++ [p] := by
  unfold kidsTo
  obtain ⟨hk, he⟩ := List.getElem?_eq_some_iff.1 h
  rw [List.take_succ_eq_append_getElem hk, List.filter_append, he]
  simp [hn]
theorem kidsTo_no {R : List Pp} {q p : Pp} {k : Nat} (h : R[k]? = some p) (hn : p = q) : kidsTo R q (k + 1) = kidsTo R q k := by
  unfold kidsTo
  obtain ⟨hk, he⟩ := List.getElem?_eq_some_iff.1 h
  rw [List.take_succ_eq_append_getElem hk, List.filter_append, he]
  simp [hn]
theorem kidsTo_len (R : List Pp) (q : Pp) (k : Nat) : (kidsTo R q k).length ≤ R.length :=
  Nat.le_trans (List.length_filter_le _ _) (by rw [List.length_take]; omega)
theorem kidsTo_all (ps : List Pp) (v : Nat) (q : Pp) : kidsTo (rowTo ps ps.length v) q (rowTo ps ps.length v).length = kidsL ps (v : Int) q := by
  unfold kidsTo kidsL
  rw [List.take_length]
  unfold rowTo
  rw [List.take_length, List.filter_filter]
  congr 1
  funext e
  simp [touchB, and_comm]
end Go.Proofs.Ytikppgbipdflbab.S2

namespace Go.Proofs.Ytikppgbipdflbab.S2
open Go.RowKit P2

theorem findSome_at {α β : Type} {f : α → Option β} : ∀ {l : List α} {k : Nat} {p : α} {y : β}, (∀ j a, j < k → l[j]? = some a → f a = none) → l[k]? = some p → f p = some y → l.findSome? f = some y
  | [], _, _, _, _, h, _ => by simp at h
  | a :: l, 0, p, y, _, h, hf => by
    have e : a = p := by simpa using h
    subst e
    simp [hf]
  | a :: l, k + 1, p, y, hn, h, hf => by
    have h0 := hn 0 a (by omega) (by simp)
    have ih := findSome_at (l := l) (k := k) (fun j b hj hb => hn (j + 1) b (by omega) (by simpa using hb)) (by simpa using h) hf
    simp [h0, ih]

section
variable {ops : Array Oper} {rest : List Oper} {o : Oper} {a : Act} {w : World} {Q : Exit → Act → World → Prop}
theorem pp_beq {p q : Pp} (h : p ≠ q) : ¬ (p.id = q.id ∧ p.fr = q.fr ∧ p.to = q.to ∧ p.sz = q.sz) := fun ⟨h1, h2, h3, h4⟩ => h (by cases p; cases q; simp_all)
theorem eql_pp (w : World) {p q : Pp} (h : p ≠ q) : (binOp .eql 40 (pv p) (pv q)).run Try.prog w = .ok (.bool false) w := by
  have hS : Try.prog.underlying 40 = some (.struct (Try.prog.fieldsOf 40)) := by kernel_rfl
  have hp : Try.prog.stoodInHeld 40 = false := by kernel_rfl
  obtain ⟨a, b, c, d⟩ := p
  obtain ⟨a2, b2, c2, d2⟩ := q
  have hn := pp_beq h
  unfold pv
  rw [run_eql_struct, show (10000 : Nat) = 9999 + 1 from rfl, run_equalIn_agg w 9999 40 _ _ hS hp]
  simp only [Program.fieldsOf, Try.underlying40, Op.eqFields]
  by_cases h1 : a = a2 <;> by_cases h2 : b = b2 <;> by_cases h3 : c = c2 <;> by_cases h4 : d = d2 <;> first | (exfalso; exact hn ⟨h1, h2, h3, h4⟩) | simp [go_sem, h1, h2, h3, h4]
theorem wpP_eql (hgd : o.guard = none) (x y : Operand) (ho : o.op = .binOp .eql 40 x y 40) (p q : Pp) (hx : a.eval x = pv p) (hy : a.eval y = pv q) (hne : p ≠ q)
    (h : wpList Try.prog ops Q rest (a.put o.dst (.bool false)) w) : wpList Try.prog ops Q (o :: rest) a w :=
  wpList_plain hgd fun _ hK => by
    have hz := eql_pp w hne
    have hg := run_eqGuard_agg (P := Try.prog) w .eql 40 x y #[.int .i64 p.id, .int .i64 p.fr, .int .i64 p.to, .int .i64 p.sz] #[.int .i64 q.id, .int .i64 q.fr, .int .i64 q.to, .int .i64 q.sz] (by kernel_rfl)
    unfold Oper.wp execOp
    simp [ho, hx, hy, Sem.run_bind, hz, hg, Result.andThen]
    exact hK _ _ h
end
abbrev bcs (x : Int) (q : Pp) (v : Value) : Array Value := #[.int .i64 x, .int .i64 q.id, .int .i64 q.fr, .int .i64 q.to, .int .i64 q.sz, v]
def WRow (w : World) (g : Nat) (cs : Array Value) : Prop := w.heap[g]? = some (.cells cs 93 (0, 0))
theorem infoB : (Try.prog.info? 93).map (·.size) = some 6 := by kernel_rfl
theorem grown_row6 {w : World} {g : Nat} (cs : Array Value) : w.grownBy (w.setRow g cs) (some g) :=
  ⟨rfl, rfl, rfl, by simp, fun k _ hne => setRow_other w g k cs (fun e => hne (by rw [e]))⟩
theorem bcs_one (x : Int) (q : Pp) (A : Option Addr) (l c : Nat) : (bcs x q (.slice A l c)).all (·.oneCell') = true := by simp [Value.oneCell']
theorem wpB_store {ops : Array Oper} {rest : List Oper} {o : Oper} {a : Act} {w : World} {Q : Exit → Act → World → Prop} (hgd : o.guard = none) (x y : Operand) (ho : o.op = .store 93 x y) (hd : o.dst = none) (g : Nat) (hx : a.eval x = .pointer (some ⟨g, 0, none⟩)) (z : Int) (q : Pp) (A : Option Addr) (l c : Nat) (hy : a.eval y = .agg (bcs z q (.slice A l c))) (z0 : Int) (q0 : Pp) (A0 : Option Addr) (l0 c0 : Nat) (he : WRow w g (bcs z0 q0 (.slice A0 l0 c0)))
    (h : ∀ w', WRow w' g (bcs z q (.slice A l c)) → w.grownBy w' (some g) → wpList Try.prog ops Q rest a w') : wpList Try.prog ops Q (o :: rest) a w :=
  wpList_store_row hgd 93 x y ho g _ hx hy 93 _ he infoB rfl (bcs_one z q A l c)
    (by rw [hd]; exact h _ (setRow_heap w g _ _ _ (0, 0) he) (grown_row6 _))
theorem WRow.cell {w : World} {g : Nat} {cs : Array Value} (h : WRow w g cs) (k : Nat) : w.cell? ⟨g, k, none⟩ = cs[k]? := cell_of_row w g k _ _ _ h
theorem WRow.lt {w : World} {g : Nat} {cs : Array Value} (h : WRow w g cs) : g < w.heap.size := (Array.getElem?_eq_some_iff.1 h).1
theorem WRow.kept {w w' : World} {g : Nat} {cs : Array Value} (h : WRow w g cs) (hb : w'.heap[g]? = w.heap[g]?) : WRow w' g cs := by
  unfold WRow; rw [hb]; exact h
/-- A pipe in memory. -/
def PC (w : World) (b o : Nat) (p : Pp) : Prop :=
  w.cell? ⟨b, o, none⟩ = some (.int .i64 p.id) ∧ w.cell? ⟨b, o + 1, none⟩ = some (.int .i64 p.fr) ∧ w.cell? ⟨b, o + 2, none⟩ = some (.int .i64 p.to) ∧ w.cell? ⟨b, o + 3, none⟩ = some (.int .i64 p.sz)
theorem PC.kept {w w' : World} {b o : Nat} {p : Pp} (h : PC w b o p) (hb : w'.heap[b]? = w.heap[b]?) : PC w' b o p := by
  have hc : ∀ k, w'.cell? ⟨b, k, none⟩ = w.cell? ⟨b, k, none⟩ := fun k => World.cell?_of_block hb
  obtain ⟨h0, h1, h2, h3⟩ := h
  exact ⟨(hc _).trans h0, (hc _).trans h1, (hc _).trans h2, (hc _).trans h3⟩
theorem findSome_none {α β : Type} {f : α → Option β} : ∀ {l : List α}, (∀ j a, j < l.length → l[j]? = some a → f a = none) → l.findSome? f = none
  | [], _ => rfl
  | a :: l, h => by
    have h0 := h 0 a (by simp) (by simp)
    have ih := findSome_none (l := l) (fun j b hj hb => h (j + 1) b (by simp; omega) (by simpa using hb))
    simp [h0, ih]

/-- What the search of a pipe's branch gives. -/
def BehIs (n : Nat) (ps : List Pp) (P : Nat → Prop) (p0 : Pp) (r : Option Int) (w : World) (e : Ending) (w' : World) : Prop :=
  ((∃ y A' c' d', r = some y ∧ e = .returned (.tuple #[bv y p0 A' (kidsL ps y p0).length c', .bool true]) ∧ BrOk n ps y p0 ∧ cntB n ps y p0 ≤ d' ∧ RepIn ps P d' w' A' y p0) ∨
   (r = none ∧ e = .returned (.tuple #[bv 0 ⟨0, 0, 0, 0⟩ none 0 0, .bool false]))) ∧ Below w.heap.size w w'

theorem beh_none {n : Nat} {ps : List Pp} {P : Nat → Prop} {p0 : Pp} {e : Ending} {w' : World} (h : (∃ y A' c' d', (none : Option Int) = some y ∧ e = .returned (.tuple #[bv y p0 A' (kidsL ps y p0).length c', .bool true]) ∧ BrOk n ps y p0 ∧ cntB n ps y p0 ≤ d' ∧ RepIn ps P d' w' A' y p0) ∨
   ((none : Option Int) = none ∧ e = .returned (.tuple #[bv 0 ⟨0, 0, 0, 0⟩ none 0 0, .bool false]))) : e = .returned (.tuple #[bv 0 ⟨0, 0, 0, 0⟩ none 0 0, .bool false]) := by
  rcases h with ⟨_, _, _, _, h, _⟩ | ⟨_, h⟩
  · cases h
  · exact h
theorem beh_some {n : Nat} {ps : List Pp} {P : Nat → Prop} {p0 : Pp} {y : Int} {e : Ending} {w' : World} (h : (∃ z A' c' d', some y = some z ∧ e = .returned (.tuple #[bv z p0 A' (kidsL ps z p0).length c', .bool true]) ∧ BrOk n ps z p0 ∧ cntB n ps z p0 ≤ d' ∧ RepIn ps P d' w' A' z p0) ∨
   (some y = none ∧ e = .returned (.tuple #[bv 0 ⟨0, 0, 0, 0⟩ none 0 0, .bool false]))) : ∃ A' c' d', e = .returned (.tuple #[bv y p0 A' (kidsL ps y p0).length c', .bool true]) ∧ BrOk n ps y p0 ∧ cntB n ps y p0 ≤ d' ∧ RepIn ps P d' w' A' y p0 := by
  rcases h with ⟨z, A', c', d', h, h2⟩ | ⟨h, _⟩
  · cases h; exact ⟨A', c', d', h2⟩
  · cases h

set_option maxHeartbeats 2000000 in
set_option maxRecDepth 100000 in
theorem bbeh_any {n : Nat} {ps : List Pp} (P : Nat → Prop) (B : Nat) (hPB : ∀ b, P b → b < B) (hg : P2.Good n ps) (ha : Acy ps) (p0 : Pp) : ∀ (d : Nat) (x : Int) (q : Pp) (A : Option Addr) (cap : Nat) (w : World), B ≤ w.heap.size → BrOk n ps x q → cntB n ps x q ≤ d → RepIn ps P d w A x q →
    Calls Try.prog 80 #[bv x q A (kidsL ps x q).length cap, pv p0] w (BehIs n ps P p0 (fnd ps p0 d x q) w) := by
  intro d
  induction d with
  | zero => intro x q A cap w _ _ _ h; exact h.elim
  | succ d ih =>
    intro x q A cap w hBw hbr hcnt h
    have hkl : (kidsL ps x q).length ≤ 10 := Nat.le_trans (List.length_filter_le _ _) hg.2.2.1
    by_cases hq : q = p0
    · subst hq
      have HF := Lib.hid (show fnd ps q (d + 1) x q = some x from by rw [fnd, if_pos rfl])
      rw [HF.out]
      obtain ⟨xid, xfr, xto, xsz⟩ := q
      obtain ⟨m, hm⟩ : ∃ m, (kidsL ps x ⟨xid, xfr, xto, xsz⟩).length = m := ⟨_, rfl⟩
      have HM := Lib.hid hm
      have HR := Lib.hid (fun w' (hb : Below w.heap.size w w') => h.below hb)
      have HBR := Lib.hid hbr
      have HCN := Lib.hid hcnt
      rw [hm]
      clear hm h hbr hcnt ih HF
      go_enter Try.func80, Try.ntmps80
      go_wp2
      have hB := ((((Below.refl w.heap.size w).alloc (Nat.le_refl _) (.cells #[.int .i64 x, .int .i64 xid, .int .i64 xfr, .int .i64 xto, .int .i64 xsz, .slice A m cap] 93)).alloc (by simp) (.cells #[.int .i64 xid, .int .i64 xfr, .int .i64 xto, .int .i64 xsz] 40)).alloc (by simp; omega) (.cells #[.int .i64 x, .int .i64 xid, .int .i64 xfr, .int .i64 xto, .int .i64 xsz, .slice A m cap] 93))
      refine bodyPost_ret (v := .tuple #[.agg #[.int .i64 x, .int .i64 xid, .int .i64 xfr, .int .i64 xto, .int .i64 xsz, .slice A m cap], .bool true]) (by simp [results, Try.results80, go_sem]) rfl ⟨.inl ⟨x, A, cap, d + 1, rfl, by rw [HM.out], HBR.out, HCN.out, HR.out _ hB⟩, hB⟩
    · have HF := Lib.hid (show fnd ps p0 (d + 1) x q = (kidsL ps x q).findSome? fun p => fnd ps p0 d (oth p x) p from by rw [fnd, if_neg hq])
      rw [HF.out]
      have HR := Lib.hid (fun w' (hb : Below w.heap.size w w') => h.below hb)
      have HK := Lib.hid (fun k p (hp : (kidsL ps x q)[k]? = some p) => (show BrOk n ps (oth p x) p ∧ cntB n ps (oth p x) p ≤ d from by
        have hmem := List.mem_of_getElem? hp
        have h1 := cnt_kid ha hbr hmem
        exact ⟨hbr.kid hg hmem, by omega⟩))
      have HIH := Lib.hid ih
      clear h hbr hcnt ih HF
      obtain ⟨Ks, hKs⟩ : ∃ Ks, kidsL ps x q = Ks := ⟨_, rfl⟩
      have HKs := Lib.hid hKs
      rw [hKs] at hkl HK ⊢
      clear hKs
      have hne : q ≠ p0 := hq
      have HNE := Lib.hid hne
      clear hq hne
      obtain ⟨W, hW⟩ : ∃ W, W = (((w.alloc (.cells #[.int .i64 x, .int .i64 q.id, .int .i64 q.fr, .int .i64 q.to, .int .i64 q.sz, .slice A Ks.length cap] 93)).alloc (.cells #[.int .i64 p0.id, .int .i64 p0.fr, .int .i64 p0.to, .int .i64 p0.sz] 40)).alloc (.cells #[.int .i64 0, .int .i64 0, .int .i64 0, .int .i64 0, .int .i64 0, .slice none 0 0] 93)) := ⟨_, rfl⟩
      have HW0 : Hid (Below w.heap.size w W) := Lib.hid (by rw [hW]; exact ((((Below.refl w.heap.size w).alloc (Nat.le_refl _) _).alloc (by simp) _).alloc (by simp; omega) _))
      have HWS : Hid (W.heap.size = w.heap.size + 1 + 1 + 1) := Lib.hid (by rw [hW]; simp [Nat.add_assoc])
      have HWP : Hid (PC W (w.heap.size + 1) 0 p0) := Lib.hid (by
        have h1 : PC ((w.alloc (.cells #[.int .i64 x, .int .i64 q.id, .int .i64 q.fr, .int .i64 q.to, .int .i64 q.sz, .slice A Ks.length cap] 93)).alloc (.cells #[.int .i64 p0.id, .int .i64 p0.fr, .int .i64 p0.to, .int .i64 p0.sz] 40)) (w.heap.size + 1) 0 p0 := by
          have e : w.heap.size + 1 = (w.alloc (.cells #[.int .i64 x, .int .i64 q.id, .int .i64 q.fr, .int .i64 q.to, .int .i64 q.sz, .slice A Ks.length cap] 93)).heap.size := by simp
          unfold PC
          rw [e]
          refine ⟨?_, ?_, ?_, ?_⟩ <;> rw [World.cell?_alloc_at _ _ _ _ rfl] <;> rfl
        rw [hW]
        exact h1.kept ((Below.refl _ _).alloc (Nat.le_refl _) _ |>.block _ (by simp)))
      have HWB : Hid (WRow W (w.heap.size + 1 + 1) (bcs 0 ⟨0, 0, 0, 0⟩ (.slice none 0 0))) := Lib.hid (by
        have e : w.heap.size + 1 + 1 = ((w.alloc (.cells #[.int .i64 x, .int .i64 q.id, .int .i64 q.fr, .int .i64 q.to, .int .i64 q.sz, .slice A Ks.length cap] 93)).alloc (.cells #[.int .i64 p0.id, .int .i64 p0.fr, .int .i64 p0.to, .int .i64 p0.sz] 40)).heap.size := by simp
        rw [hW]
        unfold WRow
        rw [e]
        exact heap_alloc_new _ _)
      go_enter Try.func80, Try.ntmps80
      go_wp2_with (first
        | (with_reducible refine wpP_eql rfl _ _ rfl q p0 rfl rfl HNE.out ?_))
      rw [← hW]
      clear hW
      go_loopw [18] (fun i wr => ∃ k : Nat, k ≤ Ks.length ∧ i = .int .i64 (k : Int) ∧ Hid (∀ j p, j < k → Ks[j]? = some p → fnd ps p0 d (oth p x) p = none) ∧ Hid (Below W.heap.size W wr)) (fun i _ => Ks.length - (intOf i).toNat)
      case atStart => exact ⟨0, Nat.zero_le _, rfl, Lib.hid (fun j p h => by omega), Lib.hid (Below.refl _ _)⟩
      case round =>
        obtain ⟨k, hk, rfl, hnone, hB⟩ := hrel
        have HB0 := Lib.hid (HW0.out.trans (hB.out.mono HW0.out.size))
        by_cases hlt : k < Ks.length
        · obtain ⟨p, hp⟩ : ∃ p, Ks[k]? = some p := ⟨_, List.getElem?_eq_getElem hlt⟩
          have hrep := HR.out wr HB0.out
          rcases hrep with h0 | ⟨b, hA, _, hbl, hkids⟩
          · rw [HKs.out] at h0; rw [h0] at hlt; simp at hlt
          · subst hA
            rw [HKs.out] at hkids
            obtain ⟨A', c', hbc, hrp⟩ := hkids k p hp
            obtain ⟨c0, c1, c2, c3, c4, c5⟩ := hbc
            have HRP := Lib.hid hrp
            obtain ⟨hbk, hck⟩ := HK.out k p hp
            have hk0 : (0 : Int) ≤ (k : Int) := by omega
            have hkn : (k : Int) < (Ks.length : Int) := by omega
            have hs0 := HWS.out
            have hs1 := hB.out.size
            have hl1 : w.heap.size + 1 < wr.heap.size := by omega
            have hl2 : w.heap.size + 1 + 1 < wr.heap.size := by omega
            have hl3 : w.heap.size + 1 + 1 < W.heap.size := by omega
            have hl4 : w.heap.size + 1 < W.heap.size := by omega
            have hBr : B ≤ wr.heap.size := by omega
            clear hs0 hs1
            have HC := Lib.hid (fun w' (hb : Below wr.heap.size wr w') => HIH.out (oth p x) p A' c' w' (Nat.le_trans hBr hb.size) hbk hck (HRP.out.below hb))
            obtain ⟨p1, p2, p3, p4⟩ := HWP.out.kept (hB.out.block _ hl4)
            have HP := Lib.hid hp
            clear hkids hrp hp hbk hck
            cases hv : fnd ps p0 d (oth p x) p with
            | none =>
              have HV := Lib.hid (show ∀ p', Ks[k]? = some p' → fnd ps p0 d (oth p' x) p' = none from fun p' h' => by rw [HP.out] at h'; cases h'; exact hv)
              rw [hv] at HC
              clear hv
              generalize oth p x = y at *
              generalize (kidsL ps y p).length = m at *
              go_wp2_with (first
                | (go_at_call 80; refine (HC.out _ ((Below.refl _ _).alloc (Nat.le_refl _) _)).mono ?_; rintro e w5 ⟨hor, hb5⟩; replace hor := beh_none hor; subst hor; have hb6 := Lib.hid (((Below.refl wr.heap.size wr).alloc (Nat.le_refl _) (.cells #[.int .i64 y, .int .i64 p.id, .int .i64 p.fr, .int .i64 p.to, .int .i64 p.sz, .slice A' m c'] 93)).trans (hb5.mono (by simp)))))
              go_roundw
              case rel =>
                refine ⟨k + 1, by omega, by go_num, Lib.hid (fun j p' hj hp' => ?_), Lib.hid ((hB.out.trans (hb6.out.mono hB.out.size)).alloc (by have := hB.out.size; have := hb6.out.size; omega) _)⟩
                by_cases hjk : j < k
                · exact hnone.out j p' hjk hp'
                · have e : j = k := by omega
                  subst e
                  exact HV.out p' hp'
              case measure => simp [intOf]; omega
            | some z =>
              have HV := Lib.hid (findSome_at (f := fun p => fnd ps p0 d (oth p x) p) (fun j a hj ha => hnone.out j a hj ha) HP.out hv)
              rw [hv] at HC
              clear hv
              generalize oth p x = y at *
              generalize (kidsL ps y p).length = m at *
              have hal := Lib.hid ((Below.refl wr.heap.size wr).alloc (Nat.le_refl _) (.cells #[.int .i64 y, .int .i64 p.id, .int .i64 p.fr, .int .i64 p.to, .int .i64 p.sz, .slice A' m c'] 93))
              go_wp2_with (first
                | (go_at_call 80; refine (HC.out _ ((Below.refl _ _).alloc (Nat.le_refl _) _)).mono ?_; rintro e w5 ⟨hor, hb5⟩; obtain ⟨A5, c5, d5, he5, hbr5, hcn5, hrp5⟩ := beh_some hor; subst he5; clear hor; have hb6 := Lib.hid (hal.out.trans (hb5.mono (by simp))); have HR5 := Lib.hid hrp5; have HBR5 := Lib.hid hbr5; have HCN5 := Lib.hid hcn5; clear hrp5 hbr5 hcn5 hb5; obtain ⟨m5, hm5⟩ : ∃ m5, (kidsL ps z p0).length = m5 := ⟨_, rfl⟩; have HM5 := Lib.hid hm5; rw [hm5]; clear hm5)
                | ((with_reducible refine wpB_store rfl _ _ rfl rfl (w.heap.size + 1 + 1) rfl z p0 A5 m5 c5 rfl 0 ⟨0, 0, 0, 0⟩ none 0 0 ((HWB.out.kept (hB.out.block _ hl3)).kept ((hb6.out.alloc hb6.out.size _).block _ hl2)) ?_); intro w7 he7 hg7; refine Hid.out ?_))
              have s0 : w7.cell? ⟨w.heap.size + 1 + 1, 0, none⟩ = some (.int .i64 z) := he7.cell 0
              have s1 : w7.cell? ⟨w.heap.size + 1 + 1, 1, none⟩ = some (.int .i64 p0.id) := he7.cell 1
              have s2 : w7.cell? ⟨w.heap.size + 1 + 1, 2, none⟩ = some (.int .i64 p0.fr) := he7.cell 2
              have s3 : w7.cell? ⟨w.heap.size + 1 + 1, 3, none⟩ = some (.int .i64 p0.to) := he7.cell 3
              have s4 : w7.cell? ⟨w.heap.size + 1 + 1, 4, none⟩ = some (.int .i64 p0.sz) := he7.cell 4
              have s5 : w7.cell? ⟨w.heap.size + 1 + 1, 5, none⟩ = some (.slice A5 m5 c5) := he7.cell 5
              have HB5 := Lib.hid ((HB0.out.trans (hb6.out.mono HB0.out.size)).alloc (HB0.out.trans (hb6.out.mono HB0.out.size)).size (.cells #[.int .i64 z, .int .i64 p0.id, .int .i64 p0.fr, .int .i64 p0.to, .int .i64 p0.sz, .slice A5 m5 c5] 93))
              have HB7 := Lib.hid (HB5.out.grown hg7 HB5.out.size (fun g hg => by simp at hg; omega))
              have hB5w : B ≤ w5.heap.size := by have := hb6.out.size; omega
              have HX5 := Lib.hid (((Below.refl B w5).alloc hB5w (.cells #[.int .i64 z, .int .i64 p0.id, .int .i64 p0.fr, .int .i64 p0.to, .int .i64 p0.sz, .slice A5 m5 c5] 93)).grown hg7 (by simp; omega) (fun g hg => by simp at hg; omega))
              have HR7 := Lib.hid (RepIn.kept (Q := P) (fun _ h _ => h) (fun b' hp' _ => HX5.out.block b' (hPB b' hp')) HX5.out.size _ _ _ _ HR5.out)
              clear hg7 he7
              refine Lib.hid ?_
              go_wp2
              exact bodyPost_ret (v := .tuple #[.agg #[.int .i64 z, .int .i64 p0.id, .int .i64 p0.fr, .int .i64 p0.to, .int .i64 p0.sz, .slice A5 m5 c5], .bool true]) (by simp [results, Try.results80, go_sem, s0, s1, s2, s3, s4, s5]) rfl ⟨.inl ⟨z, A5, c5, d5, HV.out, by rw [HM5.out], HBR5.out, HCN5.out, HR7.out⟩, HB7.out⟩
        · have hkk : k = Ks.length := by omega
          subst hkk
          have hs0 := HWS.out
          have hl3 : w.heap.size + 1 + 1 < W.heap.size := by omega
          clear hs0
          go_wp2_with (first
                | ((with_reducible refine wpB_store rfl _ _ rfl rfl (w.heap.size + 1 + 1) rfl 0 ⟨0, 0, 0, 0⟩ none 0 0 rfl 0 ⟨0, 0, 0, 0⟩ none 0 0 (HWB.out.kept (hB.out.block _ hl3)) ?_); intro w7 he7 hg7; refine Hid.out ?_))
          have s0 : w7.cell? ⟨w.heap.size + 1 + 1, 0, none⟩ = some (.int .i64 0) := he7.cell 0
          have s1 : w7.cell? ⟨w.heap.size + 1 + 1, 1, none⟩ = some (.int .i64 0) := he7.cell 1
          have s2 : w7.cell? ⟨w.heap.size + 1 + 1, 2, none⟩ = some (.int .i64 0) := he7.cell 2
          have s3 : w7.cell? ⟨w.heap.size + 1 + 1, 3, none⟩ = some (.int .i64 0) := he7.cell 3
          have s4 : w7.cell? ⟨w.heap.size + 1 + 1, 4, none⟩ = some (.int .i64 0) := he7.cell 4
          have s5 : w7.cell? ⟨w.heap.size + 1 + 1, 5, none⟩ = some (.slice none 0 0) := he7.cell 5
          have HB7 := Lib.hid (HB0.out.grown hg7 HB0.out.size (fun g hg => by simp at hg; omega))
          have HV := Lib.hid (findSome_none (f := fun p => fnd ps p0 d (oth p x) p) (l := Ks) (fun j a hj ha => hnone.out j a hj ha))
          clear hg7 he7
          refine Lib.hid ?_
          go_wp2
          exact bodyPost_ret (v := .tuple #[.agg #[.int .i64 0, .int .i64 0, .int .i64 0, .int .i64 0, .int .i64 0, .slice none 0 0], .bool false]) (by simp [results, Try.results80, go_sem, s0, s1, s2, s3, s4, s5]) rfl ⟨.inr ⟨HV.out, rfl⟩, HB7.out⟩
end Go.Proofs.Ytikppgbipdflbab.S2

namespace Go.Proofs.Ytikppgbipdflbab.S2
open Go.RowKit Go.Sort P2

section
variable {ops : Array Oper} {rest : List Oper} {o : Oper} {a : Act} {w : World} {Q : Exit → Act → World → Prop}
theorem neq_pp (w : World) {p q : Pp} (h : p ≠ q) : (binOp .neq 40 (pv p) (pv q)).run Try.prog w = .ok (.bool true) w := by
  have h1 := eql_pp w h
  unfold pv at h1 ⊢
  rw [run_eql_struct] at h1
  rw [run_neq_struct]
  generalize (Op.equalIn 10000 40 _ _).run Try.prog w = r at *
  cases r with
  | ok b w' => simp at h1 ⊢; obtain ⟨rfl, rfl⟩ := h1; exact ⟨rfl, rfl⟩
  | halt h w' => simp at h1
theorem wpP_neq (hgd : o.guard = none) (x y : Operand) (ho : o.op = .binOp .neq 40 x y 40) (p q : Pp) (hx : a.eval x = pv p) (hy : a.eval y = pv q) (hne : p ≠ q)
    (h : wpList Try.prog ops Q rest (a.put o.dst (.bool true)) w) : wpList Try.prog ops Q (o :: rest) a w :=
  wpList_plain hgd fun _ hK => by
    have hz := neq_pp w hne
    have hg := run_eqGuard_agg (P := Try.prog) w .neq 40 x y #[.int .i64 p.id, .int .i64 p.fr, .int .i64 p.to, .int .i64 p.sz] #[.int .i64 q.id, .int .i64 q.fr, .int .i64 q.to, .int .i64 q.sz] (by kernel_rfl)
    unfold Oper.wp execOp
    simp [ho, hx, hy, Sem.run_bind, hz, hg, Result.andThen]
    exact hK _ _ h
end
theorem infoBr : (Try.prog.info? 93).map (fun i => (i.zero, i.size, i.bytes)) = some (some (.agg #[.int .i64 0, .int .i64 0, .int .i64 0, .int .i64 0, .int .i64 0, .slice none 0 0]), 6, 64) := by kernel_rfl
theorem WRow.set5 {w : World} {g : Nat} {x : Int} {q : Pp} {v0 : Value} (h : WRow w g (bcs x q v0)) (v : Value) : WRow (w.setCell ⟨g, 5, none⟩ v) g (bcs x q v) := by
  unfold WRow at h ⊢
  rw [heap_setCell_same w g 5 _ _ v h]
  simp
theorem setCell_off (w : World) (g k : Nat) (v : Value) : w.grownBy (w.setCell ⟨g, k, none⟩ v) (some g) :=
  ⟨rfl, rfl, rfl, by simp, fun b _ hne => heap_setCell_other w ⟨g, k, none⟩ b v (fun e => hne (by rw [e]))⟩
theorem KIn.low {ps : List Pp} {d : Nat} {w w' : World} {x : Int} {B : Nat} {A : Option Addr} {l c : Nat} {ks : List Kd} {g : Nat} (h : KIn ps d w x B (.slice A l c) ks) (hg : w.grownBy w' (some g)) (hgB : g < B) : KIn ps d w' x B (.slice A l c) ks := by
  refine ⟨h.own.kept hg ?_, fun k hk => RepIn.kept (fun b h _ => h) (fun b hp hlt => hg.block b hlt (fun e => by have := hp.1; simp at e; omega)) hg.size _ _ _ _ (h.rep k hk)⟩
  rcases Nat.eq_zero_or_pos ks.length with h0 | h0
  · rcases h.own.2 with ⟨hv, _⟩ | ⟨g2, cap, cur, hv, hb, _⟩
    · left; rw [hv]; rfl
    · right; rw [hv]; simp [Value.ownBlock]; omega
  · obtain ⟨g2, cap, hv, hb, _⟩ := h.own.form h0
    right; rw [hv]; simp [Value.ownBlock]; omega

/-- The pipes at each node lie there. -/
def Rows (w : World) (G : Nat) (n : Nat) (ps : List Pp) : Prop := G < w.heap.size ∧ ∀ v : Nat, v ≤ n → ∃ A c, w.cell? ⟨G, v, none⟩ = some (.slice A (rowOf ps v).length c) ∧ PAt w A (rowOf ps v)
theorem Rows.below {w w' : World} {G n : Nat} {ps : List Pp} (h : Rows w G n ps) (hb : Below w.heap.size w w') : Rows w' G n ps :=
  ⟨Nat.lt_of_lt_of_le h.1 hb.size, fun v hv => by
    obtain ⟨A, c, hc, hp⟩ := h.2 v hv
    exact ⟨A, c, (hb.cell h.1).trans hc, hp.kept hb (Nat.le_refl _)⟩⟩
/-- What it gives. -/
def BatIs (ps : List Pp) (d : Nat) (x : Int) (q : Pp) (w : World) (e : Ending) (w' : World) : Prop :=
  ∃ A c, e = .returned (bv x q A (kidsL ps x q).length c) ∧ RepIn ps (fun b => w.heap.size ≤ b) d w' A x q ∧ Below w.heap.size w w'

set_option maxHeartbeats 2000000 in
set_option maxRecDepth 100000 in
theorem bat_any {n : Nat} {ps : List Pp} (hg : P2.Good n ps) (ha : Acy ps) (G cap : Nat) : ∀ (d : Nat) (v : Nat) (q : Pp) (w : World), Rows w G n ps → BrOk n ps (v : Int) q → cntB n ps (v : Int) q ≤ d →
    Calls Try.prog 158 #[.slice (some ⟨G, 0, none⟩) (n + 1) cap, .int .i64 (v : Int), pv q] w (BatIs ps d v q w) := by
  intro d
  induction d with
  | zero => intro v q w _ hbr hc; have := cnt_pos hbr; omega
  | succ d ih =>
    intro v q w hrows hbr hcnt
    have hv1 : 1 ≤ v := by have := hbr.lo; omega
    have hvn : v ≤ n := by have := hbr.hi; omega
    have hGl := hrows.1
    obtain ⟨AR, cR, hcr, hpr⟩ := hrows.2 v hvn
    have hal := kidsTo_all ps v q
    rw [rowTo_all ps ps.length v (Nat.le_refl _)] at hal
    have HAL := Lib.hid hal
    have HRW := Lib.hid (fun w' (hb : Below w.heap.size w w') => hrows.below hb)
    have HIH := Lib.hid ih
    have HPR := Lib.hid (fun w' (hb : Below w.heap.size w w') => hpr.kept hb (Nat.le_refl _))
    have hmemk : ∀ k p, (rowOf ps v)[k]? = some p → p ∈ ps ∧ Tch p (v : Int) := fun k p hp => by
      obtain ⟨h1, h2⟩ := List.mem_filter.1 (List.mem_of_getElem? hp)
      exact ⟨h1, by simpa [touchB, Tch] using h2⟩
    have HK := Lib.hid (fun k p (hp : (rowOf ps v)[k]? = some p) (hne : p ≠ q) => (show ∃ u : Nat, oth p (v : Int) = (u : Int) ∧ BrOk n ps (u : Int) p ∧ cntB n ps (u : Int) p ≤ d from by
      obtain ⟨hm1, hm2⟩ := hmemk k p hp
      have hmem : p ∈ kidsL ps (v : Int) q := mem_kids.2 ⟨hm1, hm2, hne⟩
      have hb := hbr.kid hg hmem
      obtain ⟨u, hu⟩ := Int.eq_ofNat_of_zero_le (show (0 : Int) ≤ oth p v from by have := hb.lo; omega)
      have h1 := cnt_kid ha hbr hmem
      rw [hu] at hb h1
      exact ⟨u, hu, hb, by omega⟩))
    have hRl : (rowOf ps v).length ≤ 10 := Nat.le_trans (List.length_filter_le _ _) hg.2.2.1
    have hv0 : (0 : Int) ≤ (v : Int) := by omega
    have hvn1 : (v : Int) < (n : Int) + 1 := by omega
    clear ih hrows hpr hmemk hal hbr hcnt
    generalize rowOf ps v = R at *
    obtain ⟨W, hW⟩ : ∃ W, W = (((w.alloc (.cells #[.int .i64 q.id, .int .i64 q.fr, .int .i64 q.to, .int .i64 q.sz] 40)).alloc (.cells #[.int .i64 0, .int .i64 0, .int .i64 0, .int .i64 0, .int .i64 0, .slice none 0 0] 93)).alloc (.cells #[.int .i64 (v : Int), .int .i64 q.id, .int .i64 q.fr, .int .i64 q.to, .int .i64 q.sz, .slice none 0 0] 93)) := ⟨_, rfl⟩
    have HW0 : Hid (Below w.heap.size w W) := Lib.hid (by rw [hW]; exact ((((Below.refl w.heap.size w).alloc (Nat.le_refl _) _).alloc (by simp) _).alloc (by simp; omega) _))
    have HWS : Hid (W.heap.size = w.heap.size + 1 + 1 + 1) := Lib.hid (by rw [hW]; simp [Nat.add_assoc])
    have HWP : Hid (PC W w.heap.size 0 q) := Lib.hid (by
      have h1 : PC (w.alloc (.cells #[.int .i64 q.id, .int .i64 q.fr, .int .i64 q.to, .int .i64 q.sz] 40)) w.heap.size 0 q := by
        unfold PC
        refine ⟨?_, ?_, ?_, ?_⟩ <;> rw [World.cell?_alloc_at _ _ _ _ rfl] <;> rfl
      rw [hW]
      exact h1.kept ((((Below.refl _ _).alloc (Nat.le_refl _) _).alloc (by simp) _).block _ (by simp)))
    have HW6 : Hid (WRow W (w.heap.size + 1) (bcs 0 ⟨0, 0, 0, 0⟩ (.slice none 0 0))) := Lib.hid (by
      have e : w.heap.size + 1 = (w.alloc (.cells #[.int .i64 q.id, .int .i64 q.fr, .int .i64 q.to, .int .i64 q.sz] 40)).heap.size := by simp
      have h1 : WRow ((w.alloc (.cells #[.int .i64 q.id, .int .i64 q.fr, .int .i64 q.to, .int .i64 q.sz] 40)).alloc (.cells #[.int .i64 0, .int .i64 0, .int .i64 0, .int .i64 0, .int .i64 0, .slice none 0 0] 93)) (w.heap.size + 1) (bcs 0 ⟨0, 0, 0, 0⟩ (.slice none 0 0)) := by
        unfold WRow
        rw [e]
        exact heap_alloc_new _ _
      rw [hW]
      exact h1.kept (((Below.refl _ _).alloc (Nat.le_refl _) _).block _ (by simp)))
    have HW7 : Hid (WRow W (w.heap.size + 1 + 1) (bcs v q (.slice none 0 0))) := Lib.hid (by
      have e : w.heap.size + 1 + 1 = ((w.alloc (.cells #[.int .i64 q.id, .int .i64 q.fr, .int .i64 q.to, .int .i64 q.sz] 40)).alloc (.cells #[.int .i64 0, .int .i64 0, .int .i64 0, .int .i64 0, .int .i64 0, .slice none 0 0] 93)).heap.size := by simp
      rw [hW]
      unfold WRow
      rw [e]
      exact heap_alloc_new _ _)
    have hcr3 : W.cell? ⟨G, v, none⟩ = some (.slice AR R.length cR) := (HW0.out.cell hGl).trans hcr
    rw [hW] at hcr3
    go_enter Try.func158, Try.ntmps158
    go_wp2
    rw [← hW]
    clear hW hcr hcr3
    go_loopw [18] (fun i wr => ∃ (k : Nat) (A9 : Option Addr) (c9 : Nat) (ks : List Kd), k ≤ R.length ∧ i = .int .i64 (k : Int) ∧ Hid (ks.map (·.1) = kidsTo R q k) ∧ Hid (WRow wr (w.heap.size + 1 + 1) (bcs v q (.slice A9 ks.length c9))) ∧ Hid (WRow wr (w.heap.size + 1) (bcs 0 ⟨0, 0, 0, 0⟩ (.slice none 0 0))) ∧ Hid (PC wr w.heap.size 0 q) ∧ Hid (KIn ps d wr v (w.heap.size + 1 + 1 + 1) (.slice A9 ks.length c9) ks) ∧ Hid (Below w.heap.size w wr) ∧ Hid (W.heap.size ≤ wr.heap.size)) (fun i _ => R.length - (intOf i).toNat)
    case atStart => exact ⟨0, none, 0, [], Nat.zero_le _, rfl, Lib.hid (by simp [kidsTo]), HW7, HW6, HWP, Lib.hid (KIn.nil ps d W v _), HW0, Lib.hid (Nat.le_refl _)⟩
    case round =>
      clear HW7 HW6 HWP
      obtain ⟨k, A9, c9, ks, hk, rfl, hks, hw7, hw6, hpc, hkin, hB, hsz⟩ := hrel
      by_cases hlt : k < R.length
      · obtain ⟨p, hp⟩ : ∃ p, R[k]? = some p := ⟨_, List.getElem?_eq_getElem hlt⟩
        have hrep := HPR.out wr hB.out
        rcases hrep with h0 | ⟨b, off, hA, hbl, hcell⟩
        · rw [h0] at hlt; simp at hlt
        · subst hA
          obtain ⟨c0, c1, c2, c3⟩ := hcell k hlt
          have hpa : pAt R k = p := by simp [pAt, List.getD, hp]
          rw [hpa] at c0 c1 c2 c3
          have hk0 : (0 : Int) ≤ (k : Int) := by omega
          have hkn : (k : Int) < (R.length : Int) := by omega
          have hs0 := HWS.out
          have hs1 := hsz.out
          have hl0 : w.heap.size < wr.heap.size := by omega
          have hl1 : w.heap.size + 1 < wr.heap.size := by omega
          have hl2 : w.heap.size + 1 + 1 < wr.heap.size := by omega
          have hBr : w.heap.size + 1 + 1 + 1 ≤ wr.heap.size := by omega
          clear hs0 hs1
          obtain ⟨p1, p2, p3, p4⟩ := hpc.out
          have HP := Lib.hid hp
          clear hcell hpa hp
          by_cases hpq : p = q
          · subst hpq
            have HKS := Lib.hid (kidsTo_no HP.out rfl)
            go_wp2
            go_roundw
            case rel => exact ⟨k + 1, A9, c9, ks, by omega, by go_num, Lib.hid (by rw [HKS.out]; exact hks.out), Lib.hid (hw7.out.kept (Below.heap_alloc wr _ _ hl2)), Lib.hid (hw6.out.kept (Below.heap_alloc wr _ _ hl1)), Lib.hid (hpc.out.kept (Below.heap_alloc wr _ _ hl0)), Lib.hid (hkin.out.below ((Below.refl _ _).alloc (Nat.le_refl _) _)), Lib.hid (hB.out.alloc hB.out.size _), Lib.hid (by have := hsz.out; simp; omega)⟩
            case measure => simp [intOf]; omega
          · have HKS := Lib.hid (kidsTo_yes HP.out hpq)
            obtain ⟨u, hu, hbu, hcu⟩ := HK.out k p HP.out hpq
            have HU := Lib.hid hu
            have HO := Lib.hid (fun w' => other_v hu w')
            have HC := Lib.hid (fun w' (hb : Below w.heap.size w w') => HIH.out u p w' (HRW.out w' hb) hbu hcu)
            have HNE := Lib.hid hpq
            clear hu hbu hcu hpq
            go_upto_region 6 with (first | (with_reducible refine wpP_neq rfl _ _ rfl p q rfl rfl HNE.out ?_))
            obtain ⟨i0, hi0, hz0, hz1, hz2⟩ := info_parts infoBr
            have vr : wr.cell? ⟨w.heap.size + 1 + 1, 5, none⟩ = some (.slice A9 ks.length c9) := hw7.out.cell 5
            have v0 : ((wr.alloc (.cells #[.int .i64 p.id, .int .i64 p.fr, .int .i64 p.to, .int .i64 p.sz] 40)).drew).cell? ⟨w.heap.size + 1 + 1, 5, none⟩ = some (.slice A9 ks.length c9) := ((((Below.refl wr.heap.size wr).alloc (Nat.le_refl _) (.cells #[.int .i64 p.id, .int .i64 p.fr, .int .i64 p.to, .int .i64 p.sz] 40)).drew).cell hl2).trans vr
            have hvb : ∀ g, (Value.slice A9 ks.length c9).ownBlock = some g → w.heap.size + 1 + 1 + 1 ≤ g ∧ g < wr.heap.size := fun g hg => hkin.out.own.lt g hg
            have hkl : ks.length ≤ 10 := (by have h1 := kidsTo_len R q k; rw [← hks.out, List.length_map] at h1; omega)
            have hfar9 : (Value.slice A9 ks.length c9).ownBlock ≠ some wr.heap.size := fun e => (by have := hvb _ e; omega)
            have hfar7 : (Value.slice A9 ks.length c9).ownBlock ≠ some (w.heap.size + 1 + 1) := fun e => (by have := hvb _ e; omega)
            refine wp_region_held_drew (S := fun w' => w'.cell? ⟨wr.heap.size, 0, none⟩ = some (.int .i64 p.id) ∧ w'.cell? ⟨wr.heap.size, 1, none⟩ = some (.int .i64 p.fr) ∧ w'.cell? ⟨wr.heap.size, 2, none⟩ = some (.int .i64 p.to) ∧ w'.cell? ⟨wr.heap.size, 3, none⟩ = some (.int .i64 p.sz)) (by kernel_rfl) (by go_keep) (fun hHeld => ?_)
            refine wpAnyH_take (i := 0) (v := .pointer (some ⟨w.heap.size + 1 + 1, 5, none⟩)) rfl (by kernel_rfl) (by kernel_rfl) (by kernel_rfl) (fun _ _ _ h => h) (Or.inl ⟨by rfl, ?_⟩) (by assumption) ?_
            · (intro w hSw; (try dsimp only at hSw); go_simp)
            simp only [Act.put, List.setIfInBounds_toArray]
            refine wpAnyH_take (i := 2) (v := .slice (some ⟨G, 0, none⟩) (n + 1) cap) rfl (by kernel_rfl) (by kernel_rfl) (by kernel_rfl) (fun _ _ _ h => h) (Or.inl ⟨by rfl, ?_⟩) (by assumption) ?_
            · (intro w hSw; (try dsimp only at hSw); go_simp)
            simp only [Act.put]
            refine wpAnyH_take (i := 3) (v := .agg #[.int .i64 p.id, .int .i64 p.fr, .int .i64 p.to, .int .i64 p.sz]) rfl (by kernel_rfl) (by kernel_rfl) (by kernel_rfl) (fun _ _ _ h => h) (Or.inl ⟨by rfl, ?_⟩) (by assumption) ?_
            · (intro w hSw; (try dsimp only at hSw); go_simp)
            simp only [Act.put]
            refine wpAnyH_take (i := 4) (v := .int .i64 (v : Int)) rfl (by kernel_rfl) (by kernel_rfl) (by kernel_rfl) (fun _ _ _ h => h) (Or.inl ⟨by rfl, ?_⟩) (by assumption) ?_
            · (intro w hSw; (try dsimp only at hSw); go_simp)
            simp only [Act.put]
            refine wpAnyH_take (i := 6) (v := .agg #[.int .i64 p.id, .int .i64 p.fr, .int .i64 p.to, .int .i64 p.sz]) rfl (by kernel_rfl) (by kernel_rfl) (by kernel_rfl) (fun _ _ _ h => h) (Or.inl ⟨by rfl, ?_⟩) (by assumption) ?_
            · (intro w hSw; (try dsimp only at hSw); go_simp)
            simp only [Act.put]
            refine wpAnyH_ready (rs := [1, 5]) (by kernel_rfl) (by simp) ?_
            refine AllReadyH.cons rfl (fun K hK => ?_) (AllReadyH.cons rfl (fun K hK => ?_) AllReadyH.nil)
            · go_simp
              refine hK.out _ _ (by first | assumption | go_keep) (fun hHeld => ?_)
              clear hK K
              refine wpAnyH_ready (rs := [5]) (by kernel_rfl) (by simp) ?_
              refine AllReadyH.cons rfl (fun K hK => ?_) AllReadyH.nil
              go_simp
              go_at_call 102
              refine (HO.out _).mono ?_
              rintro e w3 ⟨rfl, hb3⟩
              have HB3 := Lib.hid ((((Below.refl wr.heap.size wr).alloc (Nat.le_refl _) (.cells #[.int .i64 p.id, .int .i64 p.fr, .int .i64 p.to, .int .i64 p.sz] 40)).drew).trans (hb3.mono (by simp)))
              have hz3 : wr.heap.size + 1 ≤ w3.heap.size := (by have := hb3.size; simp at this; omega)
              have v3 : w3.cell? ⟨w.heap.size + 1 + 1, 5, none⟩ = some (.slice A9 ks.length c9) := (HB3.out.cell hl2).trans vr
              have hHeld2 := hHeld
              refine hK.out _ _ (by rcases hHeld2 with ⟨q0, q1, q2, q3⟩; exact ⟨(hb3.cell (by simp)).trans q0, (hb3.cell (by simp)).trans q1, (hb3.cell (by simp)).trans q2, (hb3.cell (by simp)).trans q3⟩) (fun hHeld => ?_)
              clear hK K hHeld2
              clear hb3
              refine wpAnyH_ready (rs := [7]) (by kernel_rfl) (by simp) ?_
              refine AllReadyH.cons rfl (fun K hK => ?_) AllReadyH.nil
              go_simp
              go_at_call 158
              refine (HC.out _ (hB.out.trans (HB3.out.mono hB.out.size))).mono ?_
              rintro e w4 ⟨A4, c4, rfl, hrep4, hb4⟩
              have HREP4 := Lib.hid hrep4
              obtain ⟨m4, hm4⟩ : ∃ m4, (kidsL ps (u : Int) p).length = m4 := ⟨_, rfl⟩
              have HM4 := Lib.hid hm4
              rw [hm4]
              have HB4 := Lib.hid (HB3.out.trans (hb4.mono (by omega)))
              have hz4 : wr.heap.size + 1 ≤ w4.heap.size := (by have := hb4.size; omega)
              have v4 : w4.cell? ⟨w.heap.size + 1 + 1, 5, none⟩ = some (.slice A9 ks.length c9) := (HB4.out.cell hl2).trans vr
              have hl24 : w.heap.size + 1 + 1 < w4.heap.size := (by omega)
              have hHeld2 := hHeld
              refine hK.out _ _ (by rcases hHeld2 with ⟨q0, q1, q2, q3⟩; exact ⟨(hb4.cell (by show wr.heap.size < w3.heap.size; omega)).trans q0, (hb4.cell (by show wr.heap.size < w3.heap.size; omega)).trans q1, (hb4.cell (by show wr.heap.size < w3.heap.size; omega)).trans q2, (hb4.cell (by show wr.heap.size < w3.heap.size; omega)).trans q3⟩) (fun hHeld => ?_)
              clear hK K hHeld2
              clear hb4 hrep4 hm4
              refine wpAnyH_ready (rs := [8]) (by kernel_rfl) (by simp) ?_
              refine AllReadyH.cons rfl (fun K hK => ?_) AllReadyH.nil
              go_simp
              refine hK.out _ _ (by first | assumption | go_keep) (fun hHeld => ?_)
              clear hK K
              have v5 : (w4.alloc (.cells #[.int .i64 (u : Int), .int .i64 p.id, .int .i64 p.fr, .int .i64 p.to, .int .i64 p.sz, .slice A4 m4 c4] 93)).cell? ⟨w.heap.size + 1 + 1, 5, none⟩ = some (.slice A9 ks.length c9) := (((Below.refl w4.heap.size w4).alloc (Nat.le_refl _) _).cell hl24).trans v4
              refine wpAnyH_ready (rs := [9]) (by kernel_rfl) (by simp) ?_
              refine AllReadyH.cons rfl (fun K hK => ?_) AllReadyH.nil
              refine step_append_lies _ (by rfl) _ _ _ (by rfl) (w.heap.size + 1 + 1 + 1) 93 i0 _ 6 64 Try.underlying91 hi0 hz0 hz1 hz2 rfl (by omega) (.slice A9 ks.length c9) ks.length (bls ps v ks) (by rfl) ((hkin.out.below HB4.out).own.alloc _)
                ⟨w4.heap.size, 0, none⟩ 1 1 [.int .i64 (u : Int), .int .i64 p.id, .int .i64 p.fr, .int .i64 p.to, .int .i64 p.sz, .slice A4 m4 c4] (by rfl) (by rfl) (World.news_of_block (cs := #[.int .i64 (u : Int), .int .i64 p.id, .int .i64 p.fr, .int .i64 p.to, .int .i64 p.sz, .slice A4 m4 c4]) (t := 93) (fr := (0, 0)) (heap_alloc_new w4 _)) (by simp [Value.oneCell'])
                (by omega) (by simp only [maxLen]; omega) (by omega) (by simp; omega) (w4.heap.size + 1) (by simp) ?_
              intro g5 c5 w5 hown5 hgrow hat hlt5
              have hHeld2 := hHeld
              refine hK.out _ _ (by rcases hHeld2 with ⟨q0, q1, q2, q3⟩; exact ⟨(hgrow.cell_far _ (by simp; omega) (fun e => hfar9 e.symm)).trans q0, (hgrow.cell_far _ (by simp; omega) (fun e => hfar9 e.symm)).trans q1, (hgrow.cell_far _ (by simp; omega) (fun e => hfar9 e.symm)).trans q2, (hgrow.cell_far _ (by simp; omega) (fun e => hfar9 e.symm)).trans q3⟩) (fun hHeld => ?_)
              clear hK K hHeld2
              have HW5 := Lib.hid (((hw7.out.kept (HB4.out.block _ hl2)).kept (((Below.refl w4.heap.size w4).alloc (Nat.le_refl _) (.cells #[.int .i64 (u : Int), .int .i64 p.id, .int .i64 p.fr, .int .i64 p.to, .int .i64 p.sz, .slice A4 m4 c4] 93)).block _ hl24)).kept (hgrow.block _ (by simp; omega) (fun e => hfar7 e.symm)))
              have hz5 : w4.heap.size + 1 ≤ w5.heap.size := (by have := hgrow.size; simp at this; omega)
              have v6 : w5.cell? ⟨w.heap.size + 1 + 1, 5, none⟩ = some (.slice A9 ks.length c9) := HW5.out.cell 5
              have f6 : w5.frozen? ⟨w.heap.size + 1 + 1, 5, none⟩ = false := frozen_of_row w5 _ 5 _ _ HW5.out
              refine wpAnyH_ready (rs := [10]) (by kernel_rfl) (by simp) ?_
              refine AllReadyH.cons rfl (fun K hK => ?_) AllReadyH.nil
              go_simp
              refine hK.out _ _ (by first | assumption | go_keep) (fun hHeld => ?_)
              clear hK K
              refine wpAnyH_ready (rs := [11]) (by kernel_rfl) (by simp) ?_
              refine AllReadyH.cons rfl (fun K hK => ?_) AllReadyH.nil
              go_simp
              have hHeld2 := hHeld
              refine hK.out _ _ (by rcases hHeld2 with ⟨q0, q1, q2, q3⟩; exact ⟨((setCell_off w5 (w.heap.size + 1 + 1) 5 _).cell_far _ (by show wr.heap.size < w5.heap.size; omega) (by intro e; simp at e; omega)).trans q0, ((setCell_off w5 (w.heap.size + 1 + 1) 5 _).cell_far _ (by show wr.heap.size < w5.heap.size; omega) (by intro e; simp at e; omega)).trans q1, ((setCell_off w5 (w.heap.size + 1 + 1) 5 _).cell_far _ (by show wr.heap.size < w5.heap.size; omega) (by intro e; simp at e; omega)).trans q2, ((setCell_off w5 (w.heap.size + 1 + 1) 5 _).cell_far _ (by show wr.heap.size < w5.heap.size; omega) (by intro e; simp at e; omega)).trans q3⟩) (fun hHeld => ?_)
              clear hK K hHeld2
              refine wpAnyH_done (by kernel_rfl) ?_ _
              have hH1 : (w4.alloc (.cells #[.int .i64 (u : Int), .int .i64 p.id, .int .i64 p.fr, .int .i64 p.to, .int .i64 p.sz, .slice A4 m4 c4] 93)).heap.size = w4.heap.size + 1 := (by simp)
              have HBL := Lib.hid ((((HB4.out.mono (show w.heap.size + 1 + 1 ≤ wr.heap.size by omega)).alloc (by omega) (.cells #[.int .i64 (u : Int), .int .i64 p.id, .int .i64 p.fr, .int .i64 p.to, .int .i64 p.sz, .slice A4 m4 c4] 93)).grown hgrow (by rw [hH1]; omega) (fun g hg => by have := hvb g hg; omega)).setCell (p := ⟨w.heap.size + 1 + 1, 5, none⟩) (Nat.le_refl _) (.slice (some ⟨g5, 0, none⟩) (ks.length + 1) c5))
              have HKN := Lib.hid ((KIn.push (B := w.heap.size + 1 + 1 + 1) (b0 := w3.heap.size) (k := (p, A4, c4)) ((hkin.out.below HB4.out).below ((Below.refl w4.heap.size w4).alloc (Nat.le_refl _) (.cells #[.int .i64 (u : Int), .int .i64 p.id, .int .i64 p.fr, .int .i64 p.to, .int .i64 p.sz, .slice A4 m4 c4] 93))) (by unfold bl6; simp only [HU.out, HM4.out]; exact hown5) hgrow (by rcases hat with h | h; exact .inl h.symm; exact .inr (by rw [hH1, h]; rfl)) (by simp only [HU.out]; exact HREP4.out.below ((Below.refl w4.heap.size w4).alloc (Nat.le_refl _) (.cells #[.int .i64 (u : Int), .int .i64 p.id, .int .i64 p.fr, .int .i64 p.to, .int .i64 p.sz, .slice A4 m4 c4] 93))) (by omega) (fun g hg => by have := hvb g hg; omega)).low (setCell_off w5 (w.heap.size + 1 + 1) 5 (.slice (some ⟨g5, 0, none⟩) (ks.length + 1) c5)) (by omega))
              have hle : (ks ++ [((p, A4, c4) : Kd)]).length = ks.length + 1 := (by simp)
              have HW6 := Lib.hid (HW5.out.set5 (.slice (some ⟨g5, 0, none⟩) (ks.length + 1) c5))
              clear hgrow hown5 hat hH1
              go_wp2_with fail
              go_roundw
              case rel => exact ⟨k + 1, some ⟨g5, 0, none⟩, c5, ks ++ [((p, A4, c4) : Kd)], by omega, by go_num, Lib.hid (by rw [HKS.out, ← hks.out]; simp), Lib.hid (by rw [hle]; exact HW6.out), Lib.hid (hw6.out.kept (HBL.out.block _ (by omega))), Lib.hid (hpc.out.kept (HBL.out.block _ (by omega))), Lib.hid (by rw [hle]; exact HKN.out), Lib.hid (hB.out.trans (HBL.out.mono (by omega))), Lib.hid (by have := hsz.out; simp; omega)⟩
              case measure => simp [intOf]; omega
            · go_simp
              go_at_call 102
              refine (HO.out _).mono ?_
              rintro e w3 ⟨rfl, hb3⟩
              have HB3 := Lib.hid ((((Below.refl wr.heap.size wr).alloc (Nat.le_refl _) (.cells #[.int .i64 p.id, .int .i64 p.fr, .int .i64 p.to, .int .i64 p.sz] 40)).drew).trans (hb3.mono (by simp)))
              have hz3 : wr.heap.size + 1 ≤ w3.heap.size := (by have := hb3.size; simp at this; omega)
              have v3 : w3.cell? ⟨w.heap.size + 1 + 1, 5, none⟩ = some (.slice A9 ks.length c9) := (HB3.out.cell hl2).trans vr
              have hHeld2 := hHeld
              refine hK.out _ _ (by rcases hHeld2 with ⟨q0, q1, q2, q3⟩; exact ⟨(hb3.cell (by simp)).trans q0, (hb3.cell (by simp)).trans q1, (hb3.cell (by simp)).trans q2, (hb3.cell (by simp)).trans q3⟩) (fun hHeld => ?_)
              clear hK K hHeld2
              clear hb3
              refine wpAnyH_ready (rs := [1, 7]) (by kernel_rfl) (by simp) ?_
              refine AllReadyH.cons rfl (fun K hK => ?_) (AllReadyH.cons rfl (fun K hK => ?_) AllReadyH.nil)
              · go_simp
                refine hK.out _ _ (by first | assumption | go_keep) (fun hHeld => ?_)
                clear hK K
                refine wpAnyH_ready (rs := [7]) (by kernel_rfl) (by simp) ?_
                refine AllReadyH.cons rfl (fun K hK => ?_) AllReadyH.nil
                go_simp
                go_at_call 158
                refine (HC.out _ (hB.out.trans (HB3.out.mono hB.out.size))).mono ?_
                rintro e w4 ⟨A4, c4, rfl, hrep4, hb4⟩
                have HREP4 := Lib.hid hrep4
                obtain ⟨m4, hm4⟩ : ∃ m4, (kidsL ps (u : Int) p).length = m4 := ⟨_, rfl⟩
                have HM4 := Lib.hid hm4
                rw [hm4]
                have HB4 := Lib.hid (HB3.out.trans (hb4.mono (by omega)))
                have hz4 : wr.heap.size + 1 ≤ w4.heap.size := (by have := hb4.size; omega)
                have v4 : w4.cell? ⟨w.heap.size + 1 + 1, 5, none⟩ = some (.slice A9 ks.length c9) := (HB4.out.cell hl2).trans vr
                have hl24 : w.heap.size + 1 + 1 < w4.heap.size := (by omega)
                have hHeld2 := hHeld
                refine hK.out _ _ (by rcases hHeld2 with ⟨q0, q1, q2, q3⟩; exact ⟨(hb4.cell (by show wr.heap.size < w3.heap.size; omega)).trans q0, (hb4.cell (by show wr.heap.size < w3.heap.size; omega)).trans q1, (hb4.cell (by show wr.heap.size < w3.heap.size; omega)).trans q2, (hb4.cell (by show wr.heap.size < w3.heap.size; omega)).trans q3⟩) (fun hHeld => ?_)
                clear hK K hHeld2
                clear hb4 hrep4 hm4
                refine wpAnyH_ready (rs := [8]) (by kernel_rfl) (by simp) ?_
                refine AllReadyH.cons rfl (fun K hK => ?_) AllReadyH.nil
                go_simp
                refine hK.out _ _ (by first | assumption | go_keep) (fun hHeld => ?_)
                clear hK K
                have v5 : (w4.alloc (.cells #[.int .i64 (u : Int), .int .i64 p.id, .int .i64 p.fr, .int .i64 p.to, .int .i64 p.sz, .slice A4 m4 c4] 93)).cell? ⟨w.heap.size + 1 + 1, 5, none⟩ = some (.slice A9 ks.length c9) := (((Below.refl w4.heap.size w4).alloc (Nat.le_refl _) _).cell hl24).trans v4
                refine wpAnyH_ready (rs := [9]) (by kernel_rfl) (by simp) ?_
                refine AllReadyH.cons rfl (fun K hK => ?_) AllReadyH.nil
                refine step_append_lies _ (by rfl) _ _ _ (by rfl) (w.heap.size + 1 + 1 + 1) 93 i0 _ 6 64 Try.underlying91 hi0 hz0 hz1 hz2 rfl (by omega) (.slice A9 ks.length c9) ks.length (bls ps v ks) (by rfl) ((hkin.out.below HB4.out).own.alloc _)
                  ⟨w4.heap.size, 0, none⟩ 1 1 [.int .i64 (u : Int), .int .i64 p.id, .int .i64 p.fr, .int .i64 p.to, .int .i64 p.sz, .slice A4 m4 c4] (by rfl) (by rfl) (World.news_of_block (cs := #[.int .i64 (u : Int), .int .i64 p.id, .int .i64 p.fr, .int .i64 p.to, .int .i64 p.sz, .slice A4 m4 c4]) (t := 93) (fr := (0, 0)) (heap_alloc_new w4 _)) (by simp [Value.oneCell'])
                  (by omega) (by simp only [maxLen]; omega) (by omega) (by simp; omega) (w4.heap.size + 1) (by simp) ?_
                intro g5 c5 w5 hown5 hgrow hat hlt5
                have hHeld2 := hHeld
                refine hK.out _ _ (by rcases hHeld2 with ⟨q0, q1, q2, q3⟩; exact ⟨(hgrow.cell_far _ (by simp; omega) (fun e => hfar9 e.symm)).trans q0, (hgrow.cell_far _ (by simp; omega) (fun e => hfar9 e.symm)).trans q1, (hgrow.cell_far _ (by simp; omega) (fun e => hfar9 e.symm)).trans q2, (hgrow.cell_far _ (by simp; omega) (fun e => hfar9 e.symm)).trans q3⟩) (fun hHeld => ?_)
                clear hK K hHeld2
                have HW5 := Lib.hid (((hw7.out.kept (HB4.out.block _ hl2)).kept (((Below.refl w4.heap.size w4).alloc (Nat.le_refl _) (.cells #[.int .i64 (u : Int), .int .i64 p.id, .int .i64 p.fr, .int .i64 p.to, .int .i64 p.sz, .slice A4 m4 c4] 93)).block _ hl24)).kept (hgrow.block _ (by simp; omega) (fun e => hfar7 e.symm)))
                have hz5 : w4.heap.size + 1 ≤ w5.heap.size := (by have := hgrow.size; simp at this; omega)
                have v6 : w5.cell? ⟨w.heap.size + 1 + 1, 5, none⟩ = some (.slice A9 ks.length c9) := HW5.out.cell 5
                have f6 : w5.frozen? ⟨w.heap.size + 1 + 1, 5, none⟩ = false := frozen_of_row w5 _ 5 _ _ HW5.out
                refine wpAnyH_ready (rs := [10]) (by kernel_rfl) (by simp) ?_
                refine AllReadyH.cons rfl (fun K hK => ?_) AllReadyH.nil
                go_simp
                refine hK.out _ _ (by first | assumption | go_keep) (fun hHeld => ?_)
                clear hK K
                refine wpAnyH_ready (rs := [11]) (by kernel_rfl) (by simp) ?_
                refine AllReadyH.cons rfl (fun K hK => ?_) AllReadyH.nil
                go_simp
                have hHeld2 := hHeld
                refine hK.out _ _ (by rcases hHeld2 with ⟨q0, q1, q2, q3⟩; exact ⟨((setCell_off w5 (w.heap.size + 1 + 1) 5 _).cell_far _ (by show wr.heap.size < w5.heap.size; omega) (by intro e; simp at e; omega)).trans q0, ((setCell_off w5 (w.heap.size + 1 + 1) 5 _).cell_far _ (by show wr.heap.size < w5.heap.size; omega) (by intro e; simp at e; omega)).trans q1, ((setCell_off w5 (w.heap.size + 1 + 1) 5 _).cell_far _ (by show wr.heap.size < w5.heap.size; omega) (by intro e; simp at e; omega)).trans q2, ((setCell_off w5 (w.heap.size + 1 + 1) 5 _).cell_far _ (by show wr.heap.size < w5.heap.size; omega) (by intro e; simp at e; omega)).trans q3⟩) (fun hHeld => ?_)
                clear hK K hHeld2
                refine wpAnyH_done (by kernel_rfl) ?_ _
                have hH1 : (w4.alloc (.cells #[.int .i64 (u : Int), .int .i64 p.id, .int .i64 p.fr, .int .i64 p.to, .int .i64 p.sz, .slice A4 m4 c4] 93)).heap.size = w4.heap.size + 1 := (by simp)
                have HBL := Lib.hid ((((HB4.out.mono (show w.heap.size + 1 + 1 ≤ wr.heap.size by omega)).alloc (by omega) (.cells #[.int .i64 (u : Int), .int .i64 p.id, .int .i64 p.fr, .int .i64 p.to, .int .i64 p.sz, .slice A4 m4 c4] 93)).grown hgrow (by rw [hH1]; omega) (fun g hg => by have := hvb g hg; omega)).setCell (p := ⟨w.heap.size + 1 + 1, 5, none⟩) (Nat.le_refl _) (.slice (some ⟨g5, 0, none⟩) (ks.length + 1) c5))
                have HKN := Lib.hid ((KIn.push (B := w.heap.size + 1 + 1 + 1) (b0 := w3.heap.size) (k := (p, A4, c4)) ((hkin.out.below HB4.out).below ((Below.refl w4.heap.size w4).alloc (Nat.le_refl _) (.cells #[.int .i64 (u : Int), .int .i64 p.id, .int .i64 p.fr, .int .i64 p.to, .int .i64 p.sz, .slice A4 m4 c4] 93))) (by unfold bl6; simp only [HU.out, HM4.out]; exact hown5) hgrow (by rcases hat with h | h; exact .inl h.symm; exact .inr (by rw [hH1, h]; rfl)) (by simp only [HU.out]; exact HREP4.out.below ((Below.refl w4.heap.size w4).alloc (Nat.le_refl _) (.cells #[.int .i64 (u : Int), .int .i64 p.id, .int .i64 p.fr, .int .i64 p.to, .int .i64 p.sz, .slice A4 m4 c4] 93))) (by omega) (fun g hg => by have := hvb g hg; omega)).low (setCell_off w5 (w.heap.size + 1 + 1) 5 (.slice (some ⟨g5, 0, none⟩) (ks.length + 1) c5)) (by omega))
                have hle : (ks ++ [((p, A4, c4) : Kd)]).length = ks.length + 1 := (by simp)
                have HW6 := Lib.hid (HW5.out.set5 (.slice (some ⟨g5, 0, none⟩) (ks.length + 1) c5))
                clear hgrow hown5 hat hH1
                go_wp2_with fail
                go_roundw
                case rel => exact ⟨k + 1, some ⟨g5, 0, none⟩, c5, ks ++ [((p, A4, c4) : Kd)], by omega, by go_num, Lib.hid (by rw [HKS.out, ← hks.out]; simp), Lib.hid (by rw [hle]; exact HW6.out), Lib.hid (hw6.out.kept (HBL.out.block _ (by omega))), Lib.hid (hpc.out.kept (HBL.out.block _ (by omega))), Lib.hid (by rw [hle]; exact HKN.out), Lib.hid (hB.out.trans (HBL.out.mono (by omega))), Lib.hid (by have := hsz.out; simp; omega)⟩
                case measure => simp [intOf]; omega
              · go_simp
                go_at_call 158
                refine (HC.out _ (hB.out.trans (HB3.out.mono hB.out.size))).mono ?_
                rintro e w4 ⟨A4, c4, rfl, hrep4, hb4⟩
                have HREP4 := Lib.hid hrep4
                obtain ⟨m4, hm4⟩ : ∃ m4, (kidsL ps (u : Int) p).length = m4 := ⟨_, rfl⟩
                have HM4 := Lib.hid hm4
                rw [hm4]
                have HB4 := Lib.hid (HB3.out.trans (hb4.mono (by omega)))
                have hz4 : wr.heap.size + 1 ≤ w4.heap.size := (by have := hb4.size; omega)
                have v4 : w4.cell? ⟨w.heap.size + 1 + 1, 5, none⟩ = some (.slice A9 ks.length c9) := (HB4.out.cell hl2).trans vr
                have hl24 : w.heap.size + 1 + 1 < w4.heap.size := (by omega)
                have hHeld2 := hHeld
                refine hK.out _ _ (by rcases hHeld2 with ⟨q0, q1, q2, q3⟩; exact ⟨(hb4.cell (by show wr.heap.size < w3.heap.size; omega)).trans q0, (hb4.cell (by show wr.heap.size < w3.heap.size; omega)).trans q1, (hb4.cell (by show wr.heap.size < w3.heap.size; omega)).trans q2, (hb4.cell (by show wr.heap.size < w3.heap.size; omega)).trans q3⟩) (fun hHeld => ?_)
                clear hK K hHeld2
                clear hb4 hrep4 hm4
                refine wpAnyH_ready (rs := [1, 8]) (by kernel_rfl) (by simp) ?_
                refine AllReadyH.cons rfl (fun K hK => ?_) (AllReadyH.cons rfl (fun K hK => ?_) AllReadyH.nil)
                · go_simp
                  refine hK.out _ _ (by first | assumption | go_keep) (fun hHeld => ?_)
                  clear hK K
                  refine wpAnyH_ready (rs := [8]) (by kernel_rfl) (by simp) ?_
                  refine AllReadyH.cons rfl (fun K hK => ?_) AllReadyH.nil
                  go_simp
                  refine hK.out _ _ (by first | assumption | go_keep) (fun hHeld => ?_)
                  clear hK K
                  have v5 : (w4.alloc (.cells #[.int .i64 (u : Int), .int .i64 p.id, .int .i64 p.fr, .int .i64 p.to, .int .i64 p.sz, .slice A4 m4 c4] 93)).cell? ⟨w.heap.size + 1 + 1, 5, none⟩ = some (.slice A9 ks.length c9) := (((Below.refl w4.heap.size w4).alloc (Nat.le_refl _) _).cell hl24).trans v4
                  refine wpAnyH_ready (rs := [9]) (by kernel_rfl) (by simp) ?_
                  refine AllReadyH.cons rfl (fun K hK => ?_) AllReadyH.nil
                  refine step_append_lies _ (by rfl) _ _ _ (by rfl) (w.heap.size + 1 + 1 + 1) 93 i0 _ 6 64 Try.underlying91 hi0 hz0 hz1 hz2 rfl (by omega) (.slice A9 ks.length c9) ks.length (bls ps v ks) (by rfl) ((hkin.out.below HB4.out).own.alloc _)
                    ⟨w4.heap.size, 0, none⟩ 1 1 [.int .i64 (u : Int), .int .i64 p.id, .int .i64 p.fr, .int .i64 p.to, .int .i64 p.sz, .slice A4 m4 c4] (by rfl) (by rfl) (World.news_of_block (cs := #[.int .i64 (u : Int), .int .i64 p.id, .int .i64 p.fr, .int .i64 p.to, .int .i64 p.sz, .slice A4 m4 c4]) (t := 93) (fr := (0, 0)) (heap_alloc_new w4 _)) (by simp [Value.oneCell'])
                    (by omega) (by simp only [maxLen]; omega) (by omega) (by simp; omega) (w4.heap.size + 1) (by simp) ?_
                  intro g5 c5 w5 hown5 hgrow hat hlt5
                  have hHeld2 := hHeld
                  refine hK.out _ _ (by rcases hHeld2 with ⟨q0, q1, q2, q3⟩; exact ⟨(hgrow.cell_far _ (by simp; omega) (fun e => hfar9 e.symm)).trans q0, (hgrow.cell_far _ (by simp; omega) (fun e => hfar9 e.symm)).trans q1, (hgrow.cell_far _ (by simp; omega) (fun e => hfar9 e.symm)).trans q2, (hgrow.cell_far _ (by simp; omega) (fun e => hfar9 e.symm)).trans q3⟩) (fun hHeld => ?_)
                  clear hK K hHeld2
                  have HW5 := Lib.hid (((hw7.out.kept (HB4.out.block _ hl2)).kept (((Below.refl w4.heap.size w4).alloc (Nat.le_refl _) (.cells #[.int .i64 (u : Int), .int .i64 p.id, .int .i64 p.fr, .int .i64 p.to, .int .i64 p.sz, .slice A4 m4 c4] 93)).block _ hl24)).kept (hgrow.block _ (by simp; omega) (fun e => hfar7 e.symm)))
                  have hz5 : w4.heap.size + 1 ≤ w5.heap.size := (by have := hgrow.size; simp at this; omega)
                  have v6 : w5.cell? ⟨w.heap.size + 1 + 1, 5, none⟩ = some (.slice A9 ks.length c9) := HW5.out.cell 5
                  have f6 : w5.frozen? ⟨w.heap.size + 1 + 1, 5, none⟩ = false := frozen_of_row w5 _ 5 _ _ HW5.out
                  refine wpAnyH_ready (rs := [10]) (by kernel_rfl) (by simp) ?_
                  refine AllReadyH.cons rfl (fun K hK => ?_) AllReadyH.nil
                  go_simp
                  refine hK.out _ _ (by first | assumption | go_keep) (fun hHeld => ?_)
                  clear hK K
                  refine wpAnyH_ready (rs := [11]) (by kernel_rfl) (by simp) ?_
                  refine AllReadyH.cons rfl (fun K hK => ?_) AllReadyH.nil
                  go_simp
                  have hHeld2 := hHeld
                  refine hK.out _ _ (by rcases hHeld2 with ⟨q0, q1, q2, q3⟩; exact ⟨((setCell_off w5 (w.heap.size + 1 + 1) 5 _).cell_far _ (by show wr.heap.size < w5.heap.size; omega) (by intro e; simp at e; omega)).trans q0, ((setCell_off w5 (w.heap.size + 1 + 1) 5 _).cell_far _ (by show wr.heap.size < w5.heap.size; omega) (by intro e; simp at e; omega)).trans q1, ((setCell_off w5 (w.heap.size + 1 + 1) 5 _).cell_far _ (by show wr.heap.size < w5.heap.size; omega) (by intro e; simp at e; omega)).trans q2, ((setCell_off w5 (w.heap.size + 1 + 1) 5 _).cell_far _ (by show wr.heap.size < w5.heap.size; omega) (by intro e; simp at e; omega)).trans q3⟩) (fun hHeld => ?_)
                  clear hK K hHeld2
                  refine wpAnyH_done (by kernel_rfl) ?_ _
                  have hH1 : (w4.alloc (.cells #[.int .i64 (u : Int), .int .i64 p.id, .int .i64 p.fr, .int .i64 p.to, .int .i64 p.sz, .slice A4 m4 c4] 93)).heap.size = w4.heap.size + 1 := (by simp)
                  have HBL := Lib.hid ((((HB4.out.mono (show w.heap.size + 1 + 1 ≤ wr.heap.size by omega)).alloc (by omega) (.cells #[.int .i64 (u : Int), .int .i64 p.id, .int .i64 p.fr, .int .i64 p.to, .int .i64 p.sz, .slice A4 m4 c4] 93)).grown hgrow (by rw [hH1]; omega) (fun g hg => by have := hvb g hg; omega)).setCell (p := ⟨w.heap.size + 1 + 1, 5, none⟩) (Nat.le_refl _) (.slice (some ⟨g5, 0, none⟩) (ks.length + 1) c5))
                  have HKN := Lib.hid ((KIn.push (B := w.heap.size + 1 + 1 + 1) (b0 := w3.heap.size) (k := (p, A4, c4)) ((hkin.out.below HB4.out).below ((Below.refl w4.heap.size w4).alloc (Nat.le_refl _) (.cells #[.int .i64 (u : Int), .int .i64 p.id, .int .i64 p.fr, .int .i64 p.to, .int .i64 p.sz, .slice A4 m4 c4] 93))) (by unfold bl6; simp only [HU.out, HM4.out]; exact hown5) hgrow (by rcases hat with h | h; exact .inl h.symm; exact .inr (by rw [hH1, h]; rfl)) (by simp only [HU.out]; exact HREP4.out.below ((Below.refl w4.heap.size w4).alloc (Nat.le_refl _) (.cells #[.int .i64 (u : Int), .int .i64 p.id, .int .i64 p.fr, .int .i64 p.to, .int .i64 p.sz, .slice A4 m4 c4] 93))) (by omega) (fun g hg => by have := hvb g hg; omega)).low (setCell_off w5 (w.heap.size + 1 + 1) 5 (.slice (some ⟨g5, 0, none⟩) (ks.length + 1) c5)) (by omega))
                  have hle : (ks ++ [((p, A4, c4) : Kd)]).length = ks.length + 1 := (by simp)
                  have HW6 := Lib.hid (HW5.out.set5 (.slice (some ⟨g5, 0, none⟩) (ks.length + 1) c5))
                  clear hgrow hown5 hat hH1
                  go_wp2_with fail
                  go_roundw
                  case rel => exact ⟨k + 1, some ⟨g5, 0, none⟩, c5, ks ++ [((p, A4, c4) : Kd)], by omega, by go_num, Lib.hid (by rw [HKS.out, ← hks.out]; simp), Lib.hid (by rw [hle]; exact HW6.out), Lib.hid (hw6.out.kept (HBL.out.block _ (by omega))), Lib.hid (hpc.out.kept (HBL.out.block _ (by omega))), Lib.hid (by rw [hle]; exact HKN.out), Lib.hid (hB.out.trans (HBL.out.mono (by omega))), Lib.hid (by have := hsz.out; simp; omega)⟩
                  case measure => simp [intOf]; omega
                · go_simp
                  refine hK.out _ _ (by first | assumption | go_keep) (fun hHeld => ?_)
                  clear hK K
                  have v5 : (w4.alloc (.cells #[.int .i64 (u : Int), .int .i64 p.id, .int .i64 p.fr, .int .i64 p.to, .int .i64 p.sz, .slice A4 m4 c4] 93)).cell? ⟨w.heap.size + 1 + 1, 5, none⟩ = some (.slice A9 ks.length c9) := (((Below.refl w4.heap.size w4).alloc (Nat.le_refl _) _).cell hl24).trans v4
                  refine wpAnyH_ready (rs := [1]) (by kernel_rfl) (by simp) ?_
                  refine AllReadyH.cons rfl (fun K hK => ?_) AllReadyH.nil
                  go_simp
                  refine hK.out _ _ (by first | assumption | go_keep) (fun hHeld => ?_)
                  clear hK K
                  refine wpAnyH_ready (rs := [9]) (by kernel_rfl) (by simp) ?_
                  refine AllReadyH.cons rfl (fun K hK => ?_) AllReadyH.nil
                  refine step_append_lies _ (by rfl) _ _ _ (by rfl) (w.heap.size + 1 + 1 + 1) 93 i0 _ 6 64 Try.underlying91 hi0 hz0 hz1 hz2 rfl (by omega) (.slice A9 ks.length c9) ks.length (bls ps v ks) (by rfl) ((hkin.out.below HB4.out).own.alloc _)
                    ⟨w4.heap.size, 0, none⟩ 1 1 [.int .i64 (u : Int), .int .i64 p.id, .int .i64 p.fr, .int .i64 p.to, .int .i64 p.sz, .slice A4 m4 c4] (by rfl) (by rfl) (World.news_of_block (cs := #[.int .i64 (u : Int), .int .i64 p.id, .int .i64 p.fr, .int .i64 p.to, .int .i64 p.sz, .slice A4 m4 c4]) (t := 93) (fr := (0, 0)) (heap_alloc_new w4 _)) (by simp [Value.oneCell'])
                    (by omega) (by simp only [maxLen]; omega) (by omega) (by simp; omega) (w4.heap.size + 1) (by simp) ?_
                  intro g5 c5 w5 hown5 hgrow hat hlt5
                  have hHeld2 := hHeld
                  refine hK.out _ _ (by rcases hHeld2 with ⟨q0, q1, q2, q3⟩; exact ⟨(hgrow.cell_far _ (by simp; omega) (fun e => hfar9 e.symm)).trans q0, (hgrow.cell_far _ (by simp; omega) (fun e => hfar9 e.symm)).trans q1, (hgrow.cell_far _ (by simp; omega) (fun e => hfar9 e.symm)).trans q2, (hgrow.cell_far _ (by simp; omega) (fun e => hfar9 e.symm)).trans q3⟩) (fun hHeld => ?_)
                  clear hK K hHeld2
                  have HW5 := Lib.hid (((hw7.out.kept (HB4.out.block _ hl2)).kept (((Below.refl w4.heap.size w4).alloc (Nat.le_refl _) (.cells #[.int .i64 (u : Int), .int .i64 p.id, .int .i64 p.fr, .int .i64 p.to, .int .i64 p.sz, .slice A4 m4 c4] 93)).block _ hl24)).kept (hgrow.block _ (by simp; omega) (fun e => hfar7 e.symm)))
                  have hz5 : w4.heap.size + 1 ≤ w5.heap.size := (by have := hgrow.size; simp at this; omega)
                  have v6 : w5.cell? ⟨w.heap.size + 1 + 1, 5, none⟩ = some (.slice A9 ks.length c9) := HW5.out.cell 5
                  have f6 : w5.frozen? ⟨w.heap.size + 1 + 1, 5, none⟩ = false := frozen_of_row w5 _ 5 _ _ HW5.out
                  refine wpAnyH_ready (rs := [10]) (by kernel_rfl) (by simp) ?_
                  refine AllReadyH.cons rfl (fun K hK => ?_) AllReadyH.nil
                  go_simp
                  refine hK.out _ _ (by first | assumption | go_keep) (fun hHeld => ?_)
                  clear hK K
                  refine wpAnyH_ready (rs := [11]) (by kernel_rfl) (by simp) ?_
                  refine AllReadyH.cons rfl (fun K hK => ?_) AllReadyH.nil
                  go_simp
                  have hHeld2 := hHeld
                  refine hK.out _ _ (by rcases hHeld2 with ⟨q0, q1, q2, q3⟩; exact ⟨((setCell_off w5 (w.heap.size + 1 + 1) 5 _).cell_far _ (by show wr.heap.size < w5.heap.size; omega) (by intro e; simp at e; omega)).trans q0, ((setCell_off w5 (w.heap.size + 1 + 1) 5 _).cell_far _ (by show wr.heap.size < w5.heap.size; omega) (by intro e; simp at e; omega)).trans q1, ((setCell_off w5 (w.heap.size + 1 + 1) 5 _).cell_far _ (by show wr.heap.size < w5.heap.size; omega) (by intro e; simp at e; omega)).trans q2, ((setCell_off w5 (w.heap.size + 1 + 1) 5 _).cell_far _ (by show wr.heap.size < w5.heap.size; omega) (by intro e; simp at e; omega)).trans q3⟩) (fun hHeld => ?_)
                  clear hK K hHeld2
                  refine wpAnyH_done (by kernel_rfl) ?_ _
                  have hH1 : (w4.alloc (.cells #[.int .i64 (u : Int), .int .i64 p.id, .int .i64 p.fr, .int .i64 p.to, .int .i64 p.sz, .slice A4 m4 c4] 93)).heap.size = w4.heap.size + 1 := (by simp)
                  have HBL := Lib.hid ((((HB4.out.mono (show w.heap.size + 1 + 1 ≤ wr.heap.size by omega)).alloc (by omega) (.cells #[.int .i64 (u : Int), .int .i64 p.id, .int .i64 p.fr, .int .i64 p.to, .int .i64 p.sz, .slice A4 m4 c4] 93)).grown hgrow (by rw [hH1]; omega) (fun g hg => by have := hvb g hg; omega)).setCell (p := ⟨w.heap.size + 1 + 1, 5, none⟩) (Nat.le_refl _) (.slice (some ⟨g5, 0, none⟩) (ks.length + 1) c5))
                  have HKN := Lib.hid ((KIn.push (B := w.heap.size + 1 + 1 + 1) (b0 := w3.heap.size) (k := (p, A4, c4)) ((hkin.out.below HB4.out).below ((Below.refl w4.heap.size w4).alloc (Nat.le_refl _) (.cells #[.int .i64 (u : Int), .int .i64 p.id, .int .i64 p.fr, .int .i64 p.to, .int .i64 p.sz, .slice A4 m4 c4] 93))) (by unfold bl6; simp only [HU.out, HM4.out]; exact hown5) hgrow (by rcases hat with h | h; exact .inl h.symm; exact .inr (by rw [hH1, h]; rfl)) (by simp only [HU.out]; exact HREP4.out.below ((Below.refl w4.heap.size w4).alloc (Nat.le_refl _) (.cells #[.int .i64 (u : Int), .int .i64 p.id, .int .i64 p.fr, .int .i64 p.to, .int .i64 p.sz, .slice A4 m4 c4] 93))) (by omega) (fun g hg => by have := hvb g hg; omega)).low (setCell_off w5 (w.heap.size + 1 + 1) 5 (.slice (some ⟨g5, 0, none⟩) (ks.length + 1) c5)) (by omega))
                  have hle : (ks ++ [((p, A4, c4) : Kd)]).length = ks.length + 1 := (by simp)
                  have HW6 := Lib.hid (HW5.out.set5 (.slice (some ⟨g5, 0, none⟩) (ks.length + 1) c5))
                  clear hgrow hown5 hat hH1
                  go_wp2_with fail
                  go_roundw
                  case rel => exact ⟨k + 1, some ⟨g5, 0, none⟩, c5, ks ++ [((p, A4, c4) : Kd)], by omega, by go_num, Lib.hid (by rw [HKS.out, ← hks.out]; simp), Lib.hid (by rw [hle]; exact HW6.out), Lib.hid (hw6.out.kept (HBL.out.block _ (by omega))), Lib.hid (hpc.out.kept (HBL.out.block _ (by omega))), Lib.hid (by rw [hle]; exact HKN.out), Lib.hid (hB.out.trans (HBL.out.mono (by omega))), Lib.hid (by have := hsz.out; simp; omega)⟩
                  case measure => simp [intOf]; omega
      · have hkk : k = R.length := by omega
        subst hkk
        have hlen : ks.length = (kidsL ps (v : Int) q).length := by
          have h1 := hks.out
          rw [HAL.out] at h1
          rw [← h1, List.length_map]
        have HREP := Lib.hid (hkin.out.done (q := q) (by rw [hks.out, HAL.out]))
        have HLEN := Lib.hid hlen
        have t0 : wr.cell? ⟨w.heap.size + 1 + 1, 0, none⟩ = some (.int .i64 (v : Int)) := hw7.out.cell 0
        have t1 : wr.cell? ⟨w.heap.size + 1 + 1, 1, none⟩ = some (.int .i64 q.id) := hw7.out.cell 1
        have t2 : wr.cell? ⟨w.heap.size + 1 + 1, 2, none⟩ = some (.int .i64 q.fr) := hw7.out.cell 2
        have t3 : wr.cell? ⟨w.heap.size + 1 + 1, 3, none⟩ = some (.int .i64 q.to) := hw7.out.cell 3
        have t4 : wr.cell? ⟨w.heap.size + 1 + 1, 4, none⟩ = some (.int .i64 q.sz) := hw7.out.cell 4
        have t5 : wr.cell? ⟨w.heap.size + 1 + 1, 5, none⟩ = some (.slice A9 ks.length c9) := hw7.out.cell 5
        clear hlen
        go_wp2_with ((with_reducible refine wpB_store rfl _ _ rfl rfl (w.heap.size + 1) rfl v q A9 ks.length c9 rfl 0 ⟨0, 0, 0, 0⟩ none 0 0 hw6.out ?_); intro w7 he7 hg7; refine Hid.out ?_)
        have s0 : w7.cell? ⟨w.heap.size + 1, 0, none⟩ = some (.int .i64 (v : Int)) := he7.cell 0
        have s1 : w7.cell? ⟨w.heap.size + 1, 1, none⟩ = some (.int .i64 q.id) := he7.cell 1
        have s2 : w7.cell? ⟨w.heap.size + 1, 2, none⟩ = some (.int .i64 q.fr) := he7.cell 2
        have s3 : w7.cell? ⟨w.heap.size + 1, 3, none⟩ = some (.int .i64 q.to) := he7.cell 3
        have s4 : w7.cell? ⟨w.heap.size + 1, 4, none⟩ = some (.int .i64 q.sz) := he7.cell 4
        have s5 : w7.cell? ⟨w.heap.size + 1, 5, none⟩ = some (.slice A9 ks.length c9) := he7.cell 5
        have HB7 := Lib.hid (hB.out.grown hg7 hB.out.size (fun g hg => by simp at hg; omega))
        have HR7 := Lib.hid (RepIn.kept (Q := fun b => w.heap.size ≤ b) (fun b h _ => (show w.heap.size ≤ b by have h' : w.heap.size + 1 + 1 + 1 ≤ b := h; omega)) (fun b' hp' hlt' => hg7.block b' hlt' (fun e => by have h' : w.heap.size + 1 + 1 + 1 ≤ b' := hp'; simp at e; omega)) hg7.size _ _ _ _ HREP.out)
        clear hg7 he7
        refine Lib.hid ?_
        go_wp2
        refine bodyPost_ret (v := .agg #[.int .i64 (v : Int), .int .i64 q.id, .int .i64 q.fr, .int .i64 q.to, .int .i64 q.sz, .slice A9 ks.length c9]) (by simp [results, Try.results158, go_sem, s0, s1, s2, s3, s4, s5]) rfl ⟨A9, c9, by rw [HLEN.out], HR7.out, HB7.out⟩
end Go.Proofs.Ytikppgbipdflbab.S2

namespace Go.Proofs.Ytikppgbipdflbab.S2
open Go.RowKit P2

set_option maxHeartbeats 2000000 in
set_option maxRecDepth 100000 in
theorem tf_node {n : Int} {ps : List Pp} {x : Int} (hv : nodeB n ps x = false) (A : Option Addr) (cap : Nat) (w : World) (h : PAt w A ps) (hm : ps.length ≤ maxLen) :
    Calls Try.prog 78 #[nv n A ps.length cap, .int .i64 x] w fun e w' => e = .returned (.tuple #[bv 0 ⟨0, 0, 0, 0⟩ none 0 0, .bool false]) ∧ Below w.heap.size w w' := by
  have HW0 := Lib.hid (show Below w.heap.size w ((w.alloc (nb n A ps.length cap)).alloc (.cells #[.int .i64 0, .int .i64 0, .int .i64 0, .int .i64 0, .int .i64 0, .slice none 0 0] 93)) from ((Below.refl _ _).alloc (Nat.le_refl _) _).alloc (by simp) _)
  have HB3 := Lib.hid (fun w1 (hb : Below ((w.alloc (nb n A ps.length cap)).alloc (.cells #[.int .i64 0, .int .i64 0, .int .i64 0, .int .i64 0, .int .i64 0, .slice none 0 0] 93)).heap.size ((w.alloc (nb n A ps.length cap)).alloc (.cells #[.int .i64 0, .int .i64 0, .int .i64 0, .int .i64 0, .int .i64 0, .slice none 0 0] 93)) w1) => (show Below (w.heap.size + 1) (w.alloc (nb n A ps.length cap)) w1 from ((Below.refl _ _).alloc (by simp) _).trans (hb.mono (by simp))))
  have HR0 := Lib.hid (show WRow ((w.alloc (nb n A ps.length cap)).alloc (.cells #[.int .i64 0, .int .i64 0, .int .i64 0, .int .i64 0, .int .i64 0, .slice none 0 0] 93)) (w.heap.size + 1) (bcs 0 ⟨0, 0, 0, 0⟩ (.slice none 0 0)) from by
    have e : w.heap.size + 1 = (w.alloc (nb n A ps.length cap)).heap.size := by simp
    unfold WRow
    rw [e]
    exact heap_alloc_new _ _)
  have H := Lib.hid (fun w' (hb : Below w.heap.size w w') => node_v hv A cap w' (h.kept hb (Nat.le_refl _)) hm)
  clear h hv
  go_enter Try.func78, Try.ntmps78
  go_wp2_with (first
    | (go_at_call 94; refine (H.out _ HW0.out).mono ?_; rintro e w1 ⟨rfl, hb1⟩; have HB1 := Lib.hid (HB3.out _ hb1); have HT1 := Lib.hid (HR0.out.kept (hb1.block _ (by simp))); obtain ⟨b0, b1⟩ := box2 HB1.out; have hz1 := HT1.out.lt; have hy1 : w.heap.size < w1.heap.size := (by omega); clear hb1)
    | ((with_reducible refine wpB_store rfl _ _ rfl rfl (w.heap.size + 1) rfl 0 ⟨0, 0, 0, 0⟩ none 0 0 rfl 0 ⟨0, 0, 0, 0⟩ none 0 0 HT1.out ?_); intro w7 he7 hg7; refine Hid.out ?_))
  have s0 : w7.cell? ⟨w.heap.size + 1, 0, none⟩ = some (.int .i64 0) := he7.cell 0
  have s1 : w7.cell? ⟨w.heap.size + 1, 1, none⟩ = some (.int .i64 0) := he7.cell 1
  have s2 : w7.cell? ⟨w.heap.size + 1, 2, none⟩ = some (.int .i64 0) := he7.cell 2
  have s3 : w7.cell? ⟨w.heap.size + 1, 3, none⟩ = some (.int .i64 0) := he7.cell 3
  have s4 : w7.cell? ⟨w.heap.size + 1, 4, none⟩ = some (.int .i64 0) := he7.cell 4
  have s5 : w7.cell? ⟨w.heap.size + 1, 5, none⟩ = some (.slice none 0 0) := he7.cell 5
  have HB7 := Lib.hid ((below_box HB1.out).grown hg7 (below_box HB1.out).size (fun g hg => by simp at hg; omega))
  clear hg7 he7
  refine Lib.hid ?_
  go_wp2
  exact bodyPost_ret (v := .tuple #[.agg #[.int .i64 0, .int .i64 0, .int .i64 0, .int .i64 0, .int .i64 0, .slice none 0 0], .bool false]) (by simp [results, Try.results78, go_sem, s0, s1, s2, s3, s4, s5]) rfl ⟨rfl, HB7.out⟩

set_option maxHeartbeats 2000000 in
set_option maxRecDepth 100000 in
theorem tf_tree {N : Nat} {ps : List Pp} {x : Int} (hv : nodeB N ps x = true) (ht : treeB N ps = false) (A : Option Addr) (cap : Nat) (w : World) (h : PAt w A ps) (hm : ps.length ≤ maxLen) :
    Calls Try.prog 78 #[nv N A ps.length cap, .int .i64 x] w fun e w' => e = .returned (.tuple #[bv 0 ⟨0, 0, 0, 0⟩ none 0 0, .bool false]) ∧ Below w.heap.size w w' := by
  have HW0 := Lib.hid (show Below w.heap.size w ((w.alloc (nb N A ps.length cap)).alloc (.cells #[.int .i64 0, .int .i64 0, .int .i64 0, .int .i64 0, .int .i64 0, .slice none 0 0] 93)) from ((Below.refl _ _).alloc (Nat.le_refl _) _).alloc (by simp) _)
  have HB3 := Lib.hid (fun w1 (hb : Below ((w.alloc (nb N A ps.length cap)).alloc (.cells #[.int .i64 0, .int .i64 0, .int .i64 0, .int .i64 0, .int .i64 0, .slice none 0 0] 93)).heap.size ((w.alloc (nb N A ps.length cap)).alloc (.cells #[.int .i64 0, .int .i64 0, .int .i64 0, .int .i64 0, .int .i64 0, .slice none 0 0] 93)) w1) => (show Below (w.heap.size + 1) (w.alloc (nb N A ps.length cap)) w1 from ((Below.refl _ _).alloc (by simp) _).trans (hb.mono (by simp))))
  have HR0 := Lib.hid (show WRow ((w.alloc (nb N A ps.length cap)).alloc (.cells #[.int .i64 0, .int .i64 0, .int .i64 0, .int .i64 0, .int .i64 0, .slice none 0 0] 93)) (w.heap.size + 1) (bcs 0 ⟨0, 0, 0, 0⟩ (.slice none 0 0)) from by
    have e : w.heap.size + 1 = (w.alloc (nb N A ps.length cap)).heap.size := by simp
    unfold WRow
    rw [e]
    exact heap_alloc_new _ _)
  have hg := (nodeB_of hv).1
  have H := Lib.hid (fun w' (hb : Below w.heap.size w w') => node_v hv A cap w' (h.kept hb (Nat.le_refl _)) hm)
  have H2 := Lib.hid (fun w' (hb : Below w.heap.size w w') => (ht ▸ istree_any N A cap ps w' (h.kept hb (Nat.le_refl _)) hg : Calls Try.prog 88 #[nv N A ps.length cap] w' fun e w'' => e = .returned (.bool false) ∧ Below w'.heap.size w' w''))
  clear h hv ht hg
  go_enter Try.func78, Try.ntmps78
  go_wp2_with (first
    | (go_at_call 94; refine (H.out _ HW0.out).mono ?_; rintro e w1 ⟨rfl, hb1⟩; have HB1 := Lib.hid (HB3.out _ hb1); have HT1 := Lib.hid (HR0.out.kept (hb1.block _ (by simp))); obtain ⟨b0, b1⟩ := box2 HB1.out; have hz1 := HT1.out.lt; have hy1 : w.heap.size < w1.heap.size := (by omega); clear hb1)
    | (go_at_call 88; refine (H2.out _ (below_box HB1.out)).mono ?_; rintro e w2 ⟨rfl, hb2⟩; have HB2 := Lib.hid (on_call HB1.out hb2); have HT2 := Lib.hid (HT1.out.kept (hb2.block _ hz1)); clear b0 b1; obtain ⟨b0, b1⟩ := box2 HB2.out; have hz2 := HT2.out.lt; have hy2 : w.heap.size < w2.heap.size := (by omega))
    | ((with_reducible refine wpB_store rfl _ _ rfl rfl (w.heap.size + 1) rfl 0 ⟨0, 0, 0, 0⟩ none 0 0 rfl 0 ⟨0, 0, 0, 0⟩ none 0 0 HT2.out ?_); intro w7 he7 hg7; refine Hid.out ?_))
  have s0 : w7.cell? ⟨w.heap.size + 1, 0, none⟩ = some (.int .i64 0) := he7.cell 0
  have s1 : w7.cell? ⟨w.heap.size + 1, 1, none⟩ = some (.int .i64 0) := he7.cell 1
  have s2 : w7.cell? ⟨w.heap.size + 1, 2, none⟩ = some (.int .i64 0) := he7.cell 2
  have s3 : w7.cell? ⟨w.heap.size + 1, 3, none⟩ = some (.int .i64 0) := he7.cell 3
  have s4 : w7.cell? ⟨w.heap.size + 1, 4, none⟩ = some (.int .i64 0) := he7.cell 4
  have s5 : w7.cell? ⟨w.heap.size + 1, 5, none⟩ = some (.slice none 0 0) := he7.cell 5
  have HB7 := Lib.hid ((below_box HB2.out).grown hg7 (below_box HB2.out).size (fun g hg => by simp at hg; omega))
  clear hg7 he7
  refine Lib.hid ?_
  go_wp2
  exact bodyPost_ret (v := .tuple #[.agg #[.int .i64 0, .int .i64 0, .int .i64 0, .int .i64 0, .int .i64 0, .slice none 0 0], .bool false]) (by simp [results, Try.results78, go_sem, s0, s1, s2, s3, s4, s5]) rfl ⟨rfl, HB7.out⟩

theorem bk_rows {w : World} {lo G N : Nat} {ps : List Pp} (h : ByNode w lo G (N + 1) ps) : Rows w G N ps := by
  obtain ⟨vs, B, _, hbk⟩ := h
  refine ⟨hbk.row.lt, fun v hv => ?_⟩
  have ho := hbk.own v (by omega)
  have hc := hbk.row.cell (i := v) (by omega)
  rcases Nat.eq_zero_or_pos (rowOf ps v).length with h0 | h0
  · rcases ho.2 with ⟨hn, _⟩ | ⟨g, cap, cur, hn, _⟩
    · exact ⟨none, 0, by rw [hc, hn, h0], .inl (List.length_eq_zero_iff.1 h0)⟩
    · exact ⟨some ⟨g, 0, none⟩, cap, by rw [hc, hn], .inl (List.length_eq_zero_iff.1 h0)⟩
  · obtain ⟨g, cap, hn, _, _⟩ := ho.form h0
    exact ⟨some ⟨g, 0, none⟩, cap, by rw [hc, hn], own_pat (by rw [← hn]; exact ho)⟩

/-- A tree as it lies there. -/
def TfIs (N : Nat) (ps : List Pp) (t : Nat) (w : World) (e : Ending) (w' : World) : Prop :=
  ∃ A c, e = .returned (.tuple #[bv t ⟨0, 0, 0, 0⟩ A (kidsL ps t ⟨0, 0, 0, 0⟩).length c, .bool true]) ∧ RepIn ps (fun b => w.heap.size ≤ b) (N + 1) w' A t ⟨0, 0, 0, 0⟩ ∧ Below w.heap.size w w'
theorem br_root {N : Nat} {ps : List Pp} (hg : P2.Good N ps) {t : Nat} (h1 : 1 ≤ t) (h2 : t ≤ N) : BrOk N ps t ⟨0, 0, 0, 0⟩ :=
  ⟨by omega, by omega, .inr fun h => by have := (good_pp hg h).1; simp at this⟩

set_option maxHeartbeats 2000000 in
set_option maxRecDepth 100000 in
theorem tf_ok {N t : Nat} {ps : List Pp} (hv : nodeB N ps t = true) (ht : treeB N ps = true) (ha : Acy ps) (A : Option Addr) (cap : Nat) (w : World) (h : PAt w A ps) (hm : ps.length ≤ maxLen) :
    Calls Try.prog 78 #[nv N A ps.length cap, .int .i64 (t : Int)] w (TfIs N ps t w) := by
  have HW0 := Lib.hid (show Below w.heap.size w ((w.alloc (nb N A ps.length cap)).alloc (.cells #[.int .i64 0, .int .i64 0, .int .i64 0, .int .i64 0, .int .i64 0, .slice none 0 0] 93)) from ((Below.refl _ _).alloc (Nat.le_refl _) _).alloc (by simp) _)
  have HB3 := Lib.hid (fun w1 (hb : Below ((w.alloc (nb N A ps.length cap)).alloc (.cells #[.int .i64 0, .int .i64 0, .int .i64 0, .int .i64 0, .int .i64 0, .slice none 0 0] 93)).heap.size ((w.alloc (nb N A ps.length cap)).alloc (.cells #[.int .i64 0, .int .i64 0, .int .i64 0, .int .i64 0, .int .i64 0, .slice none 0 0] 93)) w1) => (show Below (w.heap.size + 1) (w.alloc (nb N A ps.length cap)) w1 from ((Below.refl _ _).alloc (by simp) _).trans (hb.mono (by simp))))
  have HR0 := Lib.hid (show WRow ((w.alloc (nb N A ps.length cap)).alloc (.cells #[.int .i64 0, .int .i64 0, .int .i64 0, .int .i64 0, .int .i64 0, .slice none 0 0] 93)) (w.heap.size + 1) (bcs 0 ⟨0, 0, 0, 0⟩ (.slice none 0 0)) from by
    have e : w.heap.size + 1 = (w.alloc (nb N A ps.length cap)).heap.size := by simp
    unfold WRow
    rw [e]
    exact heap_alloc_new _ _)
  obtain ⟨hg, ht1, ht2⟩ := nodeB_of hv
  have H := Lib.hid (fun w' (hb : Below w.heap.size w w') => node_v hv A cap w' (h.kept hb (Nat.le_refl _)) hm)
  have H2 := Lib.hid (fun w' (hb : Below w.heap.size w w') => (ht ▸ istree_any N A cap ps w' (h.kept hb (Nat.le_refl _)) hg : Calls Try.prog 88 #[nv N A ps.length cap] w' fun e w'' => e = .returned (.bool true) ∧ Below w'.heap.size w' w''))
  have H3 := Lib.hid (fun w' (hb : Below w.heap.size w w') => bynode_any N A cap ps w' (h.kept hb (Nat.le_refl _)) hg)
  have H4 := Lib.hid (fun w' G (hr : Rows w' G N ps) => bat_any hg ha G (N + 1) (N + 1) t ⟨0, 0, 0, 0⟩ w' hr (br_root hg (by omega) (by omega)) (cnt_le _ _ _ _))
  clear h hv ht hg ha
  go_enter Try.func78, Try.ntmps78
  go_wp2_with (first
    | (go_at_call 94; refine (H.out _ HW0.out).mono ?_; rintro e w1 ⟨rfl, hb1⟩; have HB1 := Lib.hid (HB3.out _ hb1); have HT1 := Lib.hid (HR0.out.kept (hb1.block _ (by simp))); obtain ⟨b0, b1⟩ := box2 HB1.out; have hz1 := HT1.out.lt; have hy1 : w.heap.size < w1.heap.size := (by omega); clear hb1)
    | (go_at_call 88; refine (H2.out _ (below_box HB1.out)).mono ?_; rintro e w2 ⟨rfl, hb2⟩; have HB2 := Lib.hid (on_call HB1.out hb2); have HT2 := Lib.hid (HT1.out.kept (hb2.block _ hz1)); clear b0 b1; obtain ⟨b0, b1⟩ := box2 HB2.out; have hz2 := HT2.out.lt; have hy2 : w.heap.size < w2.heap.size := (by omega))
    | (go_at_call 159; refine (H3.out _ (below_box HB2.out)).mono ?_; rintro e w3 ⟨⟨G, rfl, hbk⟩, hb3⟩; have HB3' := Lib.hid (on_call HB2.out hb3); have HT3 := Lib.hid (HT2.out.kept (hb3.block _ hz2)); clear b0 b1; obtain ⟨b0, b1⟩ := box2 HB3'.out; have hz3 := HT3.out.lt; have hy3 : w.heap.size < w3.heap.size := (by omega); have HRW := Lib.hid (bk_rows hbk); clear hbk)
    | (go_at_call 158; refine (H4.out _ G HRW.out).mono ?_; rintro e w4 ⟨A4, c4, rfl, hrep4, hb4⟩; have HB4 := Lib.hid (on_call HB3'.out hb4); have HT4 := Lib.hid (HT3.out.kept (hb4.block _ hz3)); have hz4 := HT4.out.lt; have hsz3 := Lib.hid (below_box HB3'.out).size; have HREP := Lib.hid hrep4; clear hrep4 hb4; obtain ⟨m4, hm4⟩ : ∃ m4, (kidsL ps (t : Int) ⟨0, 0, 0, 0⟩).length = m4 := ⟨_, rfl⟩; have HM4 := Lib.hid hm4; rw [hm4]; clear hm4)
    | ((with_reducible refine wpB_store rfl _ _ rfl rfl (w.heap.size + 1) rfl t ⟨0, 0, 0, 0⟩ A4 m4 c4 rfl 0 ⟨0, 0, 0, 0⟩ none 0 0 HT4.out ?_); intro w7 he7 hg7; refine Hid.out ?_))
  have s0 : w7.cell? ⟨w.heap.size + 1, 0, none⟩ = some (.int .i64 (t : Int)) := he7.cell 0
  have s1 : w7.cell? ⟨w.heap.size + 1, 1, none⟩ = some (.int .i64 0) := he7.cell 1
  have s2 : w7.cell? ⟨w.heap.size + 1, 2, none⟩ = some (.int .i64 0) := he7.cell 2
  have s3 : w7.cell? ⟨w.heap.size + 1, 3, none⟩ = some (.int .i64 0) := he7.cell 3
  have s4 : w7.cell? ⟨w.heap.size + 1, 4, none⟩ = some (.int .i64 0) := he7.cell 4
  have s5 : w7.cell? ⟨w.heap.size + 1, 5, none⟩ = some (.slice A4 m4 c4) := he7.cell 5
  have HB7 := Lib.hid ((below_box HB4.out).grown hg7 (below_box HB4.out).size (fun g hg => by simp at hg; omega))
  have HR7 := Lib.hid (RepIn.kept (Q := fun b => w.heap.size ≤ b) (fun b h _ => (show w.heap.size ≤ b by have h' : w3.heap.size ≤ b := h; omega)) (fun b' hp' hlt' => hg7.block b' hlt' (fun e => by have h' : w3.heap.size ≤ b' := hp'; simp at e; omega)) hg7.size _ _ _ _ HREP.out)
  clear hg7 he7
  refine Lib.hid ?_
  go_wp2
  exact bodyPost_ret (v := .tuple #[.agg #[.int .i64 (t : Int), .int .i64 0, .int .i64 0, .int .i64 0, .int .i64 0, .slice A4 m4 c4], .bool true]) (by simp [results, Try.results78, go_sem, s0, s1, s2, s3, s4, s5]) rfl ⟨A4, c4, by rw [HM4.out], HR7.out, HB7.out⟩
end Go.Proofs.Ytikppgbipdflbab.S2

namespace Go.Proofs.Ytikppgbipdflbab.S2
open Go.RowKit P2

theorem fiI_at0 (l : List Int) (k : Nat) (h : k < l.length) : (fiI l k)[k]? = some (iv 0) := by
  unfold fiI
  have e : ((l.take k).map iv).length = k := by simp; omega
  rw [List.getElem?_append_right (by omega), e, Nat.sub_self, List.getElem?_replicate, if_pos (by omega)]
theorem fiI_set0 (l : List Int) (k : Nat) (h : k < l.length) : (fiI l k).set k (iv 0) = fiI l k := by
  apply List.ext_getElem?
  intro i
  rw [List.getElem?_set]
  by_cases e : k = i
  · subst e
    rw [if_pos rfl, fiI_at0 l k h, if_pos (by rw [fiI_len l k (by omega)]; exact h)]
  · rw [if_neg e]
theorem grown_drewF (w : World) (row : Option Nat) : w.grownBy w.drew row := ⟨rfl, rfl, rfl, Nat.le_refl _, fun _ _ _ => rfl⟩
abbrev q00 : Pp := ⟨0, 0, 0, 0⟩

/-- A fresh slice of numbers that has no room for more, beside true. -/
def GivesC (w : World) (l : List Int) (e : Ending) (w' : World) : Prop :=
  ∃ g, e = .returned (.tuple #[.slice (some ⟨g, 0, none⟩) l.length l.length, .bool true]) ∧ w.heap.size ≤ g ∧ IOwn w' w.heap.size (.slice (some ⟨g, 0, none⟩) l.length l.length) l ∧ Below w.heap.size w w'

set_option maxHeartbeats 1000000 in
theorem tfl_no1 (n : Int) (A : Option Addr) (cap : Nat) (ps : List Pp) (x : Int) (AD : Option Addr) (dc : Nat) (dm : List Int) (w : World) (hT : ∀ w', Below w.heap.size w w' → Calls Try.prog 78 #[nv n A ps.length cap, .int .i64 x] w' fun e w'' => e = .returned (.tuple #[bv 0 ⟨0, 0, 0, 0⟩ none 0 0, .bool false]) ∧ Below w'.heap.size w' w'') :
    Calls Try.prog 11 #[nv n A ps.length cap, .int .i64 x, .slice AD dm.length dc] w (GivesI w [] false) := by
  have H := Lib.hid hT
  clear hT
  go_enter Try.func11, Try.ntmps11
  go_wp2_with (go_at_call 78; refine (H.out _ ((Below.refl _ _).alloc (Nat.le_refl _) _)).mono ?_; rintro e w1 ⟨rfl, hb1⟩; have hB1 := Lib.hid (((Below.refl w.heap.size w).alloc (Nat.le_refl _) (nb n A ps.length cap)).trans (hb1.mono (by simp))); clear hb1)
  go_ret2
  have h9 := gives_none (hB1.out.alloc hB1.out.size (.cells #[.int .i64 0, .int .i64 0, .int .i64 0, .int .i64 0, .int .i64 0, .slice none 0 0] 93))
  rw [show (w1.alloc (.cells #[.int .i64 0, .int .i64 0, .int .i64 0, .int .i64 0, .int .i64 0, .slice none 0 0] 93)).heap.size = w1.heap.size + 1 from by simp] at h9
  exact h9
set_option maxHeartbeats 2000000 in
set_option maxRecDepth 100000 in
theorem tfl_no2 (N t : Nat) (A : Option Addr) (cap : Nat) (ps : List Pp) (AD : Option Addr) (dc : Nat) (dm : List Int) (w : World) (h : PAt w A ps) (hm : ps.length ≤ maxLen) (hd : IAt w AD dm) (hdl : dm.length ≤ 1048576) (hv : demB N ps dm = false) (hT : ∀ w', Below w.heap.size w w' → Calls Try.prog 78 #[nv N A ps.length cap, .int .i64 (t : Int)] w' (TfIs N ps t w')) :
    Calls Try.prog 11 #[nv N A ps.length cap, .int .i64 (t : Int), .slice AD dm.length dc] w (GivesI w [] false) := by
  have H := Lib.hid hT
  have H2 := Lib.hid (fun w' (hb : Below w.heap.size w w') => dem_v hv A cap AD dc w' (h.kept hb (Nat.le_refl _)) hm (hd.kept hb (Nat.le_refl _)) hdl)
  clear hT h hd hv
  go_enter Try.func11, Try.ntmps11
  go_wp2_with (first
    | (go_at_call 78; refine (H.out _ ((Below.refl _ _).alloc (Nat.le_refl _) _)).mono ?_; rintro e w1 ⟨A4, c4, rfl, hrep, hb1⟩; have HB1 := Lib.hid (show Below (w.heap.size + 1) (w.alloc (nb N A ps.length cap)) w1 from by simpa using hb1); clear hb1 hrep; obtain ⟨b0, b1⟩ := box2 HB1.out; have hy1 : w.heap.size < w1.heap.size := box_lt HB1.out; generalize (kidsL ps (t : Int) ⟨0, 0, 0, 0⟩).length = m4)
    | (go_at_call 79; refine (H2.out _ ((below_box HB1.out).alloc (below_box HB1.out).size _)).mono ?_; rintro e w2 ⟨rfl, hb2⟩; have HB2 := Lib.hid (((below_box HB1.out).alloc (below_box HB1.out).size (.cells #[.int .i64 (t : Int), .int .i64 0, .int .i64 0, .int .i64 0, .int .i64 0, .slice A4 m4 c4] 93)).trans (hb2.mono (by have := (below_box HB1.out).size; simp; omega)))))
  go_ret2
  exact gives_none HB2.out

set_option maxHeartbeats 4000000 in
set_option maxRecDepth 100000 in
theorem tfl_cap (N t : Nat) (A : Option Addr) (cap : Nat) (ps : List Pp) (AD : Option Addr) (dc : Nat) (dm : List Int) (w : World) (h : PAt w A ps) (hm : ps.length ≤ maxLen) (hd : IAt w AD dm) (hdl : dm.length ≤ 1048576) (hn : nodeB N ps t = true) (ht : treeB N ps = true) (hv : demB N ps dm = true) :
    Calls Try.prog 11 #[nv N A ps.length cap, .int .i64 (t : Int), .slice AD dm.length dc] w (GivesC w (tfL N ps t dm)) := by
  obtain ⟨hg, hdn, hr⟩ := demB_of hv
  obtain ⟨_, ht1, ht2⟩ := nodeB_of hn
  have hl10 := hg.2.2.1
  have hN8 := hg.2.1
  have ha := (tree_full hg ht).1
  have H := Lib.hid (fun w' (hb : Below w.heap.size w w') => tf_ok hn ht ha A cap w' (h.kept hb (Nat.le_refl _)) hm)
  have H2 := Lib.hid (fun w' (hb : Below w.heap.size w w') => dem_v hv A cap AD dc w' (h.kept hb (Nat.le_refl _)) hm (hd.kept hb (Nat.le_refl _)) hdl)
  have HA := Lib.hid (fun w' (hb : Below w.heap.size w w') => h.kept hb (Nat.le_refl _))
  have HI := Lib.hid (fun w' (hb : Below w.heap.size w w') => hd.kept hb (Nat.le_refl _))
  have HFE := Lib.hid (fun k (hk : k < ps.length) => far_end (t := t) hg ht (by omega) (by omega) (pAt_mem hk))
  have HBB := Lib.hid (fun (B : Nat) (p0 : Pp) (A : Option Addr) (cap : Nat) (w : World) (hB : B ≤ w.heap.size) (hr : RepIn ps (fun b => b < B) (N + 1) w A t ⟨0, 0, 0, 0⟩) => bbeh_any (fun b => b < B) B (fun _ h => h) hg ha p0 (N + 1) t ⟨0, 0, 0, 0⟩ A cap w hB (br_root hg (by omega) (by omega)) (cnt_le _ _ _ _) hr)
  have HBN := Lib.hid (fun (B d : Nat) (x : Int) (q : Pp) (A : Option Addr) (cap : Nat) (w : World) => bnodes_any ps (fun b => b < B) hl10 d x q A cap w)
  have HTK := Lib.hid (fun (l : List Int) (hmm : ∀ v, v ∈ l → 1 ≤ v ∧ v ≤ (N : Int)) (hl : l.length ≤ 8) k (hk : k ≤ l.length) => sumT_in hr (by omega) hmm hl hk)
  have HTI := Lib.hid (fun v (h1 : 1 ≤ v) (h2 : v ≤ (N : Int)) => tk_in hr (by omega) h1 h2)
  have HLL := Lib.hid (tfL_len N ps t dm)
  have HLA := Lib.hid (fun k (hk : k < ps.length) => tfL_at (N := N) (s := t) (dm := dm) hk)
  have HDL := Lib.hid hdn
  have hmk := run_make_row' (P := Try.prog) 27 3 (.int .i64 0) 8 Try.underlying27 infoI rfl .i64 .i64 ps.length (by omega) (by omega)
  have HO := Lib.hid (fun w => made_own (tfL N ps t dm) w (by rw [tfL_len]; omega))
  have HF := Lib.hid (fiI_full (tfL N ps t dm))
  have HFS := Lib.hid (fun k (hk : k < ps.length) => fiI_set (tfL N ps t dm) k (by rw [tfL_len]; exact hk))
  have HF0 := Lib.hid (fun k (hk : k < ps.length) => fiI_set0 (tfL N ps t dm) k (by rw [tfL_len]; exact hk))
  have HFL := Lib.hid (fun k (hk : k ≤ ps.length) => fiI_len (tfL N ps t dm) k (by rw [tfL_len]; exact hk))
  rw [HLL.out] at HO HF HFL
  clear h hm hd hdl hn ht hv hr ha hg hdn
  go_enter Try.func11, Try.ntmps11
  go_wp2_with (first
    | (go_at_call 78; refine (H.out _ ((Below.refl _ _).alloc (Nat.le_refl _) _)).mono ?_; rintro e w1 ⟨A4, c4, rfl, hrep, hb1⟩; have HB1 := Lib.hid (show Below (w.heap.size + 1) (w.alloc (nb N A ps.length cap)) w1 from by simpa using hb1); have HREP1 := Lib.hid hrep; clear hb1 hrep; obtain ⟨b0, b1⟩ := box2 HB1.out; have hy1 : w.heap.size < w1.heap.size := box_lt HB1.out; obtain ⟨m4, hm4⟩ : ∃ m4, (kidsL ps (t : Int) ⟨0, 0, 0, 0⟩).length = m4 := ⟨_, rfl⟩; rw [hm4] at HBB; have HM4 := Lib.hid hm4; rw [hm4]; clear hm4)
    | (go_at_call 79; refine (H2.out _ ((below_box HB1.out).alloc (below_box HB1.out).size _)).mono ?_; rintro e w2 ⟨rfl, hb2⟩; refine Hid.out ?_))
  have hab1 := alloc_belowE w1 (.cells #[.int .i64 (t : Int), .int .i64 0, .int .i64 0, .int .i64 0, .int .i64 0, .slice A4 m4 c4] 93)
  have hb12 : Below w1.heap.size w1 w2 := hab1.trans (hb2.mono (by simp))
  have HX2 := Lib.hid (on_call HB1.out hb12)
  have HB2 := Lib.hid (below_box HX2.out)
  have hz12 : w1.heap.size < w2.heap.size := by have := hb2.size; simp at this; omega
  have HT2 : Hid (BC w2 w1.heap.size 0 t ⟨0, 0, 0, 0⟩ (.slice A4 m4 c4)) := Lib.hid (by
    have hz : w1.heap.size < (w1.alloc (.cells #[.int .i64 (t : Int), .int .i64 0, .int .i64 0, .int .i64 0, .int .i64 0, .slice A4 m4 c4] 93)).heap.size := by simp
    exact ⟨(hb2.cell (p := ⟨w1.heap.size, 0, none⟩) hz).trans (cells_new6 w1 _ _ _ _ _ _ _ 0 _ rfl), (hb2.cell (p := ⟨w1.heap.size, 1, none⟩) hz).trans (cells_new6 w1 _ _ _ _ _ _ _ 1 _ rfl), (hb2.cell (p := ⟨w1.heap.size, 2, none⟩) hz).trans (cells_new6 w1 _ _ _ _ _ _ _ 2 _ rfl), (hb2.cell (p := ⟨w1.heap.size, 3, none⟩) hz).trans (cells_new6 w1 _ _ _ _ _ _ _ 3 _ rfl), (hb2.cell (p := ⟨w1.heap.size, 4, none⟩) hz).trans (cells_new6 w1 _ _ _ _ _ _ _ 4 _ rfl), (hb2.cell (p := ⟨w1.heap.size, 5, none⟩) hz).trans (cells_new6 w1 _ _ _ _ _ _ _ 5 _ rfl)⟩)
  have HREP2 := Lib.hid (RepIn.kept (Q := fun b => b < w2.heap.size) (fun b _ hlt => (show b < w2.heap.size by omega)) (fun b _ hlt => hb12.block b hlt) hb12.size _ _ _ _ HREP1.out)
  have HO2 := Lib.hid (HO.out w2)
  clear b0 b1
  obtain ⟨b0, b1⟩ := box2 HX2.out
  have hy2 := box_lt HX2.out
  clear hab1 hb12 hb2 HB1 HREP1 H H2 HO
  refine Lib.hid ?_
  go_wp2
  clear hmk
  have HB0 := Lib.hid (show Below w2.heap.size w2 (w2.alloc (.cells (madeCells #[.int .i64 0] ps.length) 3)) from (Below.refl _ _).alloc (Nat.le_refl _) _)
  go_loopw [39] (fun i wr => ∃ k : Nat, k ≤ ps.length ∧ i = .int .i64 k ∧ Hid (wr.ownsRow w2.heap.size 3 1 (.slice (some ⟨w2.heap.size, 0, none⟩) ps.length ps.length) ps.length (fiI (tfL N ps t dm) k)) ∧ Hid (Below w2.heap.size w2 wr)) (fun i _ => ps.length - (intOf i).toNat)
  case atStart => exact ⟨0, Nat.zero_le _, rfl, HO2, HB0⟩
  case round =>
    clear HB0 HO2
    obtain ⟨k, hk, rfl, hown, hB⟩ := hrel
    by_cases hlt : k < ps.length
    · obtain ⟨b, off, hA, hbl, p0, p1, p2, p3⟩ := (HA.out _ (HB2.out.trans (hB.out.mono HB2.out.size))).at_ hlt
      subst hA
      have hk0 : (0 : Int) ≤ (k : Int) := by omega
      have hkn : (k : Int) < (ps.length : Int) := by omega
      obtain ⟨y, hfy, hy12, hyb, hys, hyp⟩ := HFE.out k hlt
      have HFA := Lib.hid (HLA.out k hlt)
      have HS0 := Lib.hid (HFS.out k hlt)
      have HZ0 := Lib.hid (HF0.out k hlt)
      rw [HFA.out] at HS0
      have HFLO := Lib.hid (show ((pAt ps k).fr = y → flowA N ps t dm k = -(sumG (tk dm) (dnL N ps (pAt ps k) t))) ∧ (¬ (pAt ps k).fr = y → flowA N ps t dm k = sumG (tk dm) (dnL N ps (pAt ps k) t)) from ⟨fun e => by unfold flowA; rw [if_pos (hys.2 e)], fun e => by unfold flowA; rw [if_neg (fun h => e (hys.1 h))]⟩)
      have HYP := Lib.hid hyp
      have HFY := Lib.hid hfy
      have HDM := Lib.hid (fun v (h : v ∈ dnL N ps (pAt ps k) t) => (dn_mem.1 h).1)
      have HDN := Lib.hid (dn_len N ps (pAt ps k) t)
      have hrow := (hown.out.lt w2.heap.size rfl).2
      clear hfy hyb hys hyp hy12 HFA HFE HLA HFS HF0
      generalize flowA N ps t dm k = F at *
      generalize pAt ps k = p at *
      have hab := alloc_belowE wr (.cells #[.int .i64 p.id, .int .i64 p.fr, .int .i64 p.to, .int .i64 p.sz] 40)
      have hO2 := Lib.hid (own_on hown.out hab)
      have hBa := Lib.hid (hB.out.trans (hab.mono hB.out.size))
      have d0 := cells4 wr (.int .i64 p.id) (.int .i64 p.fr) (.int .i64 p.to) (.int .i64 p.sz) 40 0 _ rfl
      have d1 := cells4 wr (.int .i64 p.id) (.int .i64 p.fr) (.int .i64 p.to) (.int .i64 p.sz) 40 1 _ rfl
      have d2 := cells4 wr (.int .i64 p.id) (.int .i64 p.fr) (.int .i64 p.to) (.int .i64 p.sz) 40 2 _ rfl
      have d3 := cells4 wr (.int .i64 p.id) (.int .i64 p.fr) (.int .i64 p.to) (.int .i64 p.sz) 40 3 _ rfl
      have hzz : wr.heap.size < (wr.alloc (.cells #[.int .i64 p.id, .int .i64 p.fr, .int .i64 p.to, .int .i64 p.sz] 40)).heap.size := by simp
      have hz2r := hB.out.size
      obtain ⟨t0, t1, t2, t3, t4, t5⟩ := HT2.out.kept (hBa.out.block w1.heap.size hz12)
      have htz : w1.heap.size < (wr.alloc (.cells #[.int .i64 p.id, .int .i64 p.fr, .int .i64 p.to, .int .i64 p.sz] 40)).heap.size := by omega
      have HRP := Lib.hid (HREP2.out.below hBa.out)
      go_wp2_with (first
        | (go_at_call 80; refine (HBB.out w2.heap.size p A4 c4 _ (by simp; omega) HRP.out).mono ?_; rintro e w5 ⟨hbe, hb5⟩; rw [HFY.out] at hbe; obtain ⟨A5, c5, d5, rfl, hbo, hcd, hrep5⟩ := beh_some hbe; obtain ⟨m5, hm5⟩ : ∃ m5, (kidsL ps y p).length = m5 := ⟨_, rfl⟩; have HBN5 := Lib.hid (HBN.out w2.heap.size d5 y p A5 c5); rw [hm5] at HBN5; rw [hm5]; clear hm5; refine Hid.out ?_))
      have hperm := HYP.out d5 hbo hcd
      obtain ⟨l, hl⟩ : ∃ l, nodesL ps d5 y p = l := ⟨_, rfl⟩
      rw [hl] at hperm HBN5
      have hl8 : l.length ≤ 8 := by rw [hperm.length_eq]; have := HDN.out; omega
      have hlm : ∀ v, v ∈ l → 1 ≤ v ∧ v ≤ (N : Int) := fun v hv => HDM.out v (hperm.mem_iff.1 hv)
      have HLM := Lib.hid (fun j (hj : j < l.length) => (show 1 ≤ lA l j ∧ lA l j ≤ (N : Int) from hlm _ (by
        have e : lA l j = l[j] := by simp [lA, List.getD, hj]
        rw [e]; exact List.getElem_mem hj)))
      have HSK := Lib.hid (fun j (hj : j ≤ l.length) => HTK.out l hlm hl8 j hj)
      have hsum : sumK (fun i => tk dm (lA l i)) l.length = sumG (tk dm) (dnL N ps p t) := by rw [sumG_all, sumG_perm hperm]
      rw [← hsum] at HFLO
      have hb5a := hBa.out.trans (hb5.mono hBa.out.size)
      have hbr5 := hab.trans (hb5.mono hab.size)
      clear hperm hl hlm hsum hbo hcd hbe HYP HFY HDN HDM HBN HRP t0 t1 t2 t3 t4 t5 htz p0 p1 p2 p3 hbl
      have HR5 := Lib.hid hrep5
      have hO5 := own_on hO2.out hb5
      have e1 := (hb5.cell (p := ⟨wr.heap.size, 1, none⟩) hzz).trans d1
      have hz5 : wr.heap.size < w5.heap.size := by have := hb5.size; omega
      have hab5 := alloc_belowE w5 (.cells #[.int .i64 y, .int .i64 p.id, .int .i64 p.fr, .int .i64 p.to, .int .i64 p.sz, .slice A5 m5 c5] 93)
      have e2 := (hab5.cell (p := ⟨wr.heap.size, 1, none⟩) hz5).trans e1
      have hO5a := Lib.hid (own_on hO5 hab5)
      have hbase5 := Lib.hid (hb5a.trans (hab5.mono hb5a.size))
      have f0 := cells_new6 w5 (.int .i64 y) (.int .i64 p.id) (.int .i64 p.fr) (.int .i64 p.to) (.int .i64 p.sz) (.slice A5 m5 c5) 93 0 _ rfl
      have hz55 : w5.heap.size < (w5.alloc (.cells #[.int .i64 y, .int .i64 p.id, .int .i64 p.fr, .int .i64 p.to, .int .i64 p.sz, .slice A5 m5 c5] 93)).heap.size := by simp
      have HRP5 := Lib.hid (hrep5.below hab5)
      have hzg5 : w2.heap.size < w5.heap.size := by omega
      clear d0 d1 d2 d3 hzz hab hO2 hBa hO5 e1 hb5 hrep5 hb5a hbr5 HR5 hab5
      refine Lib.hid ?_
      go_wp2_with (first
        | (go_at_call 81; refine (HBN5.out _ HRP5.out (by omega)).mono ?_; rintro e w6 ⟨gN, cN, rfl, hgN, hON, hb6⟩; refine Hid.out ?_))
      have g1 := (hb6.cell (p := ⟨wr.heap.size, 1, none⟩) (by simp; omega)).trans e2
      have g2 := (hb6.cell (p := ⟨w5.heap.size, 0, none⟩) hz55).trans f0
      have HO6 := Lib.hid (own_on hO5a.out hb6)
      have HB6 := Lib.hid (hbase5.out.trans (hb6.mono hbase5.out.size))
      have HN6 := Lib.hid hON.iat
      have hz6 : w5.heap.size < w6.heap.size := by have := hb6.size; omega
      have hgN2 : w5.heap.size < gN := by simp at hgN; omega
      have hgNl := iown_lt' hON
      clear e2 f0 hO5a hbase5 hb6 hON HRP5 hz55 HBN5 hgN
      refine Lib.hid ?_
      go_wp2
      have hkx := HFL.out k hk
      have HX0 := Lib.hid (show w6.ownsRow w2.heap.size 3 1 (.slice (some ⟨w2.heap.size, 0, none⟩) ps.length ps.length) ps.length ((fiI (tfL N ps t dm) k).set k (iv (sumK (fun i => tk dm (lA l i)) 0))) from by
        have := HO6.out
        rw [← HZ0.out] at this
        exact this)
      have HG0 := Lib.hid (show w6.grownBy w6 (some w2.heap.size) from grown_refl w6 _)
      have hgw6 : w2.heap.size < w6.heap.size := by omega
      generalize fiI (tfL N ps t dm) k = XS at *
      obtain ⟨XS1, hXS1⟩ : ∃ z, fiI (tfL N ps t dm) (k + 1) = z := ⟨_, rfl⟩
      rw [hXS1] at HS0
      have HXS1 := Lib.hid hXS1
      clear hXS1
      obtain ⟨SM, hSM⟩ : ∃ SM, SM = (fun j => sumK (fun i => tk dm (lA l i)) j) := ⟨_, rfl⟩
      have HSM0 := Lib.hid (fun j => (congrFun hSM j).symm)
      have HSM1 := Lib.hid (fun j => show SM (j + 1) = SM j + tk dm (lA l j) by rw [hSM]; rfl)
      clear hSM
      rw [HSM0.out 0] at HX0
      rw [HSM0.out l.length] at HFLO
      have HSK2 := Lib.hid (fun j (hj : j ≤ l.length) => (show 0 ≤ SM j ∧ SM j ≤ 8000 by have := HSK.out j hj; rw [HSM0.out j] at this; exact this))
      have HSZ := Lib.hid (show SM 0 = 0 by rw [← HSM0.out 0]; rfl)
      clear HSM0 HSK HO6 HZ0 hown hB
      obtain ⟨wo, hwo⟩ : ∃ wo, wo = wr := ⟨_, rfl⟩
      subst hwo
      go_loopw [53] (fun i wi => ∃ j : Nat, j ≤ l.length ∧ i = .int .i64 (j : Int) ∧ Hid (wi.ownsRow w2.heap.size 3 1 (.slice (some ⟨w2.heap.size, 0, none⟩) ps.length ps.length) ps.length (XS.set k (iv (SM j)))) ∧ Hid (w6.grownBy wi (some w2.heap.size)) ∧ Hid (Below w2.heap.size w2 wi)) (fun i _ => l.length - (intOf i).toNat)
      case atStart => exact ⟨0, Nat.zero_le _, rfl, HX0, HG0, HB6⟩
      case round =>
        obtain ⟨j, hj, rfl, hrw, hgr, hBi⟩ := hrel
        clear HX0 HG0
        by_cases hjl : j < l.length
        · obtain ⟨v1, v2⟩ := HLM.out j hjl
          obtain ⟨u, hu⟩ : ∃ u : Nat, lA l j = (u : Int) + 1 := ⟨(lA l j - 1).toNat, by omega⟩
          have hud : u < dm.length := by have := HDL.out; omega
          obtain ⟨bb, of2, hA2, hbl2, x0⟩ := (HI.out _ (HB2.out.trans (hBi.out.mono HB2.out.size))).at_ hud
          subst hA2
          obtain ⟨bN, oN, hAN, hblN, x1⟩ := (HN6.out.far hgr.out (by omega)).at_ hjl
          simp only [Option.some.injEq, Addr.mk.injEq, and_true] at hAN
          obtain ⟨rfl, rfl⟩ := hAN
          rw [Nat.zero_add] at x1
          have hla : l.getD j 0 = lA l j := rfl
          rw [hla, hu] at x1
          have hs0 := HSK2.out j (by omega)
          have hs1 := HSK2.out (j + 1) hjl
          have hsn := HSM1.out j
          have htk : tk dm (lA l j) = dm.getD u 0 := by unfold tk; rw [hu, Int.add_sub_cancel, Int.toNat_natCast]
          rw [htk] at hsn
          have HSN := Lib.hid hsn
          rw [hsn] at hs1
          have hgrow := (hrw.out.lt w2.heap.size rfl).2
          have hj0 : (0 : Int) ≤ (j : Int) := by omega
          have hjn : (j : Int) < (l.length : Int) := by omega
          have hu0 : (0 : Int) ≤ (u : Int) := by omega
          have hun : (u : Int) < (dm.length : Int) := by omega
          have hcell := (hrw.out.cellAt k (by omega)).trans (show (XS.set k (iv (SM j)))[k]? = some (iv (SM j)) by rw [List.getElem?_set, if_pos rfl, if_pos (by rw [hkx]; exact hlt)])
          have hfz := hrw.out.frozenAt k
          have hst0 := hrw.out.stored k (iv (SM j + dm.getD u 0))
          rw [List.set_set] at hst0
          have HST := Lib.hid hst0
          clear hst0 hsn htk hla hu v1 v2
          generalize dm.getD u 0 = x at *
          generalize SM j = s at *
          have wS : IntKind.i64.wrap (s + x) = s + x := w64 _ (by omega)
          have hu9 : (u : Int) < 9 := by have := HDL.out; omega
          have wU : IntKind.i64.wrap ((u : Int) + 1 - 1) = (u : Int) := by rw [w64 _ (by omega)]; omega
          have wU2 : IntKind.i64.wrap (u : Int) = (u : Int) := w64 _ (by omega)
          go_wp2
          go_region_with (fail)
          all_goals
            go_wp2
            go_roundw
            · exact ⟨j + 1, by omega, by go_num, by rw [HSN.out]; exact Lib.hid HST.out.1, Lib.hid ((hgr.out.trans HST.out.2).trans (grown_drewF _ _)), Lib.hid (hBi.out.setCell (p := ⟨w2.heap.size, k, none⟩) (Nat.le_refl _) _).drew⟩
            · simp [intOf]; omega
        · have ej : j = l.length := by omega
          subst ej
          have y1 := (hgr.out.cell_far ⟨wo.heap.size, 1, none⟩ (by dsimp only; omega) (by simp; omega)).trans g1
          have y2 := (hgr.out.cell_far ⟨w5.heap.size, 0, none⟩ (by dsimp only; omega) (by simp; omega)).trans g2
          have hszi := hgr.out.size
          have hyz1 : wo.heap.size < wr.heap.size := by omega
          have hyz2 : w5.heap.size < wr.heap.size := by omega
          have hs0 := HSK2.out l.length (Nat.le_refl _)
          have hgrow := (hrw.out.lt w2.heap.size rfl).2
          by_cases hpy : p.fr = y
          · have hF := HFLO.out.1 hpy
            have g0 : (p.fr == y) = true := beq_iff_eq.2 hpy
            have hcell := (hrw.out.cellAt k (by omega)).trans (show (XS.set k (iv (SM l.length)))[k]? = some (iv (SM l.length)) by rw [List.getElem?_set, if_pos rfl, if_pos (by rw [hkx]; exact hlt)])
            have hfz := hrw.out.frozenAt k
            have hst0 := hrw.out.stored k (iv (-(SM l.length)))
            rw [List.set_set, ← hF, HS0.out] at hst0
            have HST := Lib.hid hst0
            have HFF := Lib.hid hF
            clear hst0 hF hpy
            generalize SM l.length = s at *
            go_wp2
            go_roundw
            case rel => exact ⟨k + 1, by omega, by go_num, by rw [HXS1.out]; have := HST.out.1; rw [HFF.out] at this; exact Lib.hid this, Lib.hid (hBi.out.setCell (p := ⟨w2.heap.size, k, none⟩) (Nat.le_refl _) _)⟩
            case measure => simp [intOf]; omega
          · have hF := HFLO.out.2 hpy
            have g0 : (p.fr == y) = false := beq_eq_false_iff_ne.2 hpy
            have hrow2 := hrw.out
            rw [← hF, HS0.out] at hrow2
            have HRW := Lib.hid hrow2
            clear hrow2 hF hpy
            go_wp2
            go_roundw
            case rel => exact ⟨k + 1, by omega, by go_num, by rw [HXS1.out]; exact HRW, hBi⟩
            case measure => simp [intOf]; omega
    · have e : k = ps.length := by omega
      subst e
      have hown2 := hown.out
      rw [HF.out] at hown2
      have H2 := Lib.hid hown2
      clear hown hown2
      go_wp2
      go_ret2
      exact ⟨_, by rw [HLL.out]; rfl, by omega, own_lower (by unfold IOwn; rw [HLL.out]; exact H2.out), HB2.out.trans (hB.out.mono HB2.out.size)⟩
theorem tfl_yes (N t : Nat) (A : Option Addr) (cap : Nat) (ps : List Pp) (AD : Option Addr) (dc : Nat) (dm : List Int) (w : World) (h : PAt w A ps) (hm : ps.length ≤ maxLen) (hd : IAt w AD dm) (hdl : dm.length ≤ 1048576) (hn : nodeB N ps t = true) (ht : treeB N ps = true) (hv : demB N ps dm = true) :
    Calls Try.prog 11 #[nv N A ps.length cap, .int .i64 (t : Int), .slice AD dm.length dc] w (GivesI w (tfL N ps t dm) true) :=
  (tfl_cap N t A cap ps AD dc dm w h hm hd hdl hn ht hv).mono fun _ _ ⟨g, he, hg, ho, hb⟩ => ⟨g, _, he, hg, ho, hb⟩
end Go.Proofs.Ytikppgbipdflbab.S2

namespace Go.Proofs.Ytikppgbipdflbab.S2
open Go.RowKit P2

set_option maxHeartbeats 1000000 in
theorem hd_no1 (n : Int) (A : Option Addr) (cap : Nat) (ps : List Pp) (x : Int) (AD : Option Addr) (dc : Nat) (dm : List Int) (h : Int) (w : World) (hT : ∀ w', Below w.heap.size w w' → Calls Try.prog 11 #[nv n A ps.length cap, .int .i64 x, .slice AD dm.length dc] w' (GivesI w' [] false)) :
    Calls Try.prog 23 #[nv n A ps.length cap, .int .i64 x, .slice AD dm.length dc, .int .i64 h] w (GivesI w [] false) := by
  have H := Lib.hid hT
  clear hT
  go_enter Try.func23, Try.ntmps23
  go_wp2_with (go_at_call 11; refine (H.out _ ((Below.refl _ _).alloc (Nat.le_refl _) _)).mono ?_; rintro e w1 ⟨g, c, rfl, hg, hO, hb1⟩)
  go_ret2
  exact gives_none (below_alloc_call hb1)
set_option maxHeartbeats 1000000 in
theorem hd_no2 (n : Int) (A : Option Addr) (cap : Nat) (ps : List Pp) (x : Int) (AD : Option Addr) (dc : Nat) (dm : List Int) (h : Int) (L : List Int) (w : World) (hh : hdR h = false) (hT : ∀ w', Below w.heap.size w w' → Calls Try.prog 11 #[nv n A ps.length cap, .int .i64 x, .slice AD dm.length dc] w' (GivesI w' L true)) :
    Calls Try.prog 23 #[nv n A ps.length cap, .int .i64 x, .slice AD dm.length dc, .int .i64 h] w (GivesI w [] false) := by
  have H := Lib.hid hT
  have H2 := Lib.hid (fun w' => ahd_one hh w')
  clear hT hh
  go_enter Try.func23, Try.ntmps23
  go_wp2_with (first
    | (go_at_call 11; refine (H.out _ ((Below.refl _ _).alloc (Nat.le_refl _) _)).mono ?_; rintro e w1 ⟨g, c, rfl, hg, hO, hb1⟩; have hB1 := Lib.hid (below_alloc_call hb1); clear hO hb1)
    | (go_at_call 96; refine (H2.out _).mono ?_; rintro e w2 ⟨rfl, hb2⟩))
  go_ret2
  exact gives_none (hB1.out.trans (hb2.mono hB1.out.size))

set_option maxHeartbeats 2000000 in
set_option maxRecDepth 100000 in
theorem hd_yes (N s : Nat) (A : Option Addr) (cap : Nat) (ps : List Pp) (AD : Option Addr) (dc : Nat) (dm : List Int) (h : Int) (w : World) (hp : PAt w A ps) (hm : ps.length ≤ maxLen) (hd : IAt w AD dm) (hdl : dm.length ≤ 1048576) (hn : nodeB N ps s = true) (ht : treeB N ps = true) (hv : demB N ps dm = true) (hh : hdR h = true) :
    Calls Try.prog 23 #[nv N A ps.length cap, .int .i64 (s : Int), .slice AD dm.length dc, .int .i64 h] w (GivesI w (hdL N ps s dm h) true) := by
  obtain ⟨hg, hdn, hr⟩ := demB_of hv
  obtain ⟨_, hs1, hs2⟩ := nodeB_of hn
  have hN8 := hg.2.1
  have hl10 := hg.2.2.1
  obtain ⟨hh1, hh2⟩ := hdR_of hh
  have H := Lib.hid (fun w' (hb : Below w.heap.size w w') => tfl_yes N s A cap ps AD dc dm w' (hp.kept hb (Nat.le_refl _)) hm (hd.kept hb (Nat.le_refl _)) hdl hn ht hv)
  have H2 := Lib.hid (fun w' => ahd_one hh w')
  have hflo := tfl_flo (s := s) hg hr hdn
  have HAL := Lib.hid (fun (AF : Option Addr) (cF : Nat) (k : Nat) (hk : k < N) w' (hb : Below w.heap.size w w') (hf : IAt w' AF (tfL N ps s dm)) => al_yes N A cap ps AF cF (tfL N ps s dm) s ((k : Int) + 1) (wyA ps s ((k : Int) + 1)) w' (hp.kept hb (Nat.le_refl _)) hm hf (by rw [tfL_len]; omega) hflo (wy_ok hg ht (by omega) (by omega) (by omega) (by omega)) (fun w'' hb2 => by
    have hy := way_yes N s (k + 1) A cap ps w'' (hp.kept (hb.trans (hb2.mono hb.size)) (Nat.le_refl _)) hm hn (node_mk hg (by omega) (by omega)) _ (tree_dist hg ht (by omega) (by omega) (v := ((k + 1 : Nat) : Int)) (by omega) (by omega))
    exact hy))
  have HFI := Lib.hid (fun k (hk : k < N) => fall_in hg ht hr hdn (s := s) (by omega) (by omega) (v := (k : Int) + 1) (by omega) (by omega))
  have HFL := Lib.hid (tfL_len N ps s dm)
  have HLL := Lib.hid (hdL_len N ps s dm h)
  have HLA := Lib.hid (fun k (hk : k < N) => (show (hdL N ps s dm h).getD k 0 = h - fallA N ps s dm ((k : Int) + 1) from hdL_at hk))
  have hmk := run_make_row' (P := Try.prog) 27 3 (.int .i64 0) 8 Try.underlying27 infoI rfl .i64 .i64 N (by omega) (by omega)
  have HO := Lib.hid (fun w => made_own (hdL N ps s dm h) w (by rw [hdL_len]; omega))
  have HF := Lib.hid (fiI_full (hdL N ps s dm h))
  have HFS := Lib.hid (fun k (hk : k < N) => fiI_set (hdL N ps s dm h) k (by rw [hdL_len]; exact hk))
  have HFH := Lib.hid (fun k (hk : k < N) => fiI_has (hdL N ps s dm h) k (by rw [hdL_len]; exact hk))
  rw [HLL.out] at HO HF
  rw [HFL.out] at HAL
  clear hp hm hd hdl hn ht hv hh hg hdn hr hflo
  go_enter Try.func23, Try.ntmps23
  go_wp2_with (first
    | (go_at_call 11; refine (H.out _ ((Below.refl _ _).alloc (Nat.le_refl _) _)).mono ?_; rintro e w1 ⟨gF, cF, rfl, hgF, hOF, hb1⟩; have HX1 := Lib.hid (show Below (w.heap.size + 1) (w.alloc (nb N A ps.length cap)) w1 by simpa using hb1); have HF1 := Lib.hid hOF.iat; clear hb1 hOF)
    | (go_at_call 96; refine (H2.out _).mono ?_; rintro e w2 ⟨rfl, hb2⟩; refine Hid.out ?_))
  have HX2 := Lib.hid (on_call HX1.out hb2)
  have HB2 := Lib.hid (below_box HX2.out)
  have HF2 := Lib.hid (HF1.out.kept hb2 (Nat.le_refl _))
  obtain ⟨b0, b1⟩ := box2 HX2.out
  have hy2 := box_lt HX2.out
  have HO2 := Lib.hid (HO.out w2)
  have HFK := Lib.hid (fun w' (hb : Below w2.heap.size w2 w') => HF2.out.kept hb (Nat.le_refl _))
  clear hb2 HX1 HF1 H H2 HO HF2
  rw [HFL.out]
  refine Lib.hid ?_
  go_wp2
  clear hmk
  have HB0 := Lib.hid (show Below w2.heap.size w2 (w2.alloc (.cells (madeCells #[.int .i64 0] N) 3)) from (Below.refl _ _).alloc (Nat.le_refl _) _)
  go_loopw [37] (fun i wr => ∃ k : Nat, k ≤ N ∧ i = .int .i64 k ∧ Hid (wr.ownsRow w2.heap.size 3 1 (.slice (some ⟨w2.heap.size, 0, none⟩) N N) N (fiI (hdL N ps s dm h) k)) ∧ Hid (Below w2.heap.size w2 wr)) (fun i _ => N - (intOf i).toNat)
  case atStart => exact ⟨0, Nat.zero_le _, rfl, HO2, HB0⟩
  case round =>
    clear HB0 HO2
    obtain ⟨k, hk, rfl, hown, hB⟩ := hrel
    have c0 := (hB.out.cell (p := ⟨w.heap.size, 0, none⟩) hy2).trans b0
    have c1 := (hB.out.cell (p := ⟨w.heap.size, 1, none⟩) hy2).trans b1
    have hzr : w.heap.size < wr.heap.size := by have := hB.out.size; omega
    by_cases hlt : k < N
    · have hk0 : (0 : Int) ≤ (k : Int) := by omega
      have hkn : (k : Int) < (N : Int) := by omega
      have HK := Lib.hid (HAL.out (some ⟨gF, 0, none⟩) cF k hlt wr (HB2.out.trans (hB.out.mono HB2.out.size)) (HFK.out _ hB.out))
      have hfi := HFI.out k hlt
      have hfs := HFS.out k hlt
      rw [HLA.out k hlt] at hfs
      have HST := Lib.hid hfs
      obtain ⟨uo, huo⟩ := HFH.out k hlt
      have HUO := Lib.hid huo
      have hF : alongA ps (tfL N ps s dm) (wyA ps s ((k : Int) + 1)) s = fallA N ps s dm ((k : Int) + 1) := rfl
      rw [hF] at HK
      clear hfs huo hF
      generalize fallA N ps s dm ((k : Int) + 1) = F at *
      have wS : IntKind.i64.wrap (h - F) = h - F := w64 _ (by omega)
      go_wp2_with (go_at_call 26; refine HK.out.mono ?_; rintro e w3 ⟨rfl, hb3⟩; refine Hid.out ?_)
      have hO3 := own_on hown.out hb3
      have hcell := (hO3.cellAt k (by omega)).trans HUO.out
      have hfz := hO3.frozenAt k
      have hgq := (hO3.lt w2.heap.size rfl).2
      have HB3 := Lib.hid (hB.out.trans (hb3.mono hB.out.size))
      have hst := hO3.stored k (iv (h - F))
      rw [HST.out] at hst
      have HRL := Lib.hid hst.1
      clear hO3 hst hb3 c0 c1
      refine Lib.hid ?_
      go_wp2
      go_roundw
      case rel => exact ⟨k + 1, by omega, by go_num, HRL, Lib.hid (HB3.out.setCell (p := ⟨w2.heap.size, k, none⟩) (Nat.le_refl _) _)⟩
      case measure => simp [intOf]; omega
    · have e : k = N := by omega
      subst e
      have hown2 := hown.out
      rw [HF.out] at hown2
      have HW2 := Lib.hid hown2
      clear hown hown2
      go_wp2
      go_ret2
      exact ⟨_, _, by rw [HLL.out]; rfl, by omega, own_lower (by unfold IOwn; rw [HLL.out]; exact HW2.out), HB2.out.trans (hB.out.mono HB2.out.size)⟩
end Go.Proofs.Ytikppgbipdflbab.S2

namespace Go.Proofs.Ytikppgbipdflbab.S2
open Go.RowKit P2
set_option maxHeartbeats 2000000 in
theorem stfl_no (n : Int) (A : Option Addr) (cap : Nat) (ps : List Pp) (x : Int) (AD : Option Addr) (dc : Nat) (dm : List Int) (w : World) (h : PAt w A ps) (hm : ps.length ≤ maxLen) (hd : IAt w AD dm) (hdl : dm.length ≤ 1048576)
    (hv : nodeB n ps x = false ∨ demB n ps dm = false ∨ ∃ N : Nat, n = N ∧ treeB N ps = false) :
    Calls Try.prog 12 #[nv n A ps.length cap, .int .i64 x, .slice AD dm.length dc] w (GivesA w [] false) := by
  obtain ⟨v1, hv1⟩ : ∃ v, nodeB n ps x = v := ⟨_, rfl⟩
  obtain ⟨v3, hv3⟩ : ∃ v, amtB dm n 0 1000 = v := ⟨_, rfl⟩
  have H1 := Lib.hid (fun w' (hb : Below w.heap.size w w') => snode_v hv1 A cap w' (h.kept hb (Nat.le_refl _)) hm)
  have H3 := Lib.hid (fun w' (hb : Below w.heap.size w w') => sdem_v hv3 A ps.length cap AD dc w' (hd.kept hb (Nat.le_refl _)) hdl)
  cases v1 with
  | false =>
    clear h hd hv hv1 hv3
    go_enter Try.func12, Try.ntmps12
    go_wp2_with (go_at_call 82; refine (H1.out _ ((Below.refl _ _).alloc (Nat.le_refl _) _)).mono ?_; rintro e w1 ⟨rfl, hb1⟩)
    go_ret2
    exact gives_noneA (below_alloc_call hb1)
  | true =>
    obtain ⟨hg, hx1, hx2⟩ := nodeB_of hv1
    obtain ⟨N, rfl⟩ := good_nat hg
    cases v3 with
    | false =>
      clear h hd hv hv1 hv3
      go_enter Try.func12, Try.ntmps12
      go_wp2_with (first
        | (go_at_call 82; refine (H1.out _ ((Below.refl _ _).alloc (Nat.le_refl _) _)).mono ?_; rintro e w1 ⟨rfl, hb1⟩; have HX1 := Lib.hid (show Below (w.heap.size + 1) (w.alloc (nb N A ps.length cap)) w1 by simpa using hb1); obtain ⟨b0, b1⟩ := box2 HX1.out; have hy1 := box_lt HX1.out; clear hb1)
        | (go_at_call 83; refine (H3.out _ (below_box HX1.out)).mono ?_; rintro e w3 ⟨rfl, hb3⟩; have HX3 := Lib.hid (on_call HX1.out hb3); clear b0 b1; obtain ⟨b0, b1⟩ := box2 HX3.out; have hy3 := box_lt HX3.out; clear hb3))
      go_ret2
      exact gives_noneA (below_box HX3.out)
    | true =>
      have ht : treeB N ps = false := by
        rcases hv with h | h | ⟨M, e, h⟩
        · exact absurd (h.symm.trans hv1) (by simp)
        · unfold demB at h; rw [good_mk hg, hv3] at h; cases h
        · have : M = N := by omega
          subst this
          exact h
      have H4 := Lib.hid (fun w' (hb : Below w.heap.size w w') => stree_v ht A cap w' (h.kept hb (Nat.le_refl _)) hg)
      clear h hd hv hv1 hv3 hg ht
      go_enter Try.func12, Try.ntmps12
      go_wp2_with (first
        | (go_at_call 82; refine (H1.out _ ((Below.refl _ _).alloc (Nat.le_refl _) _)).mono ?_; rintro e w1 ⟨rfl, hb1⟩; have HX1 := Lib.hid (show Below (w.heap.size + 1) (w.alloc (nb N A ps.length cap)) w1 by simpa using hb1); obtain ⟨b0, b1⟩ := box2 HX1.out; have hy1 := box_lt HX1.out; clear hb1)
        | (go_at_call 83; refine (H3.out _ (below_box HX1.out)).mono ?_; rintro e w3 ⟨rfl, hb3⟩; have HX3 := Lib.hid (on_call HX1.out hb3); clear b0 b1; obtain ⟨b0, b1⟩ := box2 HX3.out; have hy3 := box_lt HX3.out; clear hb3)
        | (go_at_call 84; refine (H4.out _ (below_box HX3.out)).mono ?_; rintro e w4 ⟨rfl, hb4⟩; have HX4 := Lib.hid (on_call HX3.out hb4); clear b0 b1; obtain ⟨b0, b1⟩ := box2 HX4.out; have hy4 := box_lt HX4.out; clear hb4))
      go_ret2
      exact gives_noneA (below_box HX4.out)

set_option maxHeartbeats 2000000 in
theorem stfl_yes (N t : Nat) (A : Option Addr) (cap : Nat) (ps : List Pp) (AD : Option Addr) (dc : Nat) (dm : List Int) (w : World) (h : PAt w A ps) (hm : ps.length ≤ maxLen) (hc : ps.length ≤ cap) (hd : IAt w AD dm) (hdl : dm.length ≤ 1048576) (hn : nodeB N ps t = true) (ht : treeB N ps = true) (hv : demB N ps dm = true) :
    Calls Try.prog 12 #[nv N A ps.length cap, .int .i64 (t : Int), .slice AD dm.length dc] w (GivesA w (tfL N ps t dm) true) := by
  obtain ⟨hg, hdn, hr⟩ := demB_of hv
  obtain ⟨_, hx1, hx2⟩ := nodeB_of hn
  unfold demB at hv
  rw [Bool.and_eq_true] at hv
  have H1 := Lib.hid (fun w' (hb : Below w.heap.size w w') => snode_v hn A cap w' (h.kept hb (Nat.le_refl _)) hm)
  have H3 := Lib.hid (fun w' (hb : Below w.heap.size w w') => sdem_v hv.2 A ps.length cap AD dc w' (hd.kept hb (Nat.le_refl _)) hdl)
  have H4 := Lib.hid (fun w' (hb : Below w.heap.size w w') => stree_v ht A cap w' (h.kept hb (Nat.le_refl _)) hg)
  have H5 := Lib.hid (fun w' (hb : Below w.heap.size w w') => stf_any N t A cap ps AD dc dm w' (h.kept hb (Nat.le_refl _)) hc (hd.kept hb (Nat.le_refl _)) hg (by omega) (by omega) hr hdn)
  clear h hd hv hn ht hg hdn hr hc
  go_enter Try.func12, Try.ntmps12
  go_wp2_with (first
    | (go_at_call 82; refine (H1.out _ ((Below.refl _ _).alloc (Nat.le_refl _) _)).mono ?_; rintro e w1 ⟨rfl, hb1⟩; have HX1 := Lib.hid (show Below (w.heap.size + 1) (w.alloc (nb N A ps.length cap)) w1 by simpa using hb1); obtain ⟨b0, b1⟩ := box2 HX1.out; have hy1 := box_lt HX1.out; clear hb1)
    | (go_at_call 83; refine (H3.out _ (below_box HX1.out)).mono ?_; rintro e w3 ⟨rfl, hb3⟩; have HX3 := Lib.hid (on_call HX1.out hb3); clear b0 b1; obtain ⟨b0, b1⟩ := box2 HX3.out; have hy3 := box_lt HX3.out; clear hb3)
    | (go_at_call 84; refine (H4.out _ (below_box HX3.out)).mono ?_; rintro e w4 ⟨rfl, hb4⟩; have HX4 := Lib.hid (on_call HX3.out hb4); clear b0 b1; obtain ⟨b0, b1⟩ := box2 HX4.out; have hy4 := box_lt HX4.out; clear hb4)
    | (go_at_call 85; refine (H5.out _ (below_box HX4.out)).mono ?_; rintro e w5 ⟨g, c, rfl, hg5, hO, hb5⟩))
  go_ret2
  have hz := (below_box HX4.out).size
  exact ⟨g, 0, c, rfl, by omega, hO.iat, (below_box HX4.out).trans (hb5.mono hz), iown_lt' hO⟩

/-! ### DownstreamNodes -/
end Go.Proofs.Ytikppgbipdflbab.S2

namespace Go.Proofs.Ytikppgbipdflbab.S2
open Go.RowKit P2

/-- What is asked of a network, a source, demands and a head. -/
noncomputable def askH (n : Int) (ps : List Pp) (x : Int) (dm : List Int) (h : Int) : Bool := nodeB n ps x && (amtB dm n 0 1000 && (treeB n.toNat ps && hdR h))
theorem askH_of {n : Int} {ps : List Pp} {x : Int} {dm : List Int} {h : Int} (hv : askH n ps x dm h = true) : ∃ N X : Nat, n = N ∧ x = X ∧ nodeB n ps x = true ∧ demB n ps dm = true ∧ treeB N ps = true ∧ hdR h = true := by
  unfold askH at hv
  simp only [Bool.and_eq_true] at hv
  obtain ⟨h1, h2, h3, h4⟩ := hv
  obtain ⟨hg, hx1, hx2⟩ := nodeB_of h1
  obtain ⟨N, rfl⟩ := good_nat hg
  refine ⟨N, x.toNat, rfl, by omega, h1, by unfold demB; rw [good_mk hg, h2]; rfl, ?_, h4⟩
  rwa [Int.toNat_natCast] at h3
set_option maxHeartbeats 2000000 in
theorem ask_any (n : Int) (A : Option Addr) (cap : Nat) (ps : List Pp) (x : Int) (AD : Option Addr) (dc : Nat) (dm : List Int) (h : Int) (w : World) (hp : PAt w A ps) (hm : ps.length ≤ maxLen) (hd : IAt w AD dm) (hdl : dm.length ≤ 1048576) :
    Calls Try.prog 97 #[nv n A ps.length cap, .int .i64 x, .slice AD dm.length dc, .int .i64 h] w fun e w' => e = .returned (.bool (askH n ps x dm h)) ∧ Below w.heap.size w w' := by
  obtain ⟨v1, hv1⟩ : ∃ v, nodeB n ps x = v := ⟨_, rfl⟩
  obtain ⟨v3, hv3⟩ : ∃ v, amtB dm n 0 1000 = v := ⟨_, rfl⟩
  obtain ⟨v5, hv5⟩ : ∃ v, hdR h = v := ⟨_, rfl⟩
  have H1 := Lib.hid (fun w' (hb : Below w.heap.size w w') => snode_v hv1 A cap w' (hp.kept hb (Nat.le_refl _)) hm)
  have H3 := Lib.hid (fun w' (hb : Below w.heap.size w w') => sdem_v hv3 A ps.length cap AD dc w' (hd.kept hb (Nat.le_refl _)) hdl)
  have H5 := Lib.hid (fun w' => shd_v hv5 w')
  unfold askH
  rw [hv1, hv3, hv5]
  cases v1 with
  | false =>
    clear hp hd hv1 hv3 hv5
    go_enter Try.func97, Try.ntmps97
    go_wp2_with (go_at_call 82; refine (H1.out _ ((Below.refl _ _).alloc (Nat.le_refl _) _)).mono ?_; rintro e w1 ⟨rfl, hb1⟩)
    go_ret
    exact ⟨rfl, below_alloc_call hb1⟩
  | true =>
    obtain ⟨hg, hx1, hx2⟩ := nodeB_of hv1
    obtain ⟨N, rfl⟩ := good_nat hg
    rw [Int.toNat_natCast]
    cases v3 with
    | false =>
      clear hp hd hv1 hv3 hv5 hg
      go_enter Try.func97, Try.ntmps97
      go_wp2_with (first
        | (go_at_call 82; refine (H1.out _ ((Below.refl _ _).alloc (Nat.le_refl _) _)).mono ?_; rintro e w1 ⟨rfl, hb1⟩; have HX1 := Lib.hid (show Below (w.heap.size + 1) (w.alloc (nb N A ps.length cap)) w1 by simpa using hb1); obtain ⟨b0, b1⟩ := box2 HX1.out; have hy1 := box_lt HX1.out; clear hb1)
        | (go_at_call 83; refine (H3.out _ (below_box HX1.out)).mono ?_; rintro e w3 ⟨rfl, hb3⟩; have HX3 := Lib.hid (on_call HX1.out hb3)))
      go_ret
      exact ⟨rfl, below_box HX3.out⟩
    | true =>
      obtain ⟨v4, hv4⟩ : ∃ v, treeB N ps = v := ⟨_, rfl⟩
      have H4 := Lib.hid (fun w' (hb : Below w.heap.size w w') => stree_v hv4 A cap w' (hp.kept hb (Nat.le_refl _)) hg)
      rw [hv4]
      cases v4 with
      | false =>
        clear hp hd hv1 hv3 hv5 hg hv4
        go_enter Try.func97, Try.ntmps97
        go_wp2_with (first
          | (go_at_call 82; refine (H1.out _ ((Below.refl _ _).alloc (Nat.le_refl _) _)).mono ?_; rintro e w1 ⟨rfl, hb1⟩; have HX1 := Lib.hid (show Below (w.heap.size + 1) (w.alloc (nb N A ps.length cap)) w1 by simpa using hb1); obtain ⟨b0, b1⟩ := box2 HX1.out; have hy1 := box_lt HX1.out; clear hb1)
          | (go_at_call 83; refine (H3.out _ (below_box HX1.out)).mono ?_; rintro e w3 ⟨rfl, hb3⟩; have HX3 := Lib.hid (on_call HX1.out hb3); clear b0 b1; obtain ⟨b0, b1⟩ := box2 HX3.out; have hy3 := box_lt HX3.out; clear hb3)
          | (go_at_call 84; refine (H4.out _ (below_box HX3.out)).mono ?_; rintro e w4 ⟨rfl, hb4⟩; have HX4 := Lib.hid (on_call HX3.out hb4)))
        go_ret
        exact ⟨rfl, below_box HX4.out⟩
      | true =>
        clear hp hd hv1 hv3 hv5 hg hv4
        go_enter Try.func97, Try.ntmps97
        go_wp2_with (first
          | (go_at_call 82; refine (H1.out _ ((Below.refl _ _).alloc (Nat.le_refl _) _)).mono ?_; rintro e w1 ⟨rfl, hb1⟩; have HX1 := Lib.hid (show Below (w.heap.size + 1) (w.alloc (nb N A ps.length cap)) w1 by simpa using hb1); obtain ⟨b0, b1⟩ := box2 HX1.out; have hy1 := box_lt HX1.out; clear hb1)
          | (go_at_call 83; refine (H3.out _ (below_box HX1.out)).mono ?_; rintro e w3 ⟨rfl, hb3⟩; have HX3 := Lib.hid (on_call HX1.out hb3); clear b0 b1; obtain ⟨b0, b1⟩ := box2 HX3.out; have hy3 := box_lt HX3.out; clear hb3)
          | (go_at_call 84; refine (H4.out _ (below_box HX3.out)).mono ?_; rintro e w4 ⟨rfl, hb4⟩; have HX4 := Lib.hid (on_call HX3.out hb4))
          | (go_at_call 106; refine (H5.out _).mono ?_; rintro e w5 ⟨rfl, hw⟩; replace hw := hw.symm; subst hw))
        go_ret
        exact ⟨by simp, below_box HX4.out⟩
theorem ask_v {n : Int} {ps : List Pp} {x : Int} {dm : List Int} {h : Int} {v : Bool} (hv : askH n ps x dm h = v) (A : Option Addr) (cap : Nat) (AD : Option Addr) (dc : Nat) (w : World) (hp : PAt w A ps) (hm : ps.length ≤ maxLen) (hd : IAt w AD dm) (hdl : dm.length ≤ 1048576) :
    Calls Try.prog 97 #[nv n A ps.length cap, .int .i64 x, .slice AD dm.length dc, .int .i64 h] w fun e w' => e = .returned (.bool v) ∧ Below w.heap.size w w' := by
  rw [← hv]; exact ask_any n A cap ps x AD dc dm h w hp hm hd hdl

set_option maxHeartbeats 3000000 in
set_option maxRecDepth 100000 in
theorem shds_any (N s : Nat) (A : Option Addr) (cap : Nat) (ps : List Pp) (AD : Option Addr) (dc : Nat) (dm : List Int) (h : Int) (w : World) (hp : PAt w A ps) (hc : ps.length ≤ cap) (hd : IAt w AD dm) (hn : nodeB N ps s = true) (ht : treeB N ps = true) (hv : demB N ps dm = true) (hh : hdR h = true) :
    Calls Try.prog 98 #[nv N A ps.length cap, .int .i64 (s : Int), .slice AD dm.length dc, .int .i64 h] w (GivesL w (hdL N ps s dm h)) := by
  obtain ⟨hg, hdn, hr⟩ := demB_of hv
  obtain ⟨_, hs1, hs2⟩ := nodeB_of hn
  have hN8 := hg.2.1
  have hl10 := hg.2.2.1
  obtain ⟨hh1, hh2⟩ := hdR_of hh
  have H := Lib.hid (fun w' (hb : Below w.heap.size w w') => stf_any N s A cap ps AD dc dm w' (hp.kept hb (Nat.le_refl _)) hc (hd.kept hb (Nat.le_refl _)) hg (by omega) (by omega) hr hdn)
  have hflo := tfl_flo (s := s) hg hr hdn
  have HAL := Lib.hid (fun (AF : Option Addr) (cF : Nat) (k : Nat) (hk : k < N) w' (hb : Below w.heap.size w w') (hf : IAt w' AF (tfL N ps s dm)) => sal_any N A cap ps AF cF (tfL N ps s dm) s ((k : Int) + 1) (wyA ps s ((k : Int) + 1)) w' (hp.kept hb (Nat.le_refl _)) hf hflo (wy_ok hg ht (by omega) (by omega) (by omega) (by omega)) (fun w'' hb2 => by
    have hy := l2way_any N s (k + 1) A cap ps w'' (hp.kept (hb.trans (hb2.mono hb.size)) (Nat.le_refl _)) hg (by omega) (by omega) (by omega) (by omega) _ (tree_dist hg ht (by omega) (by omega) (v := ((k + 1 : Nat) : Int)) (by omega) (by omega))
    exact hy))
  have HFI := Lib.hid (fun k (hk : k < N) => fall_in hg ht hr hdn (s := s) (by omega) (by omega) (v := (k : Int) + 1) (by omega) (by omega))
  have HFL := Lib.hid (tfL_len N ps s dm)
  have HL := Lib.hid (show hdL N ps s dm h = hdTo N ps s dm h N from rfl)
  have HTS := Lib.hid (fun k => (show hdTo N ps s dm h (k + 1) = hdTo N ps s dm h k ++ [h - fallA N ps s dm ((k : Int) + 1)] from hdTo_snoc N ps s dm h k))
  have HTL := Lib.hid (hdTo_len N ps s dm h)
  obtain ⟨i0, hi, hz0, hz1, hz2⟩ := info_parts infoI
  rw [HFL.out] at HAL
  clear hp hd hn ht hv hh hg hdn hr hflo hc
  go_enter Try.func98, Try.ntmps98
  go_wp2_with (go_at_call 85; refine (H.out _ ((Below.refl _ _).alloc (Nat.le_refl _) _)).mono ?_; rintro e w2 ⟨gF, cF, rfl, hgF, hOF, hb1⟩; refine Hid.out ?_)
  have HX2 := Lib.hid (show Below (w.heap.size + 1) (w.alloc (nb N A ps.length cap)) w2 by simpa using hb1)
  have HB2 := Lib.hid (below_box HX2.out)
  have HF2 := Lib.hid hOF.iat
  obtain ⟨b0, b1⟩ := box2 HX2.out
  have hy2 := box_lt HX2.out
  have HFK := Lib.hid (fun w' (hb : Below w2.heap.size w2 w') => HF2.out.kept hb (Nat.le_refl _))
  have HO0 := Lib.hid (own_empty w2 w2.heap.size (Nat.le_refl _))
  have HB0 := Lib.hid (show Below w2.heap.size w2 (w2.alloc (.cells #[] 3)) from (Below.refl _ _).alloc (Nat.le_refl _) _)
  clear hb1 H HF2 hOF
  rw [HFL.out]
  refine Lib.hid ?_
  go_wp2
  go_loopw [10, 11] (fun v i wr => ∃ k : Nat, k ≤ N ∧ i = .int .i64 ((k : Int) + 1) ∧ Hid (IOwn wr w2.heap.size v (hdTo N ps s dm h k)) ∧ Hid (v ≠ .slice none 0 0) ∧ Hid (Below w2.heap.size w2 wr)) (fun _ i _ => N + 1 - (intOf i).toNat)
  case atStart => exact ⟨0, Nat.zero_le _, rfl, HO0, Lib.hid (by simp), HB0⟩
  case round =>
    clear HO0 HB0
    obtain ⟨k, hk, rfl, hown, hvn, hB⟩ := hrel
    have c0 := (hB.out.cell (p := ⟨w.heap.size, 0, none⟩) hy2).trans b0
    have c1 := (hB.out.cell (p := ⟨w.heap.size, 1, none⟩) hy2).trans b1
    have hzr : w.heap.size < wr.heap.size := by have := hB.out.size; omega
    by_cases hlt : k < N
    · have hk0 : (k : Int) + 1 ≤ (N : Int) := by omega
      have HK := Lib.hid (HAL.out (some ⟨gF, 0, none⟩) cF k hlt wr (HB2.out.trans (hB.out.mono HB2.out.size)) (HFK.out _ hB.out))
      have hfi := HFI.out k hlt
      have hsn := HTS.out k
      have hdl := HTL.out k
      have hF : alongA ps (tfL N ps s dm) (wyA ps s ((k : Int) + 1)) s = fallA N ps s dm ((k : Int) + 1) := rfl
      rw [hF] at HK
      clear hF
      have HSN := Lib.hid hsn
      clear hsn
      generalize fallA N ps s dm ((k : Int) + 1) = F at *
      have wS : IntKind.i64.wrap (h - F) = h - F := w64 _ (by omega)
      go_wp2_with (go_at_call 112; refine HK.out.mono ?_; rintro e w3 ⟨rfl, hb3⟩; refine Hid.out ?_)
      have hO3 := Lib.hid (hown.out.on hb3)
      have HB3 := Lib.hid (hB.out.trans (hb3.mono hB.out.size))
      have ho := hO3.out
      unfold IOwn at ho
      clear hb3 c0 c1
      refine Lib.hid ?_
      go_wp2_with (at_builtin; go_must (refine wpList_append_own _ rfl _ _ 27 rfl w2.heap.size 3 i0 (.int .i64 0) 1 8 Try.underlying27 hi hz0 hz1 hz2 rfl (by decide) _ _ _ rfl (ho.alloc _) ⟨w3.heap.size, 0, none⟩ 1 1 [iv (h - F)] rfl rfl (cell_one_new _ _ _) (by intro u hu; simp at hu; subst hu; rfl) (by unfold maxLen; omega) (by omega) (by have := HB3.out.size; simp; omega) ?_); intro v' w7 hown' hgrow hnil)
      have hown3 := Lib.hid (IOwn.push hown')
      rw [← HSN.out] at hown3
      have hB7 := Lib.hid ((HB3.out.alloc HB3.out.size (.cells #[iv (h - F)] 3)).grown hgrow (by have := HB3.out.size; simp; omega) (fun g hg => (ho.lt g hg).1))
      have hnil3 := Lib.hid (show v' ≠ .slice none 0 0 from fun e => by simp [e] at hnil)
      clear hown' hgrow hnil ho
      go_wp2
      go_roundw
      case rel => exact ⟨k + 1, by omega, by go_num, hown3, hnil3, hB7⟩
      case measure => simp [intOf]; omega
    · have hkN : k = N := by omega
      have hown2 := hown.out
      rw [hkN, ← HL.out] at hown2
      obtain ⟨g', capg, rfl, hg'⟩ := own_slice hown2 hvn.out
      have HO := Lib.hid hown2
      have hkn : ¬ (k : Int) + 1 ≤ (N : Int) := by omega
      clear hkN hown2
      go_wp2
      go_ret
      exact ⟨g', capg, rfl, by omega, own_lower HO.out, HB2.out.trans (hB.out.mono HB2.out.size)⟩

set_option maxHeartbeats 1000000 in
theorem shd_no (n : Int) (A : Option Addr) (cap : Nat) (ps : List Pp) (x : Int) (AD : Option Addr) (dc : Nat) (dm : List Int) (h : Int) (w : World) (hp : PAt w A ps) (hm : ps.length ≤ maxLen) (hd : IAt w AD dm) (hdl : dm.length ≤ 1048576) (hv : askH n ps x dm h = false) :
    Calls Try.prog 24 #[nv n A ps.length cap, .int .i64 x, .slice AD dm.length dc, .int .i64 h] w (GivesA w [] false) := by
  have H := Lib.hid (fun w' (hb : Below w.heap.size w w') => ask_v hv A cap AD dc w' (hp.kept hb (Nat.le_refl _)) hm (hd.kept hb (Nat.le_refl _)) hdl)
  clear hp hd hv
  go_enter Try.func24, Try.ntmps24
  go_wp2_with (go_at_call 97; refine (H.out _ ((Below.refl _ _).alloc (Nat.le_refl _) _)).mono ?_; rintro e w1 ⟨rfl, hb1⟩)
  go_ret2
  exact gives_noneA (below_alloc_call hb1)
set_option maxHeartbeats 1000000 in
theorem shd_yes (N s : Nat) (A : Option Addr) (cap : Nat) (ps : List Pp) (AD : Option Addr) (dc : Nat) (dm : List Int) (h : Int) (w : World) (hp : PAt w A ps) (hm : ps.length ≤ maxLen) (hc : ps.length ≤ cap) (hd : IAt w AD dm) (hdl : dm.length ≤ 1048576) (ha : askH N ps s dm h = true) (hn : nodeB N ps s = true) (ht : treeB N ps = true) (hv : demB N ps dm = true) (hh : hdR h = true) :
    Calls Try.prog 24 #[nv N A ps.length cap, .int .i64 (s : Int), .slice AD dm.length dc, .int .i64 h] w (GivesA w (hdL N ps s dm h) true) := by
  have H := Lib.hid (fun w' (hb : Below w.heap.size w w') => ask_v ha A cap AD dc w' (hp.kept hb (Nat.le_refl _)) hm (hd.kept hb (Nat.le_refl _)) hdl)
  have H2 := Lib.hid (fun w' (hb : Below w.heap.size w w') => shds_any N s A cap ps AD dc dm h w' (hp.kept hb (Nat.le_refl _)) hc (hd.kept hb (Nat.le_refl _)) hn ht hv hh)
  clear hp hd hv ha hn ht hh hc
  generalize hdL N ps s dm h = L at *
  go_enter Try.func24, Try.ntmps24
  go_wp2_with (first
    | (go_at_call 97; refine (H.out _ ((Below.refl _ _).alloc (Nat.le_refl _) _)).mono ?_; rintro e w1 ⟨rfl, hb1⟩; have HX1 := Lib.hid (show Below (w.heap.size + 1) (w.alloc (nb N A ps.length cap)) w1 by simpa using hb1); obtain ⟨b0, b1⟩ := box2 HX1.out; have hy1 := box_lt HX1.out; clear hb1)
    | (go_at_call 98; refine (H2.out _ (below_box HX1.out)).mono ?_; rintro e w2 ⟨g, c, rfl, hg2, hO, hb2⟩))
  go_ret2
  have hz := (below_box HX1.out).size
  exact ⟨g, 0, c, rfl, by omega, hO.iat, (below_box HX1.out).trans (hb2.mono hz), iown_lt' hO⟩
end Go.Proofs.Ytikppgbipdflbab.S2

namespace Go.Proofs.Ytikppgbipdflbab.S2
open Go.RowKit P2
/-- HeadsOf of the program where something is asked that is not there. -/
theorem hd_bad (n : Int) (A : Option Addr) (cap : Nat) (ps : List Pp) (x : Int) (AD : Option Addr) (dc : Nat) (dm : List Int) (h : Int) (w : World) (hp : PAt w A ps) (hm : ps.length ≤ maxLen) (hd : IAt w AD dm) (hdl : dm.length ≤ 1048576) (hv : askH n ps x dm h = false) :
    Calls Try.prog 23 #[nv n A ps.length cap, .int .i64 x, .slice AD dm.length dc, .int .i64 h] w (GivesI w [] false) := by
  cases hv1 : nodeB n ps x with
  | false => exact hd_no1 n A cap ps x AD dc dm h w (fun w' hb => tfl_no1 n A cap ps x AD dc dm w' (fun w'' hb2 => tf_node hv1 A cap w'' (hp.kept (hb.trans (hb2.mono hb.size)) (Nat.le_refl _)) hm))
  | true =>
    obtain ⟨hg, hx1, hx2⟩ := nodeB_of hv1
    obtain ⟨N, rfl⟩ := good_nat hg
    obtain ⟨X, rfl⟩ : ∃ X : Nat, x = X := ⟨x.toNat, by omega⟩
    cases ht : treeB N ps with
    | false => exact hd_no1 N A cap ps X AD dc dm h w (fun w' hb => tfl_no1 N A cap ps X AD dc dm w' (fun w'' hb2 => tf_tree hv1 ht A cap w'' (hp.kept (hb.trans (hb2.mono hb.size)) (Nat.le_refl _)) hm))
    | true =>
      cases hv2 : demB N ps dm with
      | false => exact hd_no1 N A cap ps X AD dc dm h w (fun w' hb => tfl_no2 N X A cap ps AD dc dm w' (hp.kept hb (Nat.le_refl _)) hm (hd.kept hb (Nat.le_refl _)) hdl hv2 (fun w'' hb2 => tf_ok hv1 ht (tree_full hg ht).1 A cap w'' (hp.kept (hb.trans (hb2.mono hb.size)) (Nat.le_refl _)) hm))
      | true =>
        have hh : hdR h = false := by
          unfold askH at hv
          unfold demB at hv2
          rw [Bool.and_eq_true] at hv2
          rw [hv1, hv2.2, Int.toNat_natCast, ht] at hv
          simpa using hv
        have hdm2 : demB N ps dm = true := by unfold demB; exact hv2
        exact hd_no2 N A cap ps X AD dc dm h _ w hh (fun w' hb => tfl_yes N X A cap ps AD dc dm w' (hp.kept hb (Nat.le_refl _)) hm (hd.kept hb (Nat.le_refl _)) hdl hv1 ht hdm2)
end Go.Proofs.Ytikppgbipdflbab.S2

namespace Go.Proofs.Ytikppgbipdflbab.S2
open Go.RowKit P2

/-- Differences of two lists, place by place. -/
def psL (L H : List Int) : List Int := (List.range L.length).map fun i => lA L i - lA H i
theorem psL_len (L H : List Int) : (psL L H).length = L.length := by simp [psL]
theorem psL_at {L H : List Int} {i : Nat} (h : i < L.length) : lA (psL L H) i = lA L i - lA H i := by simp [psL, lA, List.getD, h]
noncomputable def prL (N : Nat) (ps : List Pp) (s : Nat) (dm : List Int) (h : Int) (hs : List Int) : List Int := psL (hdL N ps s dm h) hs
theorem prL_len (N : Nat) (ps : List Pp) (s : Nat) (dm : List Int) (h : Int) (hs : List Int) : (prL N ps s dm h hs).length = N := by unfold prL; rw [psL_len, hdL_len]
theorem prL_at {N : Nat} {ps : List Pp} {s : Nat} {dm : List Int} {h : Int} {hs : List Int} {i : Nat} (hi : i < N) : lA (prL N ps s dm h hs) i = hdF N ps s dm h i - lA hs i := by
  unfold prL
  rw [psL_at (by rw [hdL_len]; exact hi)]
  have := hdL_at (N := N) (ps := ps) (s := s) (dm := dm) (h := h) hi
  unfold lA
  rw [this]
/-- Heights of a network. -/
def hsB (n : Int) (hs : List Int) : Bool := amtB hs n 0 100000000000
theorem hsB_of {n : Int} {hs : List Int} (h : hsB n hs = true) : (hs.length : Int) = n ∧ allR 0 100000000000 hs = true := amt_len h
theorem prc_any (x y : Int) (h1 : -1000000000000 ≤ x ∧ x ≤ 1000000000000) (h2 : -1000000000000 ≤ y ∧ y ≤ 1000000000000) (w : World) :
    Calls Try.prog 124 #[.int .i64 x, .int .i64 y] w fun e w' => e = .returned (.int .i64 (x - y)) ∧ Below w.heap.size w w' := by
  have wS : IntKind.i64.wrap (x - y) = x - y := w64 _ (by omega)
  go_enter Try.func124, Try.ntmps124
  go_wp2
  go_ret
  exact ⟨rfl, Below.refl _ _⟩

set_option maxHeartbeats 2000000 in
set_option maxRecDepth 100000 in
theorem prp_any (A : Option Addr) (cap : Nat) (L : List Int) (AH : Option Addr) (ch : Nat) (H : List Int) (w : World) (hL : IAt w A L) (hH : IAt w AH H) (hlen : H.length = L.length) (hl8 : L.length ≤ 8) (hbL : ∀ i, i < L.length → -1000000000000 ≤ lA L i ∧ lA L i ≤ 1000000000000) (hbH : ∀ i, i < L.length → -1000000000000 ≤ lA H i ∧ lA H i ≤ 1000000000000) :
    Calls Try.prog 123 #[.slice A L.length cap, .slice AH H.length ch, .func (.func 124) #[] #[]] w fun e w' => (∃ g, e = .returned (.slice (some ⟨g, 0, none⟩) L.length L.length) ∧ w.heap.size ≤ g ∧ IOwn w' w.heap.size (.slice (some ⟨g, 0, none⟩) L.length L.length) (psL L H)) ∧ Below w.heap.size w w' := by
  have HA := Lib.hid (fun w' (hb : Below w.heap.size w w') => hL.kept hb (Nat.le_refl _))
  have HI := Lib.hid (fun w' (hb : Below w.heap.size w w') => hH.kept hb (Nat.le_refl _))
  have HC := Lib.hid (fun k (hk : k < L.length) w' => prc_any (lA L k) (lA H k) (hbL k hk) (hbH k hk) w')
  have HL := Lib.hid hlen
  have HSL := Lib.hid (psL_len L H)
  have HSA := Lib.hid (fun k (hk : k < L.length) => psL_at (H := H) hk)
  have hmk := run_make_row' (P := Try.prog) 27 3 (.int .i64 0) 8 Try.underlying27 infoI rfl .i64 .i64 L.length (by omega) (by omega)
  have HO := made_row (psL L H) w (by rw [psL_len]; omega)
  have HF := Lib.hid (fiI_full (psL L H))
  rw [HSL.out] at HO HF
  clear hL hH hlen hbL hbH
  go_enter Try.func123, Try.ntmps123
  go_wp2
  clear hmk
  go_loopw [15] (fun i wr => ∃ k : Nat, k ≤ L.length ∧ i = .int .i64 k ∧ Hid (wr.ownsRow w.heap.size 3 1 (.slice (some ⟨w.heap.size, 0, none⟩) L.length L.length) L.length (fiI (psL L H) k)) ∧ Hid (Below w.heap.size w wr)) (fun i _ => L.length - (intOf i).toNat)
  case atStart => exact ⟨0, Nat.zero_le _, rfl, HO, Lib.hid ((Below.refl _ _).alloc (Nat.le_refl _) _)⟩
  case round =>
    obtain ⟨k, hk, rfl, hown, hB⟩ := hrel
    clear HO
    by_cases hlt : k < L.length
    · obtain ⟨b, off, hA, hbl, p0⟩ := (HA.out _ hB.out).at_ hlt
      subst hA
      have hkf : k < H.length := by rw [HL.out]; exact hlt
      obtain ⟨bb, of2, hA2, hbl2, q0⟩ := (HI.out _ hB.out).at_ hkf
      subst hA2
      have hk0 : (0 : Int) ≤ (k : Int) := by omega
      have hkn : (k : Int) < (L.length : Int) := by omega
      have hknf : (k : Int) < (H.length : Int) := by omega
      have HLO := Lib.hid (HC.out k hlt)
      have hgx := (hown.out.lt w.heap.size rfl).2
      have hfs := fiI_set (psL L H) k (by rw [HSL.out]; exact hlt)
      have hat := HSA.out k hlt
      obtain ⟨uo, huo⟩ := fiI_has (psL L H) k (by rw [HSL.out]; exact hlt)
      have HUO := Lib.hid huo
      unfold lA at hat HLO
      rw [hat] at hfs
      have HST := Lib.hid hfs
      clear hfs hat huo
      generalize L.getD k 0 = x at *
      generalize H.getD k 0 = y at *
      have hO2 := hown
      go_wp2_with (go_at_call 124; refine (HLO.out _).mono ?_; rintro e wq ⟨rfl, hbq⟩; refine Hid.out ?_)
      have hO3 := own_on hO2.out hbq
      have hcell := (hO3.cellAt k (by omega)).trans HUO.out
      have hfz := hO3.frozenAt k
      have hgq := (hO3.lt w.heap.size rfl).2
      have HB3 := Lib.hid (hB.out.trans (hbq.mono hB.out.size))
      have hst := hO3.stored k (iv (x - y))
      rw [HST.out] at hst
      have HRL := Lib.hid hst.1
      clear hO3 hbq hst
      refine Lib.hid ?_
      go_wp2
      go_roundw
      case rel => exact ⟨k + 1, by omega, by go_num, HRL, Lib.hid (HB3.out.setCell (p := ⟨w.heap.size, k, none⟩) (Nat.le_refl _) _)⟩
      case measure => simp [intOf]; omega
    · have e : k = L.length := by omega
      subst e
      have hown2 := hown.out
      rw [HF.out] at hown2
      have H2 := Lib.hid hown2
      clear hown hown2
      go_wp2
      go_ret
      exact ⟨⟨_, rfl, Nat.le_refl _, by have := H2.out; unfold IOwn; rw [HSL.out]; exact this⟩, hB.out⟩

set_option maxHeartbeats 1000000 in
theorem pr_no1 (n : Int) (A : Option Addr) (cap : Nat) (ps : List Pp) (x : Int) (AD : Option Addr) (dc : Nat) (dm : List Int) (h : Int) (AH : Option Addr) (hc : Nat) (hs : List Int) (w : World) (hT : ∀ w', Below w.heap.size w w' → Calls Try.prog 23 #[nv n A ps.length cap, .int .i64 x, .slice AD dm.length dc, .int .i64 h] w' (GivesI w' [] false)) :
    Calls Try.prog 41 #[nv n A ps.length cap, .int .i64 x, .slice AD dm.length dc, .int .i64 h, .slice AH hs.length hc] w (GivesI w [] false) := by
  have H := Lib.hid hT
  clear hT
  go_enter Try.func41, Try.ntmps41
  go_wp2_with (go_at_call 23; refine (H.out _ ((Below.refl _ _).alloc (Nat.le_refl _) _)).mono ?_; rintro e w1 ⟨g, c, rfl, hg, hO, hb1⟩)
  go_ret2
  exact gives_none (below_alloc_call hb1)
set_option maxHeartbeats 1000000 in
theorem pr_no2 (n : Int) (A : Option Addr) (cap : Nat) (ps : List Pp) (x : Int) (AD : Option Addr) (dc : Nat) (dm : List Int) (h : Int) (AH : Option Addr) (hc : Nat) (hs : List Int) (L : List Int) (w : World) (hi : IAt w AH hs) (hil : hs.length ≤ 1048576) (hv : hsB n hs = false) (hT : ∀ w', Below w.heap.size w w' → Calls Try.prog 23 #[nv n A ps.length cap, .int .i64 x, .slice AD dm.length dc, .int .i64 h] w' (GivesI w' L true)) :
    Calls Try.prog 41 #[nv n A ps.length cap, .int .i64 x, .slice AD dm.length dc, .int .i64 h, .slice AH hs.length hc] w (GivesI w [] false) := by
  have H := Lib.hid hT
  by_cases hl : (hs.length : Int) = n
  · have hv2 : allR 0 100000000000 hs = false := by
      unfold hsB amtB at hv
      rw [decide_eq_true hl, Bool.true_and] at hv
      exact hv
    have H2 := Lib.hid (fun w' (hb : Below w.heap.size w w') => ahd_v hv2 AH hc w' (hi.kept hb (Nat.le_refl _)) hil)
    have g0 : ((hs.length : Int) != n) = false := by simp [hl]
    clear hT hi hv hv2 hl
    go_enter Try.func41, Try.ntmps41
    go_wp2_with (first
      | (go_at_call 23; refine (H.out _ ((Below.refl _ _).alloc (Nat.le_refl _) _)).mono ?_; rintro e w1 ⟨g, c, rfl, hg, hO, hb1⟩; have HX1 := Lib.hid (show Below (w.heap.size + 1) (w.alloc (nb n A ps.length cap)) w1 by simpa using hb1); obtain ⟨b0, b1⟩ := box2 HX1.out; have hy1 := box_lt HX1.out; clear hO hb1)
      | (go_at_call 96; refine (H2.out _ (below_box HX1.out)).mono ?_; rintro e w2 ⟨rfl, hb2⟩))
    go_ret2
    exact gives_none ((below_box HX1.out).trans (hb2.mono (below_box HX1.out).size))
  · have g0 : ((hs.length : Int) != n) = true := by simp [hl]
    clear hT hi hv hl
    go_enter Try.func41, Try.ntmps41
    go_wp2_with (go_at_call 23; refine (H.out _ ((Below.refl _ _).alloc (Nat.le_refl _) _)).mono ?_; rintro e w1 ⟨g, c, rfl, hg, hO, hb1⟩; have HX1 := Lib.hid (show Below (w.heap.size + 1) (w.alloc (nb n A ps.length cap)) w1 by simpa using hb1); obtain ⟨b0, b1⟩ := box2 HX1.out; have hy1 := box_lt HX1.out; clear hO hb1)
    go_ret2
    exact gives_none (below_box HX1.out)
set_option maxHeartbeats 1000000 in
theorem pr_yes (N s : Nat) (A : Option Addr) (cap : Nat) (ps : List Pp) (AD : Option Addr) (dc : Nat) (dm : List Int) (h : Int) (AH : Option Addr) (hc : Nat) (hs : List Int) (w : World) (hp : PAt w A ps) (hm : ps.length ≤ maxLen) (hd : IAt w AD dm) (hdl : dm.length ≤ 1048576) (hi : IAt w AH hs) (hn : nodeB N ps s = true) (ht : treeB N ps = true) (hv : demB N ps dm = true) (hh : hdR h = true) (hvs : hsB N hs = true) :
    Calls Try.prog 41 #[nv N A ps.length cap, .int .i64 (s : Int), .slice AD dm.length dc, .int .i64 h, .slice AH hs.length hc] w (GivesI w (prL N ps s dm h hs) true) := by
  obtain ⟨hg, hdn, hr⟩ := demB_of hv
  obtain ⟨_, hs1, hs2⟩ := nodeB_of hn
  have hN8 := hg.2.1
  obtain ⟨hh1, hh2⟩ := hdR_of hh
  obtain ⟨hl, hv2⟩ := hsB_of hvs
  have H := Lib.hid (fun w' (hb : Below w.heap.size w w') => hd_yes N s A cap ps AD dc dm h w' (hp.kept hb (Nat.le_refl _)) hm (hd.kept hb (Nat.le_refl _)) hdl hn ht hv hh)
  have H2 := Lib.hid (fun w' (hb : Below w.heap.size w w') => ahd_v hv2 AH hc w' (hi.kept hb (Nat.le_refl _)) (by omega))
  have H3 := Lib.hid (fun g c w' (hb : Below w.heap.size w w') (hL : IAt w' (some ⟨g, 0, none⟩) (hdL N ps s dm h)) => prp_any (some ⟨g, 0, none⟩) c (hdL N ps s dm h) AH hc hs w' hL (hi.kept hb (Nat.le_refl _)) (by rw [hdL_len]; omega) (by rw [hdL_len]; omega) (fun i hi => by
    rw [hdL_len] at hi
    have h1 := hdF_in hg ht hr hdn (s := s) (by omega) (by omega) hh1 hh2 hi
    have h2 := hdL_at (N := N) (ps := ps) (s := s) (dm := dm) (h := h) hi
    unfold lA
    rw [h2]; omega) (fun i hi => by
    rw [hdL_len] at hi
    have h1 := allR_at hv2 (i := i) (by omega)
    unfold lA; omega))
  have HLN := Lib.hid (hdL_len N ps s dm h)
  have HPL := Lib.hid (show psL (hdL N ps s dm h) hs = prL N ps s dm h hs from rfl)
  have HPN := Lib.hid (prL_len N ps s dm h hs)
  have g0 : ((hs.length : Int) != (N : Int)) = false := by simp [hl]
  rw [HPL.out] at H3
  clear hp hd hi hn ht hv hh hvs hv2 hg hdn hr hl
  generalize prL N ps s dm h hs = PL at *
  generalize hdL N ps s dm h = HLs at *
  go_enter Try.func41, Try.ntmps41
  go_wp2_with (first
    | (go_at_call 23; refine (H.out _ ((Below.refl _ _).alloc (Nat.le_refl _) _)).mono ?_; rintro e w1 ⟨g, c, rfl, hg, hO, hb1⟩; have HX1 := Lib.hid (show Below (w.heap.size + 1) (w.alloc (nb N A ps.length cap)) w1 by simpa using hb1); obtain ⟨b0, b1⟩ := box2 HX1.out; have hy1 := box_lt HX1.out; have HI1 := Lib.hid hO.iat; clear hO hb1)
    | (go_at_call 96; refine (H2.out _ (below_box HX1.out)).mono ?_; rintro e w2 ⟨rfl, hb2⟩; have HX2 := Lib.hid (on_call HX1.out hb2); have HI2 := Lib.hid (HI1.out.kept hb2 (Nat.le_refl _)))
    | (go_at_call 123; refine (H3.out g c _ (below_box HX2.out) HI2.out).mono ?_; rintro e w3 ⟨⟨g3, rfl, hg3, hO3⟩, hb3⟩))
  go_ret2
  have hz := (below_box HX2.out).size
  exact ⟨g3, HLs.length, by rw [HPN.out, ← HLN.out]; rfl, by omega, by have := own_lower (B' := w.heap.size) hO3 (by omega); rw [HLN.out] at this ⊢; rw [HPN.out]; exact this, (below_box HX2.out).trans (hb3.mono hz)⟩
end Go.Proofs.Ytikppgbipdflbab.S2

namespace Go.Proofs.Ytikppgbipdflbab.S2
open Go.RowKit P2

/-- The first k places have their differences. -/
def plK (L H : List Int) (k : Nat) : List Int := (List.range L.length).map fun i => if i < k then lA L i - lA H i else lA L i
theorem plK_len (L H : List Int) (k : Nat) : (plK L H k).length = L.length := by simp [plK]
theorem plK_zero (L H : List Int) : plK L H 0 = L := by
  apply List.ext_getElem (by simp [plK])
  intro i h1 h2
  simp [plK, lA, List.getD, h2]
theorem plK_full (L H : List Int) : plK L H L.length = psL L H := by
  unfold plK psL
  apply List.map_congr_left
  intro i hi
  rw [if_pos (List.mem_range.1 hi)]
theorem plK_at {L H : List Int} {k : Nat} (_h : k < L.length) : (plK L H k).getD k 0 = lA L k := by simp [plK, List.getD, _h]
theorem plK_set {L H : List Int} {k : Nat} (_h : k < L.length) : ((plK L H k).map iv).set k (iv (lA L k - lA H k)) = (plK L H (k + 1)).map iv := by
  rw [← List.map_set]
  congr 1
  apply List.ext_getElem (by simp [plK])
  intro i h1 h2
  have hi : i < L.length := by simpa [plK] using h2
  rw [List.getElem_set]
  simp only [plK, List.getElem_map, List.getElem_range]
  by_cases e : k = i
  · subst e; rw [if_pos rfl, if_pos (by omega)]
  · rw [if_neg e]
    by_cases e2 : i < k
    · rw [if_pos e2, if_pos (by omega)]
    · rw [if_neg e2, if_neg (by omega)]

set_option maxHeartbeats 1000000 in
theorem shs_any (n : Int) (A : Option Addr) (len cap : Nat) (AU : Option Addr) (cc : Nat) (l : List Int) (w : World) (h : IAt w AU l) (hl : l.length ≤ 1048576) :
    Calls Try.prog 105 #[nv n A len cap, .slice AU l.length cc] w fun e w' => e = .returned (.bool (hsB n l)) ∧ Below w.heap.size w w' := by
  have HA := Lib.hid (h.kept (show Below w.heap.size w (w.alloc (.cells #[.int .i64 n, .slice A len cap] 26)) from (Below.refl _ _).alloc (Nat.le_refl _) _) (Nat.le_refl _))
  clear h
  go_enter Try.func105, Try.ntmps105
  go_wp2
  go_loop [5] (fun i => ∃ k : Nat, k ≤ l.length ∧ i = .int .i64 (k : Int) ∧ Hid (∀ j, j < k → inR 0 100000000000 (l.getD j 0) = true)) (fun i => l.length - (intOf i).toNat)
  case atStart => exact ⟨0, Nat.zero_le _, rfl, Lib.hid (fun j hj => absurd hj (by omega))⟩
  case round =>
    obtain ⟨k, hk, rfl, hno⟩ := hrel
    by_cases hlt : k < l.length
    · obtain ⟨b, off, hA, hbl, h0⟩ := HA.out.at_ hlt
      subst hA
      have hk0 : (0 : Int) ≤ (k : Int) := by omega
      have hkn : (k : Int) < (l.length : Int) := by omega
      obtain ⟨v, hv⟩ : ∃ v, inR 0 100000000000 (l.getD k 0) = v := ⟨_, rfl⟩
      have HC := Lib.hid (fun w' => shd_v (x := l.getD k 0) hv w')
      cases v with
      | false =>
        have HR := Lib.hid (show hsB n l = false from by rw [hsB, amtB, allR_no hlt hv, Bool.and_false])
        clear hv hno
        generalize l.getD k 0 = y at *
        go_wp2_with (go_at_call 106; refine (HC.out _).mono ?_; rintro e w1 ⟨rfl, hw⟩; replace hw := hw.symm; subst hw)
        go_ret
        exact ⟨by rw [HR.out]; rfl, (Below.refl _ _).alloc (Nat.le_refl _) _⟩
      | true =>
        have hno2 := Lib.hid (inR_snoc hno.out hv)
        clear hv hno
        generalize l.getD k 0 = y at *
        go_wp2_with (go_at_call 106; refine (HC.out _).mono ?_; rintro e w1 ⟨rfl, hw⟩; replace hw := hw.symm; subst hw)
        go_round
        case rel => exact ⟨k + 1, by omega, by go_num, hno2⟩
        case measure => simp [intOf]; omega
    · have HALL := Lib.hid (show allR 0 100000000000 l = true from allR_mk (fun i hi => hno.out i (by omega)))
      by_cases he : (l.length : Int) = n
      · have g1 : ((l.length : Int) == n) = true := beq_iff_eq.2 he
        have HR := Lib.hid (show hsB n l = true from by rw [hsB, amtB, HALL.out]; simp [he])
        clear he
        go_wp2
        go_ret
        exact ⟨by rw [HR.out]; rfl, (Below.refl _ _).alloc (Nat.le_refl _) _⟩
      · have g1 : ((l.length : Int) == n) = false := beq_eq_false_iff_ne.2 he
        have HR := Lib.hid (show hsB n l = false from by rw [hsB, amtB, HALL.out]; simp [he])
        clear he
        go_wp2
        go_ret
        exact ⟨by rw [HR.out]; rfl, (Below.refl _ _).alloc (Nat.le_refl _) _⟩
theorem shs_v {n : Int} {l : List Int} {v : Bool} (hv : hsB n l = v) (A : Option Addr) (len cap : Nat) (AU : Option Addr) (cc : Nat) (w : World) (h : IAt w AU l) (hl : l.length ≤ 1048576) :
    Calls Try.prog 105 #[nv n A len cap, .slice AU l.length cc] w fun e w' => e = .returned (.bool v) ∧ Below w.heap.size w w' := by
  rw [← hv]; exact shs_any n A len cap AU cc l w h hl

set_option maxHeartbeats 2000000 in
set_option maxRecDepth 100000 in
theorem sprs_any (N s : Nat) (A : Option Addr) (cap : Nat) (ps : List Pp) (AD : Option Addr) (dc : Nat) (dm : List Int) (h : Int) (AH : Option Addr) (hc : Nat) (hs : List Int) (w : World) (hp : PAt w A ps) (hcap : ps.length ≤ cap) (hd : IAt w AD dm) (hi : IAt w AH hs) (hn : nodeB N ps s = true) (ht : treeB N ps = true) (hv : demB N ps dm = true) (hh : hdR h = true) (hvs : hsB N hs = true) :
    Calls Try.prog 107 #[nv N A ps.length cap, .int .i64 (s : Int), .slice AD dm.length dc, .int .i64 h, .slice AH hs.length hc] w (GivesL w (prL N ps s dm h hs)) := by
  obtain ⟨hg, hdn, hr⟩ := demB_of hv
  obtain ⟨_, hs1, hs2⟩ := nodeB_of hn
  have hN8 := hg.2.1
  obtain ⟨hh1, hh2⟩ := hdR_of hh
  obtain ⟨hl, hv2⟩ := hsB_of hvs
  have H := Lib.hid (fun w' (hb : Below w.heap.size w w') => shds_any N s A cap ps AD dc dm h w' (hp.kept hb (Nat.le_refl _)) hcap (hd.kept hb (Nat.le_refl _)) hn ht hv hh)
  have HI := Lib.hid (fun w' (hb : Below w.heap.size w w') => hi.kept hb (Nat.le_refl _))
  have HLN := hdL_len N ps s dm h
  have HBL := Lib.hid (fun i (hi : i < N) => (show -5000000000 ≤ lA (hdL N ps s dm h) i ∧ lA (hdL N ps s dm h) i ≤ 105000000000 from by
    have h1 := hdF_in hg ht hr hdn (s := s) (by omega) (by omega) hh1 hh2 hi
    have h2 := hdL_at (N := N) (ps := ps) (s := s) (dm := dm) (h := h) hi
    unfold lA
    rw [h2]; omega))
  have HBH := Lib.hid (fun i (hi : i < N) => (show 0 ≤ lA hs i ∧ lA hs i ≤ 100000000000 from allR_at hv2 (i := i) (by omega)))
  have HPL := Lib.hid (show plK (hdL N ps s dm h) hs N = prL N ps s dm h hs from by have := plK_full (hdL N ps s dm h) hs; rw [HLN] at this; exact this)
  have HPN := Lib.hid (fun k => (show (plK (hdL N ps s dm h) hs k).length = N by rw [plK_len]; exact HLN))
  have HP0 := Lib.hid (plK_zero (hdL N ps s dm h) hs)
  have HPA := Lib.hid (fun k (hk : k < N) => plK_at (L := hdL N ps s dm h) (H := hs) (k := k) (by omega))
  have HPS := Lib.hid (fun k (hk : k < N) => plK_set (L := hdL N ps s dm h) (H := hs) (k := k) (by omega))
  have HLN2 := Lib.hid HLN
  have HSN := Lib.hid (show hs.length = N by omega)
  clear hp hd hi hn ht hv hh hvs hv2 hg hdn hr hl HLN hcap
  generalize prL N ps s dm h hs = PL at *
  generalize hdL N ps s dm h = HL at *
  go_enter Try.func107, Try.ntmps107
  go_wp2_with (go_at_call 98; refine (H.out _ ((Below.refl _ _).alloc (Nat.le_refl _) _)).mono ?_; rintro e w1 ⟨g, c, rfl, hg1, hO, hb1⟩; refine Hid.out ?_)
  have HB1 := Lib.hid (below_alloc_call hb1)
  have hgB : w.heap.size < g := by simp at hg1; omega
  have HO1 := Lib.hid (show w1.ownsRow w.heap.size 3 1 (.slice (some ⟨g, 0, none⟩) N c) N ((plK HL hs 0).map iv) from by
    have := own_lower (B' := w.heap.size) hO (by simp)
    unfold IOwn at this
    rw [HLN2.out] at this
    rw [HP0.out]
    exact this)
  clear hb1 hO hg1
  rw [HLN2.out]
  refine Lib.hid ?_
  go_wp2
  go_loopw [12] (fun i wr => ∃ k : Nat, k ≤ N ∧ i = .int .i64 k ∧ Hid (wr.ownsRow w.heap.size 3 1 (.slice (some ⟨g, 0, none⟩) N c) N ((plK HL hs k).map iv)) ∧ Hid (Below w.heap.size w wr)) (fun i _ => N - (intOf i).toNat)
  case atStart => exact ⟨0, Nat.zero_le _, rfl, HO1, HB1⟩
  case round =>
    clear HO1 HB1
    obtain ⟨k, hk, rfl, hown, hB⟩ := hrel
    by_cases hlt : k < N
    · have hkh : k < hs.length := by rw [HSN.out]; exact hlt
      obtain ⟨bb, of2, hA2, hbl2, q0⟩ := (HI.out _ hB.out).at_ hkh
      subst hA2
      have hk0 : (0 : Int) ≤ (k : Int) := by omega
      have hkn : (k : Int) < (N : Int) := by omega
      have hknf : (k : Int) < (hs.length : Int) := by omega
      have hgl := (hown.out.lt g rfl).2
      have hpn := HPN.out k
      have hcell := (hown.out.cellAt k (by omega)).trans (show ((plK HL hs k).map iv)[k]? = some (iv (lA HL k)) by
        rw [List.getElem?_map]
        have h1 := HPA.out k hlt
        have h2 : k < (plK HL hs k).length := by omega
        simp only [List.getD, List.getElem?_eq_getElem h2, Option.getD_some] at h1
        rw [List.getElem?_eq_getElem h2, h1]; rfl)
      have hfz := hown.out.frozenAt k
      have hst := hown.out.stored k (iv (lA HL k - lA hs k))
      rw [HPS.out k hlt] at hst
      have HRL := Lib.hid hst.1
      have hb1 := HBL.out k hlt
      have hb2 := HBH.out k hlt
      have hla : lA hs k = hs.getD k 0 := rfl
      rw [← hla] at q0
      clear hst hla
      generalize lA HL k = x at *
      generalize lA hs k = y at *
      have wS : IntKind.i64.wrap (x - y) = x - y := w64 _ (by omega)
      go_wp2
      go_region_with (fail)
      all_goals
        go_wp2
        go_roundw
        · exact ⟨k + 1, by omega, by go_num, HRL, Lib.hid (hB.out.setCell (p := ⟨g, k, none⟩) (by show w.heap.size ≤ g; omega) _).drew⟩
        · simp [intOf]; omega
    · have e : k = N := by omega
      subst e
      have hown2 := hown.out
      rw [HPL.out] at hown2
      have HW := Lib.hid hown2
      have hpl := HPN.out k
      rw [HPL.out] at hpl
      have HPLN := Lib.hid hpl
      clear hown hown2 hpl
      go_wp2
      go_ret
      exact ⟨g, c, by rw [HPLN.out]; rfl, by omega, by unfold IOwn; rw [HPLN.out]; exact HW.out, hB.out⟩

set_option maxHeartbeats 1000000 in
theorem spr_no (n : Int) (A : Option Addr) (cap : Nat) (ps : List Pp) (x : Int) (AD : Option Addr) (dc : Nat) (dm : List Int) (h : Int) (AH : Option Addr) (hc : Nat) (hs : List Int) (w : World) (hp : PAt w A ps) (hm : ps.length ≤ maxLen) (hd : IAt w AD dm) (hdl : dm.length ≤ 1048576) (hi : IAt w AH hs) (hil : hs.length ≤ 1048576) (hv : askH n ps x dm h = false ∨ hsB n hs = false) :
    Calls Try.prog 42 #[nv n A ps.length cap, .int .i64 x, .slice AD dm.length dc, .int .i64 h, .slice AH hs.length hc] w (GivesA w [] false) := by
  obtain ⟨v1, hv1⟩ : ∃ v, askH n ps x dm h = v := ⟨_, rfl⟩
  have H := Lib.hid (fun w' (hb : Below w.heap.size w w') => ask_v hv1 A cap AD dc w' (hp.kept hb (Nat.le_refl _)) hm (hd.kept hb (Nat.le_refl _)) hdl)
  cases v1 with
  | false =>
    clear hp hd hv hi hv1
    go_enter Try.func42, Try.ntmps42
    go_wp2_with (go_at_call 97; refine (H.out _ ((Below.refl _ _).alloc (Nat.le_refl _) _)).mono ?_; rintro e w1 ⟨rfl, hb1⟩)
    go_ret2
    exact gives_noneA (below_alloc_call hb1)
  | true =>
    have hv2 : hsB n hs = false := by
      rcases hv with h | h
      · exact absurd (h.symm.trans hv1) (by simp)
      · exact h
    have H2 := Lib.hid (fun w' (hb : Below w.heap.size w w') => shs_v hv2 A ps.length cap AH hc w' (hi.kept hb (Nat.le_refl _)) hil)
    clear hp hd hv hi hv1 hv2
    go_enter Try.func42, Try.ntmps42
    go_wp2_with (first
      | (go_at_call 97; refine (H.out _ ((Below.refl _ _).alloc (Nat.le_refl _) _)).mono ?_; rintro e w1 ⟨rfl, hb1⟩; have HX1 := Lib.hid (show Below (w.heap.size + 1) (w.alloc (nb n A ps.length cap)) w1 by simpa using hb1); obtain ⟨b0, b1⟩ := box2 HX1.out; have hy1 := box_lt HX1.out; clear hb1)
      | (go_at_call 105; refine (H2.out _ (below_box HX1.out)).mono ?_; rintro e w2 ⟨rfl, hb2⟩))
    go_ret2
    exact gives_noneA ((below_box HX1.out).trans (hb2.mono (below_box HX1.out).size))
set_option maxHeartbeats 1000000 in
theorem spr_yes (N s : Nat) (A : Option Addr) (cap : Nat) (ps : List Pp) (AD : Option Addr) (dc : Nat) (dm : List Int) (h : Int) (AH : Option Addr) (hc : Nat) (hs : List Int) (w : World) (hp : PAt w A ps) (hm : ps.length ≤ maxLen) (hcap : ps.length ≤ cap) (hd : IAt w AD dm) (hdl : dm.length ≤ 1048576) (hi : IAt w AH hs) (hil : hs.length ≤ 1048576) (ha : askH N ps s dm h = true) (hn : nodeB N ps s = true) (ht : treeB N ps = true) (hv : demB N ps dm = true) (hh : hdR h = true) (hvs : hsB N hs = true) :
    Calls Try.prog 42 #[nv N A ps.length cap, .int .i64 (s : Int), .slice AD dm.length dc, .int .i64 h, .slice AH hs.length hc] w (GivesA w (prL N ps s dm h hs) true) := by
  have H := Lib.hid (fun w' (hb : Below w.heap.size w w') => ask_v ha A cap AD dc w' (hp.kept hb (Nat.le_refl _)) hm (hd.kept hb (Nat.le_refl _)) hdl)
  have H2 := Lib.hid (fun w' (hb : Below w.heap.size w w') => shs_v hvs A ps.length cap AH hc w' (hi.kept hb (Nat.le_refl _)) hil)
  have H3 := Lib.hid (fun w' (hb : Below w.heap.size w w') => sprs_any N s A cap ps AD dc dm h AH hc hs w' (hp.kept hb (Nat.le_refl _)) hcap (hd.kept hb (Nat.le_refl _)) (hi.kept hb (Nat.le_refl _)) hn ht hv hh hvs)
  clear hp hd hv ha hn ht hh hcap hi hvs
  generalize prL N ps s dm h hs = L at *
  go_enter Try.func42, Try.ntmps42
  go_wp2_with (first
    | (go_at_call 97; refine (H.out _ ((Below.refl _ _).alloc (Nat.le_refl _) _)).mono ?_; rintro e w1 ⟨rfl, hb1⟩; have HX1 := Lib.hid (show Below (w.heap.size + 1) (w.alloc (nb N A ps.length cap)) w1 by simpa using hb1); obtain ⟨b0, b1⟩ := box2 HX1.out; have hy1 := box_lt HX1.out; clear hb1)
    | (go_at_call 105; refine (H2.out _ (below_box HX1.out)).mono ?_; rintro e w2 ⟨rfl, hb2⟩; have HX2 := Lib.hid (on_call HX1.out hb2); clear b0 b1; obtain ⟨b0, b1⟩ := box2 HX2.out; have hy2 := box_lt HX2.out; clear hb2)
    | (go_at_call 107; refine (H3.out _ (below_box HX2.out)).mono ?_; rintro e w3 ⟨g, c, rfl, hg2, hO, hb3⟩))
  go_ret2
  have hz := (below_box HX2.out).size
  exact ⟨g, 0, c, rfl, by omega, hO.iat, (below_box HX2.out).trans (hb3.mono hz), iown_lt' hO⟩
end Go.Proofs.Ytikppgbipdflbab.S2

namespace Go.Proofs.Ytikppgbipdflbab.S2
open Go.RowKit P2
theorem pr_bad (n : Int) (A : Option Addr) (cap : Nat) (ps : List Pp) (x : Int) (AD : Option Addr) (dc : Nat) (dm : List Int) (h : Int) (AH : Option Addr) (hc : Nat) (hs : List Int) (w : World) (hp : PAt w A ps) (hm : ps.length ≤ maxLen) (hd : IAt w AD dm) (hdl : dm.length ≤ 1048576) (hi : IAt w AH hs) (hil : hs.length ≤ 1048576) (hv : askH n ps x dm h = false ∨ hsB n hs = false) :
    Calls Try.prog 41 #[nv n A ps.length cap, .int .i64 x, .slice AD dm.length dc, .int .i64 h, .slice AH hs.length hc] w (GivesI w [] false) := by
  cases hv1 : askH n ps x dm h with
  | false => exact pr_no1 n A cap ps x AD dc dm h AH hc hs w (fun w' hb => hd_bad n A cap ps x AD dc dm h w' (hp.kept hb (Nat.le_refl _)) hm (hd.kept hb (Nat.le_refl _)) hdl hv1)
  | true =>
    have hv2 : hsB n hs = false := by
      rcases hv with h | h
      · exact absurd (h.symm.trans hv1) (by simp)
      · exact h
    obtain ⟨N, X, rfl, rfl, h1, h2, h3, h4⟩ := askH_of hv1
    exact pr_no2 N A cap ps X AD dc dm h AH hc hs _ w hi hil hv2 (fun w' hb => hd_yes N X A cap ps AD dc dm h w' (hp.kept hb (Nat.le_refl _)) hm (hd.kept hb (Nat.le_refl _)) hdl h1 h3 h2 h4)
end Go.Proofs.Ytikppgbipdflbab.S2

namespace Go.Proofs.Ytikppgbipdflbab.S2
open Go.RowKit P2

/-- Both functions give these values where the arguments lie in memory. -/
def TwoF (f1 f2 : Nat) (n : Int) (ps : List Pp) (cu : List Int) (args : Value → Value → Array Value) (r : Value) : Prop :=
  ∀ (A : Option Addr) (c : Nat) (AC : Option Addr) (cc : Nat) (w : World), PAt w A ps → IAt w AC cu →
    (Calls Try.prog f1 (args (nv n A ps.length c) (.slice AC cu.length cc)) w fun e w' => e = .returned r ∧ Below w.heap.size w w') ∧
    (Calls Try.prog f2 (args (nv n A ps.length c) (.slice AC cu.length cc)) w fun e w' => e = .returned r ∧ Below w.heap.size w w')
theorem sum_nn {f : Nat → Int} : ∀ {k : Nat}, (∀ i, i < k → 0 ≤ f i) → 0 ≤ sumK f k
  | 0, _ => by simp [sumK]
  | k + 1, h => by
    have h1 := sum_nn (f := f) (k := k) (fun i hi => h i (by omega))
    have h2 := h k (by omega)
    simp only [sumK]; omega
theorem enT_nn {n : Int} {ps : List Pp} (hg : P2.Good n ps) {fl : List Int} (hl : fl.length = ps.length) {k : Nat} (hk : k < fl.length) : 0 ≤ enT ps fl k := by
  have hp := good_pp hg (pAt_mem (show k < ps.length by omega))
  have hs : 0 ≤ (pAt ps k).sz := by obtain ⟨_, _, _, _, _, _, _, hs1, hs2⟩ := hp; omega
  unfold enT lossI
  have h1 := absI_nn (lA fl k)
  have h2 : 0 ≤ lA fl k * lA fl k := by
    rcases Int.le_total 0 (lA fl k) with h | h
    · exact Int.mul_nonneg h h
    · exact Int.mul_nonneg_of_nonpos_of_nonpos h h
  have h3 : (pAt ps k).sz * lA fl k * absI (lA fl k) * lA fl k = (pAt ps k).sz * absI (lA fl k) * (lA fl k * lA fl k) := by
    rw [Int.mul_right_comm (pAt ps k).sz, Int.mul_assoc ((pAt ps k).sz * absI (lA fl k))]
  rw [h3]
  exact Int.mul_nonneg (Int.mul_nonneg hs h1) h2
theorem al_pack (n : Int) (ps : List Pp) (cu : List Int) (x y : Int) (hm : ps.length ≤ maxLen) (hcl : cu.length ≤ 1048576) : ∃ (v : Int) (ok : Bool), (ok = true → x = y → v = 0) ∧ TwoF 26 34 n ps cu (fun a b => #[a, b, .int .i64 x, .int .i64 y]) (.tuple #[.int .i64 v, .bool ok]) := by
  cases hv1 : nodeB n ps x with
  | false => exact ⟨0, false, by simp, fun A c AC cc w h hc => ⟨al_no1 n A c ps AC cc cu x y w (fun w' hb => way_no1 n A c ps x y w' (h.kept hb (Nat.le_refl _)) hm hv1), sal_no n A c ps AC cc cu x y w h hm hc hcl (.inl hv1)⟩⟩
  | true =>
    cases hv2 : nodeB n ps y with
    | false => exact ⟨0, false, by simp, fun A c AC cc w h hc => ⟨al_no1 n A c ps AC cc cu x y w (fun w' hb => way_no2 n A c ps x y w' (h.kept hb (Nat.le_refl _)) hm hv1 hv2), sal_no n A c ps AC cc cu x y w h hm hc hcl (.inr (.inl hv2))⟩⟩
    | true =>
      obtain ⟨hg, hx1, hx2⟩ := nodeB_of hv1
      obtain ⟨_, hy1, hy2⟩ := nodeB_of hv2
      obtain ⟨N, rfl⟩ := good_nat hg
      obtain ⟨X, rfl⟩ : ∃ X : Nat, x = X := ⟨x.toNat, by omega⟩
      obtain ⟨T, rfl⟩ : ∃ T : Nat, y = T := ⟨y.toNat, by omega⟩
      by_cases hd : dist ps T X = -1
      · exact ⟨0, false, by simp, fun A c AC cc w h hc => ⟨al_no1 N A c ps AC cc cu X T w (fun w' hb => way_no3 N X T A c ps w' (h.kept hb (Nat.le_refl _)) hm hv1 hv2 hd), sal_no N A c ps AC cc cu X T w h hm hc hcl (.inr (.inr (.inr ⟨N, X, T, rfl, rfl, rfl, hd⟩)))⟩⟩
      · obtain ⟨K, hK⟩ : ∃ K : Nat, dist ps T X = K := by
          have := dist_lo ps T X
          exact ⟨(dist ps T X).toNat, by omega⟩
        cases hv : floB N ps cu with
        | false => exact ⟨0, false, by simp, fun A c AC cc w h hc => ⟨al_no2 N A c ps AC cc cu X T _ w h hm hc hcl hv (fun w' hb => way_yes N X T A c ps w' (h.kept hb (Nat.le_refl _)) hm hv1 hv2 K hK), sal_no N A c ps AC cc cu X T w h hm hc hcl (.inr (.inr (.inl hv)))⟩⟩
        | true =>
          refine ⟨alongA ps cu (wayL ps T K X) X, true, fun _ he => ?_, fun A c AC cc w h hc => ⟨al_yes N A c ps AC cc cu X T _ w h hm hc hcl hv (way_ok hg (by omega) hK) (fun w' hb => way_yes N X T A c ps w' (h.kept hb (Nat.le_refl _)) hm hv1 hv2 K hK), sal_yes N X T K A c ps AC cc cu w h hm hc hcl hv hv1 hv2 hK⟩⟩
          have he' : X = T := by omega
          subst he'
          have h0 : dist ps X X = 0 := dist_self ps X
          have : K = 0 := by omega
          subst this
          rfl
theorem en_pack (n : Int) (ps : List Pp) (cu : List Int) (hm : ps.length ≤ maxLen) (hcl : cu.length ≤ 1048576) : ∃ (v : Int) (ok : Bool), 0 ≤ v ∧ (ok = true → floB n ps cu = true ∧ v = enA ps cu) ∧ TwoF 36 37 n ps cu (fun a b => #[a, b]) (.tuple #[.int .i64 v, .bool ok]) := by
  cases hv : floB n ps cu with
  | false => exact ⟨0, false, by simp, by simp, fun A c AC cc w h hc => ⟨en_no n A c ps AC cc cu w h hm hc hcl (.inl hv), sen_bad n A c ps AC cc cu w h hm hc hcl hv⟩⟩
  | true =>
    cases hv2 : allR (-2000) 2000 cu with
    | false => exact ⟨0, false, by simp, by simp, fun A c AC cc w h hc => ⟨en_no n A c ps AC cc cu w h hm hc hcl (.inr hv2), sen_ok n A c ps AC cc cu (0, false) w h hm hc hcl hv (by rw [hv2]; rfl)⟩⟩
    | true =>
      obtain ⟨hg, hfl, hr⟩ := floB_of hv
      exact ⟨enA ps cu, true, sum_nn (fun i hi => enT_nn hg hfl hi), fun _ => ⟨rfl, rfl⟩, fun A c AC cc w h hc => ⟨en_yes n A c ps AC cc cu w h hm hc hcl hv hv2, sen_ok n A c ps AC cc cu (enA ps cu, true) w h hm hc hcl hv (by rw [hv2]; rfl)⟩⟩
theorem st_pack (n : Int) (ps : List Pp) (cu : List Int) (hm : ps.length ≤ maxLen) (hcl : cu.length ≤ 1048576) : ∃ (i v : Int) (ok : Bool), TwoF 38 39 n ps cu (fun a b => #[a, b]) (.tuple #[.int .i64 i, .int .i64 v, .bool ok]) := by
  by_cases hv : floB n ps cu = true ∧ 0 < cu.length
  · exact ⟨_, _, true, fun A c AC cc w h hc => ⟨st_yes n A c ps AC cc cu w h hm hc hcl hv.1 hv.2, sst_yes n A c ps AC cc cu w h hm hc hcl hv.1 hv.2⟩⟩
  · have hv2 : floB n ps cu = false ∨ cu.length = 0 := by
      cases hf : floB n ps cu with
      | false => exact .inl rfl
      | true => exact .inr (by have : ¬ 0 < cu.length := fun h => hv ⟨hf, h⟩; omega)
    exact ⟨0, 0, false, fun A c AC cc w h hc => ⟨st_no n A c ps AC cc cu w h hm hc hcl hv2, sst_no n A c ps AC cc cu w h hm hc hcl hv2⟩⟩
/-- The loss of the pipe that stands at i. -/
theorem los_at {n : Int} {ps : List Pp} {cu : List Int} (hv : floB n ps cu = true) (hm : ps.length ≤ maxLen) (hcl : cu.length ≤ 1048576) {i : Nat} (hi : i < ps.length) (A : Option Addr) (c : Nat) (AC : Option Addr) (cc : Nat) (w : World) (h : PAt w A ps) (hc : IAt w AC cu) :
    Calls Try.prog 25 #[nv n A ps.length c, .slice AC cu.length cc, .int .i64 (pAt ps i).id] w fun e w' => e = .returned (.tuple #[.int .i64 (lossI (pAt ps i) (lA cu i)), .bool true]) ∧ Below w.heap.size w w' := by
  obtain ⟨hg, _, _⟩ := floB_of hv
  obtain ⟨N, rfl⟩ := good_nat hg
  exact los_yes N i A c ps AC cc cu _ w h hm hc hcl hv hi (plc_at hg hi).2
theorem pr_pack (n : Int) (ps : List Pp) (x : Int) (cu : List Int) (h0 : Int) (hs : List Int) (hm : ps.length ≤ maxLen) (hcl : cu.length ≤ 1048576) (hil : hs.length ≤ 1048576) : ∃ (L H : List Int) (ok : Bool), L.length ≤ 1000 ∧ (ok = true → L.length = hs.length ∧ H.length = hs.length ∧ ∀ i, i < L.length → L.getD i 0 + hs.getD i 0 = H.getD i 0 ∧ -5000000000 ≤ H.getD i 0 ∧ H.getD i 0 ≤ 105000000000) ∧
    (∀ (A : Option Addr) (c : Nat) (AC : Option Addr) (cc : Nat) (AH : Option Addr) (ch : Nat) (w : World), PAt w A ps → ps.length ≤ c → IAt w AC cu → IAt w AH hs →
      Calls Try.prog 41 #[nv n A ps.length c, .int .i64 x, .slice AC cu.length cc, .int .i64 h0, .slice AH hs.length ch] w (GivesI w L ok) ∧
      Calls Try.prog 42 #[nv n A ps.length c, .int .i64 x, .slice AC cu.length cc, .int .i64 h0, .slice AH hs.length ch] w (GivesA w L ok) ∧
      (ok = true → Calls Try.prog 23 #[nv n A ps.length c, .int .i64 x, .slice AC cu.length cc, .int .i64 h0] w (GivesI w H true))) := by
  by_cases hv : askH n ps x cu h0 = true ∧ hsB n hs = true
  · obtain ⟨hva, hvs⟩ := hv
    obtain ⟨N, X, rfl, rfl, h1, h2, h3, h4⟩ := askH_of hva
    have hN8 := (nodeB_of h1).1.2.1
    have hsl : hs.length = N := by have := (hsB_of hvs).1; omega
    refine ⟨prL N ps X cu h0 hs, hdL N ps X cu h0, true, by rw [prL_len]; omega, fun _ => ⟨by rw [prL_len, hsl], by rw [hdL_len, hsl], fun i hi => ?_⟩, fun A c AC cc AH ch w h hc' hc hi => ⟨pr_yes N X A c ps AC cc cu h0 AH ch hs w h hm hc hcl hi h1 h3 h2 h4 hvs, spr_yes N X A c ps AC cc cu h0 AH ch hs w h hm hc' hc hcl hi hil hva h1 h3 h2 h4 hvs, fun _ => hd_yes N X A c ps AC cc cu h0 w h hm hc hcl h1 h3 h2 h4⟩⟩
    rw [prL_len] at hi
    have e1 := prL_at (N := N) (ps := ps) (s := X) (dm := cu) (h := h0) (hs := hs) hi
    have e2 := hdL_at (N := N) (ps := ps) (s := X) (dm := cu) (h := h0) hi
    unfold lA at e1
    obtain ⟨hg, hdn, hr⟩ := demB_of h2
    obtain ⟨_, hs1, hs2⟩ := nodeB_of h1
    obtain ⟨hh1, hh2⟩ := hdR_of h4
    have e3 := hdF_in hg h3 hr hdn (s := X) (by omega) (by omega) hh1 hh2 hi
    rw [e1, e2]
    exact ⟨by omega, e3.1, e3.2⟩
  · have hv2 : askH n ps x cu h0 = false ∨ hsB n hs = false := by
      cases h1 : askH n ps x cu h0 with
      | false => exact .inl rfl
      | true => exact .inr (by cases h2 : hsB n hs with
        | false => rfl
        | true => exact absurd ⟨h1, h2⟩ hv)
    exact ⟨[], [], false, by simp, by simp, fun A c AC cc AH ch w h hc' hc hi => ⟨pr_bad n A c ps x AC cc cu h0 AH ch hs w h hm hc hcl hi hil hv2, spr_no n A c ps x AC cc cu h0 AH ch hs w h hm hc hcl hi hil hv2, by simp⟩⟩
end Go.Proofs.Ytikppgbipdflbab.S2
