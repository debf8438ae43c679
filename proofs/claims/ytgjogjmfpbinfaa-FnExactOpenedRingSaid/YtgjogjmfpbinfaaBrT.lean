/- A tree as the program lays it out: branches in memory; the nodes of a branch: contracts. Conditions: each theorem's own premises. -/
import Derived.Test.YtgjogjmfpbinfaaTrOne
import Derived.Test.YtgjogjmfpbinfaaTrI
import Derived.Test.YtgjogjmfpbinfaaOpenOne
import Derived.Deep.DeepCutAuto
namespace Go.Proofs.Ytgjogjmfpbinfaa.S2
open Go.RowKit P2

/-- A branch as a value: its node, its inlet, the branches behind it. -/
abbrev bv (x : Int) (q : Pp) (A : Option Addr) (len cap : Nat) : Value := .agg #[.int .i64 x, .int .i64 q.id, .int .i64 q.fr, .int .i64 q.to, .int .i64 q.sz, .slice A len cap]
/-- A branch in memory. -/
def BC (w : World) (b o : Nat) (x : Int) (q : Pp) (v : Value) : Prop :=
  w.cell? ⟨b, o, none⟩ = some (.int .i64 x) ∧ w.cell? ⟨b, o + 1, none⟩ = some (.int .i64 q.id) ∧ w.cell? ⟨b, o + 2, none⟩ = some (.int .i64 q.fr) ∧ w.cell? ⟨b, o + 3, none⟩ = some (.int .i64 q.to) ∧ w.cell? ⟨b, o + 4, none⟩ = some (.int .i64 q.sz) ∧ w.cell? ⟨b, o + 5, none⟩ = some v
theorem BC.kept {w w' : World} {b o : Nat} {x : Int} {q : Pp} {v : Value} (h : BC w b o x q v) (hb : w'.heap[b]? = w.heap[b]?) : BC w' b o x q v := by
  have hc : ∀ k, w'.cell? ⟨b, k, none⟩ = w.cell? ⟨b, k, none⟩ := fun k => World.cell?_of_block hb
  obtain ⟨h0, h1, h2, h3, h4, h5⟩ := h
  exact ⟨(hc _).trans h0, (hc _).trans h1, (hc _).trans h2, (hc _).trans h3, (hc _).trans h4, (hc _).trans h5⟩
/-- The branches behind a node that water reaches through q lie there, in blocks that P tells. -/
def RepIn (ps : List Pp) (P : Nat → Prop) : Nat → World → Option Addr → Int → Pp → Prop
  | 0, _, _, _, _ => False
  | d + 1, w, A, x, q => kidsL ps x q = [] ∨ ∃ b, A = some ⟨b, 0, none⟩ ∧ P b ∧ b < w.heap.size ∧ ∀ i p, (kidsL ps x q)[i]? = some p → ∃ A' c', BC w b (i * 6) (oth p x) p (.slice A' (kidsL ps (oth p x) p).length c') ∧ RepIn ps P d w A' (oth p x) p
theorem RepIn.kept {ps : List Pp} {P Q : Nat → Prop} {w w' : World} (hPQ : ∀ b, P b → b < w.heap.size → Q b) (hb : ∀ b, P b → b < w.heap.size → w'.heap[b]? = w.heap[b]?) (hs : w.heap.size ≤ w'.heap.size) : ∀ (d : Nat) (A : Option Addr) (x : Int) (q : Pp), RepIn ps P d w A x q → RepIn ps Q d w' A x q
  | 0, _, _, _, h => h
  | d + 1, A, x, q, h => by
    rcases h with h | ⟨b, hA, hP, hlt, hk⟩
    · exact .inl h
    · refine .inr ⟨b, hA, hPQ b hP hlt, Nat.lt_of_lt_of_le hlt hs, fun i p hp => ?_⟩
      obtain ⟨A', c', hc, hr⟩ := hk i p hp
      exact ⟨A', c', hc.kept (hb b hP hlt), RepIn.kept hPQ hb hs d A' _ _ hr⟩
theorem RepIn.below {ps : List Pp} {P : Nat → Prop} {w w' : World} {d : Nat} {A : Option Addr} {x : Int} {q : Pp} (h : RepIn ps P d w A x q) (hb : Below w.heap.size w w') : RepIn ps P d w' A x q :=
  RepIn.kept (fun _ h _ => h) (fun b _ hlt => hb.block b hlt) hb.size d A x q h

/-- The nodes of the first k branches behind it. -/
def kidN (ps : List Pp) (d : Nat) (x : Int) (q : Pp) (k : Nat) : List Int := ((kidsL ps x q).take k).flatMap fun p => nodesL ps d (oth p x) p
theorem kidN_step {ps : List Pp} {d : Nat} {x : Int} {q : Pp} {k : Nat} {p : Pp} (h : (kidsL ps x q)[k]? = some p) : kidN ps d x q (k + 1) = kidN ps d x q k ++ nodesL ps d (oth p x) p := by
  unfold kidN
  have hk : k < (kidsL ps x q).length := (List.getElem?_eq_some_iff.1 h).1
  rw [List.take_succ_eq_append_getElem hk, List.flatMap_append]
  have e : (kidsL ps x q)[k] = p := (List.getElem?_eq_some_iff.1 h).2
  simp [e]
theorem kidN_le {ps : List Pp} {d : Nat} {x : Int} {q : Pp} (k : Nat) : (kidN ps d x q k).length ≤ (kidN ps d x q (kidsL ps x q).length).length := by
  have h1 : kidN ps d x q (kidsL ps x q).length = kidN ps d x q k ++ ((kidsL ps x q).drop k).flatMap fun p => nodesL ps d (oth p x) p := by
    unfold kidN
    rw [List.take_length, ← List.flatMap_append, List.take_append_drop]
  rw [h1, List.length_append]; omega
theorem nodes_succ (ps : List Pp) (d : Nat) (x : Int) (q : Pp) : nodesL ps (d + 1) x q = x :: kidN ps d x q (kidsL ps x q).length := by
  unfold kidN
  rw [List.take_length]; rfl
theorem nodes_pos (ps : List Pp) (d : Nat) (x : Int) (q : Pp) : 0 < (nodesL ps d x q).length := by
  cases d with
  | zero => simp [nodesL]
  | succ d => rw [nodes_succ]; simp
theorem cells_new6 (w : World) (a b c d e f : Value) (t : TypeId) (k : Nat) (u : Value) (h : [a, b, c, d, e, f][k]? = some u) : (w.alloc (.cells #[a, b, c, d, e, f] t)).cell? ⟨w.heap.size, k, none⟩ = some u := by
  rw [World.cell?_alloc_at _ _ _ _ rfl]
  simpa using h

theorem own_oneI (w : World) (B : Nat) (x : Int) (hB : B ≤ w.heap.size) : IOwn (w.alloc (.cells #[iv x] 3)) B (.slice (some ⟨w.heap.size, 0, none⟩) 1 1) [x] :=
  ⟨rfl, .inr ⟨w.heap.size, 1, #[iv x], rfl, hB, by simpa using (MapKept.heap_alloc w (.cells #[iv x] 3)).1, Nat.le_refl _, by simp [maxLen], rfl, rfl⟩⟩
theorem iown_cells {w : World} {B g c : Nat} {l : List Int} (h : IOwn w B (.slice (some ⟨g, 0, none⟩) l.length c) l) : ∀ j u, (l.map iv)[j]? = some u → w.cell? ((⟨g, 0, none⟩ : Addr).add j) = some u := by
  intro j u hu
  have hj : j < l.length := by
    have := (List.getElem?_eq_some_iff.1 hu).1
    simpa using this
  rw [add_plus, Nat.zero_add, World.ownsRow.cellAt h j (by omega)]
  exact hu

set_option maxHeartbeats 2000000 in
set_option maxRecDepth 100000 in
theorem bnodes_any (ps : List Pp) (P : Nat → Prop) (hl10 : ps.length ≤ 10) : ∀ (d : Nat) (x : Int) (q : Pp) (A : Option Addr) (cap : Nat) (w : World), RepIn ps P d w A x q → (nodesL ps d x q).length ≤ 1000 →
    Calls Try.prog 168 #[bv x q A (kidsL ps x q).length cap] w (GivesL w (nodesL ps d x q)) := by
  intro d
  induction d with
  | zero => intro x q A cap w h; exact h.elim
  | succ d ih =>
    intro x q A cap w h hlen
    have hkl : (kidsL ps x q).length ≤ 10 := Nat.le_trans (List.length_filter_le _ _) hl10
    have HR := Lib.hid (fun w' (hb : Below w.heap.size w w') => h.below hb)
    have HIH := Lib.hid ih
    have HN := Lib.hid (nodes_succ ps d x q)
    have hlen2 : (kidN ps d x q (kidsL ps x q).length).length < 1000 := by rw [nodes_succ] at hlen; simp at hlen; omega
    have HKL := Lib.hid (fun k => kidN_le (ps := ps) (d := d) (x := x) (q := q) k)
    have HKS := Lib.hid (fun k p (h : (kidsL ps x q)[k]? = some p) => kidN_step (d := d) h)
    have HK0 := Lib.hid (show kidN ps d x q 0 = [] from by simp [kidN])
    obtain ⟨i0, hi, hz0, hz1, hz2⟩ := info_parts infoI
    clear h ih hlen
    obtain ⟨Ks, hKs⟩ : ∃ Ks, kidsL ps x q = Ks := ⟨_, rfl⟩
    have HKs := Lib.hid hKs
    rw [hKs] at hkl hlen2 HKL HKS HN ⊢
    clear hKs
    go_enter Try.func168, Try.ntmps168
    go_wp2
    have hO1 : Hid (IOwn ((w.alloc (.cells #[.int .i64 x, .int .i64 q.id, .int .i64 q.fr, .int .i64 q.to, .int .i64 q.sz, .slice A Ks.length cap] 144)).alloc (.cells #[iv x] 3)) w.heap.size (.slice (some ⟨w.heap.size + 1, 0, none⟩) 1 1) [x]) := Lib.hid (by
      have := own_oneI (w.alloc (.cells #[.int .i64 x, .int .i64 q.id, .int .i64 q.fr, .int .i64 q.to, .int .i64 q.sz, .slice A Ks.length cap] 144)) w.heap.size x (by simp)
      simpa using this)
    have hB1 := Lib.hid (((Below.refl w.heap.size w).alloc (Nat.le_refl _) (.cells #[.int .i64 x, .int .i64 q.id, .int .i64 q.fr, .int .i64 q.to, .int .i64 q.sz, .slice A Ks.length cap] 144)).alloc (by simp) (.cells #[iv x] 3))
    go_loopw [3, 12] (fun v i wr => ∃ k : Nat, k ≤ Ks.length ∧ i = .int .i64 (k : Int) ∧ Hid (IOwn wr w.heap.size v (x :: kidN ps d x q k)) ∧ Hid (v ≠ .slice none 0 0) ∧ Hid (Below w.heap.size w wr)) (fun _ i _ => Ks.length - (intOf i).toNat)
    case atStart => exact ⟨0, Nat.zero_le _, rfl, Lib.hid (by rw [HK0.out]; exact hO1.out), Lib.hid (by simp), hB1⟩
    case round =>
      clear hO1 hB1
      obtain ⟨k, hk, rfl, hown, hvn, hB⟩ := hrel
      by_cases hlt : k < Ks.length
      · obtain ⟨p, hp⟩ : ∃ p, Ks[k]? = some p := ⟨_, List.getElem?_eq_getElem hlt⟩
        have hrep := HR.out wr hB.out
        rcases hrep with h0 | ⟨b, hA, _, hbl, hkids⟩
        · rw [HKs.out] at h0; rw [h0] at hlt; simp at hlt
        · subst hA
          rw [HKs.out] at hkids
          obtain ⟨A', c', hbc, hrp⟩ := hkids k p hp
          obtain ⟨c0, c1, c2, c3, c4, c5⟩ := hbc
          have HRP := Lib.hid hrp
          have hst := HKS.out k p hp
          have hle := HKL.out (k + 1)
          rw [hst] at hle
          have hle2 : (kidN ps d x q k).length + (nodesL ps d (oth p x) p).length < 1000 := by rw [List.length_append] at hle; omega
          have HST := Lib.hid hst
          have hk0 : (0 : Int) ≤ (k : Int) := by omega
          have hkn : (k : Int) < (Ks.length : Int) := by omega
          have HC := Lib.hid (fun w' (hb : Below wr.heap.size wr w') => HIH.out (oth p x) p A' c' w' (HRP.out.below hb) (by omega))
          have hnp := nodes_pos ps d (oth p x) p
          clear hkids hrp hst hle hp
          generalize nodesL ps d (oth p x) p = L at *
          generalize oth p x = y at *
          generalize (kidsL ps y p).length = m at *
          go_wp2_with (first
            | (go_at_call 168; refine (HC.out _ ((Below.refl _ _).alloc (Nat.le_refl _) _)).mono ?_; rintro e w5 ⟨gc, cc, rfl, hgc, hoc, hb5⟩; have hba := (Below.refl wr.heap.size wr).alloc (Nat.le_refl _) (.cells #[.int .i64 y, .int .i64 p.id, .int .i64 p.fr, .int .i64 p.to, .int .i64 p.sz, .slice A' m c'] 144); have hb6 := hba.trans (hb5.mono hba.size); have HO5 := Lib.hid (hown.out.on hb6); have HC5 := Lib.hid (iown_cells hoc); have HB5 := Lib.hid (hB.out.trans (hb6.mono hB.out.size)); have ho := HO5.out; unfold IOwn at ho)
            | (at_builtin; go_must (refine wpList_append_own _ rfl _ _ 34 rfl w.heap.size 3 i0 (.int .i64 0) 1 8 Try.underlying34 hi hz0 hz1 hz2 rfl (by decide) _ _ _ rfl ho ⟨gc, 0, none⟩ L.length cc (L.map iv) rfl (by simp) HC5.out (by intro u hu; obtain ⟨z, _, rfl⟩ := List.mem_map.1 hu; rfl) ?c3 ?c4 ?c5 ?_)))
          case c3 => simp [maxLen]; omega
          case c4 => simp; omega
          case c5 => have := HB5.out.size; omega
          intro v' w7 hown' hgrow hnil
          have hown7 := Lib.hid (show IOwn w7 w.heap.size v' (x :: kidN ps d x q (k + 1)) from by
            unfold IOwn
            rw [HST.out]
            simpa [Nat.add_assoc, Nat.add_comm, Nat.add_left_comm] using hown')
          have hv7 := Lib.hid (show v' ≠ .slice none 0 0 from fun e => hvn.out (hnil.1 e).1)
          have HB7 := Lib.hid (HB5.out.grown hgrow (by have := HB5.out.size; omega) (fun z hz => (ho.lt z hz).1))
          clear hown' hgrow hnil ho HO5 HC5
          go_wp2
          go_roundw
          case rel => exact ⟨k + 1, by omega, by go_num, hown7, hv7, HB7⟩
          case measure => simp [intOf]; omega
      · have hkk : k = Ks.length := by omega
        subst hkk
        obtain ⟨g, cg, rfl, hg⟩ := own_slice hown.out hvn.out
        go_wp2
        go_ret
        rw [HN.out]
        exact ⟨g, cg, rfl, hg, hown.out, hB.out⟩
end Go.Proofs.Ytgjogjmfpbinfaa.S2
