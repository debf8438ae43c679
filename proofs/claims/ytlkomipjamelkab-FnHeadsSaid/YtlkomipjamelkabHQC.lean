/- The tree as water comes to it, as the program builds it: contracts. Conditions: each theorem's own premises. -/
import Derived.Test.YtlkomipjamelkabTrOne
import Derived.Test.YtlkomipjamelkabTrI
import Derived.Test.YtlkomipjamelkabOpenOne
import Derived.Deep.DeepCutAuto
import Derived.Test.YtlkomipjamelkabBkTwo
import Derived.Laws.StructEq
import Derived.Laws.Rows
import Derived.Test.YtlkomipjamelkabDistOne
import Derived.Test.YtlkomipjamelkabAmB
import Derived.StillTailTactics
namespace Go.Proofs.Ytlkomipjamelkab.S2
open Go.RowKit P2

/-- A branch as a value: its node, its inlet, the branches behind it. -/
abbrev bv (x : Int) (q : Pp) (A : Option Addr) (len cap : Nat) : Value := .agg #[.int .i64 x, .int .i64 q.id, .int .i64 q.fr, .int .i64 q.to, .int .i64 q.sz, .slice A len cap]
/-- A branch in memory. -/
def BC (w : World) (b o : Nat) (x : Int) (q : Pp) (v : Value) : Prop :=
  w.cell? ⟨b, o, none⟩ = some (.int .i64 x) ∧ w.cell? ⟨b, o + 1, none⟩ = some (.int .i64 q.id) ∧ w.cell? ⟨b, o + 2, none⟩ = some (.int .i64 q.fr) ∧ w.cell? ⟨b, o + 3, none⟩ = some (.int .i64 q.to) ∧ w.cell? ⟨b, o + 4, none⟩ = some (.int .i64 q.sz) ∧ w.cell? ⟨b, o + 5, none⟩ = some v
theorem BC.kept {w w' : World} {b o : Nat} {x : Int} {q : Pp} {v : Value} (h : BC w b o x q v) (hb : w'.heap[b]? = w.heap[b]?) : BC w' b o x q v := by
  have hc : ∀ k, w'.cell? ⟨b, k, none⟩ = w.cell? ⟨b, k, none⟩ := fun k => World.cell?_of_block hb
  obtain ⟨h0, h1, h2, h3, h4, h5⟩ := h
  exact ⟨(hc _).trans h0, (hc _).trans h1, (hc _).trans h2, (hc _).trans h3, (hc _).trans h4, (hc _).trans h5⟩
/-- The branches behind a node that water reaches through q lie there, in blocks that P tells. -/
def RepIn (ps : List Pp) (P : Nat → Prop) : Nat → World → Option Addr → Int → Pp → Prop
  | 0, _, _, _, _ => False
  | d + 1, w, A, x, q => kidsL ps x q = [] ∨ ∃ b, A = some ⟨b, 0, none⟩ ∧ P b ∧ b < w.heap.size ∧ ∀ i p, (kidsL ps x q)[i]? = some p → ∃ A' c', BC w b (i * 6) (oth p x) p (.slice A' (kidsL ps (oth p x) p).length c') ∧ RepIn ps P d w A' (oth p x) p
theorem RepIn.kept {ps : List Pp} {P Q : Nat → Prop} {w w' : World} (hPQ : ∀ b, P b → b < w.heap.size → Q b) (hb : ∀ b, P b → b < w.heap.size → w'.heap[b]? = w.heap[b]?) (hs : w.heap.size ≤ w'.heap.size) : ∀ (d : Nat) (A : Option Addr) (x : Int) (q : Pp), RepIn ps P d w A x q → RepIn ps Q d w' A x q
  | 0, _, _, _, h => h
  | d + 1, A, x, q, h => by
    rcases h with h | ⟨b, hA, hP, hlt, hk⟩
    · exact .inl h
    · refine .inr ⟨b, hA, hPQ b hP hlt, Nat.lt_of_lt_of_le hlt hs, fun i p hp => ?_⟩
      obtain ⟨A', c', hc, hr⟩ := hk i p hp
      exact ⟨A', c', hc.kept (hb b hP hlt), RepIn.kept hPQ hb hs d A' _ _ hr⟩
theorem RepIn.below {ps : List Pp} {P : Nat → Prop} {w w' : World} {d : Nat} {A : Option Addr} {x : Int} {q : Pp} (h : RepIn ps P d w A x q) (hb : Below w.heap.size w w') : RepIn ps P d w' A x q :=
  RepIn.kept (fun _ h _ => h) (fun b _ hlt => hb.block b hlt) hb.size d A x q h

/-- The nodes of the first k branches behind it. -/
def kidN (ps : List Pp) (d : Nat) (x : Int) (q : Pp) (k : Nat) : List Int := ((kidsL ps x q).take k).flatMap fun p => nodesL ps d (oth p x) p
theorem kidN_step {ps : List Pp} {d : Nat} {x : Int} {q : Pp} {k : Nat} {p : Pp} (h : (kidsL ps x q)[k]? = some p) : kidN ps d x q (k + 1) = kidN ps d x q k ++ nodesL ps d (oth p x) p := by
  unfold kidN
  have hk : k < (kidsL ps x q).length := (List.getElem?_eq_some_iff.1 h).1
  rw [List.take_succ_eq_append_getElem hk, List.flatMap_append]
  have e : (kidsL ps x q)[k] = p := (List.getElem?_eq_some_iff.1 h).2
  simp [e]
theorem kidN_le {ps : List Pp} {d : Nat} {x : Int} {q : Pp} (k : Nat) : (kidN ps d x q k).length ≤ (kidN ps d x q (kidsL ps x q).length).length := by
  have h1 : kidN ps d x q (kidsL ps x q).length = kidN ps d x q k ++ ((kidsL ps x q).drop k).flatMap fun p => nodesL ps d (oth p x) p := by
    unfold kidN
    rw [List.take_length, ← List.flatMap_append, List.take_append_drop]
  rw [h1, List.length_append]; omega
theorem nodes_succ (ps : List Pp) (d : Nat) (x : Int) (q : Pp) : nodesL ps (d + 1) x q = x :: kidN ps d x q (kidsL ps x q).length := by
  unfold kidN
  rw [List.take_length]; rfl
theorem nodes_pos (ps : List Pp) (d : Nat) (x : Int) (q : Pp) : 0 < (nodesL ps d x q).length := by
  cases d with
  | zero => simp [nodesL]
  | succ d => rw [nodes_succ]; simp
theorem cells_new6 (w : World) (a b c d e f : Value) (t : TypeId) (k : Nat) (u : Value) (h : [a, b, c, d, e, f][k]? = some u) : (w.alloc (.cells #[a, b, c, d, e, f] t)).cell? ⟨w.heap.size, k, none⟩ = some u := by
  rw [World.cell?_alloc_at _ _ _ _ rfl]
  simpa using h

theorem own_oneI (w : World) (B : Nat) (x : Int) (hB : B ≤ w.heap.size) : IOwn (w.alloc (.cells #[iv x] 3)) B (.slice (some ⟨w.heap.size, 0, none⟩) 1 1) [x] :=
  ⟨rfl, .inr ⟨w.heap.size, 1, #[iv x], rfl, hB, by simpa using (MapKept.heap_alloc w (.cells #[iv x] 3)).1, Nat.le_refl _, by simp [maxLen], rfl, rfl⟩⟩
theorem iown_cells {w : World} {B g c : Nat} {l : List Int} (h : IOwn w B (.slice (some ⟨g, 0, none⟩) l.length c) l) : ∀ j u, (l.map iv)[j]? = some u → w.cell? ((⟨g, 0, none⟩ : Addr).add j) = some u := by
  intro j u hu
  have hj : j < l.length := by
    have := (List.getElem?_eq_some_iff.1 hu).1
    simpa using this
  rw [add_plus, Nat.zero_add, World.ownsRow.cellAt h j (by omega)]
  exact hu

set_option maxHeartbeats 2000000 in
set_option maxRecDepth 100000 in
theorem bnodes_any (ps : List Pp) (P : Nat → Prop) (hl10 : ps.length ≤ 10) : ∀ (d : Nat) (x : Int) (q : Pp) (A : Option Addr) (cap : Nat) (w : World), RepIn ps P d w A x q → (nodesL ps d x q).length ≤ 1000 →
    Calls Try.prog 60 #[bv x q A (kidsL ps x q).length cap] w (GivesL w (nodesL ps d x q)) := by
  intro d
  induction d with
  | zero => intro x q A cap w h; exact h.elim
  | succ d ih =>
    intro x q A cap w h hlen
    have hkl : (kidsL ps x q).length ≤ 10 := Nat.le_trans (List.length_filter_le _ _) hl10
    have HR := Lib.hid (fun w' (hb : Below w.heap.size w w') => h.below hb)
    have HIH := Lib.hid ih
    have HN := Lib.hid (nodes_succ ps d x q)
    have hlen2 : (kidN ps d x q (kidsL ps x q).length).length < 1000 := by rw [nodes_succ] at hlen; simp at hlen; omega
    have HKL := Lib.hid (fun k => kidN_le (ps := ps) (d := d) (x := x) (q := q) k)
    have HKS := Lib.hid (fun k p (h : (kidsL ps x q)[k]? = some p) => kidN_step (d := d) h)
    have HK0 := Lib.hid (show kidN ps d x q 0 = [] from by simp [kidN])
    obtain ⟨i0, hi, hz0, hz1, hz2⟩ := info_parts infoI
    clear h ih hlen
    obtain ⟨Ks, hKs⟩ : ∃ Ks, kidsL ps x q = Ks := ⟨_, rfl⟩
    have HKs := Lib.hid hKs
    rw [hKs] at hkl hlen2 HKL HKS HN ⊢
    clear hKs
    go_enter Try.func60, Try.ntmps60
    go_wp2
    have hO1 : Hid (IOwn ((w.alloc (.cells #[.int .i64 x, .int .i64 q.id, .int .i64 q.fr, .int .i64 q.to, .int .i64 q.sz, .slice A Ks.length cap] 82)).alloc (.cells #[iv x] 3)) w.heap.size (.slice (some ⟨w.heap.size + 1, 0, none⟩) 1 1) [x]) := Lib.hid (by
      have := own_oneI (w.alloc (.cells #[.int .i64 x, .int .i64 q.id, .int .i64 q.fr, .int .i64 q.to, .int .i64 q.sz, .slice A Ks.length cap] 82)) w.heap.size x (by simp)
      simpa using this)
    have hB1 := Lib.hid (((Below.refl w.heap.size w).alloc (Nat.le_refl _) (.cells #[.int .i64 x, .int .i64 q.id, .int .i64 q.fr, .int .i64 q.to, .int .i64 q.sz, .slice A Ks.length cap] 82)).alloc (by simp) (.cells #[iv x] 3))
    go_loopw [3, 12] (fun v i wr => ∃ k : Nat, k ≤ Ks.length ∧ i = .int .i64 (k : Int) ∧ Hid (IOwn wr w.heap.size v (x :: kidN ps d x q k)) ∧ Hid (v ≠ .slice none 0 0) ∧ Hid (Below w.heap.size w wr)) (fun _ i _ => Ks.length - (intOf i).toNat)
    case atStart => exact ⟨0, Nat.zero_le _, rfl, Lib.hid (by rw [HK0.out]; exact hO1.out), Lib.hid (by simp), hB1⟩
    case round =>
      clear hO1 hB1
      obtain ⟨k, hk, rfl, hown, hvn, hB⟩ := hrel
      by_cases hlt : k < Ks.length
      · obtain ⟨p, hp⟩ : ∃ p, Ks[k]? = some p := ⟨_, List.getElem?_eq_getElem hlt⟩
        have hrep := HR.out wr hB.out
        rcases hrep with h0 | ⟨b, hA, _, hbl, hkids⟩
        · rw [HKs.out] at h0; rw [h0] at hlt; simp at hlt
        · subst hA
          rw [HKs.out] at hkids
          obtain ⟨A', c', hbc, hrp⟩ := hkids k p hp
          obtain ⟨c0, c1, c2, c3, c4, c5⟩ := hbc
          have HRP := Lib.hid hrp
          have hst := HKS.out k p hp
          have hle := HKL.out (k + 1)
          rw [hst] at hle
          have hle2 : (kidN ps d x q k).length + (nodesL ps d (oth p x) p).length < 1000 := by rw [List.length_append] at hle; omega
          have HST := Lib.hid hst
          have hk0 : (0 : Int) ≤ (k : Int) := by omega
          have hkn : (k : Int) < (Ks.length : Int) := by omega
          have HC := Lib.hid (fun w' (hb : Below wr.heap.size wr w') => HIH.out (oth p x) p A' c' w' (HRP.out.below hb) (by omega))
          have hnp := nodes_pos ps d (oth p x) p
          clear hkids hrp hst hle hp
          generalize nodesL ps d (oth p x) p = L at *
          generalize oth p x = y at *
          generalize (kidsL ps y p).length = m at *
          go_wp2_with (first
            | (go_at_call 60; refine (HC.out _ ((Below.refl _ _).alloc (Nat.le_refl _) _)).mono ?_; rintro e w5 ⟨gc, cc, rfl, hgc, hoc, hb5⟩; have hba := (Below.refl wr.heap.size wr).alloc (Nat.le_refl _) (.cells #[.int .i64 y, .int .i64 p.id, .int .i64 p.fr, .int .i64 p.to, .int .i64 p.sz, .slice A' m c'] 82); have hb6 := hba.trans (hb5.mono hba.size); have HO5 := Lib.hid (hown.out.on hb6); have HC5 := Lib.hid (iown_cells hoc); have HB5 := Lib.hid (hB.out.trans (hb6.mono hB.out.size)); have ho := HO5.out; unfold IOwn at ho)
            | (at_builtin; go_must (refine wpList_append_own _ rfl _ _ 27 rfl w.heap.size 3 i0 (.int .i64 0) 1 8 Try.underlying27 hi hz0 hz1 hz2 rfl (by decide) _ _ _ rfl ho ⟨gc, 0, none⟩ L.length cc (L.map iv) rfl (by simp) HC5.out (by intro u hu; obtain ⟨z, _, rfl⟩ := List.mem_map.1 hu; rfl) ?c3 ?c4 ?c5 ?_)))
          case c3 => simp [maxLen]; omega
          case c4 => simp; omega
          case c5 => have := HB5.out.size; omega
          intro v' w7 hown' hgrow hnil
          have hown7 := Lib.hid (show IOwn w7 w.heap.size v' (x :: kidN ps d x q (k + 1)) from by
            unfold IOwn
            rw [HST.out]
            simpa [Nat.add_assoc, Nat.add_comm, Nat.add_left_comm] using hown')
          have hv7 := Lib.hid (show v' ≠ .slice none 0 0 from fun e => hvn.out (hnil.1 e).1)
          have HB7 := Lib.hid (HB5.out.grown hgrow (by have := HB5.out.size; omega) (fun z hz => (ho.lt z hz).1))
          clear hown' hgrow hnil ho HO5 HC5
          go_wp2
          go_roundw
          case rel => exact ⟨k + 1, by omega, by go_num, hown7, hv7, HB7⟩
          case measure => simp [intOf]; omega
      · have hkk : k = Ks.length := by omega
        subst hkk
        obtain ⟨g, cg, rfl, hg⟩ := own_slice hown.out hvn.out
        go_wp2
        go_ret
        rw [HN.out]
        exact ⟨g, cg, rfl, hg, hown.out, hB.out⟩
end Go.Proofs.Ytlkomipjamelkab.S2

namespace Go.Proofs.Ytlkomipjamelkab.S2
open Go.RowKit P2

/-- A child: its pipe, where the branches behind it lie. -/
abbrev Kd := Pp × Option Addr × Nat
def bl6 (ps : List Pp) (x : Int) (k : Kd) : List Value := [.int .i64 (oth k.1 x), .int .i64 k.1.id, .int .i64 k.1.fr, .int .i64 k.1.to, .int .i64 k.1.sz, .slice k.2.1 (kidsL ps (oth k.1 x) k.1).length k.2.2]
def bls (ps : List Pp) (x : Int) (ks : List Kd) : List Value := ks.flatMap (bl6 ps x)
theorem bls_snoc (ps : List Pp) (x : Int) (ks : List Kd) (k : Kd) : bls ps x (ks ++ [k]) = bls ps x ks ++ bl6 ps x k := by simp [bls, List.flatMap_append]
theorem bls_get (ps : List Pp) (x : Int) (ks : List Kd) : ∀ (i : Nat) (k : Kd), ks[i]? = some k → ∀ j, j < 6 → (bls ps x ks)[i * 6 + j]? = (bl6 ps x k)[j]? := by
  induction ks with
  | nil => intro i k h; simp at h
  | cons a ks ih =>
    intro i k hi j hj
    have e : bls ps x (a :: ks) = bl6 ps x a ++ bls ps x ks := rfl
    have l6 : (bl6 ps x a).length = 6 := rfl
    match i with
    | 0 =>
      have e2 : a = k := by simpa using hi
      subst e2
      rw [e, Nat.zero_mul, Nat.zero_add, List.getElem?_append_left (by omega)]
    | i + 1 =>
      rw [e, List.getElem?_append_right (by omega), ← ih i k (by simpa using hi) j hj, l6]
      congr 1; omega

/-- The branches gathered so far: a row of one's own from block B on, what hangs below them in other blocks. -/
structure KIn (ps : List Pp) (d : Nat) (w : World) (x : Int) (B : Nat) (V : Value) (ks : List Kd) : Prop where
  own : w.ownsRow B 82 6 V ks.length (bls ps x ks)
  rep : ∀ k, k ∈ ks → RepIn ps (fun b => B ≤ b ∧ V.ownBlock ≠ some b) d w k.2.1 (oth k.1 x) k.1
theorem KIn.nil (ps : List Pp) (d : Nat) (w : World) (x : Int) (B : Nat) : KIn ps d w x B (.slice none 0 0) [] :=
  ⟨World.ownsRow_nil w B 82 6, fun k h => by simp at h⟩
theorem KIn.below {ps : List Pp} {d : Nat} {w w' : World} {x : Int} {B : Nat} {V : Value} {ks : List Kd} (h : KIn ps d w x B V ks) (hb : Below w.heap.size w w') : KIn ps d w' x B V ks :=
  ⟨own_on h.own hb, fun k hk => (h.rep k hk).below hb⟩
theorem KIn.push {ps : List Pp} {d : Nat} {w w' : World} {x : Int} {B b0 : Nat} {V V' : Value} {ks : List Kd} {k : Kd} (h : KIn ps d w x B V ks)
    (ho : w'.ownsRow B 82 6 V' (ks.length + 1) (bls ps x ks ++ bl6 ps x k)) (hg : w.grownBy w' V.ownBlock) (hl : V'.ownBlock = V.ownBlock ∨ V'.ownBlock = some w.heap.size)
    (hr : RepIn ps (fun b => b0 ≤ b) d w k.2.1 (oth k.1 x) k.1) (hB : B ≤ b0) (hv : ∀ g, V.ownBlock = some g → g < b0) : KIn ps d w' x B V' (ks ++ [k]) := by
  refine ⟨by rw [bls_snoc, List.length_append]; exact ho, fun c hc => ?_⟩
  have hne : ∀ b, V.ownBlock ≠ some b → b < w.heap.size → V'.ownBlock ≠ some b := fun b h1 h2 e => by
    rcases hl with h3 | h3
    · exact h1 (h3 ▸ e)
    · rw [h3] at e; injection e with e; omega
  rcases List.mem_append.1 hc with hc | hc
  · exact RepIn.kept (fun b hp hlt => ⟨hp.1, hne b hp.2 hlt⟩) (fun b hp hlt => hg.block b hlt (fun e => hp.2 e.symm)) hg.size _ _ _ _ (h.rep c hc)
  · have e : c = k := by simpa using hc
    subst e
    have hn : ∀ b, b0 ≤ b → V.ownBlock ≠ some b := fun b hb e => by have := hv b e; omega
    exact RepIn.kept (fun b hp hlt => ⟨Nat.le_trans hB hp, hne b (hn b hp) hlt⟩) (fun b hp hlt => hg.block b hlt (fun e => hn b hp e.symm)) hg.size _ _ _ _ hr
theorem KIn.done {ps : List Pp} {d : Nat} {w : World} {x : Int} {q : Pp} {B : Nat} {A : Option Addr} {l c : Nat} {ks : List Kd} (h : KIn ps d w x B (.slice A l c) ks) (hk : ks.map (·.1) = kidsL ps x q) : RepIn ps (fun b => B ≤ b) (d + 1) w A x q := by
  have hlen : ks.length = (kidsL ps x q).length := by rw [← hk, List.length_map]
  rcases Nat.eq_zero_or_pos ks.length with h0 | h0
  · exact .inl (List.length_eq_zero_iff.1 (by omega))
  · obtain ⟨g, cap', hv, hbg, hlt⟩ := h.own.form h0
    injection hv with hA hl hc
    subst hA
    subst hl
    refine .inr ⟨g, rfl, hbg, hlt, fun i p hp => ?_⟩
    have hik : i < ks.length := by rw [hlen]; exact (List.getElem?_eq_some_iff.1 hp).1
    obtain ⟨k, hki⟩ : ∃ k, ks[i]? = some k := ⟨_, List.getElem?_eq_getElem hik⟩
    have hp1 : k.1 = p := by
      rw [← hk, List.getElem?_map, hki] at hp
      simpa using hp
    subst hp1
    have hcell := fun j (hj : j < 6) => (h.own.cellAt (i * 6 + j) (by have : ks.length * 6 = 6 * ks.length := Nat.mul_comm _ _; omega)).trans (bls_get ps x ks i k hki j hj)
    refine ⟨k.2.1, k.2.2, ⟨hcell 0 (by omega), hcell 1 (by omega), hcell 2 (by omega), hcell 3 (by omega), hcell 4 (by omega), hcell 5 (by omega)⟩, ?_⟩
    exact RepIn.kept (fun b hp _ => hp.1) (fun b _ _ => rfl) (Nat.le_refl _) _ _ _ _ (h.rep k (List.mem_of_getElem? hki))

/-! ### The pipes at a node, without the one by which the water comes -/
def kidsTo (R : List Pp) (q : Pp) (k : Nat) : List Pp := (R.take k).filter fun e => decide (e ≠ q)
theorem kidsTo_yes {R : List Pp} {q p : Pp} {k : Nat} (h : R[k]? = some p) (hn : p ≠ q) : kidsTo R q (k + 1) = kidsTo R q k ++ [p] := by
  unfold kidsTo
  obtain ⟨hk, he⟩ := List.getElem?_eq_some_iff.1 h
  rw [List.take_succ_eq_append_getElem hk, List.filter_append, he]
  simp [hn]
theorem kidsTo_no {R : List Pp} {q p : Pp} {k : Nat} (h : R[k]? = some p) (hn : p = q) : kidsTo R q (k + 1) = kidsTo R q k := by
  unfold kidsTo
  obtain ⟨hk, he⟩ := List.getElem?_eq_some_iff.1 h
  rw [List.take_succ_eq_append_getElem hk, List.filter_append, he]
  simp [hn]
theorem kidsTo_len (R : List Pp) (q : Pp) (k : Nat) : (kidsTo R q k).length ≤ R.length :=
  Nat.le_trans (List.length_filter_le _ _) (by rw [List.length_take]; omega)
theorem kidsTo_all (ps : List Pp) (v : Nat) (q : Pp) : kidsTo (rowTo ps ps.length v) q (rowTo ps ps.length v).length = kidsL ps (v : Int) q := by
  unfold kidsTo kidsL
  rw [List.take_length]
  unfold rowTo
  rw [List.take_length, List.filter_filter]
  congr 1
  funext e
  simp [touchB, and_comm]
end Go.Proofs.Ytlkomipjamelkab.S2

namespace Go.Proofs.Ytlkomipjamelkab.S2
open Go.RowKit P2

theorem findSome_at {α β : Type} {f : α → Option β} : ∀ {l : List α} {k : Nat} {p : α} {y : β}, (∀ j a, j < k → l[j]? = some a → f a = none) → l[k]? = some p → f p = some y → l.findSome? f = some y
  | [], _, _, _, _, h, _ => by simp at h
  | a :: l, 0, p, y, _, h, hf => by
    have e : a = p := by simpa using h
    subst e
    simp [hf]
  | a :: l, k + 1, p, y, hn, h, hf => by
    have h0 := hn 0 a (by omega) (by simp)
    have ih := findSome_at (l := l) (k := k) (fun j b hj hb => hn (j + 1) b (by omega) (by simpa using hb)) (by simpa using h) hf
    simp [h0, ih]

section
variable {ops : Array Oper} {rest : List Oper} {o : Oper} {a : Act} {w : World} {Q : Exit → Act → World → Prop}
theorem pp_beq {p q : Pp} (h : p ≠ q) : ¬ (p.id = q.id ∧ p.fr = q.fr ∧ p.to = q.to ∧ p.sz = q.sz) := fun ⟨h1, h2, h3, h4⟩ => h (by cases p; cases q; simp_all)
theorem eql_pp (w : World) {p q : Pp} (h : p ≠ q) : (binOp .eql 40 (pv p) (pv q)).run Try.prog w = .ok (.bool false) w := by
  have hS : Try.prog.underlying 40 = some (.struct (Try.prog.fieldsOf 40)) := by kernel_rfl
  have hp : Try.prog.stoodInHeld 40 = false := by kernel_rfl
  obtain ⟨a, b, c, d⟩ := p
  obtain ⟨a2, b2, c2, d2⟩ := q
  have hn := pp_beq h
  unfold pv
  rw [run_eql_struct, show (10000 : Nat) = 9999 + 1 from rfl, run_equalIn_agg w 9999 40 _ _ hS hp]
  simp only [Program.fieldsOf, Try.underlying40, Op.eqFields]
  by_cases h1 : a = a2 <;> by_cases h2 : b = b2 <;> by_cases h3 : c = c2 <;> by_cases h4 : d = d2 <;> first | (exfalso; exact hn ⟨h1, h2, h3, h4⟩) | simp [go_sem, h1, h2, h3, h4]
theorem wpP_eql (hgd : o.guard = none) (x y : Operand) (ho : o.op = .binOp .eql 40 x y 40) (p q : Pp) (hx : a.eval x = pv p) (hy : a.eval y = pv q) (hne : p ≠ q)
    (h : wpList Try.prog ops Q rest (a.put o.dst (.bool false)) w) : wpList Try.prog ops Q (o :: rest) a w :=
  wpList_plain hgd fun _ hK => by
    have hz := eql_pp w hne
    have hg := run_eqGuard_agg (P := Try.prog) w .eql 40 x y #[.int .i64 p.id, .int .i64 p.fr, .int .i64 p.to, .int .i64 p.sz] #[.int .i64 q.id, .int .i64 q.fr, .int .i64 q.to, .int .i64 q.sz] (by kernel_rfl)
    unfold Oper.wp execOp
    simp [ho, hx, hy, Sem.run_bind, hz, hg, Result.andThen]
    exact hK _ _ h
end
abbrev bcs (x : Int) (q : Pp) (v : Value) : Array Value := #[.int .i64 x, .int .i64 q.id, .int .i64 q.fr, .int .i64 q.to, .int .i64 q.sz, v]
def WRow (w : World) (g : Nat) (cs : Array Value) : Prop := w.heap[g]? = some (.cells cs 82 (0, 0))
theorem infoB : (Try.prog.info? 82).map (·.size) = some 6 := by kernel_rfl
theorem grown_row6 {w : World} {g : Nat} (cs : Array Value) : w.grownBy (w.setRow g cs) (some g) :=
  ⟨rfl, rfl, rfl, by simp, fun k _ hne => setRow_other w g k cs (fun e => hne (by rw [e]))⟩
theorem bcs_one (x : Int) (q : Pp) (A : Option Addr) (l c : Nat) : (bcs x q (.slice A l c)).all (·.oneCell') = true := by simp [Value.oneCell']
theorem wpB_store {ops : Array Oper} {rest : List Oper} {o : Oper} {a : Act} {w : World} {Q : Exit → Act → World → Prop} (hgd : o.guard = none) (x y : Operand) (ho : o.op = .store 82 x y) (hd : o.dst = none) (g : Nat) (hx : a.eval x = .pointer (some ⟨g, 0, none⟩)) (z : Int) (q : Pp) (A : Option Addr) (l c : Nat) (hy : a.eval y = .agg (bcs z q (.slice A l c))) (z0 : Int) (q0 : Pp) (A0 : Option Addr) (l0 c0 : Nat) (he : WRow w g (bcs z0 q0 (.slice A0 l0 c0)))
    (h : ∀ w', WRow w' g (bcs z q (.slice A l c)) → w.grownBy w' (some g) → wpList Try.prog ops Q rest a w') : wpList Try.prog ops Q (o :: rest) a w :=
  wpList_store_row hgd 82 x y ho g _ hx hy 82 _ he infoB rfl (bcs_one z q A l c)
    (by rw [hd]; exact h _ (setRow_heap w g _ _ _ (0, 0) he) (grown_row6 _))
theorem WRow.cell {w : World} {g : Nat} {cs : Array Value} (h : WRow w g cs) (k : Nat) : w.cell? ⟨g, k, none⟩ = cs[k]? := cell_of_row w g k _ _ _ h
theorem WRow.lt {w : World} {g : Nat} {cs : Array Value} (h : WRow w g cs) : g < w.heap.size := (Array.getElem?_eq_some_iff.1 h).1
theorem WRow.kept {w w' : World} {g : Nat} {cs : Array Value} (h : WRow w g cs) (hb : w'.heap[g]? = w.heap[g]?) : WRow w' g cs := by
  unfold WRow; rw [hb]; exact h
/-- A pipe in memory. -/
def PC (w : World) (b o : Nat) (p : Pp) : Prop :=
  w.cell? ⟨b, o, none⟩ = some (.int .i64 p.id) ∧ w.cell? ⟨b, o + 1, none⟩ = some (.int .i64 p.fr) ∧ w.cell? ⟨b, o + 2, none⟩ = some (.int .i64 p.to) ∧ w.cell? ⟨b, o + 3, none⟩ = some (.int .i64 p.sz)
theorem PC.kept {w w' : World} {b o : Nat} {p : Pp} (h : PC w b o p) (hb : w'.heap[b]? = w.heap[b]?) : PC w' b o p := by
  have hc : ∀ k, w'.cell? ⟨b, k, none⟩ = w.cell? ⟨b, k, none⟩ := fun k => World.cell?_of_block hb
  obtain ⟨h0, h1, h2, h3⟩ := h
  exact ⟨(hc _).trans h0, (hc _).trans h1, (hc _).trans h2, (hc _).trans h3⟩
theorem findSome_none {α β : Type} {f : α → Option β} : ∀ {l : List α}, (∀ j a, j < l.length → l[j]? = some a → f a = none) → l.findSome? f = none
  | [], _ => rfl
  | a :: l, h => by
    have h0 := h 0 a (by simp) (by simp)
    have ih := findSome_none (l := l) (fun j b hj hb => h (j + 1) b (by simp; omega) (by simpa using hb))
    simp [h0, ih]

/-- What the search of a pipe's branch gives. -/
def BehIs (n : Nat) (ps : List Pp) (P : Nat → Prop) (p0 : Pp) (r : Option Int) (w : World) (e : Ending) (w' : World) : Prop :=
  ((∃ y A' c' d', r = some y ∧ e = .returned (.tuple #[bv y p0 A' (kidsL ps y p0).length c', .bool true]) ∧ BrOk n ps y p0 ∧ cntB n ps y p0 ≤ d' ∧ RepIn ps P d' w' A' y p0) ∨
   (r = none ∧ e = .returned (.tuple #[bv 0 ⟨0, 0, 0, 0⟩ none 0 0, .bool false]))) ∧ Below w.heap.size w w'

theorem beh_none {n : Nat} {ps : List Pp} {P : Nat → Prop} {p0 : Pp} {e : Ending} {w' : World} (h : (∃ y A' c' d', (none : Option Int) = some y ∧ e = .returned (.tuple #[bv y p0 A' (kidsL ps y p0).length c', .bool true]) ∧ BrOk n ps y p0 ∧ cntB n ps y p0 ≤ d' ∧ RepIn ps P d' w' A' y p0) ∨
   ((none : Option Int) = none ∧ e = .returned (.tuple #[bv 0 ⟨0, 0, 0, 0⟩ none 0 0, .bool false]))) : e = .returned (.tuple #[bv 0 ⟨0, 0, 0, 0⟩ none 0 0, .bool false]) := by
  rcases h with ⟨_, _, _, _, h, _⟩ | ⟨_, h⟩
  · cases h
  · exact h
theorem beh_some {n : Nat} {ps : List Pp} {P : Nat → Prop} {p0 : Pp} {y : Int} {e : Ending} {w' : World} (h : (∃ z A' c' d', some y = some z ∧ e = .returned (.tuple #[bv z p0 A' (kidsL ps z p0).length c', .bool true]) ∧ BrOk n ps z p0 ∧ cntB n ps z p0 ≤ d' ∧ RepIn ps P d' w' A' z p0) ∨
   (some y = none ∧ e = .returned (.tuple #[bv 0 ⟨0, 0, 0, 0⟩ none 0 0, .bool false]))) : ∃ A' c' d', e = .returned (.tuple #[bv y p0 A' (kidsL ps y p0).length c', .bool true]) ∧ BrOk n ps y p0 ∧ cntB n ps y p0 ≤ d' ∧ RepIn ps P d' w' A' y p0 := by
  rcases h with ⟨z, A', c', d', h, h2⟩ | ⟨h, _⟩
  · cases h; exact ⟨A', c', d', h2⟩
  · cases h

set_option maxHeartbeats 2000000 in
set_option maxRecDepth 100000 in
theorem bbeh_any {n : Nat} {ps : List Pp} (P : Nat → Prop) (B : Nat) (hPB : ∀ b, P b → b < B) (hg : P2.Good n ps) (ha : Acy ps) (p0 : Pp) : ∀ (d : Nat) (x : Int) (q : Pp) (A : Option Addr) (cap : Nat) (w : World), B ≤ w.heap.size → BrOk n ps x q → cntB n ps x q ≤ d → RepIn ps P d w A x q →
    Calls Try.prog 59 #[bv x q A (kidsL ps x q).length cap, pv p0] w (BehIs n ps P p0 (fnd ps p0 d x q) w) := by
  intro d
  induction d with
  | zero => intro x q A cap w _ _ _ h; exact h.elim
  | succ d ih =>
    intro x q A cap w hBw hbr hcnt h
    have hkl : (kidsL ps x q).length ≤ 10 := Nat.le_trans (List.length_filter_le _ _) hg.2.2.1
    by_cases hq : q = p0
    · subst hq
      have HF := Lib.hid (show fnd ps q (d + 1) x q = some x from by rw [fnd, if_pos rfl])
      rw [HF.out]
      obtain ⟨xid, xfr, xto, xsz⟩ := q
      obtain ⟨m, hm⟩ : ∃ m, (kidsL ps x ⟨xid, xfr, xto, xsz⟩).length = m := ⟨_, rfl⟩
      have HM := Lib.hid hm
      have HR := Lib.hid (fun w' (hb : Below w.heap.size w w') => h.below hb)
      have HBR := Lib.hid hbr
      have HCN := Lib.hid hcnt
      rw [hm]
      clear hm h hbr hcnt ih HF
      go_enter Try.func59, Try.ntmps59
      go_wp2
      have hB := ((((Below.refl w.heap.size w).alloc (Nat.le_refl _) (.cells #[.int .i64 x, .int .i64 xid, .int .i64 xfr, .int .i64 xto, .int .i64 xsz, .slice A m cap] 82)).alloc (by simp) (.cells #[.int .i64 xid, .int .i64 xfr, .int .i64 xto, .int .i64 xsz] 40)).alloc (by simp; omega) (.cells #[.int .i64 x, .int .i64 xid, .int .i64 xfr, .int .i64 xto, .int .i64 xsz, .slice A m cap] 82))
      refine bodyPost_ret (v := .tuple #[.agg #[.int .i64 x, .int .i64 xid, .int .i64 xfr, .int .i64 xto, .int .i64 xsz, .slice A m cap], .bool true]) (by simp [results, Try.results59, go_sem]) rfl ⟨.inl ⟨x, A, cap, d + 1, rfl, by rw [HM.out], HBR.out, HCN.out, HR.out _ hB⟩, hB⟩
    · have HF := Lib.hid (show fnd ps p0 (d + 1) x q = (kidsL ps x q).findSome? fun p => fnd ps p0 d (oth p x) p from by rw [fnd, if_neg hq])
      rw [HF.out]
      have HR := Lib.hid (fun w' (hb : Below w.heap.size w w') => h.below hb)
      have HK := Lib.hid (fun k p (hp : (kidsL ps x q)[k]? = some p) => (show BrOk n ps (oth p x) p ∧ cntB n ps (oth p x) p ≤ d from by
        have hmem := List.mem_of_getElem? hp
        have h1 := cnt_kid ha hbr hmem
        exact ⟨hbr.kid hg hmem, by omega⟩))
      have HIH := Lib.hid ih
      clear h hbr hcnt ih HF
      obtain ⟨Ks, hKs⟩ : ∃ Ks, kidsL ps x q = Ks := ⟨_, rfl⟩
      have HKs := Lib.hid hKs
      rw [hKs] at hkl HK ⊢
      clear hKs
      have hne : q ≠ p0 := hq
      have HNE := Lib.hid hne
      clear hq hne
      obtain ⟨W, hW⟩ : ∃ W, W = (((w.alloc (.cells #[.int .i64 x, .int .i64 q.id, .int .i64 q.fr, .int .i64 q.to, .int .i64 q.sz, .slice A Ks.length cap] 82)).alloc (.cells #[.int .i64 p0.id, .int .i64 p0.fr, .int .i64 p0.to, .int .i64 p0.sz] 40)).alloc (.cells #[.int .i64 0, .int .i64 0, .int .i64 0, .int .i64 0, .int .i64 0, .slice none 0 0] 82)) := ⟨_, rfl⟩
      have HW0 : Hid (Below w.heap.size w W) := Lib.hid (by rw [hW]; exact ((((Below.refl w.heap.size w).alloc (Nat.le_refl _) _).alloc (by simp) _).alloc (by simp; omega) _))
      have HWS : Hid (W.heap.size = w.heap.size + 1 + 1 + 1) := Lib.hid (by rw [hW]; simp [Nat.add_assoc])
      have HWP : Hid (PC W (w.heap.size + 1) 0 p0) := Lib.hid (by
        have h1 : PC ((w.alloc (.cells #[.int .i64 x, .int .i64 q.id, .int .i64 q.fr, .int .i64 q.to, .int .i64 q.sz, .slice A Ks.length cap] 82)).alloc (.cells #[.int .i64 p0.id, .int .i64 p0.fr, .int .i64 p0.to, .int .i64 p0.sz] 40)) (w.heap.size + 1) 0 p0 := by
          have e : w.heap.size + 1 = (w.alloc (.cells #[.int .i64 x, .int .i64 q.id, .int .i64 q.fr, .int .i64 q.to, .int .i64 q.sz, .slice A Ks.length cap] 82)).heap.size := by simp
          unfold PC
          rw [e]
          refine ⟨?_, ?_, ?_, ?_⟩ <;> rw [World.cell?_alloc_at _ _ _ _ rfl] <;> rfl
        rw [hW]
        exact h1.kept ((Below.refl _ _).alloc (Nat.le_refl _) _ |>.block _ (by simp)))
      have HWB : Hid (WRow W (w.heap.size + 1 + 1) (bcs 0 ⟨0, 0, 0, 0⟩ (.slice none 0 0))) := Lib.hid (by
        have e : w.heap.size + 1 + 1 = ((w.alloc (.cells #[.int .i64 x, .int .i64 q.id, .int .i64 q.fr, .int .i64 q.to, .int .i64 q.sz, .slice A Ks.length cap] 82)).alloc (.cells #[.int .i64 p0.id, .int .i64 p0.fr, .int .i64 p0.to, .int .i64 p0.sz] 40)).heap.size := by simp
        rw [hW]
        unfold WRow
        rw [e]
        exact heap_alloc_new _ _)
      go_enter Try.func59, Try.ntmps59
      go_wp2_with (first
        | (with_reducible refine wpP_eql rfl _ _ rfl q p0 rfl rfl HNE.out ?_))
      rw [← hW]
      clear hW
      go_loopw [18] (fun i wr => ∃ k : Nat, k ≤ Ks.length ∧ i = .int .i64 (k : Int) ∧ Hid (∀ j p, j < k → Ks[j]? = some p → fnd ps p0 d (oth p x) p = none) ∧ Hid (Below W.heap.size W wr)) (fun i _ => Ks.length - (intOf i).toNat)
      case atStart => exact ⟨0, Nat.zero_le _, rfl, Lib.hid (fun j p h => by omega), Lib.hid (Below.refl _ _)⟩
      case round =>
        obtain ⟨k, hk, rfl, hnone, hB⟩ := hrel
        have HB0 := Lib.hid (HW0.out.trans (hB.out.mono HW0.out.size))
        by_cases hlt : k < Ks.length
        · obtain ⟨p, hp⟩ : ∃ p, Ks[k]? = some p := ⟨_, List.getElem?_eq_getElem hlt⟩
          have hrep := HR.out wr HB0.out
          rcases hrep with h0 | ⟨b, hA, _, hbl, hkids⟩
          · rw [HKs.out] at h0; rw [h0] at hlt; simp at hlt
          · subst hA
            rw [HKs.out] at hkids
            obtain ⟨A', c', hbc, hrp⟩ := hkids k p hp
            obtain ⟨c0, c1, c2, c3, c4, c5⟩ := hbc
            have HRP := Lib.hid hrp
            obtain ⟨hbk, hck⟩ := HK.out k p hp
            have hk0 : (0 : Int) ≤ (k : Int) := by omega
            have hkn : (k : Int) < (Ks.length : Int) := by omega
            have hs0 := HWS.out
            have hs1 := hB.out.size
            have hl1 : w.heap.size + 1 < wr.heap.size := by omega
            have hl2 : w.heap.size + 1 + 1 < wr.heap.size := by omega
            have hl3 : w.heap.size + 1 + 1 < W.heap.size := by omega
            have hl4 : w.heap.size + 1 < W.heap.size := by omega
            have hBr : B ≤ wr.heap.size := by omega
            clear hs0 hs1
            have HC := Lib.hid (fun w' (hb : Below wr.heap.size wr w') => HIH.out (oth p x) p A' c' w' (Nat.le_trans hBr hb.size) hbk hck (HRP.out.below hb))
            obtain ⟨p1, p2, p3, p4⟩ := HWP.out.kept (hB.out.block _ hl4)
            have HP := Lib.hid hp
            clear hkids hrp hp hbk hck
            cases hv : fnd ps p0 d (oth p x) p with
            | none =>
              have HV := Lib.hid (show ∀ p', Ks[k]? = some p' → fnd ps p0 d (oth p' x) p' = none from fun p' h' => by rw [HP.out] at h'; cases h'; exact hv)
              rw [hv] at HC
              clear hv
              generalize oth p x = y at *
              generalize (kidsL ps y p).length = m at *
              go_wp2_with (first
                | (go_at_call 59; refine (HC.out _ ((Below.refl _ _).alloc (Nat.le_refl _) _)).mono ?_; rintro e w5 ⟨hor, hb5⟩; replace hor := beh_none hor; subst hor; have hb6 := Lib.hid (((Below.refl wr.heap.size wr).alloc (Nat.le_refl _) (.cells #[.int .i64 y, .int .i64 p.id, .int .i64 p.fr, .int .i64 p.to, .int .i64 p.sz, .slice A' m c'] 82)).trans (hb5.mono (by simp)))))
              go_roundw
              case rel =>
                refine ⟨k + 1, by omega, by go_num, Lib.hid (fun j p' hj hp' => ?_), Lib.hid ((hB.out.trans (hb6.out.mono hB.out.size)).alloc (by have := hB.out.size; have := hb6.out.size; omega) _)⟩
                by_cases hjk : j < k
                · exact hnone.out j p' hjk hp'
                · have e : j = k := by omega
                  subst e
                  exact HV.out p' hp'
              case measure => simp [intOf]; omega
            | some z =>
              have HV := Lib.hid (findSome_at (f := fun p => fnd ps p0 d (oth p x) p) (fun j a hj ha => hnone.out j a hj ha) HP.out hv)
              rw [hv] at HC
              clear hv
              generalize oth p x = y at *
              generalize (kidsL ps y p).length = m at *
              have hal := Lib.hid ((Below.refl wr.heap.size wr).alloc (Nat.le_refl _) (.cells #[.int .i64 y, .int .i64 p.id, .int .i64 p.fr, .int .i64 p.to, .int .i64 p.sz, .slice A' m c'] 82))
              go_wp2_with (first
                | (go_at_call 59; refine (HC.out _ ((Below.refl _ _).alloc (Nat.le_refl _) _)).mono ?_; rintro e w5 ⟨hor, hb5⟩; obtain ⟨A5, c5, d5, he5, hbr5, hcn5, hrp5⟩ := beh_some hor; subst he5; clear hor; have hb6 := Lib.hid (hal.out.trans (hb5.mono (by simp))); have HR5 := Lib.hid hrp5; have HBR5 := Lib.hid hbr5; have HCN5 := Lib.hid hcn5; clear hrp5 hbr5 hcn5 hb5; obtain ⟨m5, hm5⟩ : ∃ m5, (kidsL ps z p0).length = m5 := ⟨_, rfl⟩; have HM5 := Lib.hid hm5; rw [hm5]; clear hm5)
                | ((with_reducible refine wpB_store rfl _ _ rfl rfl (w.heap.size + 1 + 1) rfl z p0 A5 m5 c5 rfl 0 ⟨0, 0, 0, 0⟩ none 0 0 ((HWB.out.kept (hB.out.block _ hl3)).kept ((hb6.out.alloc hb6.out.size _).block _ hl2)) ?_); intro w7 he7 hg7; refine Hid.out ?_))
              have s0 : w7.cell? ⟨w.heap.size + 1 + 1, 0, none⟩ = some (.int .i64 z) := he7.cell 0
              have s1 : w7.cell? ⟨w.heap.size + 1 + 1, 1, none⟩ = some (.int .i64 p0.id) := he7.cell 1
              have s2 : w7.cell? ⟨w.heap.size + 1 + 1, 2, none⟩ = some (.int .i64 p0.fr) := he7.cell 2
              have s3 : w7.cell? ⟨w.heap.size + 1 + 1, 3, none⟩ = some (.int .i64 p0.to) := he7.cell 3
              have s4 : w7.cell? ⟨w.heap.size + 1 + 1, 4, none⟩ = some (.int .i64 p0.sz) := he7.cell 4
              have s5 : w7.cell? ⟨w.heap.size + 1 + 1, 5, none⟩ = some (.slice A5 m5 c5) := he7.cell 5
              have HB5 := Lib.hid ((HB0.out.trans (hb6.out.mono HB0.out.size)).alloc (HB0.out.trans (hb6.out.mono HB0.out.size)).size (.cells #[.int .i64 z, .int .i64 p0.id, .int .i64 p0.fr, .int .i64 p0.to, .int .i64 p0.sz, .slice A5 m5 c5] 82))
              have HB7 := Lib.hid (HB5.out.grown hg7 HB5.out.size (fun g hg => by simp at hg; omega))
              have hB5w : B ≤ w5.heap.size := by have := hb6.out.size; omega
              have HX5 := Lib.hid (((Below.refl B w5).alloc hB5w (.cells #[.int .i64 z, .int .i64 p0.id, .int .i64 p0.fr, .int .i64 p0.to, .int .i64 p0.sz, .slice A5 m5 c5] 82)).grown hg7 (by simp; omega) (fun g hg => by simp at hg; omega))
              have HR7 := Lib.hid (RepIn.kept (Q := P) (fun _ h _ => h) (fun b' hp' _ => HX5.out.block b' (hPB b' hp')) HX5.out.size _ _ _ _ HR5.out)
              clear hg7 he7
              refine Lib.hid ?_
              go_wp2
              exact bodyPost_ret (v := .tuple #[.agg #[.int .i64 z, .int .i64 p0.id, .int .i64 p0.fr, .int .i64 p0.to, .int .i64 p0.sz, .slice A5 m5 c5], .bool true]) (by simp [results, Try.results59, go_sem, s0, s1, s2, s3, s4, s5]) rfl ⟨.inl ⟨z, A5, c5, d5, HV.out, by rw [HM5.out], HBR5.out, HCN5.out, HR7.out⟩, HB7.out⟩
        · have hkk : k = Ks.length := by omega
          subst hkk
          have hs0 := HWS.out
          have hl3 : w.heap.size + 1 + 1 < W.heap.size := by omega
          clear hs0
          go_wp2_with (first
                | ((with_reducible refine wpB_store rfl _ _ rfl rfl (w.heap.size + 1 + 1) rfl 0 ⟨0, 0, 0, 0⟩ none 0 0 rfl 0 ⟨0, 0, 0, 0⟩ none 0 0 (HWB.out.kept (hB.out.block _ hl3)) ?_); intro w7 he7 hg7; refine Hid.out ?_))
          have s0 : w7.cell? ⟨w.heap.size + 1 + 1, 0, none⟩ = some (.int .i64 0) := he7.cell 0
          have s1 : w7.cell? ⟨w.heap.size + 1 + 1, 1, none⟩ = some (.int .i64 0) := he7.cell 1
          have s2 : w7.cell? ⟨w.heap.size + 1 + 1, 2, none⟩ = some (.int .i64 0) := he7.cell 2
          have s3 : w7.cell? ⟨w.heap.size + 1 + 1, 3, none⟩ = some (.int .i64 0) := he7.cell 3
          have s4 : w7.cell? ⟨w.heap.size + 1 + 1, 4, none⟩ = some (.int .i64 0) := he7.cell 4
          have s5 : w7.cell? ⟨w.heap.size + 1 + 1, 5, none⟩ = some (.slice none 0 0) := he7.cell 5
          have HB7 := Lib.hid (HB0.out.grown hg7 HB0.out.size (fun g hg => by simp at hg; omega))
          have HV := Lib.hid (findSome_none (f := fun p => fnd ps p0 d (oth p x) p) (l := Ks) (fun j a hj ha => hnone.out j a hj ha))
          clear hg7 he7
          refine Lib.hid ?_
          go_wp2
          exact bodyPost_ret (v := .tuple #[.agg #[.int .i64 0, .int .i64 0, .int .i64 0, .int .i64 0, .int .i64 0, .slice none 0 0], .bool false]) (by simp [results, Try.results59, go_sem, s0, s1, s2, s3, s4, s5]) rfl ⟨.inr ⟨HV.out, rfl⟩, HB7.out⟩
end Go.Proofs.Ytlkomipjamelkab.S2

namespace Go.Proofs.Ytlkomipjamelkab.S2
open Go.RowKit Go.Sort P2

section
variable {ops : Array Oper} {rest : List Oper} {o : Oper} {a : Act} {w : World} {Q : Exit → Act → World → Prop}
theorem neq_pp (w : World) {p q : Pp} (h : p ≠ q) : (binOp .neq 40 (pv p) (pv q)).run Try.prog w = .ok (.bool true) w := by
  have h1 := eql_pp w h
  unfold pv at h1 ⊢
  rw [run_eql_struct] at h1
  rw [run_neq_struct]
  generalize (Op.equalIn 10000 40 _ _).run Try.prog w = r at *
  cases r with
  | ok b w' => simp at h1 ⊢; obtain ⟨rfl, rfl⟩ := h1; exact ⟨rfl, rfl⟩
  | halt h w' => simp at h1
theorem wpP_neq (hgd : o.guard = none) (x y : Operand) (ho : o.op = .binOp .neq 40 x y 40) (p q : Pp) (hx : a.eval x = pv p) (hy : a.eval y = pv q) (hne : p ≠ q)
    (h : wpList Try.prog ops Q rest (a.put o.dst (.bool true)) w) : wpList Try.prog ops Q (o :: rest) a w :=
  wpList_plain hgd fun _ hK => by
    have hz := neq_pp w hne
    have hg := run_eqGuard_agg (P := Try.prog) w .neq 40 x y #[.int .i64 p.id, .int .i64 p.fr, .int .i64 p.to, .int .i64 p.sz] #[.int .i64 q.id, .int .i64 q.fr, .int .i64 q.to, .int .i64 q.sz] (by kernel_rfl)
    unfold Oper.wp execOp
    simp [ho, hx, hy, Sem.run_bind, hz, hg, Result.andThen]
    exact hK _ _ h
end
theorem infoBr : (Try.prog.info? 82).map (fun i => (i.zero, i.size, i.bytes)) = some (some (.agg #[.int .i64 0, .int .i64 0, .int .i64 0, .int .i64 0, .int .i64 0, .slice none 0 0]), 6, 64) := by kernel_rfl
theorem WRow.set5 {w : World} {g : Nat} {x : Int} {q : Pp} {v0 : Value} (h : WRow w g (bcs x q v0)) (v : Value) : WRow (w.setCell ⟨g, 5, none⟩ v) g (bcs x q v) := by
  unfold WRow at h ⊢
  rw [heap_setCell_same w g 5 _ _ v h]
  simp
theorem setCell_off (w : World) (g k : Nat) (v : Value) : w.grownBy (w.setCell ⟨g, k, none⟩ v) (some g) :=
  ⟨rfl, rfl, rfl, by simp, fun b _ hne => heap_setCell_other w ⟨g, k, none⟩ b v (fun e => hne (by rw [e]))⟩
theorem KIn.low {ps : List Pp} {d : Nat} {w w' : World} {x : Int} {B : Nat} {A : Option Addr} {l c : Nat} {ks : List Kd} {g : Nat} (h : KIn ps d w x B (.slice A l c) ks) (hg : w.grownBy w' (some g)) (hgB : g < B) : KIn ps d w' x B (.slice A l c) ks := by
  refine ⟨h.own.kept hg ?_, fun k hk => RepIn.kept (fun b h _ => h) (fun b hp hlt => hg.block b hlt (fun e => by have := hp.1; simp at e; omega)) hg.size _ _ _ _ (h.rep k hk)⟩
  rcases Nat.eq_zero_or_pos ks.length with h0 | h0
  · rcases h.own.2 with ⟨hv, _⟩ | ⟨g2, cap, cur, hv, hb, _⟩
    · left; rw [hv]; rfl
    · right; rw [hv]; simp [Value.ownBlock]; omega
  · obtain ⟨g2, cap, hv, hb, _⟩ := h.own.form h0
    right; rw [hv]; simp [Value.ownBlock]; omega

/-- The pipes at each node lie there. -/
def Rows (w : World) (G : Nat) (n : Nat) (ps : List Pp) : Prop := G < w.heap.size ∧ ∀ v : Nat, v ≤ n → ∃ A c, w.cell? ⟨G, v, none⟩ = some (.slice A (rowOf ps v).length c) ∧ PAt w A (rowOf ps v)
theorem Rows.below {w w' : World} {G n : Nat} {ps : List Pp} (h : Rows w G n ps) (hb : Below w.heap.size w w') : Rows w' G n ps :=
  ⟨Nat.lt_of_lt_of_le h.1 hb.size, fun v hv => by
    obtain ⟨A, c, hc, hp⟩ := h.2 v hv
    exact ⟨A, c, (hb.cell h.1).trans hc, hp.kept hb (Nat.le_refl _)⟩⟩
/-- What it gives. -/
def BatIs (ps : List Pp) (d : Nat) (x : Int) (q : Pp) (w : World) (e : Ending) (w' : World) : Prop :=
  ∃ A c, e = .returned (bv x q A (kidsL ps x q).length c) ∧ RepIn ps (fun b => w.heap.size ≤ b) d w' A x q ∧ Below w.heap.size w w'

set_option maxHeartbeats 2000000 in
set_option maxRecDepth 100000 in
theorem bat_any {n : Nat} {ps : List Pp} (hg : P2.Good n ps) (ha : Acy ps) (G cap : Nat) : ∀ (d : Nat) (v : Nat) (q : Pp) (w : World), Rows w G n ps → BrOk n ps (v : Int) q → cntB n ps (v : Int) q ≤ d →
    Calls Try.prog 125 #[.slice (some ⟨G, 0, none⟩) (n + 1) cap, .int .i64 (v : Int), pv q] w (BatIs ps d v q w) := by
  intro d
  induction d with
  | zero => intro v q w _ hbr hc; have := cnt_pos hbr; omega
  | succ d ih =>
    intro v q w hrows hbr hcnt
    have hv1 : 1 ≤ v := by have := hbr.lo; omega
    have hvn : v ≤ n := by have := hbr.hi; omega
    have hGl := hrows.1
    obtain ⟨AR, cR, hcr, hpr⟩ := hrows.2 v hvn
    have hal := kidsTo_all ps v q
    rw [rowTo_all ps ps.length v (Nat.le_refl _)] at hal
    have HAL := Lib.hid hal
    have HRW := Lib.hid (fun w' (hb : Below w.heap.size w w') => hrows.below hb)
    have HIH := Lib.hid ih
    have HPR := Lib.hid (fun w' (hb : Below w.heap.size w w') => hpr.kept hb (Nat.le_refl _))
    have hmemk : ∀ k p, (rowOf ps v)[k]? = some p → p ∈ ps ∧ Tch p (v : Int) := fun k p hp => by
      obtain ⟨h1, h2⟩ := List.mem_filter.1 (List.mem_of_getElem? hp)
      exact ⟨h1, by simpa [touchB, Tch] using h2⟩
    have HK := Lib.hid (fun k p (hp : (rowOf ps v)[k]? = some p) (hne : p ≠ q) => (show ∃ u : Nat, oth p (v : Int) = (u : Int) ∧ BrOk n ps (u : Int) p ∧ cntB n ps (u : Int) p ≤ d from by
      obtain ⟨hm1, hm2⟩ := hmemk k p hp
      have hmem : p ∈ kidsL ps (v : Int) q := mem_kids.2 ⟨hm1, hm2, hne⟩
      have hb := hbr.kid hg hmem
      obtain ⟨u, hu⟩ := Int.eq_ofNat_of_zero_le (show (0 : Int) ≤ oth p v from by have := hb.lo; omega)
      have h1 := cnt_kid ha hbr hmem
      rw [hu] at hb h1
      exact ⟨u, hu, hb, by omega⟩))
    have hRl : (rowOf ps v).length ≤ 10 := Nat.le_trans (List.length_filter_le _ _) hg.2.2.1
    have hv0 : (0 : Int) ≤ (v : Int) := by omega
    have hvn1 : (v : Int) < (n : Int) + 1 := by omega
    clear ih hrows hpr hmemk hal hbr hcnt
    generalize rowOf ps v = R at *
    obtain ⟨W, hW⟩ : ∃ W, W = (((w.alloc (.cells #[.int .i64 q.id, .int .i64 q.fr, .int .i64 q.to, .int .i64 q.sz] 40)).alloc (.cells #[.int .i64 0, .int .i64 0, .int .i64 0, .int .i64 0, .int .i64 0, .slice none 0 0] 82)).alloc (.cells #[.int .i64 (v : Int), .int .i64 q.id, .int .i64 q.fr, .int .i64 q.to, .int .i64 q.sz, .slice none 0 0] 82)) := ⟨_, rfl⟩
    have HW0 : Hid (Below w.heap.size w W) := Lib.hid (by rw [hW]; exact ((((Below.refl w.heap.size w).alloc (Nat.le_refl _) _).alloc (by simp) _).alloc (by simp; omega) _))
    have HWS : Hid (W.heap.size = w.heap.size + 1 + 1 + 1) := Lib.hid (by rw [hW]; simp [Nat.add_assoc])
    have HWP : Hid (PC W w.heap.size 0 q) := Lib.hid (by
      have h1 : PC (w.alloc (.cells #[.int .i64 q.id, .int .i64 q.fr, .int .i64 q.to, .int .i64 q.sz] 40)) w.heap.size 0 q := by
        unfold PC
        refine ⟨?_, ?_, ?_, ?_⟩ <;> rw [World.cell?_alloc_at _ _ _ _ rfl] <;> rfl
      rw [hW]
      exact h1.kept ((((Below.refl _ _).alloc (Nat.le_refl _) _).alloc (by simp) _).block _ (by simp)))
    have HW6 : Hid (WRow W (w.heap.size + 1) (bcs 0 ⟨0, 0, 0, 0⟩ (.slice none 0 0))) := Lib.hid (by
      have e : w.heap.size + 1 = (w.alloc (.cells #[.int .i64 q.id, .int .i64 q.fr, .int .i64 q.to, .int .i64 q.sz] 40)).heap.size := by simp
      have h1 : WRow ((w.alloc (.cells #[.int .i64 q.id, .int .i64 q.fr, .int .i64 q.to, .int .i64 q.sz] 40)).alloc (.cells #[.int .i64 0, .int .i64 0, .int .i64 0, .int .i64 0, .int .i64 0, .slice none 0 0] 82)) (w.heap.size + 1) (bcs 0 ⟨0, 0, 0, 0⟩ (.slice none 0 0)) := by
        unfold WRow
        rw [e]
        exact heap_alloc_new _ _
      rw [hW]
      exact h1.kept (((Below.refl _ _).alloc (Nat.le_refl _) _).block _ (by simp)))
    have HW7 : Hid (WRow W (w.heap.size + 1 + 1) (bcs v q (.slice none 0 0))) := Lib.hid (by
      have e : w.heap.size + 1 + 1 = ((w.alloc (.cells #[.int .i64 q.id, .int .i64 q.fr, .int .i64 q.to, .int .i64 q.sz] 40)).alloc (.cells #[.int .i64 0, .int .i64 0, .int .i64 0, .int .i64 0, .int .i64 0, .slice none 0 0] 82)).heap.size := by simp
      rw [hW]
      unfold WRow
      rw [e]
      exact heap_alloc_new _ _)
    have hcr3 : W.cell? ⟨G, v, none⟩ = some (.slice AR R.length cR) := (HW0.out.cell hGl).trans hcr
    rw [hW] at hcr3
    go_enter Try.func125, Try.ntmps125
    go_wp2
    rw [← hW]
    clear hW hcr hcr3
    go_loopw [18] (fun i wr => ∃ (k : Nat) (A9 : Option Addr) (c9 : Nat) (ks : List Kd), k ≤ R.length ∧ i = .int .i64 (k : Int) ∧ Hid (ks.map (·.1) = kidsTo R q k) ∧ Hid (WRow wr (w.heap.size + 1 + 1) (bcs v q (.slice A9 ks.length c9))) ∧ Hid (WRow wr (w.heap.size + 1) (bcs 0 ⟨0, 0, 0, 0⟩ (.slice none 0 0))) ∧ Hid (PC wr w.heap.size 0 q) ∧ Hid (KIn ps d wr v (w.heap.size + 1 + 1 + 1) (.slice A9 ks.length c9) ks) ∧ Hid (Below w.heap.size w wr) ∧ Hid (W.heap.size ≤ wr.heap.size)) (fun i _ => R.length - (intOf i).toNat)
    case atStart => exact ⟨0, none, 0, [], Nat.zero_le _, rfl, Lib.hid (by simp [kidsTo]), HW7, HW6, HWP, Lib.hid (KIn.nil ps d W v _), HW0, Lib.hid (Nat.le_refl _)⟩
    case round =>
      clear HW7 HW6 HWP
      obtain ⟨k, A9, c9, ks, hk, rfl, hks, hw7, hw6, hpc, hkin, hB, hsz⟩ := hrel
      by_cases hlt : k < R.length
      · obtain ⟨p, hp⟩ : ∃ p, R[k]? = some p := ⟨_, List.getElem?_eq_getElem hlt⟩
        have hrep := HPR.out wr hB.out
        rcases hrep with h0 | ⟨b, off, hA, hbl, hcell⟩
        · rw [h0] at hlt; simp at hlt
        · subst hA
          obtain ⟨c0, c1, c2, c3⟩ := hcell k hlt
          have hpa : pAt R k = p := by simp [pAt, List.getD, hp]
          rw [hpa] at c0 c1 c2 c3
          have hk0 : (0 : Int) ≤ (k : Int) := by omega
          have hkn : (k : Int) < (R.length : Int) := by omega
          have hs0 := HWS.out
          have hs1 := hsz.out
          have hl0 : w.heap.size < wr.heap.size := by omega
          have hl1 : w.heap.size + 1 < wr.heap.size := by omega
          have hl2 : w.heap.size + 1 + 1 < wr.heap.size := by omega
          have hBr : w.heap.size + 1 + 1 + 1 ≤ wr.heap.size := by omega
          clear hs0 hs1
          obtain ⟨p1, p2, p3, p4⟩ := hpc.out
          have HP := Lib.hid hp
          clear hcell hpa hp
          by_cases hpq : p = q
          · subst hpq
            have HKS := Lib.hid (kidsTo_no HP.out rfl)
            go_wp2
            go_roundw
            case rel => exact ⟨k + 1, A9, c9, ks, by omega, by go_num, Lib.hid (by rw [HKS.out]; exact hks.out), Lib.hid (hw7.out.kept (Below.heap_alloc wr _ _ hl2)), Lib.hid (hw6.out.kept (Below.heap_alloc wr _ _ hl1)), Lib.hid (hpc.out.kept (Below.heap_alloc wr _ _ hl0)), Lib.hid (hkin.out.below ((Below.refl _ _).alloc (Nat.le_refl _) _)), Lib.hid (hB.out.alloc hB.out.size _), Lib.hid (by have := hsz.out; simp; omega)⟩
            case measure => simp [intOf]; omega
          · have HKS := Lib.hid (kidsTo_yes HP.out hpq)
            obtain ⟨u, hu, hbu, hcu⟩ := HK.out k p HP.out hpq
            have HU := Lib.hid hu
            have HO := Lib.hid (fun w' => other_v hu w')
            have HC := Lib.hid (fun w' (hb : Below w.heap.size w w') => HIH.out u p w' (HRW.out w' hb) hbu hcu)
            have HNE := Lib.hid hpq
            clear hu hbu hcu hpq
            go_upto_region 6 with (first | (with_reducible refine wpP_neq rfl _ _ rfl p q rfl rfl HNE.out ?_))
            obtain ⟨i0, hi0, hz0, hz1, hz2⟩ := info_parts infoBr
            have vr : wr.cell? ⟨w.heap.size + 1 + 1, 5, none⟩ = some (.slice A9 ks.length c9) := hw7.out.cell 5
            have v0 : ((wr.alloc (.cells #[.int .i64 p.id, .int .i64 p.fr, .int .i64 p.to, .int .i64 p.sz] 40)).drew).cell? ⟨w.heap.size + 1 + 1, 5, none⟩ = some (.slice A9 ks.length c9) := ((((Below.refl wr.heap.size wr).alloc (Nat.le_refl _) (.cells #[.int .i64 p.id, .int .i64 p.fr, .int .i64 p.to, .int .i64 p.sz] 40)).drew).cell hl2).trans vr
            have hvb : ∀ g, (Value.slice A9 ks.length c9).ownBlock = some g → w.heap.size + 1 + 1 + 1 ≤ g ∧ g < wr.heap.size := fun g hg => hkin.out.own.lt g hg
            have hkl : ks.length ≤ 10 := (by have h1 := kidsTo_len R q k; rw [← hks.out, List.length_map] at h1; omega)
            have hfar9 : (Value.slice A9 ks.length c9).ownBlock ≠ some wr.heap.size := fun e => (by have := hvb _ e; omega)
            have hfar7 : (Value.slice A9 ks.length c9).ownBlock ≠ some (w.heap.size + 1 + 1) := fun e => (by have := hvb _ e; omega)
            refine wp_region_held_drew (S := fun w' => w'.cell? ⟨wr.heap.size, 0, none⟩ = some (.int .i64 p.id) ∧ w'.cell? ⟨wr.heap.size, 1, none⟩ = some (.int .i64 p.fr) ∧ w'.cell? ⟨wr.heap.size, 2, none⟩ = some (.int .i64 p.to) ∧ w'.cell? ⟨wr.heap.size, 3, none⟩ = some (.int .i64 p.sz)) (by kernel_rfl) (by go_keep) (fun hHeld => ?_)
            refine wpAnyH_take (i := 0) (v := .pointer (some ⟨w.heap.size + 1 + 1, 5, none⟩)) rfl (by kernel_rfl) (by kernel_rfl) (by kernel_rfl) (fun _ _ _ h => h) (Or.inl ⟨by rfl, ?_⟩) (by assumption) ?_
            · (intro w hSw; (try dsimp only at hSw); go_simp)
            simp only [Act.put, List.setIfInBounds_toArray]
            refine wpAnyH_take (i := 2) (v := .slice (some ⟨G, 0, none⟩) (n + 1) cap) rfl (by kernel_rfl) (by kernel_rfl) (by kernel_rfl) (fun _ _ _ h => h) (Or.inl ⟨by rfl, ?_⟩) (by assumption) ?_
            · (intro w hSw; (try dsimp only at hSw); go_simp)
            simp only [Act.put]
            refine wpAnyH_take (i := 3) (v := .agg #[.int .i64 p.id, .int .i64 p.fr, .int .i64 p.to, .int .i64 p.sz]) rfl (by kernel_rfl) (by kernel_rfl) (by kernel_rfl) (fun _ _ _ h => h) (Or.inl ⟨by rfl, ?_⟩) (by assumption) ?_
            · (intro w hSw; (try dsimp only at hSw); go_simp)
            simp only [Act.put]
            refine wpAnyH_take (i := 4) (v := .int .i64 (v : Int)) rfl (by kernel_rfl) (by kernel_rfl) (by kernel_rfl) (fun _ _ _ h => h) (Or.inl ⟨by rfl, ?_⟩) (by assumption) ?_
            · (intro w hSw; (try dsimp only at hSw); go_simp)
            simp only [Act.put]
            refine wpAnyH_take (i := 6) (v := .agg #[.int .i64 p.id, .int .i64 p.fr, .int .i64 p.to, .int .i64 p.sz]) rfl (by kernel_rfl) (by kernel_rfl) (by kernel_rfl) (fun _ _ _ h => h) (Or.inl ⟨by rfl, ?_⟩) (by assumption) ?_
            · (intro w hSw; (try dsimp only at hSw); go_simp)
            simp only [Act.put]
            refine wpAnyH_ready (rs := [1, 5]) (by kernel_rfl) (by simp) ?_
            refine AllReadyH.cons rfl (fun K hK => ?_) (AllReadyH.cons rfl (fun K hK => ?_) AllReadyH.nil)
            · go_simp
              refine hK.out _ _ (by first | assumption | go_keep) (fun hHeld => ?_)
              clear hK K
              refine wpAnyH_ready (rs := [5]) (by kernel_rfl) (by simp) ?_
              refine AllReadyH.cons rfl (fun K hK => ?_) AllReadyH.nil
              go_simp
              go_at_call 81
              refine (HO.out _).mono ?_
              rintro e w3 ⟨rfl, hb3⟩
              have HB3 := Lib.hid ((((Below.refl wr.heap.size wr).alloc (Nat.le_refl _) (.cells #[.int .i64 p.id, .int .i64 p.fr, .int .i64 p.to, .int .i64 p.sz] 40)).drew).trans (hb3.mono (by simp)))
              have hz3 : wr.heap.size + 1 ≤ w3.heap.size := (by have := hb3.size; simp at this; omega)
              have v3 : w3.cell? ⟨w.heap.size + 1 + 1, 5, none⟩ = some (.slice A9 ks.length c9) := (HB3.out.cell hl2).trans vr
              have hHeld2 := hHeld
              refine hK.out _ _ (by rcases hHeld2 with ⟨q0, q1, q2, q3⟩; exact ⟨(hb3.cell (by simp)).trans q0, (hb3.cell (by simp)).trans q1, (hb3.cell (by simp)).trans q2, (hb3.cell (by simp)).trans q3⟩) (fun hHeld => ?_)
              clear hK K hHeld2
              clear hb3
              refine wpAnyH_ready (rs := [7]) (by kernel_rfl) (by simp) ?_
              refine AllReadyH.cons rfl (fun K hK => ?_) AllReadyH.nil
              go_simp
              go_at_call 125
              refine (HC.out _ (hB.out.trans (HB3.out.mono hB.out.size))).mono ?_
              rintro e w4 ⟨A4, c4, rfl, hrep4, hb4⟩
              have HREP4 := Lib.hid hrep4
              obtain ⟨m4, hm4⟩ : ∃ m4, (kidsL ps (u : Int) p).length = m4 := ⟨_, rfl⟩
              have HM4 := Lib.hid hm4
              rw [hm4]
              have HB4 := Lib.hid (HB3.out.trans (hb4.mono (by omega)))
              have hz4 : wr.heap.size + 1 ≤ w4.heap.size := (by have := hb4.size; omega)
              have v4 : w4.cell? ⟨w.heap.size + 1 + 1, 5, none⟩ = some (.slice A9 ks.length c9) := (HB4.out.cell hl2).trans vr
              have hl24 : w.heap.size + 1 + 1 < w4.heap.size := (by omega)
              have hHeld2 := hHeld
              refine hK.out _ _ (by rcases hHeld2 with ⟨q0, q1, q2, q3⟩; exact ⟨(hb4.cell (by show wr.heap.size < w3.heap.size; omega)).trans q0, (hb4.cell (by show wr.heap.size < w3.heap.size; omega)).trans q1, (hb4.cell (by show wr.heap.size < w3.heap.size; omega)).trans q2, (hb4.cell (by show wr.heap.size < w3.heap.size; omega)).trans q3⟩) (fun hHeld => ?_)
              clear hK K hHeld2
              clear hb4 hrep4 hm4
              refine wpAnyH_ready (rs := [8]) (by kernel_rfl) (by simp) ?_
              refine AllReadyH.cons rfl (fun K hK => ?_) AllReadyH.nil
              go_simp
              refine hK.out _ _ (by first | assumption | go_keep) (fun hHeld => ?_)
              clear hK K
              have v5 : (w4.alloc (.cells #[.int .i64 (u : Int), .int .i64 p.id, .int .i64 p.fr, .int .i64 p.to, .int .i64 p.sz, .slice A4 m4 c4] 82)).cell? ⟨w.heap.size + 1 + 1, 5, none⟩ = some (.slice A9 ks.length c9) := (((Below.refl w4.heap.size w4).alloc (Nat.le_refl _) _).cell hl24).trans v4
              refine wpAnyH_ready (rs := [9]) (by kernel_rfl) (by simp) ?_
              refine AllReadyH.cons rfl (fun K hK => ?_) AllReadyH.nil
              refine step_append_lies _ (by rfl) _ _ _ (by rfl) (w.heap.size + 1 + 1 + 1) 82 i0 _ 6 64 Try.underlying80 hi0 hz0 hz1 hz2 rfl (by omega) (.slice A9 ks.length c9) ks.length (bls ps v ks) (by rfl) ((hkin.out.below HB4.out).own.alloc _)
                ⟨w4.heap.size, 0, none⟩ 1 1 [.int .i64 (u : Int), .int .i64 p.id, .int .i64 p.fr, .int .i64 p.to, .int .i64 p.sz, .slice A4 m4 c4] (by rfl) (by rfl) (World.news_of_block (cs := #[.int .i64 (u : Int), .int .i64 p.id, .int .i64 p.fr, .int .i64 p.to, .int .i64 p.sz, .slice A4 m4 c4]) (t := 82) (fr := (0, 0)) (heap_alloc_new w4 _)) (by simp [Value.oneCell'])
                (by omega) (by simp only [maxLen]; omega) (by omega) (by simp; omega) (w4.heap.size + 1) (by simp) ?_
              intro g5 c5 w5 hown5 hgrow hat hlt5
              have hHeld2 := hHeld
              refine hK.out _ _ (by rcases hHeld2 with ⟨q0, q1, q2, q3⟩; exact ⟨(hgrow.cell_far _ (by simp; omega) (fun e => hfar9 e.symm)).trans q0, (hgrow.cell_far _ (by simp; omega) (fun e => hfar9 e.symm)).trans q1, (hgrow.cell_far _ (by simp; omega) (fun e => hfar9 e.symm)).trans q2, (hgrow.cell_far _ (by simp; omega) (fun e => hfar9 e.symm)).trans q3⟩) (fun hHeld => ?_)
              clear hK K hHeld2
              have HW5 := Lib.hid (((hw7.out.kept (HB4.out.block _ hl2)).kept (((Below.refl w4.heap.size w4).alloc (Nat.le_refl _) (.cells #[.int .i64 (u : Int), .int .i64 p.id, .int .i64 p.fr, .int .i64 p.to, .int .i64 p.sz, .slice A4 m4 c4] 82)).block _ hl24)).kept (hgrow.block _ (by simp; omega) (fun e => hfar7 e.symm)))
              have hz5 : w4.heap.size + 1 ≤ w5.heap.size := (by have := hgrow.size; simp at this; omega)
              have v6 : w5.cell? ⟨w.heap.size + 1 + 1, 5, none⟩ = some (.slice A9 ks.length c9) := HW5.out.cell 5
              have f6 : w5.frozen? ⟨w.heap.size + 1 + 1, 5, none⟩ = false := frozen_of_row w5 _ 5 _ _ HW5.out
              refine wpAnyH_ready (rs := [10]) (by kernel_rfl) (by simp) ?_
              refine AllReadyH.cons rfl (fun K hK => ?_) AllReadyH.nil
              go_simp
              refine hK.out _ _ (by first | assumption | go_keep) (fun hHeld => ?_)
              clear hK K
              refine wpAnyH_ready (rs := [11]) (by kernel_rfl) (by simp) ?_
              refine AllReadyH.cons rfl (fun K hK => ?_) AllReadyH.nil
              go_simp
              have hHeld2 := hHeld
              refine hK.out _ _ (by rcases hHeld2 with ⟨q0, q1, q2, q3⟩; exact ⟨((setCell_off w5 (w.heap.size + 1 + 1) 5 _).cell_far _ (by show wr.heap.size < w5.heap.size; omega) (by intro e; simp at e; omega)).trans q0, ((setCell_off w5 (w.heap.size + 1 + 1) 5 _).cell_far _ (by show wr.heap.size < w5.heap.size; omega) (by intro e; simp at e; omega)).trans q1, ((setCell_off w5 (w.heap.size + 1 + 1) 5 _).cell_far _ (by show wr.heap.size < w5.heap.size; omega) (by intro e; simp at e; omega)).trans q2, ((setCell_off w5 (w.heap.size + 1 + 1) 5 _).cell_far _ (by show wr.heap.size < w5.heap.size; omega) (by intro e; simp at e; omega)).trans q3⟩) (fun hHeld => ?_)
              clear hK K hHeld2
              refine wpAnyH_done (by kernel_rfl) ?_ _
              have hH1 : (w4.alloc (.cells #[.int .i64 (u : Int), .int .i64 p.id, .int .i64 p.fr, .int .i64 p.to, .int .i64 p.sz, .slice A4 m4 c4] 82)).heap.size = w4.heap.size + 1 := (by simp)
              have HBL := Lib.hid ((((HB4.out.mono (show w.heap.size + 1 + 1 ≤ wr.heap.size by omega)).alloc (by omega) (.cells #[.int .i64 (u : Int), .int .i64 p.id, .int .i64 p.fr, .int .i64 p.to, .int .i64 p.sz, .slice A4 m4 c4] 82)).grown hgrow (by rw [hH1]; omega) (fun g hg => by have := hvb g hg; omega)).setCell (p := ⟨w.heap.size + 1 + 1, 5, none⟩) (Nat.le_refl _) (.slice (some ⟨g5, 0, none⟩) (ks.length + 1) c5))
              have HKN := Lib.hid ((KIn.push (B := w.heap.size + 1 + 1 + 1) (b0 := w3.heap.size) (k := (p, A4, c4)) ((hkin.out.below HB4.out).below ((Below.refl w4.heap.size w4).alloc (Nat.le_refl _) (.cells #[.int .i64 (u : Int), .int .i64 p.id, .int .i64 p.fr, .int .i64 p.to, .int .i64 p.sz, .slice A4 m4 c4] 82))) (by unfold bl6; simp only [HU.out, HM4.out]; exact hown5) hgrow (by rcases hat with h | h; exact .inl h.symm; exact .inr (by rw [hH1, h]; rfl)) (by simp only [HU.out]; exact HREP4.out.below ((Below.refl w4.heap.size w4).alloc (Nat.le_refl _) (.cells #[.int .i64 (u : Int), .int .i64 p.id, .int .i64 p.fr, .int .i64 p.to, .int .i64 p.sz, .slice A4 m4 c4] 82))) (by omega) (fun g hg => by have := hvb g hg; omega)).low (setCell_off w5 (w.heap.size + 1 + 1) 5 (.slice (some ⟨g5, 0, none⟩) (ks.length + 1) c5)) (by omega))
              have hle : (ks ++ [((p, A4, c4) : Kd)]).length = ks.length + 1 := (by simp)
              have HW6 := Lib.hid (HW5.out.set5 (.slice (some ⟨g5, 0, none⟩) (ks.length + 1) c5))
              clear hgrow hown5 hat hH1
              go_wp2_with fail
              go_roundw
              case rel => exact ⟨k + 1, some ⟨g5, 0, none⟩, c5, ks ++ [((p, A4, c4) : Kd)], by omega, by go_num, Lib.hid (by rw [HKS.out, ← hks.out]; simp), Lib.hid (by rw [hle]; exact HW6.out), Lib.hid (hw6.out.kept (HBL.out.block _ (by omega))), Lib.hid (hpc.out.kept (HBL.out.block _ (by omega))), Lib.hid (by rw [hle]; exact HKN.out), Lib.hid (hB.out.trans (HBL.out.mono (by omega))), Lib.hid (by have := hsz.out; simp; omega)⟩
              case measure => simp [intOf]; omega
            · go_simp
              go_at_call 81
              refine (HO.out _).mono ?_
              rintro e w3 ⟨rfl, hb3⟩
              have HB3 := Lib.hid ((((Below.refl wr.heap.size wr).alloc (Nat.le_refl _) (.cells #[.int .i64 p.id, .int .i64 p.fr, .int .i64 p.to, .int .i64 p.sz] 40)).drew).trans (hb3.mono (by simp)))
              have hz3 : wr.heap.size + 1 ≤ w3.heap.size := (by have := hb3.size; simp at this; omega)
              have v3 : w3.cell? ⟨w.heap.size + 1 + 1, 5, none⟩ = some (.slice A9 ks.length c9) := (HB3.out.cell hl2).trans vr
              have hHeld2 := hHeld
              refine hK.out _ _ (by rcases hHeld2 with ⟨q0, q1, q2, q3⟩; exact ⟨(hb3.cell (by simp)).trans q0, (hb3.cell (by simp)).trans q1, (hb3.cell (by simp)).trans q2, (hb3.cell (by simp)).trans q3⟩) (fun hHeld => ?_)
              clear hK K hHeld2
              clear hb3
              refine wpAnyH_ready (rs := [1, 7]) (by kernel_rfl) (by simp) ?_
              refine AllReadyH.cons rfl (fun K hK => ?_) (AllReadyH.cons rfl (fun K hK => ?_) AllReadyH.nil)
              · go_simp
                refine hK.out _ _ (by first | assumption | go_keep) (fun hHeld => ?_)
                clear hK K
                refine wpAnyH_ready (rs := [7]) (by kernel_rfl) (by simp) ?_
                refine AllReadyH.cons rfl (fun K hK => ?_) AllReadyH.nil
                go_simp
                go_at_call 125
                refine (HC.out _ (hB.out.trans (HB3.out.mono hB.out.size))).mono ?_
                rintro e w4 ⟨A4, c4, rfl, hrep4, hb4⟩
                have HREP4 := Lib.hid hrep4
                obtain ⟨m4, hm4⟩ : ∃ m4, (kidsL ps (u : Int) p).length = m4 := ⟨_, rfl⟩
                have HM4 := Lib.hid hm4
                rw [hm4]
                have HB4 := Lib.hid (HB3.out.trans (hb4.mono (by omega)))
                have hz4 : wr.heap.size + 1 ≤ w4.heap.size := (by have := hb4.size; omega)
                have v4 : w4.cell? ⟨w.heap.size + 1 + 1, 5, none⟩ = some (.slice A9 ks.length c9) := (HB4.out.cell hl2).trans vr
                have hl24 : w.heap.size + 1 + 1 < w4.heap.size := (by omega)
                have hHeld2 := hHeld
                refine hK.out _ _ (by rcases hHeld2 with ⟨q0, q1, q2, q3⟩; exact ⟨(hb4.cell (by show wr.heap.size < w3.heap.size; omega)).trans q0, (hb4.cell (by show wr.heap.size < w3.heap.size; omega)).trans q1, (hb4.cell (by show wr.heap.size < w3.heap.size; omega)).trans q2, (hb4.cell (by show wr.heap.size < w3.heap.size; omega)).trans q3⟩) (fun hHeld => ?_)
                clear hK K hHeld2
                clear hb4 hrep4 hm4
                refine wpAnyH_ready (rs := [8]) (by kernel_rfl) (by simp) ?_
                refine AllReadyH.cons rfl (fun K hK => ?_) AllReadyH.nil
                go_simp
                refine hK.out _ _ (by first | assumption | go_keep) (fun hHeld => ?_)
                clear hK K
                have v5 : (w4.alloc (.cells #[.int .i64 (u : Int), .int .i64 p.id, .int .i64 p.fr, .int .i64 p.to, .int .i64 p.sz, .slice A4 m4 c4] 82)).cell? ⟨w.heap.size + 1 + 1, 5, none⟩ = some (.slice A9 ks.length c9) := (((Below.refl w4.heap.size w4).alloc (Nat.le_refl _) _).cell hl24).trans v4
                refine wpAnyH_ready (rs := [9]) (by kernel_rfl) (by simp) ?_
                refine AllReadyH.cons rfl (fun K hK => ?_) AllReadyH.nil
                refine step_append_lies _ (by rfl) _ _ _ (by rfl) (w.heap.size + 1 + 1 + 1) 82 i0 _ 6 64 Try.underlying80 hi0 hz0 hz1 hz2 rfl (by omega) (.slice A9 ks.length c9) ks.length (bls ps v ks) (by rfl) ((hkin.out.below HB4.out).own.alloc _)
                  ⟨w4.heap.size, 0, none⟩ 1 1 [.int .i64 (u : Int), .int .i64 p.id, .int .i64 p.fr, .int .i64 p.to, .int .i64 p.sz, .slice A4 m4 c4] (by rfl) (by rfl) (World.news_of_block (cs := #[.int .i64 (u : Int), .int .i64 p.id, .int .i64 p.fr, .int .i64 p.to, .int .i64 p.sz, .slice A4 m4 c4]) (t := 82) (fr := (0, 0)) (heap_alloc_new w4 _)) (by simp [Value.oneCell'])
                  (by omega) (by simp only [maxLen]; omega) (by omega) (by simp; omega) (w4.heap.size + 1) (by simp) ?_
                intro g5 c5 w5 hown5 hgrow hat hlt5
                have hHeld2 := hHeld
                refine hK.out _ _ (by rcases hHeld2 with ⟨q0, q1, q2, q3⟩; exact ⟨(hgrow.cell_far _ (by simp; omega) (fun e => hfar9 e.symm)).trans q0, (hgrow.cell_far _ (by simp; omega) (fun e => hfar9 e.symm)).trans q1, (hgrow.cell_far _ (by simp; omega) (fun e => hfar9 e.symm)).trans q2, (hgrow.cell_far _ (by simp; omega) (fun e => hfar9 e.symm)).trans q3⟩) (fun hHeld => ?_)
                clear hK K hHeld2
                have HW5 := Lib.hid (((hw7.out.kept (HB4.out.block _ hl2)).kept (((Below.refl w4.heap.size w4).alloc (Nat.le_refl _) (.cells #[.int .i64 (u : Int), .int .i64 p.id, .int .i64 p.fr, .int .i64 p.to, .int .i64 p.sz, .slice A4 m4 c4] 82)).block _ hl24)).kept (hgrow.block _ (by simp; omega) (fun e => hfar7 e.symm)))
                have hz5 : w4.heap.size + 1 ≤ w5.heap.size := (by have := hgrow.size; simp at this; omega)
                have v6 : w5.cell? ⟨w.heap.size + 1 + 1, 5, none⟩ = some (.slice A9 ks.length c9) := HW5.out.cell 5
                have f6 : w5.frozen? ⟨w.heap.size + 1 + 1, 5, none⟩ = false := frozen_of_row w5 _ 5 _ _ HW5.out
                refine wpAnyH_ready (rs := [10]) (by kernel_rfl) (by simp) ?_
                refine AllReadyH.cons rfl (fun K hK => ?_) AllReadyH.nil
                go_simp
                refine hK.out _ _ (by first | assumption | go_keep) (fun hHeld => ?_)
                clear hK K
                refine wpAnyH_ready (rs := [11]) (by kernel_rfl) (by simp) ?_
                refine AllReadyH.cons rfl (fun K hK => ?_) AllReadyH.nil
                go_simp
                have hHeld2 := hHeld
                refine hK.out _ _ (by rcases hHeld2 with ⟨q0, q1, q2, q3⟩; exact ⟨((setCell_off w5 (w.heap.size + 1 + 1) 5 _).cell_far _ (by show wr.heap.size < w5.heap.size; omega) (by intro e; simp at e; omega)).trans q0, ((setCell_off w5 (w.heap.size + 1 + 1) 5 _).cell_far _ (by show wr.heap.size < w5.heap.size; omega) (by intro e; simp at e; omega)).trans q1, ((setCell_off w5 (w.heap.size + 1 + 1) 5 _).cell_far _ (by show wr.heap.size < w5.heap.size; omega) (by intro e; simp at e; omega)).trans q2, ((setCell_off w5 (w.heap.size + 1 + 1) 5 _).cell_far _ (by show wr.heap.size < w5.heap.size; omega) (by intro e; simp at e; omega)).trans q3⟩) (fun hHeld => ?_)
                clear hK K hHeld2
                refine wpAnyH_done (by kernel_rfl) ?_ _
                have hH1 : (w4.alloc (.cells #[.int .i64 (u : Int), .int .i64 p.id, .int .i64 p.fr, .int .i64 p.to, .int .i64 p.sz, .slice A4 m4 c4] 82)).heap.size = w4.heap.size + 1 := (by simp)
                have HBL := Lib.hid ((((HB4.out.mono (show w.heap.size + 1 + 1 ≤ wr.heap.size by omega)).alloc (by omega) (.cells #[.int .i64 (u : Int), .int .i64 p.id, .int .i64 p.fr, .int .i64 p.to, .int .i64 p.sz, .slice A4 m4 c4] 82)).grown hgrow (by rw [hH1]; omega) (fun g hg => by have := hvb g hg; omega)).setCell (p := ⟨w.heap.size + 1 + 1, 5, none⟩) (Nat.le_refl _) (.slice (some ⟨g5, 0, none⟩) (ks.length + 1) c5))
                have HKN := Lib.hid ((KIn.push (B := w.heap.size + 1 + 1 + 1) (b0 := w3.heap.size) (k := (p, A4, c4)) ((hkin.out.below HB4.out).below ((Below.refl w4.heap.size w4).alloc (Nat.le_refl _) (.cells #[.int .i64 (u : Int), .int .i64 p.id, .int .i64 p.fr, .int .i64 p.to, .int .i64 p.sz, .slice A4 m4 c4] 82))) (by unfold bl6; simp only [HU.out, HM4.out]; exact hown5) hgrow (by rcases hat with h | h; exact .inl h.symm; exact .inr (by rw [hH1, h]; rfl)) (by simp only [HU.out]; exact HREP4.out.below ((Below.refl w4.heap.size w4).alloc (Nat.le_refl _) (.cells #[.int .i64 (u : Int), .int .i64 p.id, .int .i64 p.fr, .int .i64 p.to, .int .i64 p.sz, .slice A4 m4 c4] 82))) (by omega) (fun g hg => by have := hvb g hg; omega)).low (setCell_off w5 (w.heap.size + 1 + 1) 5 (.slice (some ⟨g5, 0, none⟩) (ks.length + 1) c5)) (by omega))
                have hle : (ks ++ [((p, A4, c4) : Kd)]).length = ks.length + 1 := (by simp)
                have HW6 := Lib.hid (HW5.out.set5 (.slice (some ⟨g5, 0, none⟩) (ks.length + 1) c5))
                clear hgrow hown5 hat hH1
                go_wp2_with fail
                go_roundw
                case rel => exact ⟨k + 1, some ⟨g5, 0, none⟩, c5, ks ++ [((p, A4, c4) : Kd)], by omega, by go_num, Lib.hid (by rw [HKS.out, ← hks.out]; simp), Lib.hid (by rw [hle]; exact HW6.out), Lib.hid (hw6.out.kept (HBL.out.block _ (by omega))), Lib.hid (hpc.out.kept (HBL.out.block _ (by omega))), Lib.hid (by rw [hle]; exact HKN.out), Lib.hid (hB.out.trans (HBL.out.mono (by omega))), Lib.hid (by have := hsz.out; simp; omega)⟩
                case measure => simp [intOf]; omega
              · go_simp
                go_at_call 125
                refine (HC.out _ (hB.out.trans (HB3.out.mono hB.out.size))).mono ?_
                rintro e w4 ⟨A4, c4, rfl, hrep4, hb4⟩
                have HREP4 := Lib.hid hrep4
                obtain ⟨m4, hm4⟩ : ∃ m4, (kidsL ps (u : Int) p).length = m4 := ⟨_, rfl⟩
                have HM4 := Lib.hid hm4
                rw [hm4]
                have HB4 := Lib.hid (HB3.out.trans (hb4.mono (by omega)))
                have hz4 : wr.heap.size + 1 ≤ w4.heap.size := (by have := hb4.size; omega)
                have v4 : w4.cell? ⟨w.heap.size + 1 + 1, 5, none⟩ = some (.slice A9 ks.length c9) := (HB4.out.cell hl2).trans vr
                have hl24 : w.heap.size + 1 + 1 < w4.heap.size := (by omega)
                have hHeld2 := hHeld
                refine hK.out _ _ (by rcases hHeld2 with ⟨q0, q1, q2, q3⟩; exact ⟨(hb4.cell (by show wr.heap.size < w3.heap.size; omega)).trans q0, (hb4.cell (by show wr.heap.size < w3.heap.size; omega)).trans q1, (hb4.cell (by show wr.heap.size < w3.heap.size; omega)).trans q2, (hb4.cell (by show wr.heap.size < w3.heap.size; omega)).trans q3⟩) (fun hHeld => ?_)
                clear hK K hHeld2
                clear hb4 hrep4 hm4
                refine wpAnyH_ready (rs := [1, 8]) (by kernel_rfl) (by simp) ?_
                refine AllReadyH.cons rfl (fun K hK => ?_) (AllReadyH.cons rfl (fun K hK => ?_) AllReadyH.nil)
                · go_simp
                  refine hK.out _ _ (by first | assumption | go_keep) (fun hHeld => ?_)
                  clear hK K
                  refine wpAnyH_ready (rs := [8]) (by kernel_rfl) (by simp) ?_
                  refine AllReadyH.cons rfl (fun K hK => ?_) AllReadyH.nil
                  go_simp
                  refine hK.out _ _ (by first | assumption | go_keep) (fun hHeld => ?_)
                  clear hK K
                  have v5 : (w4.alloc (.cells #[.int .i64 (u : Int), .int .i64 p.id, .int .i64 p.fr, .int .i64 p.to, .int .i64 p.sz, .slice A4 m4 c4] 82)).cell? ⟨w.heap.size + 1 + 1, 5, none⟩ = some (.slice A9 ks.length c9) := (((Below.refl w4.heap.size w4).alloc (Nat.le_refl _) _).cell hl24).trans v4
                  refine wpAnyH_ready (rs := [9]) (by kernel_rfl) (by simp) ?_
                  refine AllReadyH.cons rfl (fun K hK => ?_) AllReadyH.nil
                  refine step_append_lies _ (by rfl) _ _ _ (by rfl) (w.heap.size + 1 + 1 + 1) 82 i0 _ 6 64 Try.underlying80 hi0 hz0 hz1 hz2 rfl (by omega) (.slice A9 ks.length c9) ks.length (bls ps v ks) (by rfl) ((hkin.out.below HB4.out).own.alloc _)
                    ⟨w4.heap.size, 0, none⟩ 1 1 [.int .i64 (u : Int), .int .i64 p.id, .int .i64 p.fr, .int .i64 p.to, .int .i64 p.sz, .slice A4 m4 c4] (by rfl) (by rfl) (World.news_of_block (cs := #[.int .i64 (u : Int), .int .i64 p.id, .int .i64 p.fr, .int .i64 p.to, .int .i64 p.sz, .slice A4 m4 c4]) (t := 82) (fr := (0, 0)) (heap_alloc_new w4 _)) (by simp [Value.oneCell'])
                    (by omega) (by simp only [maxLen]; omega) (by omega) (by simp; omega) (w4.heap.size + 1) (by simp) ?_
                  intro g5 c5 w5 hown5 hgrow hat hlt5
                  have hHeld2 := hHeld
                  refine hK.out _ _ (by rcases hHeld2 with ⟨q0, q1, q2, q3⟩; exact ⟨(hgrow.cell_far _ (by simp; omega) (fun e => hfar9 e.symm)).trans q0, (hgrow.cell_far _ (by simp; omega) (fun e => hfar9 e.symm)).trans q1, (hgrow.cell_far _ (by simp; omega) (fun e => hfar9 e.symm)).trans q2, (hgrow.cell_far _ (by simp; omega) (fun e => hfar9 e.symm)).trans q3⟩) (fun hHeld => ?_)
                  clear hK K hHeld2
                  have HW5 := Lib.hid (((hw7.out.kept (HB4.out.block _ hl2)).kept (((Below.refl w4.heap.size w4).alloc (Nat.le_refl _) (.cells #[.int .i64 (u : Int), .int .i64 p.id, .int .i64 p.fr, .int .i64 p.to, .int .i64 p.sz, .slice A4 m4 c4] 82)).block _ hl24)).kept (hgrow.block _ (by simp; omega) (fun e => hfar7 e.symm)))
                  have hz5 : w4.heap.size + 1 ≤ w5.heap.size := (by have := hgrow.size; simp at this; omega)
                  have v6 : w5.cell? ⟨w.heap.size + 1 + 1, 5, none⟩ = some (.slice A9 ks.length c9) := HW5.out.cell 5
                  have f6 : w5.frozen? ⟨w.heap.size + 1 + 1, 5, none⟩ = false := frozen_of_row w5 _ 5 _ _ HW5.out
                  refine wpAnyH_ready (rs := [10]) (by kernel_rfl) (by simp) ?_
                  refine AllReadyH.cons rfl (fun K hK => ?_) AllReadyH.nil
                  go_simp
                  refine hK.out _ _ (by first | assumption | go_keep) (fun hHeld => ?_)
                  clear hK K
                  refine wpAnyH_ready (rs := [11]) (by kernel_rfl) (by simp) ?_
                  refine AllReadyH.cons rfl (fun K hK => ?_) AllReadyH.nil
                  go_simp
                  have hHeld2 := hHeld
                  refine hK.out _ _ (by rcases hHeld2 with ⟨q0, q1, q2, q3⟩; exact ⟨((setCell_off w5 (w.heap.size + 1 + 1) 5 _).cell_far _ (by show wr.heap.size < w5.heap.size; omega) (by intro e; simp at e; omega)).trans q0, ((setCell_off w5 (w.heap.size + 1 + 1) 5 _).cell_far _ (by show wr.heap.size < w5.heap.size; omega) (by intro e; simp at e; omega)).trans q1, ((setCell_off w5 (w.heap.size + 1 + 1) 5 _).cell_far _ (by show wr.heap.size < w5.heap.size; omega) (by intro e; simp at e; omega)).trans q2, ((setCell_off w5 (w.heap.size + 1 + 1) 5 _).cell_far _ (by show wr.heap.size < w5.heap.size; omega) (by intro e; simp at e; omega)).trans q3⟩) (fun hHeld => ?_)
                  clear hK K hHeld2
                  refine wpAnyH_done (by kernel_rfl) ?_ _
                  have hH1 : (w4.alloc (.cells #[.int .i64 (u : Int), .int .i64 p.id, .int .i64 p.fr, .int .i64 p.to, .int .i64 p.sz, .slice A4 m4 c4] 82)).heap.size = w4.heap.size + 1 := (by simp)
                  have HBL := Lib.hid ((((HB4.out.mono (show w.heap.size + 1 + 1 ≤ wr.heap.size by omega)).alloc (by omega) (.cells #[.int .i64 (u : Int), .int .i64 p.id, .int .i64 p.fr, .int .i64 p.to, .int .i64 p.sz, .slice A4 m4 c4] 82)).grown hgrow (by rw [hH1]; omega) (fun g hg => by have := hvb g hg; omega)).setCell (p := ⟨w.heap.size + 1 + 1, 5, none⟩) (Nat.le_refl _) (.slice (some ⟨g5, 0, none⟩) (ks.length + 1) c5))
                  have HKN := Lib.hid ((KIn.push (B := w.heap.size + 1 + 1 + 1) (b0 := w3.heap.size) (k := (p, A4, c4)) ((hkin.out.below HB4.out).below ((Below.refl w4.heap.size w4).alloc (Nat.le_refl _) (.cells #[.int .i64 (u : Int), .int .i64 p.id, .int .i64 p.fr, .int .i64 p.to, .int .i64 p.sz, .slice A4 m4 c4] 82))) (by unfold bl6; simp only [HU.out, HM4.out]; exact hown5) hgrow (by rcases hat with h | h; exact .inl h.symm; exact .inr (by rw [hH1, h]; rfl)) (by simp only [HU.out]; exact HREP4.out.below ((Below.refl w4.heap.size w4).alloc (Nat.le_refl _) (.cells #[.int .i64 (u : Int), .int .i64 p.id, .int .i64 p.fr, .int .i64 p.to, .int .i64 p.sz, .slice A4 m4 c4] 82))) (by omega) (fun g hg => by have := hvb g hg; omega)).low (setCell_off w5 (w.heap.size + 1 + 1) 5 (.slice (some ⟨g5, 0, none⟩) (ks.length + 1) c5)) (by omega))
                  have hle : (ks ++ [((p, A4, c4) : Kd)]).length = ks.length + 1 := (by simp)
                  have HW6 := Lib.hid (HW5.out.set5 (.slice (some ⟨g5, 0, none⟩) (ks.length + 1) c5))
                  clear hgrow hown5 hat hH1
                  go_wp2_with fail
                  go_roundw
                  case rel => exact ⟨k + 1, some ⟨g5, 0, none⟩, c5, ks ++ [((p, A4, c4) : Kd)], by omega, by go_num, Lib.hid (by rw [HKS.out, ← hks.out]; simp), Lib.hid (by rw [hle]; exact HW6.out), Lib.hid (hw6.out.kept (HBL.out.block _ (by omega))), Lib.hid (hpc.out.kept (HBL.out.block _ (by omega))), Lib.hid (by rw [hle]; exact HKN.out), Lib.hid (hB.out.trans (HBL.out.mono (by omega))), Lib.hid (by have := hsz.out; simp; omega)⟩
                  case measure => simp [intOf]; omega
                · go_simp
                  refine hK.out _ _ (by first | assumption | go_keep) (fun hHeld => ?_)
                  clear hK K
                  have v5 : (w4.alloc (.cells #[.int .i64 (u : Int), .int .i64 p.id, .int .i64 p.fr, .int .i64 p.to, .int .i64 p.sz, .slice A4 m4 c4] 82)).cell? ⟨w.heap.size + 1 + 1, 5, none⟩ = some (.slice A9 ks.length c9) := (((Below.refl w4.heap.size w4).alloc (Nat.le_refl _) _).cell hl24).trans v4
                  refine wpAnyH_ready (rs := [1]) (by kernel_rfl) (by simp) ?_
                  refine AllReadyH.cons rfl (fun K hK => ?_) AllReadyH.nil
                  go_simp
                  refine hK.out _ _ (by first | assumption | go_keep) (fun hHeld => ?_)
                  clear hK K
                  refine wpAnyH_ready (rs := [9]) (by kernel_rfl) (by simp) ?_
                  refine AllReadyH.cons rfl (fun K hK => ?_) AllReadyH.nil
                  refine step_append_lies _ (by rfl) _ _ _ (by rfl) (w.heap.size + 1 + 1 + 1) 82 i0 _ 6 64 Try.underlying80 hi0 hz0 hz1 hz2 rfl (by omega) (.slice A9 ks.length c9) ks.length (bls ps v ks) (by rfl) ((hkin.out.below HB4.out).own.alloc _)
                    ⟨w4.heap.size, 0, none⟩ 1 1 [.int .i64 (u : Int), .int .i64 p.id, .int .i64 p.fr, .int .i64 p.to, .int .i64 p.sz, .slice A4 m4 c4] (by rfl) (by rfl) (World.news_of_block (cs := #[.int .i64 (u : Int), .int .i64 p.id, .int .i64 p.fr, .int .i64 p.to, .int .i64 p.sz, .slice A4 m4 c4]) (t := 82) (fr := (0, 0)) (heap_alloc_new w4 _)) (by simp [Value.oneCell'])
                    (by omega) (by simp only [maxLen]; omega) (by omega) (by simp; omega) (w4.heap.size + 1) (by simp) ?_
                  intro g5 c5 w5 hown5 hgrow hat hlt5
                  have hHeld2 := hHeld
                  refine hK.out _ _ (by rcases hHeld2 with ⟨q0, q1, q2, q3⟩; exact ⟨(hgrow.cell_far _ (by simp; omega) (fun e => hfar9 e.symm)).trans q0, (hgrow.cell_far _ (by simp; omega) (fun e => hfar9 e.symm)).trans q1, (hgrow.cell_far _ (by simp; omega) (fun e => hfar9 e.symm)).trans q2, (hgrow.cell_far _ (by simp; omega) (fun e => hfar9 e.symm)).trans q3⟩) (fun hHeld => ?_)
                  clear hK K hHeld2
                  have HW5 := Lib.hid (((hw7.out.kept (HB4.out.block _ hl2)).kept (((Below.refl w4.heap.size w4).alloc (Nat.le_refl _) (.cells #[.int .i64 (u : Int), .int .i64 p.id, .int .i64 p.fr, .int .i64 p.to, .int .i64 p.sz, .slice A4 m4 c4] 82)).block _ hl24)).kept (hgrow.block _ (by simp; omega) (fun e => hfar7 e.symm)))
                  have hz5 : w4.heap.size + 1 ≤ w5.heap.size := (by have := hgrow.size; simp at this; omega)
                  have v6 : w5.cell? ⟨w.heap.size + 1 + 1, 5, none⟩ = some (.slice A9 ks.length c9) := HW5.out.cell 5
                  have f6 : w5.frozen? ⟨w.heap.size + 1 + 1, 5, none⟩ = false := frozen_of_row w5 _ 5 _ _ HW5.out
                  refine wpAnyH_ready (rs := [10]) (by kernel_rfl) (by simp) ?_
                  refine AllReadyH.cons rfl (fun K hK => ?_) AllReadyH.nil
                  go_simp
                  refine hK.out _ _ (by first | assumption | go_keep) (fun hHeld => ?_)
                  clear hK K
                  refine wpAnyH_ready (rs := [11]) (by kernel_rfl) (by simp) ?_
                  refine AllReadyH.cons rfl (fun K hK => ?_) AllReadyH.nil
                  go_simp
                  have hHeld2 := hHeld
                  refine hK.out _ _ (by rcases hHeld2 with ⟨q0, q1, q2, q3⟩; exact ⟨((setCell_off w5 (w.heap.size + 1 + 1) 5 _).cell_far _ (by show wr.heap.size < w5.heap.size; omega) (by intro e; simp at e; omega)).trans q0, ((setCell_off w5 (w.heap.size + 1 + 1) 5 _).cell_far _ (by show wr.heap.size < w5.heap.size; omega) (by intro e; simp at e; omega)).trans q1, ((setCell_off w5 (w.heap.size + 1 + 1) 5 _).cell_far _ (by show wr.heap.size < w5.heap.size; omega) (by intro e; simp at e; omega)).trans q2, ((setCell_off w5 (w.heap.size + 1 + 1) 5 _).cell_far _ (by show wr.heap.size < w5.heap.size; omega) (by intro e; simp at e; omega)).trans q3⟩) (fun hHeld => ?_)
                  clear hK K hHeld2
                  refine wpAnyH_done (by kernel_rfl) ?_ _
                  have hH1 : (w4.alloc (.cells #[.int .i64 (u : Int), .int .i64 p.id, .int .i64 p.fr, .int .i64 p.to, .int .i64 p.sz, .slice A4 m4 c4] 82)).heap.size = w4.heap.size + 1 := (by simp)
                  have HBL := Lib.hid ((((HB4.out.mono (show w.heap.size + 1 + 1 ≤ wr.heap.size by omega)).alloc (by omega) (.cells #[.int .i64 (u : Int), .int .i64 p.id, .int .i64 p.fr, .int .i64 p.to, .int .i64 p.sz, .slice A4 m4 c4] 82)).grown hgrow (by rw [hH1]; omega) (fun g hg => by have := hvb g hg; omega)).setCell (p := ⟨w.heap.size + 1 + 1, 5, none⟩) (Nat.le_refl _) (.slice (some ⟨g5, 0, none⟩) (ks.length + 1) c5))
                  have HKN := Lib.hid ((KIn.push (B := w.heap.size + 1 + 1 + 1) (b0 := w3.heap.size) (k := (p, A4, c4)) ((hkin.out.below HB4.out).below ((Below.refl w4.heap.size w4).alloc (Nat.le_refl _) (.cells #[.int .i64 (u : Int), .int .i64 p.id, .int .i64 p.fr, .int .i64 p.to, .int .i64 p.sz, .slice A4 m4 c4] 82))) (by unfold bl6; simp only [HU.out, HM4.out]; exact hown5) hgrow (by rcases hat with h | h; exact .inl h.symm; exact .inr (by rw [hH1, h]; rfl)) (by simp only [HU.out]; exact HREP4.out.below ((Below.refl w4.heap.size w4).alloc (Nat.le_refl _) (.cells #[.int .i64 (u : Int), .int .i64 p.id, .int .i64 p.fr, .int .i64 p.to, .int .i64 p.sz, .slice A4 m4 c4] 82))) (by omega) (fun g hg => by have := hvb g hg; omega)).low (setCell_off w5 (w.heap.size + 1 + 1) 5 (.slice (some ⟨g5, 0, none⟩) (ks.length + 1) c5)) (by omega))
                  have hle : (ks ++ [((p, A4, c4) : Kd)]).length = ks.length + 1 := (by simp)
                  have HW6 := Lib.hid (HW5.out.set5 (.slice (some ⟨g5, 0, none⟩) (ks.length + 1) c5))
                  clear hgrow hown5 hat hH1
                  go_wp2_with fail
                  go_roundw
                  case rel => exact ⟨k + 1, some ⟨g5, 0, none⟩, c5, ks ++ [((p, A4, c4) : Kd)], by omega, by go_num, Lib.hid (by rw [HKS.out, ← hks.out]; simp), Lib.hid (by rw [hle]; exact HW6.out), Lib.hid (hw6.out.kept (HBL.out.block _ (by omega))), Lib.hid (hpc.out.kept (HBL.out.block _ (by omega))), Lib.hid (by rw [hle]; exact HKN.out), Lib.hid (hB.out.trans (HBL.out.mono (by omega))), Lib.hid (by have := hsz.out; simp; omega)⟩
                  case measure => simp [intOf]; omega
      · have hkk : k = R.length := by omega
        subst hkk
        have hlen : ks.length = (kidsL ps (v : Int) q).length := by
          have h1 := hks.out
          rw [HAL.out] at h1
          rw [← h1, List.length_map]
        have HREP := Lib.hid (hkin.out.done (q := q) (by rw [hks.out, HAL.out]))
        have HLEN := Lib.hid hlen
        have t0 : wr.cell? ⟨w.heap.size + 1 + 1, 0, none⟩ = some (.int .i64 (v : Int)) := hw7.out.cell 0
        have t1 : wr.cell? ⟨w.heap.size + 1 + 1, 1, none⟩ = some (.int .i64 q.id) := hw7.out.cell 1
        have t2 : wr.cell? ⟨w.heap.size + 1 + 1, 2, none⟩ = some (.int .i64 q.fr) := hw7.out.cell 2
        have t3 : wr.cell? ⟨w.heap.size + 1 + 1, 3, none⟩ = some (.int .i64 q.to) := hw7.out.cell 3
        have t4 : wr.cell? ⟨w.heap.size + 1 + 1, 4, none⟩ = some (.int .i64 q.sz) := hw7.out.cell 4
        have t5 : wr.cell? ⟨w.heap.size + 1 + 1, 5, none⟩ = some (.slice A9 ks.length c9) := hw7.out.cell 5
        clear hlen
        go_wp2_with ((with_reducible refine wpB_store rfl _ _ rfl rfl (w.heap.size + 1) rfl v q A9 ks.length c9 rfl 0 ⟨0, 0, 0, 0⟩ none 0 0 hw6.out ?_); intro w7 he7 hg7; refine Hid.out ?_)
        have s0 : w7.cell? ⟨w.heap.size + 1, 0, none⟩ = some (.int .i64 (v : Int)) := he7.cell 0
        have s1 : w7.cell? ⟨w.heap.size + 1, 1, none⟩ = some (.int .i64 q.id) := he7.cell 1
        have s2 : w7.cell? ⟨w.heap.size + 1, 2, none⟩ = some (.int .i64 q.fr) := he7.cell 2
        have s3 : w7.cell? ⟨w.heap.size + 1, 3, none⟩ = some (.int .i64 q.to) := he7.cell 3
        have s4 : w7.cell? ⟨w.heap.size + 1, 4, none⟩ = some (.int .i64 q.sz) := he7.cell 4
        have s5 : w7.cell? ⟨w.heap.size + 1, 5, none⟩ = some (.slice A9 ks.length c9) := he7.cell 5
        have HB7 := Lib.hid (hB.out.grown hg7 hB.out.size (fun g hg => by simp at hg; omega))
        have HR7 := Lib.hid (RepIn.kept (Q := fun b => w.heap.size ≤ b) (fun b h _ => (show w.heap.size ≤ b by have h' : w.heap.size + 1 + 1 + 1 ≤ b := h; omega)) (fun b' hp' hlt' => hg7.block b' hlt' (fun e => by have h' : w.heap.size + 1 + 1 + 1 ≤ b' := hp'; simp at e; omega)) hg7.size _ _ _ _ HREP.out)
        clear hg7 he7
        refine Lib.hid ?_
        go_wp2
        refine bodyPost_ret (v := .agg #[.int .i64 (v : Int), .int .i64 q.id, .int .i64 q.fr, .int .i64 q.to, .int .i64 q.sz, .slice A9 ks.length c9]) (by simp [results, Try.results125, go_sem, s0, s1, s2, s3, s4, s5]) rfl ⟨A9, c9, by rw [HLEN.out], HR7.out, HB7.out⟩
end Go.Proofs.Ytlkomipjamelkab.S2

namespace Go.Proofs.Ytlkomipjamelkab.S2
open Go.RowKit P2

set_option maxHeartbeats 2000000 in
set_option maxRecDepth 100000 in
theorem tf_node {n : Int} {ps : List Pp} {x : Int} (hv : nodeB n ps x = false) (A : Option Addr) (cap : Nat) (w : World) (h : PAt w A ps) (hm : ps.length ≤ maxLen) :
    Calls Try.prog 57 #[nv n A ps.length cap, .int .i64 x] w fun e w' => e = .returned (.tuple #[bv 0 ⟨0, 0, 0, 0⟩ none 0 0, .bool false]) ∧ Below w.heap.size w w' := by
  have HW0 := Lib.hid (show Below w.heap.size w ((w.alloc (nb n A ps.length cap)).alloc (.cells #[.int .i64 0, .int .i64 0, .int .i64 0, .int .i64 0, .int .i64 0, .slice none 0 0] 82)) from ((Below.refl _ _).alloc (Nat.le_refl _) _).alloc (by simp) _)
  have HB3 := Lib.hid (fun w1 (hb : Below ((w.alloc (nb n A ps.length cap)).alloc (.cells #[.int .i64 0, .int .i64 0, .int .i64 0, .int .i64 0, .int .i64 0, .slice none 0 0] 82)).heap.size ((w.alloc (nb n A ps.length cap)).alloc (.cells #[.int .i64 0, .int .i64 0, .int .i64 0, .int .i64 0, .int .i64 0, .slice none 0 0] 82)) w1) => (show Below (w.heap.size + 1) (w.alloc (nb n A ps.length cap)) w1 from ((Below.refl _ _).alloc (by simp) _).trans (hb.mono (by simp))))
  have HR0 := Lib.hid (show WRow ((w.alloc (nb n A ps.length cap)).alloc (.cells #[.int .i64 0, .int .i64 0, .int .i64 0, .int .i64 0, .int .i64 0, .slice none 0 0] 82)) (w.heap.size + 1) (bcs 0 ⟨0, 0, 0, 0⟩ (.slice none 0 0)) from by
    have e : w.heap.size + 1 = (w.alloc (nb n A ps.length cap)).heap.size := by simp
    unfold WRow
    rw [e]
    exact heap_alloc_new _ _)
  have H := Lib.hid (fun w' (hb : Below w.heap.size w w') => node_v hv A cap w' (h.kept hb (Nat.le_refl _)) hm)
  clear h hv
  go_enter Try.func57, Try.ntmps57
  go_wp2_with (first
    | (go_at_call 73; refine (H.out _ HW0.out).mono ?_; rintro e w1 ⟨rfl, hb1⟩; have HB1 := Lib.hid (HB3.out _ hb1); have HT1 := Lib.hid (HR0.out.kept (hb1.block _ (by simp))); obtain ⟨b0, b1⟩ := box2 HB1.out; have hz1 := HT1.out.lt; have hy1 : w.heap.size < w1.heap.size := (by omega); clear hb1)
    | ((with_reducible refine wpB_store rfl _ _ rfl rfl (w.heap.size + 1) rfl 0 ⟨0, 0, 0, 0⟩ none 0 0 rfl 0 ⟨0, 0, 0, 0⟩ none 0 0 HT1.out ?_); intro w7 he7 hg7; refine Hid.out ?_))
  have s0 : w7.cell? ⟨w.heap.size + 1, 0, none⟩ = some (.int .i64 0) := he7.cell 0
  have s1 : w7.cell? ⟨w.heap.size + 1, 1, none⟩ = some (.int .i64 0) := he7.cell 1
  have s2 : w7.cell? ⟨w.heap.size + 1, 2, none⟩ = some (.int .i64 0) := he7.cell 2
  have s3 : w7.cell? ⟨w.heap.size + 1, 3, none⟩ = some (.int .i64 0) := he7.cell 3
  have s4 : w7.cell? ⟨w.heap.size + 1, 4, none⟩ = some (.int .i64 0) := he7.cell 4
  have s5 : w7.cell? ⟨w.heap.size + 1, 5, none⟩ = some (.slice none 0 0) := he7.cell 5
  have HB7 := Lib.hid ((below_box HB1.out).grown hg7 (below_box HB1.out).size (fun g hg => by simp at hg; omega))
  clear hg7 he7
  refine Lib.hid ?_
  go_wp2
  exact bodyPost_ret (v := .tuple #[.agg #[.int .i64 0, .int .i64 0, .int .i64 0, .int .i64 0, .int .i64 0, .slice none 0 0], .bool false]) (by simp [results, Try.results57, go_sem, s0, s1, s2, s3, s4, s5]) rfl ⟨rfl, HB7.out⟩

set_option maxHeartbeats 2000000 in
set_option maxRecDepth 100000 in
theorem tf_tree {N : Nat} {ps : List Pp} {x : Int} (hv : nodeB N ps x = true) (ht : treeB N ps = false) (A : Option Addr) (cap : Nat) (w : World) (h : PAt w A ps) (hm : ps.length ≤ maxLen) :
    Calls Try.prog 57 #[nv N A ps.length cap, .int .i64 x] w fun e w' => e = .returned (.tuple #[bv 0 ⟨0, 0, 0, 0⟩ none 0 0, .bool false]) ∧ Below w.heap.size w w' := by
  have HW0 := Lib.hid (show Below w.heap.size w ((w.alloc (nb N A ps.length cap)).alloc (.cells #[.int .i64 0, .int .i64 0, .int .i64 0, .int .i64 0, .int .i64 0, .slice none 0 0] 82)) from ((Below.refl _ _).alloc (Nat.le_refl _) _).alloc (by simp) _)
  have HB3 := Lib.hid (fun w1 (hb : Below ((w.alloc (nb N A ps.length cap)).alloc (.cells #[.int .i64 0, .int .i64 0, .int .i64 0, .int .i64 0, .int .i64 0, .slice none 0 0] 82)).heap.size ((w.alloc (nb N A ps.length cap)).alloc (.cells #[.int .i64 0, .int .i64 0, .int .i64 0, .int .i64 0, .int .i64 0, .slice none 0 0] 82)) w1) => (show Below (w.heap.size + 1) (w.alloc (nb N A ps.length cap)) w1 from ((Below.refl _ _).alloc (by simp) _).trans (hb.mono (by simp))))
  have HR0 := Lib.hid (show WRow ((w.alloc (nb N A ps.length cap)).alloc (.cells #[.int .i64 0, .int .i64 0, .int .i64 0, .int .i64 0, .int .i64 0, .slice none 0 0] 82)) (w.heap.size + 1) (bcs 0 ⟨0, 0, 0, 0⟩ (.slice none 0 0)) from by
    have e : w.heap.size + 1 = (w.alloc (nb N A ps.length cap)).heap.size := by simp
    unfold WRow
    rw [e]
    exact heap_alloc_new _ _)
  have hg := (nodeB_of hv).1
  have H := Lib.hid (fun w' (hb : Below w.heap.size w w') => node_v hv A cap w' (h.kept hb (Nat.le_refl _)) hm)
  have H2 := Lib.hid (fun w' (hb : Below w.heap.size w w') => (ht ▸ istree_any N A cap ps w' (h.kept hb (Nat.le_refl _)) hg : Calls Try.prog 67 #[nv N A ps.length cap] w' fun e w'' => e = .returned (.bool false) ∧ Below w'.heap.size w' w''))
  clear h hv ht hg
  go_enter Try.func57, Try.ntmps57
  go_wp2_with (first
    | (go_at_call 73; refine (H.out _ HW0.out).mono ?_; rintro e w1 ⟨rfl, hb1⟩; have HB1 := Lib.hid (HB3.out _ hb1); have HT1 := Lib.hid (HR0.out.kept (hb1.block _ (by simp))); obtain ⟨b0, b1⟩ := box2 HB1.out; have hz1 := HT1.out.lt; have hy1 : w.heap.size < w1.heap.size := (by omega); clear hb1)
    | (go_at_call 67; refine (H2.out _ (below_box HB1.out)).mono ?_; rintro e w2 ⟨rfl, hb2⟩; have HB2 := Lib.hid (on_call HB1.out hb2); have HT2 := Lib.hid (HT1.out.kept (hb2.block _ hz1)); clear b0 b1; obtain ⟨b0, b1⟩ := box2 HB2.out; have hz2 := HT2.out.lt; have hy2 : w.heap.size < w2.heap.size := (by omega))
    | ((with_reducible refine wpB_store rfl _ _ rfl rfl (w.heap.size + 1) rfl 0 ⟨0, 0, 0, 0⟩ none 0 0 rfl 0 ⟨0, 0, 0, 0⟩ none 0 0 HT2.out ?_); intro w7 he7 hg7; refine Hid.out ?_))
  have s0 : w7.cell? ⟨w.heap.size + 1, 0, none⟩ = some (.int .i64 0) := he7.cell 0
  have s1 : w7.cell? ⟨w.heap.size + 1, 1, none⟩ = some (.int .i64 0) := he7.cell 1
  have s2 : w7.cell? ⟨w.heap.size + 1, 2, none⟩ = some (.int .i64 0) := he7.cell 2
  have s3 : w7.cell? ⟨w.heap.size + 1, 3, none⟩ = some (.int .i64 0) := he7.cell 3
  have s4 : w7.cell? ⟨w.heap.size + 1, 4, none⟩ = some (.int .i64 0) := he7.cell 4
  have s5 : w7.cell? ⟨w.heap.size + 1, 5, none⟩ = some (.slice none 0 0) := he7.cell 5
  have HB7 := Lib.hid ((below_box HB2.out).grown hg7 (below_box HB2.out).size (fun g hg => by simp at hg; omega))
  clear hg7 he7
  refine Lib.hid ?_
  go_wp2
  exact bodyPost_ret (v := .tuple #[.agg #[.int .i64 0, .int .i64 0, .int .i64 0, .int .i64 0, .int .i64 0, .slice none 0 0], .bool false]) (by simp [results, Try.results57, go_sem, s0, s1, s2, s3, s4, s5]) rfl ⟨rfl, HB7.out⟩

theorem bk_rows {w : World} {lo G N : Nat} {ps : List Pp} (h : ByNode w lo G (N + 1) ps) : Rows w G N ps := by
  obtain ⟨vs, B, _, hbk⟩ := h
  refine ⟨hbk.row.lt, fun v hv => ?_⟩
  have ho := hbk.own v (by omega)
  have hc := hbk.row.cell (i := v) (by omega)
  rcases Nat.eq_zero_or_pos (rowOf ps v).length with h0 | h0
  · rcases ho.2 with ⟨hn, _⟩ | ⟨g, cap, cur, hn, _⟩
    · exact ⟨none, 0, by rw [hc, hn, h0], .inl (List.length_eq_zero_iff.1 h0)⟩
    · exact ⟨some ⟨g, 0, none⟩, cap, by rw [hc, hn], .inl (List.length_eq_zero_iff.1 h0)⟩
  · obtain ⟨g, cap, hn, _, _⟩ := ho.form h0
    exact ⟨some ⟨g, 0, none⟩, cap, by rw [hc, hn], own_pat (by rw [← hn]; exact ho)⟩

/-- A tree as it lies there. -/
def TfIs (N : Nat) (ps : List Pp) (t : Nat) (w : World) (e : Ending) (w' : World) : Prop :=
  ∃ A c, e = .returned (.tuple #[bv t ⟨0, 0, 0, 0⟩ A (kidsL ps t ⟨0, 0, 0, 0⟩).length c, .bool true]) ∧ RepIn ps (fun b => w.heap.size ≤ b) (N + 1) w' A t ⟨0, 0, 0, 0⟩ ∧ Below w.heap.size w w'
theorem br_root {N : Nat} {ps : List Pp} (hg : P2.Good N ps) {t : Nat} (h1 : 1 ≤ t) (h2 : t ≤ N) : BrOk N ps t ⟨0, 0, 0, 0⟩ :=
  ⟨by omega, by omega, .inr fun h => by have := (good_pp hg h).1; simp at this⟩

set_option maxHeartbeats 2000000 in
set_option maxRecDepth 100000 in
theorem tf_ok {N t : Nat} {ps : List Pp} (hv : nodeB N ps t = true) (ht : treeB N ps = true) (ha : Acy ps) (A : Option Addr) (cap : Nat) (w : World) (h : PAt w A ps) (hm : ps.length ≤ maxLen) :
    Calls Try.prog 57 #[nv N A ps.length cap, .int .i64 (t : Int)] w (TfIs N ps t w) := by
  have HW0 := Lib.hid (show Below w.heap.size w ((w.alloc (nb N A ps.length cap)).alloc (.cells #[.int .i64 0, .int .i64 0, .int .i64 0, .int .i64 0, .int .i64 0, .slice none 0 0] 82)) from ((Below.refl _ _).alloc (Nat.le_refl _) _).alloc (by simp) _)
  have HB3 := Lib.hid (fun w1 (hb : Below ((w.alloc (nb N A ps.length cap)).alloc (.cells #[.int .i64 0, .int .i64 0, .int .i64 0, .int .i64 0, .int .i64 0, .slice none 0 0] 82)).heap.size ((w.alloc (nb N A ps.length cap)).alloc (.cells #[.int .i64 0, .int .i64 0, .int .i64 0, .int .i64 0, .int .i64 0, .slice none 0 0] 82)) w1) => (show Below (w.heap.size + 1) (w.alloc (nb N A ps.length cap)) w1 from ((Below.refl _ _).alloc (by simp) _).trans (hb.mono (by simp))))
  have HR0 := Lib.hid (show WRow ((w.alloc (nb N A ps.length cap)).alloc (.cells #[.int .i64 0, .int .i64 0, .int .i64 0, .int .i64 0, .int .i64 0, .slice none 0 0] 82)) (w.heap.size + 1) (bcs 0 ⟨0, 0, 0, 0⟩ (.slice none 0 0)) from by
    have e : w.heap.size + 1 = (w.alloc (nb N A ps.length cap)).heap.size := by simp
    unfold WRow
    rw [e]
    exact heap_alloc_new _ _)
  obtain ⟨hg, ht1, ht2⟩ := nodeB_of hv
  have H := Lib.hid (fun w' (hb : Below w.heap.size w w') => node_v hv A cap w' (h.kept hb (Nat.le_refl _)) hm)
  have H2 := Lib.hid (fun w' (hb : Below w.heap.size w w') => (ht ▸ istree_any N A cap ps w' (h.kept hb (Nat.le_refl _)) hg : Calls Try.prog 67 #[nv N A ps.length cap] w' fun e w'' => e = .returned (.bool true) ∧ Below w'.heap.size w' w''))
  have H3 := Lib.hid (fun w' (hb : Below w.heap.size w w') => bynode_any N A cap ps w' (h.kept hb (Nat.le_refl _)) hg)
  have H4 := Lib.hid (fun w' G (hr : Rows w' G N ps) => bat_any hg ha G (N + 1) (N + 1) t ⟨0, 0, 0, 0⟩ w' hr (br_root hg (by omega) (by omega)) (cnt_le _ _ _ _))
  clear h hv ht hg ha
  go_enter Try.func57, Try.ntmps57
  go_wp2_with (first
    | (go_at_call 73; refine (H.out _ HW0.out).mono ?_; rintro e w1 ⟨rfl, hb1⟩; have HB1 := Lib.hid (HB3.out _ hb1); have HT1 := Lib.hid (HR0.out.kept (hb1.block _ (by simp))); obtain ⟨b0, b1⟩ := box2 HB1.out; have hz1 := HT1.out.lt; have hy1 : w.heap.size < w1.heap.size := (by omega); clear hb1)
    | (go_at_call 67; refine (H2.out _ (below_box HB1.out)).mono ?_; rintro e w2 ⟨rfl, hb2⟩; have HB2 := Lib.hid (on_call HB1.out hb2); have HT2 := Lib.hid (HT1.out.kept (hb2.block _ hz1)); clear b0 b1; obtain ⟨b0, b1⟩ := box2 HB2.out; have hz2 := HT2.out.lt; have hy2 : w.heap.size < w2.heap.size := (by omega))
    | (go_at_call 126; refine (H3.out _ (below_box HB2.out)).mono ?_; rintro e w3 ⟨⟨G, rfl, hbk⟩, hb3⟩; have HB3' := Lib.hid (on_call HB2.out hb3); have HT3 := Lib.hid (HT2.out.kept (hb3.block _ hz2)); clear b0 b1; obtain ⟨b0, b1⟩ := box2 HB3'.out; have hz3 := HT3.out.lt; have hy3 : w.heap.size < w3.heap.size := (by omega); have HRW := Lib.hid (bk_rows hbk); clear hbk)
    | (go_at_call 125; refine (H4.out _ G HRW.out).mono ?_; rintro e w4 ⟨A4, c4, rfl, hrep4, hb4⟩; have HB4 := Lib.hid (on_call HB3'.out hb4); have HT4 := Lib.hid (HT3.out.kept (hb4.block _ hz3)); have hz4 := HT4.out.lt; have hsz3 := Lib.hid (below_box HB3'.out).size; have HREP := Lib.hid hrep4; clear hrep4 hb4; obtain ⟨m4, hm4⟩ : ∃ m4, (kidsL ps (t : Int) ⟨0, 0, 0, 0⟩).length = m4 := ⟨_, rfl⟩; have HM4 := Lib.hid hm4; rw [hm4]; clear hm4)
    | ((with_reducible refine wpB_store rfl _ _ rfl rfl (w.heap.size + 1) rfl t ⟨0, 0, 0, 0⟩ A4 m4 c4 rfl 0 ⟨0, 0, 0, 0⟩ none 0 0 HT4.out ?_); intro w7 he7 hg7; refine Hid.out ?_))
  have s0 : w7.cell? ⟨w.heap.size + 1, 0, none⟩ = some (.int .i64 (t : Int)) := he7.cell 0
  have s1 : w7.cell? ⟨w.heap.size + 1, 1, none⟩ = some (.int .i64 0) := he7.cell 1
  have s2 : w7.cell? ⟨w.heap.size + 1, 2, none⟩ = some (.int .i64 0) := he7.cell 2
  have s3 : w7.cell? ⟨w.heap.size + 1, 3, none⟩ = some (.int .i64 0) := he7.cell 3
  have s4 : w7.cell? ⟨w.heap.size + 1, 4, none⟩ = some (.int .i64 0) := he7.cell 4
  have s5 : w7.cell? ⟨w.heap.size + 1, 5, none⟩ = some (.slice A4 m4 c4) := he7.cell 5
  have HB7 := Lib.hid ((below_box HB4.out).grown hg7 (below_box HB4.out).size (fun g hg => by simp at hg; omega))
  have HR7 := Lib.hid (RepIn.kept (Q := fun b => w.heap.size ≤ b) (fun b h _ => (show w.heap.size ≤ b by have h' : w3.heap.size ≤ b := h; omega)) (fun b' hp' hlt' => hg7.block b' hlt' (fun e => by have h' : w3.heap.size ≤ b' := hp'; simp at e; omega)) hg7.size _ _ _ _ HREP.out)
  clear hg7 he7
  refine Lib.hid ?_
  go_wp2
  exact bodyPost_ret (v := .tuple #[.agg #[.int .i64 (t : Int), .int .i64 0, .int .i64 0, .int .i64 0, .int .i64 0, .slice A4 m4 c4], .bool true]) (by simp [results, Try.results57, go_sem, s0, s1, s2, s3, s4, s5]) rfl ⟨A4, c4, by rw [HM4.out], HR7.out, HB7.out⟩
end Go.Proofs.Ytlkomipjamelkab.S2
