/- The row of branches that the program gathers at a node: the words for it. Conditions: each theorem's own premises. -/
import Derived.Test.YtgjogjmfpbinfaaBrT
import Derived.Test.YtgjogjmfpbinfaaBkTwo
namespace Go.Proofs.Ytgjogjmfpbinfaa.S2
open Go.RowKit P2

/-- A child: its pipe, where the branches behind it lie. -/
abbrev Kd := Pp × Option Addr × Nat
def bl6 (ps : List Pp) (x : Int) (k : Kd) : List Value := [.int .i64 (oth k.1 x), .int .i64 k.1.id, .int .i64 k.1.fr, .int .i64 k.1.to, .int .i64 k.1.sz, .slice k.2.1 (kidsL ps (oth k.1 x) k.1).length k.2.2]
def bls (ps : List Pp) (x : Int) (ks : List Kd) : List Value := ks.flatMap (bl6 ps x)
theorem bls_snoc (ps : List Pp) (x : Int) (ks : List Kd) (k : Kd) : bls ps x (ks ++ [k]) = bls ps x ks ++ bl6 ps x k := by simp [bls, List.flatMap_append]
theorem bls_get (ps : List Pp) (x : Int) (ks : List Kd) : ∀ (i : Nat) (k : Kd), ks[i]? = some k → ∀ j, j < 6 → (bls ps x ks)[i * 6 + j]? = (bl6 ps x k)[j]? := by
  induction ks with
  | nil => intro i k h; simp at h
  | cons a ks ih =>
    intro i k hi j hj
    have e : bls ps x (a :: ks) = bl6 ps x a ++ bls ps x ks := rfl
    have l6 : (bl6 ps x a).length = 6 := rfl
    match i with
    | 0 =>
      have e2 : a = k := by simpa using hi
      subst e2
      rw [e, Nat.zero_mul, Nat.zero_add, List.getElem?_append_left (by omega)]
    | i + 1 =>
      rw [e, List.getElem?_append_right (by omega), ← ih i k (by simpa using hi) j hj, l6]
      congr 1; omega

/-- The branches gathered so far: a row of one's own from block B on, what hangs below them in other blocks. -/
structure KIn (ps : List Pp) (d : Nat) (w : World) (x : Int) (B : Nat) (V : Value) (ks : List Kd) : Prop where
  own : w.ownsRow B 144 6 V ks.length (bls ps x ks)
  rep : ∀ k, k ∈ ks → RepIn ps (fun b => B ≤ b ∧ V.ownBlock ≠ some b) d w k.2.1 (oth k.1 x) k.1
theorem KIn.nil (ps : List Pp) (d : Nat) (w : World) (x : Int) (B : Nat) : KIn ps d w x B (.slice none 0 0) [] :=
  ⟨World.ownsRow_nil w B 144 6, fun k h => by simp at h⟩
theorem KIn.below {ps : List Pp} {d : Nat} {w w' : World} {x : Int} {B : Nat} {V : Value} {ks : List Kd} (h : KIn ps d w x B V ks) (hb : Below w.heap.size w w') : KIn ps d w' x B V ks :=
  ⟨own_on h.own hb, fun k hk => (h.rep k hk).below hb⟩
theorem KIn.push {ps : List Pp} {d : Nat} {w w' : World} {x : Int} {B b0 : Nat} {V V' : Value} {ks : List Kd} {k : Kd} (h : KIn ps d w x B V ks)
    (ho : w'.ownsRow B 144 6 V' (ks.length + 1) (bls ps x ks ++ bl6 ps x k)) (hg : w.grownBy w' V.ownBlock) (hl : V'.ownBlock = V.ownBlock ∨ V'.ownBlock = some w.heap.size)
    (hr : RepIn ps (fun b => b0 ≤ b) d w k.2.1 (oth k.1 x) k.1) (hB : B ≤ b0) (hv : ∀ g, V.ownBlock = some g → g < b0) : KIn ps d w' x B V' (ks ++ [k]) := by
  refine ⟨by rw [bls_snoc, List.length_append]; exact ho, fun c hc => ?_⟩
  have hne : ∀ b, V.ownBlock ≠ some b → b < w.heap.size → V'.ownBlock ≠ some b := fun b h1 h2 e => by
    rcases hl with h3 | h3
    · exact h1 (h3 ▸ e)
    · rw [h3] at e; injection e with e; omega
  rcases List.mem_append.1 hc with hc | hc
  · exact RepIn.kept (fun b hp hlt => ⟨hp.1, hne b hp.2 hlt⟩) (fun b hp hlt => hg.block b hlt (fun e => hp.2 e.symm)) hg.size _ _ _ _ (h.rep c hc)
  · have e : c = k := by simpa using hc
    subst e
    have hn : ∀ b, b0 ≤ b → V.ownBlock ≠ some b := fun b hb e => by have := hv b e; omega
    exact RepIn.kept (fun b hp hlt => ⟨Nat.le_trans hB hp, hne b (hn b hp) hlt⟩) (fun b hp hlt => hg.block b hlt (fun e => hn b hp e.symm)) hg.size _ _ _ _ hr
theorem KIn.done {ps : List Pp} {d : Nat} {w : World} {x : Int} {q : Pp} {B : Nat} {A : Option Addr} {l c : Nat} {ks : List Kd} (h : KIn ps d w x B (.slice A l c) ks) (hk : ks.map (·.1) = kidsL ps x q) : RepIn ps (fun b => B ≤ b) (d + 1) w A x q := by
  have hlen : ks.length = (kidsL ps x q).length := by rw [← hk, List.length_map]
  rcases Nat.eq_zero_or_pos ks.length with h0 | h0
  · exact .inl (List.length_eq_zero_iff.1 (by omega))
  · obtain ⟨g, cap', hv, hbg, hlt⟩ := h.own.form h0
    injection hv with hA hl hc
    subst hA
    subst hl
    refine .inr ⟨g, rfl, hbg, hlt, fun i p hp => ?_⟩
    have hik : i < ks.length := by rw [hlen]; exact (List.getElem?_eq_some_iff.1 hp).1
    obtain ⟨k, hki⟩ : ∃ k, ks[i]? = some k := ⟨_, List.getElem?_eq_getElem hik⟩
    have hp1 : k.1 = p := by
      rw [← hk, List.getElem?_map, hki] at hp
      simpa using hp
    subst hp1
    have hcell := fun j (hj : j < 6) => (h.own.cellAt (i * 6 + j) (by have : ks.length * 6 = 6 * ks.length := Nat.mul_comm _ _; omega)).trans (bls_get ps x ks i k hki j hj)
    refine ⟨k.2.1, k.2.2, ⟨hcell 0 (by omega), hcell 1 (by omega), hcell 2 (by omega), hcell 3 (by omega), hcell 4 (by omega), hcell 5 (by omega)⟩, ?_⟩
    exact RepIn.kept (fun b hp _ => hp.1) (fun b _ _ => rfl) (Nat.le_refl _) _ _ _ _ (h.rep k (List.mem_of_getElem? hki))

/-! ### The pipes at a node, without the one by which the water comes -/
def kidsTo (R : List Pp) (q : Pp) (k : Nat) : List Pp := (R.take k).filter fun e => decide (e ≠ q)
theorem kidsTo_yes {R : List Pp} {q p : Pp} {k : Nat} (h : R[k]? = some p) (hn : p ≠ q) : kidsTo R q (k + 1) = kidsTo R q k ++ [p] := by
  unfold kidsTo
  obtain ⟨hk, he⟩ := List.getElem?_eq_some_iff.1 h
  rw [List.take_succ_eq_append_getElem hk, List.filter_append, he]
  simp [hn]
theorem kidsTo_no {R : List Pp} {q p : Pp} {k : Nat} (h : R[k]? = some p) (hn : p = q) : kidsTo R q (k + 1) = kidsTo R q k := by
  unfold kidsTo
  obtain ⟨hk, he⟩ := List.getElem?_eq_some_iff.1 h
  rw [List.take_succ_eq_append_getElem hk, List.filter_append, he]
  simp [hn]
theorem kidsTo_len (R : List Pp) (q : Pp) (k : Nat) : (kidsTo R q k).length ≤ R.length :=
  Nat.le_trans (List.length_filter_le _ _) (by rw [List.length_take]; omega)
theorem kidsTo_all (ps : List Pp) (v : Nat) (q : Pp) : kidsTo (rowTo ps ps.length v) q (rowTo ps ps.length v).length = kidsL ps (v : Int) q := by
  unfold kidsTo kidsL
  rw [List.take_length]
  unfold rowTo
  rw [List.take_length, List.filter_filter]
  congr 1
  funext e
  simp [touchB, and_comm]
end Go.Proofs.Ytgjogjmfpbinfaa.S2
