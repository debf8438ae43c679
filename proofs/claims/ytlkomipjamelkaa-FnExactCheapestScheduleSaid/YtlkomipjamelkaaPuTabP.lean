/- The model's table of costs: plain facts; the table in memory. Conditions: each theorem's own premises. -/
import Derived.Test.YtlkomipjamelkaaPuCostS
import Derived.OwnWalk
namespace Go.Proofs.Ytlkomipjamelkaa.S13
open Go.RowKit Go.Sort P11 S11 P13

def enc (q : Pl) : Int := if q.ex then q.cost else -1
def tbv (p : Pg) (h : Nat) (l : Nat) : Int := if h < p.xs.length ∧ (l : Int) < p.a then -1 else enc (plan p (p.xs.length - h) l)
def rowK (p : Pg) (h k : Nat) : List Int := (List.range k).map (tbv p h)
theorem rowK_len (p : Pg) (h k : Nat) : (rowK p h k).length = k := by simp [rowK]
theorem rowK_snoc (p : Pg) (h k : Nat) : rowK p h (k + 1) = rowK p h k ++ [tbv p h k] := by simp [rowK, List.range_succ]
theorem rowK_at (p : Pg) (h : Nat) {k i : Nat} (hi : i < k) : (rowK p h k).getD i 0 = tbv p h i := by simp [rowK, List.getD, hi]
theorem tbv_in {p : Pg} (hg : P13.Good p) (h l : Nat) : -1 ≤ tbv p h l ∧ tbv p h l ≤ 12000 := by
  unfold tbv enc
  have hc := hg.cost (r := p.xs.length - h) (by omega) (l : Int)
  have := hg.day.n1
  split
  · omega
  · split <;> omega
theorem tbv_tk {p : Pg} {h l : Nat} (ht : tkB (l : Int) p.a p.b = true) : tbv p h l = enc (plan p (p.xs.length - h) l) := by
  unfold tbv
  rw [if_neg]
  have := tkB_iff.1 ht
  omega
theorem enc_neg {p : Pg} (hg : P13.Good p) {r : Nat} (hr : r ≤ p.xs.length) (L : Int) : enc (plan p r L) < 0 ↔ (plan p r L).ex = false := tbl_iff hg hr L
theorem enc_tbl (p : Pg) (r : Nat) (L : Int) : enc (plan p r L) = tbl p r L := rfl
/-- The table under way: the rows of the hours from H on are there; they lie below a bound. -/
structure Tb (w wr : World) (p : Pg) (A : Option Addr) (c : Nat) (A2 : Option Addr) (c2 T H K Bt : Nat) : Prop where
  b6 : B6 wr w.heap.size 0 p A c A2 c2
  bw : Below w.heap.size w wr
  lo : w.heap.size < T
  tl : T < Bt
  bl : Bt ≤ wr.heap.size
  fz : FZ wr T
  emp : ∀ h, h < H → wr.cell? ⟨T, h, none⟩ = some (.slice none 0 0)
  row : ∀ h, H ≤ h → h ≤ p.xs.length → ∃ g cg, wr.cell? ⟨T, h, none⟩ = some (.slice (some ⟨g, 0, none⟩) K cg) ∧ g < Bt ∧ IAt wr (some ⟨g, 0, none⟩) (rowK p h K)
theorem Tb.same {w wr w2 : World} {p : Pg} {A : Option Addr} {c : Nat} {A2 : Option Addr} {c2 T H K Bt : Nat} (h : Tb w wr p A c A2 c2 T H K Bt) (hc : ∀ b j, b < Bt → w2.cell? ⟨b, j, none⟩ = wr.cell? ⟨b, j, none⟩) (hf : ∀ j, w2.frozen? ⟨T, j, none⟩ = wr.frozen? ⟨T, j, none⟩) (hs : wr.heap.size ≤ w2.heap.size) (hb : Below w.heap.size w w2) : Tb w w2 p A c A2 c2 T H K Bt := by
  have hlo := h.lo
  have htl := h.tl
  have q := fun j => hc w.heap.size j (by omega)
  obtain ⟨l0, c0, c1, c2', c3, c4, c5⟩ := h.b6
  refine ⟨⟨by omega, (q _).trans c0, (q _).trans c1, (q _).trans c2', (q _).trans c3, (q _).trans c4, (q _).trans c5⟩, hb, hlo, htl, Nat.le_trans h.bl hs, fun j => (hf j).trans (h.fz j), fun i hi => (hc T i htl).trans (h.emp i hi), fun i hi hn => ?_⟩
  obtain ⟨g, cg, e1, e2, e3⟩ := h.row i hi hn
  refine ⟨g, cg, (hc T i htl).trans e1, e2, ?_⟩
  rcases e3 with e3 | ⟨b, off, hA, hlt, e3⟩
  · exact .inl e3
  · injection hA with hA
    injection hA with x1 x2 _
    subst x1 x2
    exact .inr ⟨g, 0, rfl, by omega, fun j hj => (hc g _ e2).trans (e3 j hj)⟩
theorem Tb.call {w wr w2 : World} {p : Pg} {A : Option Addr} {c : Nat} {A2 : Option Addr} {c2 T H K Bt : Nat} (h : Tb w wr p A c A2 c2 T H K Bt) (hb : Below wr.heap.size wr w2) : Tb w w2 p A c A2 c2 T H K Bt :=
  h.same (fun b j hb' => hb.cell (p := ⟨b, j, none⟩) (by show b < wr.heap.size; have := h.bl; omega)) (fun j => hb.frozen (p := ⟨T, j, none⟩) (by show T < wr.heap.size; have := h.bl; have := h.tl; omega)) hb.size (h.bw.trans (hb.mono h.bw.size))
theorem Tb.far {w wr w2 : World} {p : Pg} {A : Option Addr} {c : Nat} {A2 : Option Addr} {c2 T H K Bt x : Nat} (h : Tb w wr p A c A2 c2 T H K Bt) (hg : wr.grownBy w2 (some x)) (hx : Bt ≤ x) : Tb w w2 p A c A2 c2 T H K Bt := by
  have hlo := h.lo
  have htl := h.tl
  have hbl := h.bl
  exact h.same (fun b j hb' => hg.cell_far ⟨b, j, none⟩ (by show b < wr.heap.size; omega) (by simp; omega)) (fun j => hg.frozen_far ⟨T, j, none⟩ (by show T < wr.heap.size; omega) (by simp; omega)) hg.size
    (h.bw.grown hg h.bw.size (fun k hk => by have : k = x := by simpa using hk.symm
                                             omega))
theorem Tb.raise {w wr : World} {p : Pg} {A : Option Addr} {c : Nat} {A2 : Option Addr} {c2 T H K Bt B2 : Nat} (h : Tb w wr p A c A2 c2 T H K Bt) (h1 : Bt ≤ B2) (h2 : B2 ≤ wr.heap.size) : Tb w wr p A c A2 c2 T H K B2 :=
  ⟨h.b6, h.bw, h.lo, Nat.lt_of_lt_of_le h.tl h1, h2, h.fz, h.emp, fun i hi hn => by obtain ⟨g, cg, e1, e2, e3⟩ := h.row i hi hn; exact ⟨g, cg, e1, by omega, e3⟩⟩
/-- The row of an hour under way beside the table. -/
structure TR (w wr : World) (p : Pg) (A : Option Addr) (c : Nat) (A2 : Option Addr) (c2 T H K Bt g cg : Nat) (l : List Int) : Prop where
  tb : Tb w wr p A c A2 c2 T H K Bt
  o1 : IOwn wr Bt (.slice (some ⟨g, 0, none⟩) l.length cg) l
theorem TR.call {w wr w2 : World} {p : Pg} {A : Option Addr} {c : Nat} {A2 : Option Addr} {c2 T H K Bt g cg : Nat} {l : List Int} (h : TR w wr p A c A2 c2 T H K Bt g cg l) (hb : Below wr.heap.size wr w2) : TR w w2 p A c A2 c2 T H K Bt g cg l := ⟨h.tb.call hb, h.o1.on hb⟩
theorem TR.push {w wr w2 : World} {p : Pg} {A : Option Addr} {c : Nat} {A2 : Option Addr} {c2 T H K Bt g cg : Nat} {l : List Int} {x : Int} {v' : Value} (h : TR w wr p A c A2 c2 T H K Bt g cg l) (hg : wr.grownBy w2 (some g)) (ho : w2.ownsRow Bt 3 1 v' (l.length + 1) (l.map iv ++ [iv x])) :
    ∃ g' c', v' = .slice (some ⟨g', 0, none⟩) (l.length + 1) c' ∧ TR w w2 p A c A2 c2 T H K Bt g' c' (l ++ [x]) := by
  have hq := World.ownsRow.lt h.o1 g rfl
  obtain ⟨g1', c1', hv, _, _⟩ := ho.form (by omega)
  subst hv
  have hl : (l ++ [x]).length = l.length + 1 := by simp
  exact ⟨g1', c1', rfl, h.tb.far hg hq.1, by rw [hl]; exact IOwn.push ho⟩
theorem TR.new {w wr : World} {p : Pg} {A : Option Addr} {c : Nat} {A2 : Option Addr} {c2 T H K Bt : Nat} (h : Tb w wr p A c A2 c2 T H K Bt) : TR w (wr.alloc (.cells #[] 3)) p A c A2 c2 T H K wr.heap.size wr.heap.size 0 [] :=
  ⟨(h.raise h.bl (Nat.le_refl _)).call (alloc_below _ _), own_empty wr _ (Nat.le_refl _)⟩
/-- A whole row is put into the table. -/
theorem TR.put {w wr : World} {p : Pg} {A : Option Addr} {c : Nat} {A2 : Option Addr} {c2 T H K Bt g cg : Nat} (h : TR w wr p A c A2 c2 T (H + 1) K Bt g cg (rowK p H K)) :
    Tb w (wr.setCell ⟨T, H, none⟩ (.slice (some ⟨g, 0, none⟩) K cg)) p A c A2 c2 T H K wr.heap.size := by
  have hlo := h.tb.lo
  have htl := h.tb.tl
  have hbl := h.tb.bl
  have hq := World.ownsRow.lt h.o1 g rfl
  have hgT : g ≠ T := by omega
  have far : ∀ b j, b ≠ T → (wr.setCell ⟨T, H, none⟩ (.slice (some ⟨g, 0, none⟩) K cg)).cell? ⟨b, j, none⟩ = wr.cell? ⟨b, j, none⟩ := fun b j hb => World.cell?_setCell_far _ _ _ _ (by show T ≠ b; omega)
  have oth : ∀ j, j ≠ H → (wr.setCell ⟨T, H, none⟩ (.slice (some ⟨g, 0, none⟩) K cg)).cell? ⟨T, j, none⟩ = wr.cell? ⟨T, j, none⟩ := fun j hj => World.cell?_setCell_other _ _ _ _ (by intro e; injection e with _ e; exact hj e.symm)
  obtain ⟨l0, c0, c1, c2', c3, c4, c5⟩ := h.tb.b6
  have q := fun j => far w.heap.size j (by omega)
  refine ⟨⟨by simpa using l0, (q _).trans c0, (q _).trans c1, (q _).trans c2', (q _).trans c3, (q _).trans c4, (q _).trans c5⟩, h.tb.bw.setCell (p := ⟨T, H, none⟩) (by show w.heap.size ≤ T; omega) _, hlo, by omega, by simp, h.tb.fz.set _ _, fun i hi => (oth i (by omega)).trans (h.tb.emp i (by omega)), fun i hi hn => ?_⟩
  have iat : ∀ {b : Nat} {l : List Int}, b ≠ T → IAt wr (some ⟨b, 0, none⟩) l → IAt (wr.setCell ⟨T, H, none⟩ (.slice (some ⟨g, 0, none⟩) K cg)) (some ⟨b, 0, none⟩) l := fun {b l} hb hi => by
    rcases hi with hi | ⟨b', off, hA, hlt, hi⟩
    · exact .inl hi
    · injection hA with hA
      injection hA with x1 x2 _
      subst x1 x2
      exact .inr ⟨b, 0, rfl, by simpa using hlt, fun j hj => (far b _ hb).trans (hi j hj)⟩
  by_cases e : i = H
  · subst e
    refine ⟨g, cg, World.cell?_setCell_same _ _ _ (h.tb.emp i (by omega)), hq.2, iat hgT ?_⟩
    have := h.o1.iat
    exact this
  · obtain ⟨g2, cg2, e1, e2, e3⟩ := h.tb.row i (by omega) hn
    refine ⟨g2, cg2, (oth i e).trans e1, by omega, ?_⟩
    by_cases eg : g2 = T
    · rcases e3 with e3 | ⟨b', off, hA, hlt, e3⟩
      · exact .inl e3
      · injection hA with hA
        injection hA with x1 x2 _
        subst x1 x2 eg
        by_cases hK : K = 0
        · left; subst hK; rfl
        · exfalso
          have r0 := e3 0 (by rw [rowK_len]; omega)
          by_cases hH : 0 < H + 1
          · have := h.tb.emp 0 (by omega)
            simp at r0
            rw [this] at r0
            cases r0
          · omega
    · exact iat eg e3
end Go.Proofs.Ytlkomipjamelkaa.S13
