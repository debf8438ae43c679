/- A profile while it is drawn: what stays and what changes. Conditions: each theorem's own premises. -/
import Derived.Test.YtkgkeohnnpkahaaPfDraw
import Derived.Test.YtkgkeohnnpkahaaPfFla
import Derived.Test.YtkgkeohnnpkahaaPfFlat
import Derived.Test.YtkgkeohnnpkahaaPfSto
namespace Go.Proofs.Ytkgkeohnnpkahaa.S6
open Go.RowKit P6

/-- The cursor g; the result's cell at the end of w; the profile in the box o, its numbers in the row b. -/
structure PI (w wr : World) (B g : Nat) (a : Option Addr) (n cap K o b capb : Nat) (l : List Int) : Prop where
  st : S1.St B g a n cap K wr
  gr : w.grownBy wr (some g)
  rc : wr.cell? ⟨w.heap.size, 0, none⟩ = some (.slice none 0 0)
  rf : wr.frozen? ⟨w.heap.size, 0, none⟩ = false
  oc : wr.cell? ⟨o, 0, none⟩ = some (.slice (some ⟨b, 0, none⟩) 24 capb)
  of : wr.frozen? ⟨o, 0, none⟩ = false
  row : wr.ownsRow (w.heap.size + 1) 3 1 (.slice (some ⟨b, 0, none⟩) 24 capb) 24 (l.map iv)
  len : l.length = 24
  ne : b ≠ o
  lo : w.heap.size < o
  ol : o < wr.heap.size
  gw : g < w.heap.size
theorem PI.bs {w wr : World} {B g : Nat} {a : Option Addr} {n cap K o b capb : Nat} {l : List Int} (h : PI w wr B g a n cap K o b capb l) : w.heap.size < b ∧ b < wr.heap.size := by
  obtain ⟨h1, h2⟩ := World.ownsRow.lt h.row b rfl
  exact ⟨by omega, h2⟩
theorem PI.call {w wr w2 : World} {B g : Nat} {a : Option Addr} {n cap K K2 o b capb : Nat} {l : List Int} (h : PI w wr B g a n cap K o b capb l) (hs : S1.St B g a n cap K2 w2) (hg : wr.grownBy w2 (some g)) : PI w w2 B g a n cap K2 o b capb l := by
  have hb := h.bs
  have h1 := h.lo
  have h2 := h.ol
  have h3 := h.gw
  have hc : ∀ x, w.heap.size ≤ x → x < wr.heap.size → w2.cell? ⟨x, 0, none⟩ = wr.cell? ⟨x, 0, none⟩ ∧ w2.frozen? ⟨x, 0, none⟩ = wr.frozen? ⟨x, 0, none⟩ := fun x hx hl => by
    have e := hg.block x hl (by simp; omega)
    exact ⟨World.cell?_of_block (a := ⟨x, 0, none⟩) e, World.frozen?_of_block (a := ⟨x, 0, none⟩) e⟩
  refine ⟨hs, S1.grown_trans h.gr hg, (hc _ (by omega) (by omega)).1.trans h.rc, (hc _ (by omega) (by omega)).2.trans h.rf, (hc _ (by omega) (by omega)).1.trans h.oc, (hc _ (by omega) (by omega)).2.trans h.of, ?_, h.len, h.ne, h.lo, Nat.lt_of_lt_of_le h2 hg.size, h.gw⟩
  exact World.ownsRow.kept h.row hg (.inr (by simp [Value.ownBlock]; omega))
theorem PI.alloc {w wr : World} {B g : Nat} {a : Option Addr} {n cap K o b capb : Nat} {l : List Int} (h : PI w wr B g a n cap K o b capb l) (x : Obj) : PI w (wr.alloc x) B g a n cap K o b capb l := by
  refine h.call (S1.st_new h.st x) (World.grownBy_alloc wr x (some g))
theorem PI.drew {w wr : World} {B g : Nat} {a : Option Addr} {n cap K o b capb : Nat} {l : List Int} (h : PI w wr B g a n cap K o b capb l) : PI w wr.drew B g a n cap K o b capb l :=
  h.call (h.st.other ((Below.refl _ _).drew)) ⟨rfl, rfl, rfl, Nat.le_refl _, fun _ _ _ => rfl⟩
theorem PI.more {w wr : World} {B g : Nat} {a : Option Addr} {n cap K K2 o b capb : Nat} {l : List Int} (h : PI w wr B g a n cap K o b capb l) (hk : K ≤ K2) : PI w wr B g a n cap K2 o b capb l :=
  h.call (h.st.more hk) (World.grownBy.refl _ _)
theorem St.bg' {B g : Nat} {a : Option Addr} {n cap K : Nat} {w : World} (h : S1.St B g a n cap K w) : B ≤ g := h.bg
theorem PI.set {w wr : World} {B g : Nat} {a : Option Addr} {n cap K o b capb : Nat} {l : List Int} (h : PI w wr B g a n cap K o b capb l) (i : Nat) (x : Int) : PI w (wr.setCell ⟨b, i, none⟩ (iv x)) B g a n cap K o b capb (l.set i x) := by
  have hb := h.bs
  have h1 := h.lo
  have h2 := h.ol
  have h3 := h.gw
  have h4 := h.ne
  have h5 := h.st.bg
  refine ⟨S1.st_far h.st (by omega) (by omega), S1.grown_setnew h.gr (by omega), ?_, ?_, ?_, ?_, ?_, by simp [h.len], h.ne, h.lo, by simpa using h.ol, h.gw⟩
  · exact (World.cell?_setCell_far _ ⟨b, i, none⟩ _ _ (by show b ≠ w.heap.size; omega)).trans h.rc
  · rw [World.frozen?_setCell]; exact h.rf
  · exact (World.cell?_setCell_far _ ⟨b, i, none⟩ _ _ (by show b ≠ o; omega)).trans h.oc
  · rw [World.frozen?_setCell]; exact h.of
  · rw [← map_set]; exact (h.row.stored i (iv x)).1
/-- Another row takes the place of the numbers. -/
theorem PI.swap {w wr : World} {B g : Nat} {a : Option Addr} {n cap K o b capb b2 cap2 : Nat} {l l2 : List Int} (h : PI w wr B g a n cap K o b capb l) (hr : wr.ownsRow (w.heap.size + 1) 3 1 (.slice (some ⟨b2, 0, none⟩) 24 cap2) 24 (l2.map iv)) (hl : l2.length = 24) (hne : b2 ≠ o) :
    PI w (wr.setCell ⟨o, 0, none⟩ (.slice (some ⟨b2, 0, none⟩) 24 cap2)) B g a n cap K o b2 cap2 l2 := by
  have h1 := h.lo
  have h2 := h.ol
  have h3 := h.gw
  have h5 := h.st.bg
  have hb2 := World.ownsRow.lt hr b2 rfl
  refine ⟨S1.st_far h.st (by omega) (by omega), S1.grown_setnew h.gr (by omega), ?_, ?_, ?_, ?_, ?_, hl, hne, h.lo, by simpa using h.ol, h.gw⟩
  · exact (World.cell?_setCell_far _ ⟨o, 0, none⟩ _ _ (by show o ≠ w.heap.size; omega)).trans h.rc
  · rw [World.frozen?_setCell]; exact h.rf
  · exact World.cell?_setCell_same _ _ _ h.oc
  · rw [World.frozen?_setCell]; exact h.of
  · exact World.ownsRow.kept hr (grown_set (grown_refl _ _) _ _) (.inr (by simp [Value.ownBlock]; exact hne))
theorem PI.facts {w wr : World} {B g : Nat} {a : Option Addr} {n cap K o b capb : Nat} {l : List Int} (h : PI w wr B g a n cap K o b capb l) : (∀ i, i < 24 → wr.cell? ⟨b, i, none⟩ = some (iv (at0 l i))) ∧ (∀ i, wr.frozen? ⟨b, i, none⟩ = false) ∧ 24 ≤ capb ∧ capb ≤ maxLen := by
  have hl := h.len
  have ho : IOwn wr (w.heap.size + 1) (.slice (some ⟨b, 0, none⟩) 24 capb) l := by unfold IOwn; rw [hl]; exact h.row
  obtain ⟨_, h2, h3⟩ := row_facts hl ho
  refine ⟨h2, h3, ?_⟩
  rcases h.row.2 with ⟨hv, _⟩ | ⟨g', c', cur, hv, _, _, hn, hm, _⟩
  · cases hv
  · injection hv with _ _ hc
    subst hc
    exact ⟨hn, hm⟩

/-- What a draw of a profile gives: up to 24 numbers in a row of its own. -/
def ProfPost (B g : Nat) (a : Option Addr) (n cap K : Nat) (w : World) (e : Ending) (w' : World) : Prop :=
  (∃ b off c l, e = .returned (dv (some ⟨b, off, none⟩) l.length c) ∧ w.heap.size ≤ b ∧ b < w'.heap.size ∧ l.length ≤ 24 ∧ IAt w' (some ⟨b, off, none⟩) l) ∧ S1.St B g a n cap K w' ∧ w.grownBy w' (some g)
theorem prof_done {B g : Nat} {a : Option Addr} {n cap K K2 b off c : Nat} {l : List Int} {w wr : World} (hs : S1.St B g a n cap K wr) (hg : w.grownBy wr (some g)) (hgw : g < w.heap.size) (hK : K ≤ K2) (hb : w.heap.size < b) (hl : l.length ≤ 24) (ha : IAt wr (some ⟨b, off, none⟩) l) (hbl : b < wr.heap.size) (v : Value) :
    ProfPost B g a n cap K2 w (.returned (dv (some ⟨b, off, none⟩) l.length c)) (wr.setCell ⟨w.heap.size, 0, none⟩ v) := by
  have h5 := hs.bg
  refine ⟨⟨b, off, c, l, rfl, by omega, by simpa using hbl, hl, ?_⟩, (S1.st_far hs (by omega) (by omega)).more hK, S1.grown_setnew hg (Nat.le_refl _)⟩
  rcases ha with h | ⟨b', off', hA, hlt, h⟩
  · exact .inl h
  · simp only [Option.some.injEq, Addr.mk.injEq, and_true] at hA
    obtain ⟨rfl, rfl⟩ := hA
    exact .inr ⟨b, off, rfl, by simpa using hlt, fun i hi => (World.cell?_setCell_far _ ⟨w.heap.size, 0, none⟩ _ _ (by show w.heap.size ≠ b; omega)).trans (h i hi)⟩
theorem PI.iat {w wr : World} {B g : Nat} {a : Option Addr} {n cap K o b capb : Nat} {l : List Int} (h : PI w wr B g a n cap K o b capb l) : IAt wr (some ⟨b, 0, none⟩) l := by
  have hl := h.len
  have ho : IOwn wr (w.heap.size + 1) (.slice (some ⟨b, 0, none⟩) 24 capb) l := by unfold IOwn; rw [hl]; exact h.row
  exact (row_facts hl ho).1
theorem prof_fin {w wr : World} {B g : Nat} {a : Option Addr} {n cap K1 K2 o b capb : Nat} {l : List Int} (h : PI w wr B g a n cap K1 o b capb l) (hK : K1 ≤ K2) (v : Value) :
    ProfPost B g a n cap K2 w (.returned (dv (some ⟨b, 0, none⟩) 24 capb)) (wr.setCell ⟨w.heap.size, 0, none⟩ v) := by
  have := prof_done (c := capb) h.st h.gr h.gw hK h.bs.1 (by rw [h.len]; omega) h.iat h.bs.2 v
  rw [h.len] at this
  exact this
/-- The first number is left out. -/
theorem prof_tail {w wr : World} {B g : Nat} {a : Option Addr} {n cap K1 K2 o b capb : Nat} {l : List Int} (h : PI w wr B g a n cap K1 o b capb l) (hK : K1 ≤ K2) (u v : Value) :
    ProfPost B g a n cap K2 w (.returned (dv (some ⟨b, 1, none⟩) 23 (capb - 1))) ((wr.setCell ⟨o, 0, none⟩ u).setCell ⟨w.heap.size, 0, none⟩ v) := by
  have hb := h.bs
  have h1 := h.lo
  have h2 := h.ol
  have h3 := h.gw
  have h5 := h.st.bg
  have hl : (l.drop 1).length = 23 := by rw [List.length_drop, h.len]
  have hc := h.facts.1
  have := prof_done (c := capb - 1) (l := l.drop 1) (off := 1) (b := b) (wr := wr.setCell ⟨o, 0, none⟩ u) (S1.st_far h.st (by omega) (by omega)) (S1.grown_setnew h.gr (by omega)) h.gw hK hb.1 (by omega)
    (.inr ⟨b, 1, rfl, by simpa using hb.2, fun i hi => by
      refine (World.cell?_setCell_far _ ⟨o, 0, none⟩ _ _ (by show o ≠ b; exact fun e => h.ne e.symm)).trans ?_
      rw [hc (1 + i) (by omega)]
      simp [at0, List.getD, Nat.add_comm]⟩) (by simpa using hb.2) v
  rw [hl] at this
  exact this
theorem prof_drew {B g : Nat} {a : Option Addr} {n cap K : Nat} {w w' : World} {e : Ending} (h : ProfPost B g a n cap K w e w') : ProfPost B g a n cap K w e w'.drew := by
  obtain ⟨⟨b, off, c, l, he, hb, hbl, hl, ha⟩, hs, hg⟩ := h
  have hd : Below w'.heap.size w' w'.drew := (Below.refl _ _).drew
  exact ⟨⟨b, off, c, l, he, hb, hbl, hl, ha.kept hd (Nat.le_refl _)⟩, hs.other hd, ⟨hg.os, hg.tape, hg.output, hg.size, hg.block⟩⟩
theorem grown_of_below {w w' : World} {r : Option Nat} (h : Below w.heap.size w w') : w.grownBy w' r := ⟨h.os, h.tape, h.output, h.size, fun k hk _ => h.block k hk⟩
end Go.Proofs.Ytkgkeohnnpkahaa.S6
