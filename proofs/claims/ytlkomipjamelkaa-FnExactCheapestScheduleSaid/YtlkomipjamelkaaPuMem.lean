/- The table of plans in memory; the boxes of a search: facts on memory. Conditions: each theorem's own premises. -/
import Derived.Test.YtlkomipjamelkaaPuBig
import Derived.Test.YtlkomipjamelkaaPuSch
import Derived.Maps.AppendAt
import Derived.Deep.AppendLies
namespace Go.Proofs.Ytlkomipjamelkaa.S13
open Go.RowKit P11 S11 P13

/-- A plan as a value. -/
abbrev plv (kn : Bool) (q : Pl) : Value := .agg #[.bool kn, .bool q.ex, .int .i64 q.cost, .int .i64 q.vol]
def eI (h l : Nat) : Nat := 6 + h * 244 + l * 4
/-- The four cells of a plan, from a place on. -/
structure E4 (w : World) (g o : Nat) (kn : Bool) (q : Pl) : Prop where
  k0 : w.cell? ⟨g, o, none⟩ = some (.bool kn)
  k1 : w.cell? ⟨g, o + 1, none⟩ = some (.bool q.ex)
  k2 : w.cell? ⟨g, o + 2, none⟩ = some (.int .i64 q.cost)
  k3 : w.cell? ⟨g, o + 3, none⟩ = some (.int .i64 q.vol)
theorem E4.same {w w' : World} {g o : Nat} {kn : Bool} {q : Pl} (h : E4 w g o kn q) (hc : ∀ j, w'.cell? ⟨g, j, none⟩ = w.cell? ⟨g, j, none⟩) : E4 w' g o kn q :=
  ⟨(hc _).trans h.k0, (hc _).trans h.k1, (hc _).trans h.k2, (hc _).trans h.k3⟩
/-- Four cells written. -/
abbrev put4 (w : World) (g o : Nat) (a b c d : Value) : World := (((w.setCell ⟨g, o, none⟩ a).setCell ⟨g, o + 1, none⟩ b).setCell ⟨g, o + 2, none⟩ c).setCell ⟨g, o + 3, none⟩ d
theorem put4_far (w : World) (g o : Nat) (a b c d : Value) (x j : Nat) (h : x ≠ g) : (put4 w g o a b c d).cell? ⟨x, j, none⟩ = w.cell? ⟨x, j, none⟩ := by
  unfold put4
  rw [World.cell?_setCell_far _ _ _ _ h.symm, World.cell?_setCell_far _ _ _ _ h.symm, World.cell?_setCell_far _ _ _ _ h.symm, World.cell?_setCell_far _ _ _ _ h.symm]
theorem ne_off {g i j : Nat} (h : i ≠ j) : (⟨g, i, none⟩ : Addr) ≠ ⟨g, j, none⟩ := by intro e; injection e with _ e; exact h e
theorem put4_off (w : World) (g o : Nat) (a b c d : Value) (j : Nat) (h0 : o ≠ j) (h1 : o + 1 ≠ j) (h2 : o + 2 ≠ j) (h3 : o + 3 ≠ j) : (put4 w g o a b c d).cell? ⟨g, j, none⟩ = w.cell? ⟨g, j, none⟩ := by
  unfold put4
  rw [World.cell?_setCell_other _ _ _ _ (ne_off h3), World.cell?_setCell_other _ _ _ _ (ne_off h2), World.cell?_setCell_other _ _ _ _ (ne_off h1), World.cell?_setCell_other _ _ _ _ (ne_off h0)]
theorem put4_at {w : World} {g o : Nat} {kn : Bool} {q : Pl} (h : E4 w g o kn q) (kn' : Bool) (q' : Pl) : E4 (put4 w g o (.bool kn') (.bool q'.ex) (.int .i64 q'.cost) (.int .i64 q'.vol)) g o kn' q' := by
  unfold put4
  refine ⟨?_, ?_, ?_, ?_⟩
  · rw [World.cell?_setCell_other _ _ _ _ (ne_off (by omega)), World.cell?_setCell_other _ _ _ _ (ne_off (by omega)), World.cell?_setCell_other _ _ _ _ (ne_off (by omega))]
    exact World.cell?_setCell_same _ _ _ h.k0
  · rw [World.cell?_setCell_other _ _ _ _ (ne_off (by omega)), World.cell?_setCell_other _ _ _ _ (ne_off (by omega))]
    exact World.cell?_setCell_same (u := .bool q.ex) _ _ _ (by rw [World.cell?_setCell_other _ _ _ _ (ne_off (by omega))]; exact h.k1)
  · rw [World.cell?_setCell_other _ _ _ _ (ne_off (by omega))]
    exact World.cell?_setCell_same (u := .int .i64 q.cost) _ _ _ (by rw [World.cell?_setCell_other _ _ _ _ (ne_off (by omega)), World.cell?_setCell_other _ _ _ _ (ne_off (by omega))]; exact h.k2)
  · exact World.cell?_setCell_same (u := .int .i64 q.vol) _ _ _ (by rw [World.cell?_setCell_other _ _ _ _ (ne_off (by omega)), World.cell?_setCell_other _ _ _ _ (ne_off (by omega)), World.cell?_setCell_other _ _ _ _ (ne_off (by omega))]; exact h.k3)
theorem put4_fz {w : World} {g : Nat} (h : FZ w g) (G o : Nat) (a b c d : Value) : FZ (put4 w G o a b c d) g := (((h.set _ _).set _ _).set _ _).set _ _
theorem put4_size (w : World) (G o : Nat) (a b c d : Value) : (put4 w G o a b c d).heap.size = w.heap.size := by simp [put4]
theorem put4_grown {w w' : World} {g : Nat} (h : w.grownBy w' (some g)) (o : Nat) (a b c d : Value) : w.grownBy (put4 w' g o a b c d) (some g) := grown_set (grown_set (grown_set (grown_set h _ _) _ _) _ _) _ _
theorem below_grown {w w' : World} (h : Below w.heap.size w w') (r : Option Nat) : w.grownBy w' r := ⟨h.os, h.tape, h.output, h.size, fun k hk _ => h.block k hk⟩
/-- Writes into a new box leave the old ones. -/
theorem grown_new_set {w w' : World} {r : Option Nat} {g : Nat} (h : w.grownBy w' r) (hg : w.heap.size ≤ g) (o : Nat) (u : Value) : w.grownBy (w'.setCell ⟨g, o, none⟩ u) r :=
  ⟨h.os, h.tape, h.output, by have := h.size; simpa using this, fun k hk hne => by
    rw [Below.heap_setCell _ _ _ _ (by show k ≠ g; omega)]
    exact h.block k hk hne⟩
theorem grown_new_put {w w' : World} {r : Option Nat} {g : Nat} (h : w.grownBy w' r) (hg : w.heap.size ≤ g) (o : Nat) (a b c d : Value) : w.grownBy (put4 w' g o a b c d) r :=
  grown_new_set (grown_new_set (grown_new_set (grown_new_set h hg _ _) hg _ _) hg _ _) hg _ _

/-- The table of plans. -/
structure Ot (w : World) (O : Nat) (p : Pg) (A : Option Addr) (c : Nat) (A2 : Option Addr) (c2 : Nat) : Prop where
  b6 : B6 w O 0 p A c A2 c2
  fz : FZ w O
  pat : PAt w p A A2
  ax : ∀ b o, A = some ⟨b, o, none⟩ → b < O
  ay : ∀ b o, A2 = some ⟨b, o, none⟩ → b < O
  mem : ∀ h l, h ≤ 12 → l ≤ 60 → ∃ kn q, E4 w O (eI h l) kn q ∧ (kn = true → plan p (p.xs.length - h) l = q)
theorem iat_other {w w' : World} {A : Option Addr} {l : List Int} {O : Nat} (h : IAt w A l) (ha : ∀ b o, A = some ⟨b, o, none⟩ → b < O) (hc : ∀ b j, b < O → w'.cell? ⟨b, j, none⟩ = w.cell? ⟨b, j, none⟩) (hs : w.heap.size ≤ w'.heap.size) : IAt w' A l := by
  rcases h with h | ⟨b, off, hA, hlt, h⟩
  · exact .inl h
  · exact .inr ⟨b, off, hA, by omega, fun i hi => (hc b _ (ha b off hA)).trans (h i hi)⟩
theorem Ot.same {w w' : World} {O : Nat} {p : Pg} {A : Option Addr} {c : Nat} {A2 : Option Addr} {c2 : Nat} (h : Ot w O p A c A2 c2) (hc : ∀ b j, b ≤ O → w'.cell? ⟨b, j, none⟩ = w.cell? ⟨b, j, none⟩) (hf : ∀ j, w'.frozen? ⟨O, j, none⟩ = w.frozen? ⟨O, j, none⟩) (hs : w.heap.size ≤ w'.heap.size) : Ot w' O p A c A2 c2 := by
  have q := fun j => hc O j (Nat.le_refl _)
  obtain ⟨l0, c0, c1, c2', c3, c4, c5⟩ := h.b6
  refine ⟨⟨by omega, (q _).trans c0, (q _).trans c1, (q _).trans c2', (q _).trans c3, (q _).trans c4, (q _).trans c5⟩, fun j => (hf j).trans (h.fz j), ⟨iat_other h.pat.x h.ax (fun b j hb => hc b j (by omega)) hs, iat_other h.pat.y h.ay (fun b j hb => hc b j (by omega)) hs, h.pat.xl, h.pat.yl⟩, h.ax, h.ay, fun i l hi hl => ?_⟩
  obtain ⟨kn, pl, h4, hk⟩ := h.mem i l hi hl
  exact ⟨kn, pl, h4.same q, hk⟩
theorem Ot.kept {w w' : World} {O : Nat} {p : Pg} {A : Option Addr} {c : Nat} {A2 : Option Addr} {c2 : Nat} (h : Ot w O p A c A2 c2) (hb : Below w.heap.size w w') : Ot w' O p A c A2 c2 :=
  h.same (fun b j hb' => hb.cell (p := ⟨b, j, none⟩) (by show b < w.heap.size; have := h.b6.lt; omega)) (fun j => hb.frozen (p := ⟨O, j, none⟩) h.b6.lt) hb.size
theorem Ot.set {w : World} {O : Nat} {p : Pg} {A : Option Addr} {c : Nat} {A2 : Option Addr} {c2 : Nat} (h : Ot w O p A c A2 c2) {g : Nat} (hg : O < g) (o : Nat) (u : Value) : Ot (w.setCell ⟨g, o, none⟩ u) O p A c A2 c2 :=
  h.same (fun b j hb => World.cell?_setCell_far _ _ _ _ (by show g ≠ b; omega)) (fun j => World.frozen?_setCell _ _ _ _) (by simp)
theorem Ot.put {w : World} {O : Nat} {p : Pg} {A : Option Addr} {c : Nat} {A2 : Option Addr} {c2 : Nat} (h : Ot w O p A c A2 c2) {g : Nat} (hg : O < g) (o : Nat) (a b d e : Value) : Ot (put4 w g o a b d e) O p A c A2 c2 :=
  (((h.set hg _ _).set hg _ _).set hg _ _).set hg _ _
theorem eI_ne {h l i m : Nat} (hl : l ≤ 60) (hm : m ≤ 60) (hne : ¬ (h = i ∧ l = m)) (a b : Nat) (ha : a ≤ 3) (hb : b ≤ 3) : eI h l + a ≠ eI i m + b := by
  unfold eI
  omega
/-- A plan is kept in the table. -/
theorem Ot.keep {w : World} {O : Nat} {p : Pg} {A : Option Addr} {c : Nat} {A2 : Option Addr} {c2 : Nat} (h : Ot w O p A c A2 c2) {i m : Nat} (hi : i ≤ 12) (hm : m ≤ 60) (q : Pl) (hq : plan p (p.xs.length - i) m = q) :
    Ot (put4 w O (eI i m) (.bool true) (.bool q.ex) (.int .i64 q.cost) (.int .i64 q.vol)) O p A c A2 c2 := by
  have hsz := put4_size w O (eI i m) (.bool true) (.bool q.ex) (.int .i64 q.cost) (.int .i64 q.vol)
  have hfar : ∀ b j, b < O → (put4 w O (eI i m) (.bool true) (.bool q.ex) (.int .i64 q.cost) (.int .i64 q.vol)).cell? ⟨b, j, none⟩ = w.cell? ⟨b, j, none⟩ := fun b j hb => put4_far w O _ _ _ _ _ b j (by omega)
  have hoff : ∀ j, j < 6 → (put4 w O (eI i m) (.bool true) (.bool q.ex) (.int .i64 q.cost) (.int .i64 q.vol)).cell? ⟨O, j, none⟩ = w.cell? ⟨O, j, none⟩ := fun j hj => put4_off w O _ _ _ _ _ j (by unfold eI; omega) (by unfold eI; omega) (by unfold eI; omega) (by unfold eI; omega)
  obtain ⟨l0, c0, c1, c2', c3, c4, c5⟩ := h.b6
  refine ⟨⟨by rw [hsz]; exact l0, (hoff _ (by omega)).trans c0, (hoff _ (by omega)).trans c1, (hoff _ (by omega)).trans c2', (hoff _ (by omega)).trans c3, (hoff _ (by omega)).trans c4, (hoff _ (by omega)).trans c5⟩, put4_fz h.fz _ _ _ _ _ _, ⟨iat_other h.pat.x h.ax hfar (by rw [hsz]; exact Nat.le_refl _), iat_other h.pat.y h.ay hfar (by rw [hsz]; exact Nat.le_refl _), h.pat.xl, h.pat.yl⟩, h.ax, h.ay, fun a b ha hb => ?_⟩
  by_cases e : i = a ∧ m = b
  · obtain ⟨rfl, rfl⟩ := e
    obtain ⟨kn, pl, h4, _⟩ := h.mem i m hi hm
    exact ⟨true, q, put4_at h4 true q, fun _ => hq⟩
  · obtain ⟨kn, pl, h4, hk⟩ := h.mem a b ha hb
    have n := fun x y (hx : x ≤ 3) (hy : y ≤ 3) => eI_ne hm hb e x y hx hy
    refine ⟨kn, pl, ⟨?_, ?_, ?_, ?_⟩, hk⟩
    · exact (put4_off w O _ _ _ _ _ _ (n 0 0 (by omega) (by omega)) (n 1 0 (by omega) (by omega)) (n 2 0 (by omega) (by omega)) (n 3 0 (by omega) (by omega))).trans h4.k0
    · exact (put4_off w O _ _ _ _ _ _ (n 0 1 (by omega) (by omega)) (n 1 1 (by omega) (by omega)) (n 2 1 (by omega) (by omega)) (n 3 1 (by omega) (by omega))).trans h4.k1
    · exact (put4_off w O _ _ _ _ _ _ (n 0 2 (by omega) (by omega)) (n 1 2 (by omega) (by omega)) (n 2 2 (by omega) (by omega)) (n 3 2 (by omega) (by omega))).trans h4.k2
    · exact (put4_off w O _ _ _ _ _ _ (n 0 3 (by omega) (by omega)) (n 1 3 (by omega) (by omega)) (n 2 3 (by omega) (by omega)) (n 3 3 (by omega) (by omega))).trans h4.k3
/-- What a search gives. -/
def FromIs (w : World) (O : Nat) (p : Pg) (A : Option Addr) (c : Nat) (A2 : Option Addr) (c2 : Nat) (q : Pl) (e : Ending) (w' : World) : Prop :=
  e = .returned (plv true q) ∧ w.grownBy w' (some O) ∧ Ot w' O p A c A2 c2
/-- The boxes of a search: its tank, its plan, the place that it keeps it in. -/
structure Fr (w wr : World) (O : Nat) (p : Pg) (A : Option Addr) (c : Nat) (A2 : Option Addr) (c2 h l : Nat) (kn : Bool) (q : Pl) : Prop where
  lo : O < w.heap.size
  ot : Ot wr O p A c A2 c2
  t5 : BT wr w.heap.size l p.a p.b
  t6 : E4 wr (w.heap.size + 1) 0 kn q
  f6 : FZ wr (w.heap.size + 1)
  t7 : wr.cell? ⟨w.heap.size + 2, 0, none⟩ = some (.pointer (some ⟨O, eI h l, none⟩))
  l7 : w.heap.size + 2 < wr.heap.size
  gr : w.grownBy wr (some O)
theorem E4.six {w : World} {g : Nat} {kn : Bool} {q : Pl} (h : E4 w g 0 kn q) : w.cell? ⟨g, 0, none⟩ = some (.bool kn) ∧ w.cell? ⟨g, 1, none⟩ = some (.bool q.ex) ∧ w.cell? ⟨g, 2, none⟩ = some (.int .i64 q.cost) ∧ w.cell? ⟨g, 3, none⟩ = some (.int .i64 q.vol) := by
  obtain ⟨a, b, c, d⟩ := h
  simp only [Nat.zero_add] at b c d
  exact ⟨a, b, c, d⟩
theorem fz_four {w : World} {g : Nat} (h : FZ w g) : w.frozen? ⟨g, 0, none⟩ = false ∧ w.frozen? ⟨g, 1, none⟩ = false ∧ w.frozen? ⟨g, 2, none⟩ = false ∧ w.frozen? ⟨g, 3, none⟩ = false := ⟨h 0, h 1, h 2, h 3⟩
theorem Fr.call {w wr w2 : World} {O : Nat} {p : Pg} {A : Option Addr} {c : Nat} {A2 : Option Addr} {c2 h l : Nat} {kn : Bool} {q : Pl} (f : Fr w wr O p A c A2 c2 h l kn q) (hg : wr.grownBy w2 (some O)) (ho : Ot w2 O p A c A2 c2) : Fr w w2 O p A c A2 c2 h l kn q := by
  have hlo := f.lo
  have hl7 := f.l7
  have q6 := fun j => hg.cell_far ⟨w.heap.size + 1, j, none⟩ (by show w.heap.size + 1 < wr.heap.size; omega) (by simp; omega)
  exact ⟨f.lo, ho, f.t5.far hg (by omega), f.t6.same q6, fun j => (hg.frozen_far ⟨w.heap.size + 1, j, none⟩ (by show w.heap.size + 1 < wr.heap.size; omega) (by simp; omega)).trans (f.f6 j),
    (hg.cell_far ⟨w.heap.size + 2, 0, none⟩ f.l7 (by simp; omega)).trans f.t7, Nat.lt_of_lt_of_le f.l7 hg.size, World.grownBy.trans f.gr hg⟩
theorem Fr.below {w wr w2 : World} {O : Nat} {p : Pg} {A : Option Addr} {c : Nat} {A2 : Option Addr} {c2 h l : Nat} {kn : Bool} {q : Pl} (f : Fr w wr O p A c A2 c2 h l kn q) (hb : Below wr.heap.size wr w2) : Fr w w2 O p A c A2 c2 h l kn q :=
  f.call (below_grown hb _) (f.ot.kept hb)
theorem Fr.put {w wr : World} {O : Nat} {p : Pg} {A : Option Addr} {c : Nat} {A2 : Option Addr} {c2 h l : Nat} {kn : Bool} {q : Pl} (f : Fr w wr O p A c A2 c2 h l kn q) (kn' : Bool) (q' : Pl) :
    Fr w (put4 wr (w.heap.size + 1) 0 (.bool kn') (.bool q'.ex) (.int .i64 q'.cost) (.int .i64 q'.vol)) O p A c A2 c2 h l kn' q' := by
  have hlo := f.lo
  have q5 := fun j => put4_far wr (w.heap.size + 1) 0 (.bool kn') (.bool q'.ex) (.int .i64 q'.cost) (.int .i64 q'.vol) w.heap.size j (by omega)
  obtain ⟨t0, t1, t2, t3⟩ := f.t5
  exact ⟨f.lo, f.ot.put (by omega) _ _ _ _ _, ⟨by rw [put4_size]; exact t0, (q5 _).trans t1, (q5 _).trans t2, (q5 _).trans t3⟩, put4_at f.t6 kn' q', put4_fz f.f6 _ _ _ _ _ _, (put4_far wr (w.heap.size + 1) 0 _ _ _ _ (w.heap.size + 2) 0 (by omega)).trans f.t7, by rw [put4_size]; exact f.l7,
    grown_new_put f.gr (by omega) _ _ _ _ _⟩
/-- The end: the plan is kept. -/
theorem Fr.done {w wr : World} {O : Nat} {p : Pg} {A : Option Addr} {c : Nat} {A2 : Option Addr} {c2 h l : Nat} {kn : Bool} {q : Pl} (f : Fr w wr O p A c A2 c2 h l kn q) (hh : h ≤ 12) (hl : l ≤ 60) (hq : plan p (p.xs.length - h) l = q) :
    w.grownBy (put4 (wr.setCell ⟨w.heap.size + 1, 0, none⟩ (.bool true)) O (eI h l) (.bool true) (.bool q.ex) (.int .i64 q.cost) (.int .i64 q.vol)) (some O) ∧ Ot (put4 (wr.setCell ⟨w.heap.size + 1, 0, none⟩ (.bool true)) O (eI h l) (.bool true) (.bool q.ex) (.int .i64 q.cost) (.int .i64 q.vol)) O p A c A2 c2 ∧
      E4 (put4 (wr.setCell ⟨w.heap.size + 1, 0, none⟩ (.bool true)) O (eI h l) (.bool true) (.bool q.ex) (.int .i64 q.cost) (.int .i64 q.vol)) (w.heap.size + 1) 0 true q := by
  have hlo := f.lo
  have h6 : E4 (wr.setCell ⟨w.heap.size + 1, 0, none⟩ (.bool true)) (w.heap.size + 1) 0 true q :=
    ⟨World.cell?_setCell_same _ _ _ f.t6.k0, (World.cell?_setCell_other _ _ _ _ (ne_off (by omega))).trans f.t6.k1, (World.cell?_setCell_other _ _ _ _ (ne_off (by omega))).trans f.t6.k2, (World.cell?_setCell_other _ _ _ _ (ne_off (by omega))).trans f.t6.k3⟩
  exact ⟨put4_grown (grown_new_set f.gr (by omega) _ _) _ _ _ _ _, (f.ot.set (by omega) _ _).keep hh hl q hq, h6.same fun j => put4_far _ _ _ _ _ _ _ _ _ (by omega)⟩
end Go.Proofs.Ytlkomipjamelkaa.S13
