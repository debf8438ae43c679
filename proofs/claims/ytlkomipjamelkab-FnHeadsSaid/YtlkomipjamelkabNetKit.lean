/- What the walks of the laws over networks and slices of numbers want: boxes, marks written and found again, arguments opened, answers. Conditions: each theorem's own premises. -/
import Derived.Test.YtlkomipjamelkabLawInts
import Derived.Test.YtlkomipjamelkabSsTwoKit
import Derived.Test.YtlkomipjamelkabOpenOne
import Derived.Test.YtlkomipjamelkabGivesNone
import Derived.Deep.DeepCutAuto
import Derived.Deep.RegionHeld
namespace Go.Proofs.Ytlkomipjamelkab.S2
open Go.RowKit P2

theorem boxA0 {w : World} {x y : Value} {t : TypeId} : (w.alloc (.cells #[x, y] t)).cell? ⟨w.heap.size, 0, none⟩ = some x := by
  rw [World.cell?_alloc_at _ _ _ _ rfl]; rfl
theorem boxA1 {w : World} {x y : Value} {t : TypeId} : (w.alloc (.cells #[x, y] t)).cell? ⟨w.heap.size, 1, none⟩ = some y := by
  rw [World.cell?_alloc_at _ _ _ _ rfl]; rfl
theorem alloc_below (w : World) (o : Obj) : Below w.heap.size w (w.alloc o) := (Below.refl _ _).alloc (Nat.le_refl _) o
/-- Pipes read in a block below S. -/
def PB (S : Nat) (w : World) (A : Option Addr) (L : List Pp) : Prop := PAt w A L ∧ S ≤ w.heap.size ∧ (L = [] ∨ ∃ b off, A = some ⟨b, off, none⟩ ∧ b < S)
theorem PB.of {w : World} {A : Option Addr} {L : List Pp} (h : PAt w A L) : PB w.heap.size w A L := by
  refine ⟨h, Nat.le_refl _, ?_⟩
  rcases h with h | ⟨b, off, hA, hb, _⟩
  · exact .inl h
  · exact .inr ⟨b, off, hA, hb⟩
theorem PB.kept {S : Nat} {w w' : World} {A : Option Addr} {L : List Pp} (h : PB S w A L) (hb : Below w.heap.size w w') : PB S w' A L := ⟨h.1.kept hb (Nat.le_refl _), Nat.le_trans h.2.1 hb.size, h.2.2⟩
theorem PB.far {S g : Nat} {w w' : World} {A : Option Addr} {L : List Pp} (h : PB S w A L) (hg : w.grownBy w' (some g)) (hS : S ≤ g) : PB S w' A L := by
  refine ⟨?_, Nat.le_trans h.2.1 hg.size, h.2.2⟩
  rcases h.1 with h1 | ⟨b, off, hA, hlt, hc⟩
  · exact .inl h1
  · rcases h.2.2 with h2 | ⟨b', off', hA', hb'⟩
    · exact .inl h2
    · rw [hA] at hA'
      simp only [Option.some.injEq, Addr.mk.injEq, and_true] at hA'
      obtain ⟨rfl, rfl⟩ := hA'
      refine .inr ⟨b, off, hA, Nat.lt_of_lt_of_le hlt hg.size, fun i hi => ?_⟩
      have hcc : ∀ k, w'.cell? ⟨b, k, none⟩ = w.cell? ⟨b, k, none⟩ := fun k => hg.cell_far ⟨b, k, none⟩ hlt (by simp; omega)
      rw [hcc, hcc, hcc, hcc]
      exact hc i hi
theorem own_farP {w w' : World} {B g n cap x : Nat} {xs : List Value} (h : w.ownsRow B 40 4 (.slice (some ⟨g, 0, none⟩) n cap) n xs) (hb : w.grownBy w' (some x)) (hg : g ≠ x) : w'.ownsRow B 40 4 (.slice (some ⟨g, 0, none⟩) n cap) n xs :=
  World.ownsRow.kept h hb (.inr (by simp [Value.ownBlock]; exact hg))
theorem own_onP {w w' : World} {B n : Nat} {v : Value} {xs : List Value} (h : w.ownsRow B 40 4 v n xs) (hb : Below w.heap.size w w') : w'.ownsRow B 40 4 v n xs := own_on h hb
theorem own_patP {w : World} {B cap : Nat} {A : Option Addr} {ps : List Pp} (h : w.ownsRow B 40 4 (.slice A ps.length cap) ps.length (pcs ps)) : PAt w A ps := by
  rcases Nat.eq_zero_or_pos ps.length with h0 | h0
  · exact .inl (List.length_eq_zero_iff.1 h0)
  · obtain ⟨g, cap', hv, _, hlt⟩ := h.form h0
    injection hv with hA
    subst hA
    refine .inr ⟨g, 0, rfl, hlt, fun i hi => ?_⟩
    simp only [Nat.zero_add]
    have hc := fun j (hj : j < 4) => (h.cellAt (i * 4 + j) (by omega)).trans (pcs_get ps i hi j hj)
    exact ⟨hc 0 (by omega), hc 1 (by omega), hc 2 (by omega), hc 3 (by omega)⟩
/-- Marks lie in pipes. -/
def MP (w : World) (g m n : Nat) : Prop := g < w.heap.size ∧ ∀ j, j < n * 4 → w.cell? ⟨g, j, none⟩ = some (iv ((m + j : Nat) : Int))
theorem MP.kept {w w' : World} {g m n : Nat} (h : MP w g m n) (hb : Below w.heap.size w w') : MP w' g m n :=
  ⟨Nat.lt_of_lt_of_le h.1 hb.size, fun j hj => (hb.cell (p := ⟨g, j, none⟩) h.1).trans (h.2 j hj)⟩
/-- A network whose pipes the call owns, beside a bool. -/
def GivesNI (w : World) (N : Int) (L : List Pp) (ok : Bool) (e : Ending) (w' : World) : Prop :=
  ∃ g c B, e = .returned (.tuple #[nv N (some ⟨g, 0, none⟩) L.length c, .bool ok]) ∧ w.heap.size ≤ g ∧ w'.ownsRow B 40 4 (.slice (some ⟨g, 0, none⟩) L.length c) L.length (pcs L) ∧ Below w.heap.size w w'
/-- A network without pipes, whose slice is nil, beside a bool. -/
def GivesN0 (w : World) (N : Int) (ok : Bool) (e : Ending) (w' : World) : Prop := e = .returned (.tuple #[nv N none 0 0, .bool ok]) ∧ Below w.heap.size w w'
/-- A network whose pipes can be read, beside a bool. -/
def GivesNA (w : World) (N : Int) (L : List Pp) (ok : Bool) (e : Ending) (w' : World) : Prop :=
  ∃ A c, e = .returned (.tuple #[nv N A L.length c, .bool ok]) ∧ L.length ≤ c ∧ PAt w' A L ∧ Below w.heap.size w w'
theorem GivesNA.none {w w' : World} (h : Below w.heap.size w w') : GivesNA w 0 [] false (.returned (.tuple #[nv 0 none 0 0, .bool false])) w' :=
  ⟨Option.none, 0, rfl, Nat.le_refl _, .inl rfl, h⟩
theorem PRow.far {w w' : World} {g x : Nat} {ps : List Pp} (h : PRow w g ps) (hg : w.grownBy w' (some x)) (hne : g ≠ x) : PRow w' g ps :=
  World.rowIs.of_block h (hg.block g h.lt (by simp; exact fun e => hne e))
theorem MP.far {w w' : World} {g m n x : Nat} (h : MP w g m n) (hb : w.grownBy w' (some x)) (hg : g ≠ x) : MP w' g m n :=
  ⟨Nat.lt_of_lt_of_le h.1 hb.size, fun j hj => (hb.cell_far ⟨g, j, none⟩ h.1 (by simp; exact hg)).trans (h.2 j hj)⟩
/-- A network, a slice of numbers and a bool: what the model gives; what the program gives, each of its own; the same where there are no pipes. -/
def GivesXA (w : World) (N : Int) (L : List Pp) (I : List Int) (ok : Bool) (e : Ending) (w' : World) : Prop :=
  ∃ A c g o ci, e = .returned (.tuple #[nv N A L.length c, .slice (some ⟨g, o, none⟩) I.length ci, .bool ok]) ∧ L.length ≤ c ∧ PAt w' A L ∧ w.heap.size ≤ g ∧ IAt w' (some ⟨g, o, none⟩) I ∧ Below w.heap.size w w' ∧ g < w'.heap.size
def GivesXI (w : World) (N : Int) (L : List Pp) (I : List Int) (ok : Bool) (e : Ending) (w' : World) : Prop :=
  ∃ g c B gi ci, e = .returned (.tuple #[nv N (some ⟨g, 0, none⟩) L.length c, .slice (some ⟨gi, 0, none⟩) I.length ci, .bool ok]) ∧ w.heap.size ≤ g ∧ w.heap.size ≤ gi ∧ g ≠ gi ∧ w'.ownsRow B 40 4 (.slice (some ⟨g, 0, none⟩) L.length c) L.length (pcs L) ∧ IOwn w' w.heap.size (.slice (some ⟨gi, 0, none⟩) I.length ci) I ∧ Below w.heap.size w w'
def GivesX0 (w : World) (N : Int) (I : List Int) (ok : Bool) (e : Ending) (w' : World) : Prop :=
  ∃ gi ci, e = .returned (.tuple #[nv N none 0 0, .slice (some ⟨gi, 0, none⟩) I.length ci, .bool ok]) ∧ w.heap.size ≤ gi ∧ IOwn w' w.heap.size (.slice (some ⟨gi, 0, none⟩) I.length ci) I ∧ Below w.heap.size w w'
end Go.Proofs.Ytlkomipjamelkab.S2
namespace Go.Proofs.Ytlkomipjamelkab.S2
open Go.RowKit Go.ChangeShapes Go.WideShapes Go.Deep Go.Joins P2

def fiI (l : List Int) (j : Nat) : List Value := (l.take j).map iv ++ List.replicate (l.length - j) (iv 0)
theorem fiI_len (l : List Int) (j : Nat) (h : j ≤ l.length) : (fiI l j).length = l.length := by simp [fiI]; omega
theorem fiI_set (l : List Int) (j : Nat) (h : j < l.length) : (fiI l j).set j (iv (l.getD j 0)) = fiI l (j + 1) := by
  unfold fiI
  have e1 : ((l.take j).map iv).length = j := by simp; omega
  have e2 : l.length - j = (l.length - (j + 1)) + 1 := by omega
  have e3 : l.getD j 0 = l[j] := by simp [List.getD, h]
  rw [List.set_append_right _ _ (by omega), e1, Nat.sub_self, e2, List.replicate_succ, List.set_cons_zero, List.take_succ_eq_append_getElem h, List.map_append, e3]
  simp
theorem fiI_has (l : List Int) (j : Nat) (h : j < l.length) : ∃ u, (fiI l j)[j]? = some u := ⟨_, List.getElem?_eq_getElem (by rw [fiI_len l j (by omega)]; exact h)⟩
theorem fiI_full (l : List Int) : fiI l l.length = l.map iv := by simp [fiI]
theorem made_own (l : List Int) (w : World) (hn : l.length ≤ 1048576) : (w.alloc (.cells (madeCells #[.int .i64 0] l.length) 3)).ownsRow w.heap.size 3 1 (.slice (some ⟨w.heap.size, 0, none⟩) l.length l.length) l.length (fiI l 0) := by
  have hs : (madeCells #[Value.int .i64 0] l.length).toList = List.replicate l.length (iv 0) := toList_madeCells_one _ _
  have hz : (madeCells #[Value.int .i64 0] l.length).size = l.length := by rw [← Array.length_toList, hs]; simp
  refine ⟨by simp [fiI], .inr ⟨w.heap.size, l.length, madeCells #[.int .i64 0] l.length, rfl, Nat.le_refl _, heap_alloc_new w _, Nat.le_refl _, by unfold maxLen; omega, by simpa using hz, ?_⟩⟩
  simp [fiI, hs]


section
variable {H : Type} {enc : TypeId × Value → H} {P : Program} {w : World} {base : Nat} {spare : Nat → Bool} {held : Bool}
theorem trodAll_five {t0 t1 t2 t3 t4 : TypeId} {args : Array Value} {ds : List (DataW H)} {ps : List MemPlace} (h : DataW.TrodAll enc P w base spare held [t0, t1, t2, t3, t4] args.toList ds ps) :
    ∃ v0 v1 v2 v3 v4 d0 d1 d2 d3 d4 p0 p1 p2 p3 p4, args = #[v0, v1, v2, v3, v4] ∧ ds = [d0, d1, d2, d3, d4] ∧ ps = p0 ++ p1 ++ p2 ++ p3 ++ p4 ∧ DataW.Trod enc P w base spare held t0 v0 d0 p0 ∧ DataW.Trod enc P w base spare held t1 v1 d1 p1 ∧ DataW.Trod enc P w base spare held t2 v2 d2 p2 ∧ DataW.Trod enc P w base spare held t3 v3 d3 p3 ∧ DataW.Trod enc P w base spare held t4 v4 d4 p4 := by
  obtain ⟨v0, vs0, d0, ds0, p0, q0, hargs, rfl, rfl, h0, r0⟩ := trodAll_cons h
  obtain ⟨v1, vs1, d1, ds1, p1, q1, rfl, rfl, rfl, h1, r1⟩ := trodAll_cons r0
  obtain ⟨v2, vs2, d2, ds2, p2, q2, rfl, rfl, rfl, h2, r2⟩ := trodAll_cons r1
  obtain ⟨v3, vs3, d3, ds3, p3, q3, rfl, rfl, rfl, h3, r3⟩ := trodAll_cons r2
  obtain ⟨v4, vs4, d4, ds4, p4, q4, rfl, rfl, rfl, h4, r4⟩ := trodAll_cons r3
  obtain ⟨rfl, rfl, rfl⟩ := trodAll_nil r4
  exact ⟨v0, v1, v2, v3, v4, d0, d1, d2, d3, d4, p0, p1, p2, p3, p4, by cases args; simp_all, rfl, by simp, h0, h1, h2, h3, h4⟩
theorem trodAll_six {t0 t1 t2 t3 t4 t5 : TypeId} {args : Array Value} {ds : List (DataW H)} {ps : List MemPlace} (h : DataW.TrodAll enc P w base spare held [t0, t1, t2, t3, t4, t5] args.toList ds ps) :
    ∃ v0 v1 v2 v3 v4 v5 d0 d1 d2 d3 d4 d5 p0 p1 p2 p3 p4 p5, args = #[v0, v1, v2, v3, v4, v5] ∧ ds = [d0, d1, d2, d3, d4, d5] ∧ ps = p0 ++ p1 ++ p2 ++ p3 ++ p4 ++ p5 ∧ DataW.Trod enc P w base spare held t0 v0 d0 p0 ∧ DataW.Trod enc P w base spare held t1 v1 d1 p1 ∧ DataW.Trod enc P w base spare held t2 v2 d2 p2 ∧ DataW.Trod enc P w base spare held t3 v3 d3 p3 ∧ DataW.Trod enc P w base spare held t4 v4 d4 p4 ∧ DataW.Trod enc P w base spare held t5 v5 d5 p5 := by
  obtain ⟨v0, vs0, d0, ds0, p0, q0, hargs, rfl, rfl, h0, r0⟩ := trodAll_cons h
  obtain ⟨v1, vs1, d1, ds1, p1, q1, rfl, rfl, rfl, h1, r1⟩ := trodAll_cons r0
  obtain ⟨v2, vs2, d2, ds2, p2, q2, rfl, rfl, rfl, h2, r2⟩ := trodAll_cons r1
  obtain ⟨v3, vs3, d3, ds3, p3, q3, rfl, rfl, rfl, h3, r3⟩ := trodAll_cons r2
  obtain ⟨v4, vs4, d4, ds4, p4, q4, rfl, rfl, rfl, h4, r4⟩ := trodAll_cons r3
  obtain ⟨v5, vs5, d5, ds5, p5, q5, rfl, rfl, rfl, h5, r5⟩ := trodAll_cons r4
  obtain ⟨rfl, rfl, rfl⟩ := trodAll_nil r5
  exact ⟨v0, v1, v2, v3, v4, v5, d0, d1, d2, d3, d4, d5, p0, p1, p2, p3, p4, p5, by cases args; simp_all, rfl, by simp, h0, h1, h2, h3, h4, h5⟩
theorem trodAll_mk5 {t0 t1 t2 t3 t4 : TypeId} {v0 v1 v2 v3 v4 : Value} {d0 d1 d2 d3 d4 : DataW H} {p0 p1 p2 p3 p4 : List MemPlace} (h0 : DataW.Trod enc P w base spare held t0 v0 d0 p0) (h1 : DataW.Trod enc P w base spare held t1 v1 d1 p1)
    (h2 : DataW.Trod enc P w base spare held t2 v2 d2 p2) (h3 : DataW.Trod enc P w base spare held t3 v3 d3 p3) (h4 : DataW.Trod enc P w base spare held t4 v4 d4 p4) : DataW.TrodAll enc P w base spare held [t0, t1, t2, t3, t4] [v0, v1, v2, v3, v4] [d0, d1, d2, d3, d4] (p0 ++ (p1 ++ (p2 ++ (p3 ++ p4)))) := ⟨p0, p1 ++ (p2 ++ (p3 ++ p4)), h0, trodAll_mk4 h1 h2 h3 h4, rfl⟩
theorem trodAll_mk6 {t0 t1 t2 t3 t4 t5 : TypeId} {v0 v1 v2 v3 v4 v5 : Value} {d0 d1 d2 d3 d4 d5 : DataW H} {p0 p1 p2 p3 p4 p5 : List MemPlace} (h0 : DataW.Trod enc P w base spare held t0 v0 d0 p0) (h1 : DataW.Trod enc P w base spare held t1 v1 d1 p1)
    (h2 : DataW.Trod enc P w base spare held t2 v2 d2 p2) (h3 : DataW.Trod enc P w base spare held t3 v3 d3 p3) (h4 : DataW.Trod enc P w base spare held t4 v4 d4 p4) (h5 : DataW.Trod enc P w base spare held t5 v5 d5 p5) : DataW.TrodAll enc P w base spare held [t0, t1, t2, t3, t4, t5] [v0, v1, v2, v3, v4, v5] [d0, d1, d2, d3, d4, d5] (p0 ++ (p1 ++ (p2 ++ (p3 ++ (p4 ++ p5))))) := ⟨p0, p1 ++ (p2 ++ (p3 ++ (p4 ++ p5))), h0, trodAll_mk5 h1 h2 h3 h4 h5, rfl⟩
end

section
variable {H : Type} {enc : TypeId × Value → H} {w : World}
set_option maxRecDepth 100000 in
/-- A law's argument that is a slice of numbers, opened. -/
theorem intsarg_open {r : Reach} {b0 : Nat} {v : Value} {d : DataW H} {p : List MemPlace} (hv : Value.okWide Try.prog w r b0 27 v) (h : DataW.Trod enc Try.prog w 0 (fun _ => true) true 27 v d p) :
    ∃ (A : Option Addr) (cap : Nat) (l : List Int), v = .slice A l.length cap ∧ IAt w A l ∧ l.length ≤ maxLen := by
  obtain ⟨a, len, cp, rfl⟩ := okWide_slice Try.underlying27 hv
  obtain ⟨fuel, h⟩ := h
  rcases open_slice Try.underlying27 h with ⟨hcs, _⟩ | ⟨a', len', cap', m, n, D, Pl, hcs, _, hl, hm, hmm, _, hi⟩
  · injection hcs with hcs
    injection hcs with h1 h2 h3
    subst h1 h2 h3
    exact ⟨none, 0, [], rfl, .inl rfl, by simp⟩
  · injection hcs with hcs
    injection hcs with h1 h2 h3
    subst h1 h2 h3
    have hm' : len ≤ m := by rw [hmm]; split <;> omega
    have hq : ∀ i, ∃ x : Int, i < len → w.cell? (a'.add i) = some (iv x) := by
      intro i
      by_cases hil : i < len
      · obtain ⟨cs', hc, ht⟩ := hi i (by omega)
        rw [intsOne] at hc
        obtain ⟨h4, _, hat⟩ := World.cells?_some hc
        match cs', h4 with
        | [c], _ =>
          obtain ⟨x, e, _⟩ := DataW.trod_int (cs := [c]) Try.underlying3 ht
          injection e with e
          refine ⟨x, fun _ => ?_⟩
          have := hat 0 (by simp)
          rw [e] at this
          simpa [Addr.add] using this
      · exact ⟨0, fun h => absurd h hil⟩
    obtain ⟨f, hf⟩ := Classical.axiomOfChoice hq
    have hlen : ((List.range len).map f).length = len := by simp
    refine ⟨some a', cp, (List.range len).map f, by rw [hlen], ?_, by rw [hlen]; omega⟩
    by_cases h0 : len = 0
    · subst h0; exact .inl rfl
    · obtain ⟨b, off, spot⟩ := a'
      have hspot : spot = none := by
        have := hf 0 (by omega)
        simpa [Addr.add] using World.cell?_spot this
      subst hspot
      have hbl : b < w.heap.size := by
        have := World.block_lt_of_cell? w _ (hf 0 (by omega))
        rw [add_plus] at this
        exact this
      refine .inr ⟨b, off, rfl, hbl, fun i hi' => ?_⟩
      rw [hlen] at hi'
      have e : ((List.range len).map f).getD i 0 = f i := by simp [List.getD, hi']
      have := hf i hi'
      rw [add_plus] at this
      rw [e]; exact this
end
theorem pat_set1 {w : World} {g : Nat} {ps : List Pp} {p : Addr} {v : Value} (h : PAt w (some ⟨g, 0, none⟩) ps) (hne : p.block ≠ g) : PAt (w.setCell p v) (some ⟨g, 0, none⟩) ps := by
  rcases h with h | ⟨b, off, hA, hlt, hc⟩
  · exact .inl h
  · refine .inr ⟨b, off, hA, by simpa using hlt, fun i hi => ?_⟩
    injection hA with hA
    injection hA with hb _ _
    have hp : p.block ≠ b := by rw [← hb]; exact hne
    obtain ⟨h0, h1, h2, h3⟩ := hc i hi
    exact ⟨(World.cell?_setCell_far _ p _ _ hp).trans h0, (World.cell?_setCell_far _ p _ _ hp).trans h1, (World.cell?_setCell_far _ p _ _ hp).trans h2, (World.cell?_setCell_far _ p _ _ hp).trans h3⟩
end Go.Proofs.Ytlkomipjamelkab.S2
