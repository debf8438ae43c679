/- A pumping as a value: its box, its size, its copy, its comparison, its marks; an argument opened: contracts. Conditions: each theorem's own premises. -/
import Derived.Test.YtlkomipjamelkaaTkLaw
import Derived.Test.YtlkomipjamelkaaPuPlain
import Derived.Lib.SmallJoins
import Derived.Deep.DeepCutAuto
namespace Go.Proofs.Ytlkomipjamelkaa.S13
open Go.RowKit Go.Sort Go.ChangeShapes Go.WideShapes Go.Deep Go.Joins P11 S11 P13

/-- A pumping as a value. -/
abbrev pv (p : Pg) (A : Option Addr) (c : Nat) (A2 : Option Addr) (c2 : Nat) : Value := .agg #[.int .i64 p.L, .int .i64 p.a, .int .i64 p.b, .int .i64 p.pm, .slice A p.xs.length c, .slice A2 p.ys.length c2]
/-- A pumping in its box. -/
abbrev po (t : TypeId) (p : Pg) (A : Option Addr) (c : Nat) (A2 : Option Addr) (c2 : Nat) : Obj := .cells #[.int .i64 p.L, .int .i64 p.a, .int .i64 p.b, .int .i64 p.pm, .slice A p.xs.length c, .slice A2 p.ys.length c2] t
/-- The cells of a box of six, from a place on. -/
structure B6 (w : World) (g o : Nat) (p : Pg) (A : Option Addr) (c : Nat) (A2 : Option Addr) (c2 : Nat) : Prop where
  lt : g < w.heap.size
  k0 : w.cell? ⟨g, o, none⟩ = some (.int .i64 p.L)
  k1 : w.cell? ⟨g, o + 1, none⟩ = some (.int .i64 p.a)
  k2 : w.cell? ⟨g, o + 2, none⟩ = some (.int .i64 p.b)
  k3 : w.cell? ⟨g, o + 3, none⟩ = some (.int .i64 p.pm)
  k4 : w.cell? ⟨g, o + 4, none⟩ = some (.slice A p.xs.length c)
  k5 : w.cell? ⟨g, o + 5, none⟩ = some (.slice A2 p.ys.length c2)
theorem B6.new (w : World) (t : TypeId) (p : Pg) (A : Option Addr) (c : Nat) (A2 : Option Addr) (c2 : Nat) : B6 (w.alloc (po t p A c A2 c2)) w.heap.size 0 p A c A2 c2 := by
  refine ⟨by simp, ?_, ?_, ?_, ?_, ?_, ?_⟩ <;> (rw [World.cell?_alloc_at _ _ _ _ rfl]; rfl)
theorem B6.keep {w w' : World} {g o S : Nat} {p : Pg} {A : Option Addr} {c : Nat} {A2 : Option Addr} {c2 : Nat} (h : B6 w g o p A c A2 c2) (hb : Below S w w') (hS : g < S) : B6 w' g o p A c A2 c2 :=
  ⟨Nat.lt_of_lt_of_le h.lt hb.size, (hb.cell (p := ⟨g, o, none⟩) hS).trans h.k0, (hb.cell (p := ⟨g, o + 1, none⟩) hS).trans h.k1, (hb.cell (p := ⟨g, o + 2, none⟩) hS).trans h.k2, (hb.cell (p := ⟨g, o + 3, none⟩) hS).trans h.k3, (hb.cell (p := ⟨g, o + 4, none⟩) hS).trans h.k4, (hb.cell (p := ⟨g, o + 5, none⟩) hS).trans h.k5⟩
theorem B6.kept {w w' : World} {g o : Nat} {p : Pg} {A : Option Addr} {c : Nat} {A2 : Option Addr} {c2 : Nat} (h : B6 w g o p A c A2 c2) (hb : Below w.heap.size w w') : B6 w' g o p A c A2 c2 := h.keep hb h.lt
theorem B6.far {w w' : World} {g o x : Nat} {p : Pg} {A : Option Addr} {c : Nat} {A2 : Option Addr} {c2 : Nat} (h : B6 w g o p A c A2 c2) (hg : w.grownBy w' (some x)) (hne : g ≠ x) : B6 w' g o p A c A2 c2 :=
  have q := fun j => hg.cell_far ⟨g, j, none⟩ h.lt (by simpa using hne)
  ⟨Nat.lt_of_lt_of_le h.lt hg.size, (q _).trans h.k0, (q _).trans h.k1, (q _).trans h.k2, (q _).trans h.k3, (q _).trans h.k4, (q _).trans h.k5⟩
theorem B6.out {w : World} {g : Nat} {p : Pg} {A : Option Addr} {c : Nat} {A2 : Option Addr} {c2 : Nat} (h : B6 w g 0 p A c A2 c2) :
    w.cell? ⟨g, 0, none⟩ = some (.int .i64 p.L) ∧ w.cell? ⟨g, 1, none⟩ = some (.int .i64 p.a) ∧ w.cell? ⟨g, 2, none⟩ = some (.int .i64 p.b) ∧ w.cell? ⟨g, 3, none⟩ = some (.int .i64 p.pm) ∧
    w.cell? ⟨g, 4, none⟩ = some (.slice A p.xs.length c) ∧ w.cell? ⟨g, 5, none⟩ = some (.slice A2 p.ys.length c2) := by
  obtain ⟨_, a0, a1, a2, a3, a4, a5⟩ := h
  simp only [Nat.zero_add] at a1 a2 a3 a4 a5
  exact ⟨a0, a1, a2, a3, a4, a5⟩
/-- The lists of a pumping lie there. -/
structure PAt (w : World) (p : Pg) (A A2 : Option Addr) : Prop where
  x : IAt w A p.xs
  y : IAt w A2 p.ys
  xl : p.xs.length ≤ 1048576
  yl : p.ys.length ≤ 1048576
theorem PAt.kept {w w' : World} {p : Pg} {A A2 : Option Addr} (h : PAt w p A A2) (hb : Below w.heap.size w w') : PAt w' p A A2 := ⟨h.x.kept hb (Nat.le_refl _), h.y.kept hb (Nat.le_refl _), h.xl, h.yl⟩

theorem szints_any (A : Option Addr) (len cap : Nat) (left : Int) (w : World) (hm : len ≤ maxLen) (h0 : 0 ≤ left) (h9 : left ≤ 1048576) :
    Calls Try.prog 35 #[.slice A len cap, .int .i64 left] w fun e w' => (∃ r : Int, e = .returned (.int .i64 r) ∧ (r < 0 ∨ (0 ≤ r ∧ r ≤ 1048576 ∧ len ≤ 1048576))) ∧ w' = w := by
  unfold maxLen at hm
  by_cases hl : (len : Int) ≤ left
  · go_enter Try.func35, Try.ntmps35
    go_wp2
    go_ret
    exact ⟨⟨_, rfl, .inr ⟨by omega, by omega, by omega⟩⟩, rfl⟩
  · go_enter Try.func35, Try.ntmps35
    go_wp2
    go_ret
    exact ⟨⟨_, rfl, .inl (by omega)⟩, rfl⟩
set_option maxHeartbeats 1000000 in
theorem szpump_any (p : Pg) (A : Option Addr) (c : Nat) (A2 : Option Addr) (c2 : Nat) (left : Int) (w : World) (hm : p.xs.length ≤ maxLen) (hm2 : p.ys.length ≤ maxLen) (h0 : 0 ≤ left) (h9 : left ≤ 1048576) :
    Calls Try.prog 11 #[pv p A c A2 c2, .int .i64 left] w fun e w' => (∃ r : Int, e = .returned (.int .i64 r) ∧ (r < 0 ∨ (0 ≤ r ∧ p.xs.length ≤ 1048576 ∧ p.ys.length ≤ 1048576))) ∧ Below w.heap.size w w' := by
  have HB := Lib.hid (alloc_below w (po 26 p A c A2 c2))
  have H := Lib.hid (fun w => szints_any A p.xs.length c left w hm h0 h9)
  have H2 := Lib.hid (fun r w h0 h9 => szints_any A2 p.ys.length c2 r w hm2 h0 h9)
  clear hm hm2 h0 h9
  go_enter Try.func11, Try.ntmps11
  go_wp2_with (first | (go_at_call 35; refine (H.out _).mono ?_; rintro e w1 ⟨⟨r, rfl, hr⟩, hw⟩; replace hw := hw.symm; subst hw; refine Hid.out ?_) | fail)
  rcases hr with hr | ⟨hr0, hr1, hn⟩
  · refine Lib.hid ?_
    go_wp2_with fail
    go_ret
    exact ⟨⟨_, rfl, .inl (by omega)⟩, HB.out⟩
  · have hnl : ¬ r < 0 := by omega
    refine Lib.hid ?_
    go_wp2_with (first | (go_at_call 35; refine (H2.out r _ hr0 hr1).mono ?_; rintro e w1 ⟨⟨s, rfl, hs⟩, hw⟩; replace hw := hw.symm; subst hw; refine Hid.out ?_) | fail)
    rcases hs with hs | ⟨hs0, hs1, hn2⟩
    · refine Lib.hid ?_
      go_wp2_with fail
      go_ret
      exact ⟨⟨_, rfl, .inl (by omega)⟩, HB.out⟩
    · have hsl : ¬ s < 0 := by omega
      refine Lib.hid ?_
      go_wp2_with fail
      go_ret
      exact ⟨⟨s, rfl, Or.inr hs0⟩, HB.out⟩
set_option maxHeartbeats 1000000 in
theorem eqpump_same (p : Pg) (A : Option Addr) (c : Nat) (A2 : Option Addr) (c2 : Nat) (B : Option Addr) (d : Nat) (B2 : Option Addr) (d2 : Nat) (w : World) (h : PAt w p A A2) (h2 : PAt w p B B2) :
    Calls Try.prog 15 #[pv p A c A2 c2, pv p B d B2 d2] w fun e w' => e = .returned (.bool true) ∧ Below w.heap.size w w' := by
  have HB := Lib.hid (two_below w (po 31 p A c A2 c2) (po 31 p B d B2 d2))
  have HT := Lib.hid (fun w => eqtk_same p.L p.a p.b w)
  have HX := Lib.hid (fun w' (hb : Below w.heap.size w w') => eqints_same A B c d p.xs w' (h.x.kept hb (Nat.le_refl _)) (h2.x.kept hb (Nat.le_refl _)) h.xl)
  have HY := Lib.hid (fun w' (hb : Below w.heap.size w w') => eqints_same A2 B2 c2 d2 p.ys w' (h.y.kept hb (Nat.le_refl _)) (h2.y.kept hb (Nat.le_refl _)) h.yl)
  have h6 := (B6.new w 31 p A c A2 c2).kept (alloc_below _ (po 31 p B d B2 d2))
  have k6 := B6.new (w.alloc (po 31 p A c A2 c2)) 31 p B d B2 d2
  rw [alloc_size] at k6
  have H6 := Lib.hid h6
  have K6 := Lib.hid k6
  clear h h2 h6 k6
  go_enter Try.func15, Try.ntmps15
  go_wp2_with (first | (go_at_call 40; refine (HT.out _).mono ?_; rintro e w1 ⟨rfl, hb1⟩; refine Hid.out ?_) | fail)
  have HB1 := Lib.hid (HB.out.trans (hb1.mono HB.out.size))
  obtain ⟨a0, a1, a2, a3, a4, a5⟩ := (H6.out.kept hb1).out
  obtain ⟨b0, b1, b2, b3, b4, b5⟩ := (K6.out.kept hb1).out
  have H61 := Lib.hid (H6.out.kept hb1)
  have K61 := Lib.hid (K6.out.kept hb1)
  clear hb1 HB H6 K6 HT
  refine Lib.hid ?_
  go_wp2_with (first | (go_at_call 19; refine (HX.out _ HB1.out).mono ?_; rintro e w2 ⟨rfl, hb2⟩; refine Hid.out ?_) | fail)
  have HB2 := Lib.hid (HB1.out.trans (hb2.mono HB1.out.size))
  clear a0 a1 a2 a3 a4 a5 b0 b1 b2 b3 b4 b5
  obtain ⟨a0, a1, a2, a3, a4, a5⟩ := (H61.out.kept hb2).out
  obtain ⟨b0, b1, b2, b3, b4, b5⟩ := (K61.out.kept hb2).out
  clear hb2 HB1 H61 K61 HX
  refine Lib.hid ?_
  go_wp2_with (first | (go_at_call 19; refine (HY.out _ HB2.out).mono ?_; rintro e w3 ⟨rfl, hb3⟩; refine Hid.out ?_) | fail)
  have HB3 := Lib.hid (HB2.out.trans (hb3.mono HB2.out.size))
  refine Lib.hid ?_
  go_wp2_with fail
  go_ret
  exact ⟨rfl, HB3.out⟩
theorem grown_new {w w' : World} {o : Obj} {g : Nat} (h : (w.alloc o).grownBy w' (some g)) : w.grownBy w' (some g) :=
  ⟨h.os, h.tape, h.output, by have := h.size; simp at this; omega, fun k hk hne => by
    rw [h.block k (by simp; omega) hne]
    exact (alloc_below w o).block k hk⟩
set_option maxHeartbeats 1000000 in
theorem markpump_i (B g g2 c c2 m : Nat) (mi : Int) (p : Pg) (w : World) (h : IOwn w B (.slice (some ⟨g, 0, none⟩) p.xs.length c) p.xs) (h2 : IOwn w B (.slice (some ⟨g2, 0, none⟩) p.ys.length c2) p.ys) (hne : g ≠ g2)
    (hn : p.xs.length ≤ 1048576) (hn2 : p.ys.length ≤ 1048576) (hm : m ≤ 1000000) (hmi : mi = (m : Int)) :
    Calls Try.prog 26 #[pv p (some ⟨g, 0, none⟩) c (some ⟨g2, 0, none⟩) c2, .int .i64 mi] w fun e w' => e = .returned (.int .i64 (mi + (p.xs.length : Int) + (p.ys.length : Int))) ∧ ∃ w1, w.grownBy w1 (some g) ∧ w1.grownBy w' (some g2) := by
  have H := Lib.hid (fun w' (hb : Below w.heap.size w w') => markints_i B g c m mi p.xs w' (h.on hb) hn (by omega) hmi)
  have hg := iown_lt h
  have hg2 := iown_lt h2
  have H2 := Lib.hid (fun w' w'' (hb : Below w.heap.size w w') (hgr : w'.grownBy w'' (some g)) => markints_i B g2 c2 (m + p.xs.length) (mi + (p.xs.length : Int)) p.ys w'' ((h2.on hb).far hgr (Ne.symm hne)) hn2 (by omega) (by omega))
  have H6 := Lib.hid (B6.new w 31 p (some ⟨g, 0, none⟩) c (some ⟨g2, 0, none⟩) c2)
  clear h h2 hn hn2 hm hmi
  generalize mi + (p.xs.length : Int) = z at *
  generalize z + (p.ys.length : Int) = z2 at *
  go_enter Try.func26, Try.ntmps26
  go_wp2_with (first | (go_at_call 27; refine (H.out _ (alloc_below _ _)).mono ?_; rintro e w1 ⟨rfl, ho1, hg1⟩; refine Hid.out ?_) | fail)
  obtain ⟨a0, a1, a2, a3, a4, a5⟩ := (H6.out.far hg1 (by omega)).out
  have H3 := Lib.hid (H2.out _ _ (alloc_below _ _) hg1)
  have HG1 := Lib.hid (grown_new hg1)
  clear hg1 H H2 H6 ho1
  refine Lib.hid ?_
  go_wp2_with (first | (go_at_call 27; refine H3.out.mono ?_; rintro e w2 ⟨rfl, ho2, hg2⟩; refine Hid.out ?_) | fail)
  refine Lib.hid ?_
  go_wp2_with fail
  go_ret
  exact ⟨rfl, _, HG1.out, hg2⟩
section
variable {H : Type} {enc : TypeId × Value → H} {w : World}
theorem ints_open {fuel : Nat} {v : Value} {x : DataW H × List MemPlace} (h : DataW.trod enc Try.prog w 0 (fun _ => true) true fuel 24 [v] = some x) :
    ∃ (A : Option Addr) (cap : Nat) (l : List Int), v = .slice A l.length cap ∧ IAt w A l ∧ l.length ≤ maxLen := by
  rcases open_slice Try.underlying24 h with ⟨hcs, _⟩ | ⟨a', len, cp, m, n, D, Pl, hcs, _, hl, hm, hmm, _, hi⟩
  · injection hcs with hcs
    exact ⟨none, 0, [], hcs, .inl rfl, by simp⟩
  · injection hcs with hcs
    subst hcs
    have hm' : len ≤ m := by rw [hmm]; split <;> omega
    have hq : ∀ i, ∃ x : Int, i < len → w.cell? (a'.add i) = some (iv x) := by
      intro i
      by_cases hil : i < len
      · obtain ⟨cs', hc, ht⟩ := hi i (by omega)
        rw [intsOne] at hc
        obtain ⟨h4, _, hat⟩ := World.cells?_some hc
        match cs', h4 with
        | [c], _ =>
          obtain ⟨x, e, _⟩ := DataW.trod_int (cs := [c]) Try.underlying3 ht
          injection e with e
          refine ⟨x, fun _ => ?_⟩
          have := hat 0 (by simp)
          rw [e] at this
          simpa [Addr.add] using this
      · exact ⟨0, fun h => absurd h hil⟩
    obtain ⟨f, hf⟩ := Classical.axiomOfChoice hq
    have hlen : ((List.range len).map f).length = len := by simp
    refine ⟨some a', cp, (List.range len).map f, by rw [hlen], ?_, by rw [hlen]; omega⟩
    by_cases h0 : len = 0
    · subst h0; exact .inl rfl
    · obtain ⟨b, off, spot⟩ := a'
      have hspot : spot = none := by
        have := hf 0 (by omega)
        simpa [Addr.add] using World.cell?_spot this
      subst hspot
      have hbl : b < w.heap.size := by
        have := World.block_lt_of_cell? w _ (hf 0 (by omega))
        rw [add_plus] at this
        exact this
      refine .inr ⟨b, off, rfl, hbl, fun i hi' => ?_⟩
      rw [hlen] at hi'
      have e : ((List.range len).map f).getD i 0 = f i := by simp [List.getD, hi']
      have := hf i hi'
      rw [add_plus] at this
      rw [e]; exact this
theorem array6 {α : Type} {cs : Array α} (h : cs.size = 6) : ∃ c0 c1 c2 c3 c4 c5, cs = #[c0, c1, c2, c3, c4, c5] := by
  obtain ⟨l⟩ := cs
  match l, h with
  | [c0, c1, c2, c3, c4, c5], _ => exact ⟨c0, c1, c2, c3, c4, c5, rfl⟩
theorem pumpSix : Try.prog.cellsOf 26 = 6 := by kernel_rfl
theorem tankThree : Try.prog.cellsOf 23 = 3 := by kernel_rfl
theorem sliceOne : Try.prog.cellsOf 24 = 1 := by kernel_rfl
set_option maxRecDepth 100000 in
theorem pump_open {r : Reach} {b0 : Nat} {v : Value} {d : DataW H} {q : List MemPlace} (hv : Value.okWide Try.prog w r b0 26 v) (h : DataW.Trod enc Try.prog w 0 (fun _ => true) true 26 v d q) :
    ∃ (p : Pg) (A : Option Addr) (c : Nat) (A2 : Option Addr) (c2 : Nat), v = pv p A c A2 c2 ∧ IAt w A p.xs ∧ IAt w A2 p.ys ∧ p.xs.length ≤ maxLen ∧ p.ys.length ≤ maxLen := by
  obtain ⟨cs, rfl, hsz⟩ := okWide_struct Try.underlying26 hv
  obtain ⟨v0, v1, v2, v3, v4, v5, rfl⟩ := array6 (hsz.trans pumpSix)
  obtain ⟨fuel, hf⟩ := h
  obtain ⟨y0, y1, y2, y3, n, _, _, h0, h1, h2, h3⟩ := trod_struct4 Try.underlying26 hf
  simp [Value.cells, tankThree, intsOne, sliceOne] at h0 h1 h2 h3
  obtain ⟨z0, z1, z2, n2, _, _, k0, k1, k2⟩ := trod_struct3 Try.underlying23 h0
  simp [intsOne] at k0 k1 k2
  obtain ⟨L, e0, _⟩ := DataW.trod_int Try.underlying3 k0
  injection e0 with e0
  obtain ⟨a, e1, _⟩ := DataW.trod_int Try.underlying3 k1
  injection e1 with e1
  obtain ⟨b, e2, _⟩ := DataW.trod_int Try.underlying3 k2
  injection e2 with e2
  obtain ⟨pm, e3, _⟩ := DataW.trod_int Try.underlying3 h1
  injection e3 with e3
  obtain ⟨A, c, xs, e4, hx, hxl⟩ := ints_open h2
  obtain ⟨A2, c2, ys, e5, hy, hyl⟩ := ints_open h3
  exact ⟨⟨L, a, b, pm, xs, ys⟩, A, c, A2, c2, by rw [e0, e1, e2, e3, e4, e5], hx, hy, hxl, hyl⟩
end
end Go.Proofs.Ytlkomipjamelkaa.S13
