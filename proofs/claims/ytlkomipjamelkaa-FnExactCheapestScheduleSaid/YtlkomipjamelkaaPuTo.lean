/- Cells of a whole box; a pumping copied: contracts. Conditions: each theorem's own premises. -/
import Derived.Test.YtlkomipjamelkaaPuKit
import Derived.Deep.DeepCutAuto
namespace Go.Proofs.Ytlkomipjamelkaa.S13
open Go.RowKit P11 S11 P13

/-- The first cells of a box. -/
structure CS (w : World) (g : Nat) (l : List Value) : Prop where
  lt : g < w.heap.size
  at_ : ∀ i, i < l.length → w.cell? ⟨g, i, none⟩ = l[i]?
theorem CS.new (w : World) (t : TypeId) (l : List Value) : CS (w.alloc (.cells l.toArray t)) w.heap.size l := by
  refine ⟨by simp, fun i hi => ?_⟩
  rw [World.cell?_alloc_at _ _ _ _ rfl]
  show l.toArray[i]? = l[i]?
  simp
theorem CS.keep {w w' : World} {g S : Nat} {l : List Value} (h : CS w g l) (hb : Below S w w') (hg : g < S) : CS w' g l :=
  ⟨Nat.lt_of_lt_of_le h.lt hb.size, fun i hi => (hb.cell (p := ⟨g, i, none⟩) hg).trans (h.at_ i hi)⟩
theorem CS.kept {w w' : World} {g : Nat} {l : List Value} (h : CS w g l) (hb : Below w.heap.size w w') : CS w' g l := h.keep hb h.lt
theorem CS.far {w w' : World} {g x : Nat} {l : List Value} (h : CS w g l) (hb : w.grownBy w' (some x)) (hne : g ≠ x) : CS w' g l :=
  ⟨Nat.lt_of_lt_of_le h.lt hb.size, fun i hi => (hb.cell_far ⟨g, i, none⟩ h.lt (by simpa using hne)).trans (h.at_ i hi)⟩
theorem CS.off {w : World} {g G j : Nat} {u : Value} {l : List Value} (h : CS w g l) (hne : g ≠ G) : CS (w.setCell ⟨G, j, none⟩ u) g l :=
  ⟨by simpa using h.lt, fun i hi => (World.cell?_setCell_far _ _ _ _ hne.symm).trans (h.at_ i hi)⟩
theorem CS.set {w : World} {g j : Nat} {u : Value} {l : List Value} (h : CS w g l) (hj : j < l.length) : CS (w.setCell ⟨g, j, none⟩ u) g (l.set j u) := by
  refine ⟨by simpa using h.lt, fun i hi => ?_⟩
  rw [List.length_set] at hi
  rw [List.getElem?_set]
  by_cases e : j = i
  · subst e
    rw [if_pos rfl, if_pos hj]
    obtain ⟨v, hv⟩ : ∃ v, l[j]? = some v := ⟨_, List.getElem?_eq_getElem hj⟩
    exact World.cell?_setCell_same _ _ _ ((h.at_ j hj).trans hv)
  · rw [if_neg e]
    exact (World.cell?_setCell_other _ _ _ _ (by intro hh; injection hh with h1 h2; exact e h2)).trans (h.at_ i hi)
theorem CS.six {w : World} {g : Nat} {a b c d e f : Value} (h : CS w g [a, b, c, d, e, f]) : w.cell? ⟨g, 0, none⟩ = some a ∧ w.cell? ⟨g, 1, none⟩ = some b ∧ w.cell? ⟨g, 2, none⟩ = some c ∧ w.cell? ⟨g, 3, none⟩ = some d ∧ w.cell? ⟨g, 4, none⟩ = some e ∧ w.cell? ⟨g, 5, none⟩ = some f :=
  ⟨h.at_ 0 (by simp), h.at_ 1 (by simp), h.at_ 2 (by simp), h.at_ 3 (by simp), h.at_ 4 (by simp), h.at_ 5 (by simp)⟩
theorem fz_six {w : World} {g : Nat} (h : FZ w g) : w.frozen? ⟨g, 0, none⟩ = false ∧ w.frozen? ⟨g, 1, none⟩ = false ∧ w.frozen? ⟨g, 2, none⟩ = false ∧ w.frozen? ⟨g, 3, none⟩ = false ∧ w.frozen? ⟨g, 4, none⟩ = false ∧ w.frozen? ⟨g, 5, none⟩ = false := ⟨h 0, h 1, h 2, h 3, h 4, h 5⟩
/-- The three boxes of a copy under way. -/
structure T3 (w wr : World) (p : Pg) (A : Option Addr) (c : Nat) (A2 : Option Addr) (c2 : Nat) (l : List Value) : Prop where
  arg : CS wr w.heap.size [.int .i64 p.L, .int .i64 p.a, .int .i64 p.b, .int .i64 p.pm, .slice A p.xs.length c, .slice A2 p.ys.length c2]
  res : CS wr (w.heap.size + 1) [.int .i64 0, .int .i64 0, .int .i64 0, .int .i64 0, .slice none 0 0, .slice none 0 0]
  out : CS wr (w.heap.size + 2) l
  fr : FZ wr (w.heap.size + 1)
  fo : FZ wr (w.heap.size + 2)
  bw : Below w.heap.size w wr
theorem T3.call {w wr w2 : World} {p : Pg} {A : Option Addr} {c : Nat} {A2 : Option Addr} {c2 : Nat} {l : List Value} (h : T3 w wr p A c A2 c2 l) (hb : Below wr.heap.size wr w2) : T3 w w2 p A c A2 c2 l :=
  ⟨h.arg.kept hb, h.res.kept hb, h.out.kept hb, h.fr.kept hb h.res.lt, h.fo.kept hb h.out.lt, h.bw.trans (hb.mono h.bw.size)⟩
theorem T3.set {w wr : World} {p : Pg} {A : Option Addr} {c : Nat} {A2 : Option Addr} {c2 : Nat} {l : List Value} {j : Nat} {u : Value} (h : T3 w wr p A c A2 c2 l) (hj : j < l.length) : T3 w (wr.setCell ⟨w.heap.size + 2, j, none⟩ u) p A c A2 c2 (l.set j u) :=
  ⟨h.arg.off (by omega), h.res.off (by omega), h.out.set hj, h.fr.set _ _, h.fo.set _ _, h.bw.setCell (p := ⟨w.heap.size + 2, j, none⟩) (by show w.heap.size ≤ w.heap.size + 2; omega) _⟩
theorem T3.new (w : World) (p : Pg) (A : Option Addr) (c : Nat) (A2 : Option Addr) (c2 : Nat) :
    T3 w (((w.alloc (po 26 p A c A2 c2)).alloc (.cells #[.int .i64 0, .int .i64 0, .int .i64 0, .int .i64 0, .slice none 0 0, .slice none 0 0] 31)).alloc (.cells #[.int .i64 0, .int .i64 0, .int .i64 0, .int .i64 0, .slice none 0 0, .slice none 0 0] 31)) p A c A2 c2 [.int .i64 0, .int .i64 0, .int .i64 0, .int .i64 0, .slice none 0 0, .slice none 0 0] := by
  generalize hW1 : (w.alloc (po 26 p A c A2 c2)) = W1
  have h1 : CS W1 w.heap.size [.int .i64 p.L, .int .i64 p.a, .int .i64 p.b, .int .i64 p.pm, .slice A p.xs.length c, .slice A2 p.ys.length c2] := by rw [← hW1]; exact CS.new w 26 [.int .i64 p.L, .int .i64 p.a, .int .i64 p.b, .int .i64 p.pm, .slice A p.xs.length c, .slice A2 p.ys.length c2]
  have b1 : Below w.heap.size w W1 := by rw [← hW1]; exact alloc_below _ _
  have s1 : W1.heap.size = w.heap.size + 1 := by rw [← hW1]; simp
  have h2 := CS.new W1 31 [.int .i64 0, .int .i64 0, .int .i64 0, .int .i64 0, .slice none 0 0, .slice none 0 0]
  have f2 := FZ.new W1 #[.int .i64 0, .int .i64 0, .int .i64 0, .int .i64 0, .slice none 0 0, .slice none 0 0] 31
  have b2 := alloc_below W1 (.cells #[.int .i64 0, .int .i64 0, .int .i64 0, .int .i64 0, .slice none 0 0, .slice none 0 0] 31)
  have s2 : (W1.alloc (.cells #[.int .i64 0, .int .i64 0, .int .i64 0, .int .i64 0, .slice none 0 0, .slice none 0 0] 31)).heap.size = w.heap.size + 2 := by simp [s1]
  have h2' : CS (W1.alloc (.cells #[.int .i64 0, .int .i64 0, .int .i64 0, .int .i64 0, .slice none 0 0, .slice none 0 0] 31)) W1.heap.size [.int .i64 0, .int .i64 0, .int .i64 0, .int .i64 0, .slice none 0 0, .slice none 0 0] := h2
  rw [s1] at h2' f2
  clear h2
  generalize W1.alloc (.cells #[.int .i64 0, .int .i64 0, .int .i64 0, .int .i64 0, .slice none 0 0, .slice none 0 0] 31) = W2 at *
  have h3 : CS (W2.alloc (.cells #[.int .i64 0, .int .i64 0, .int .i64 0, .int .i64 0, .slice none 0 0, .slice none 0 0] 31)) W2.heap.size [.int .i64 0, .int .i64 0, .int .i64 0, .int .i64 0, .slice none 0 0, .slice none 0 0] := CS.new W2 31 [.int .i64 0, .int .i64 0, .int .i64 0, .int .i64 0, .slice none 0 0, .slice none 0 0]
  have f3 := FZ.new W2 #[.int .i64 0, .int .i64 0, .int .i64 0, .int .i64 0, .slice none 0 0, .slice none 0 0] 31
  have b3 := alloc_below W2 (.cells #[.int .i64 0, .int .i64 0, .int .i64 0, .int .i64 0, .slice none 0 0, .slice none 0 0] 31)
  rw [s2] at h3 f3
  exact ⟨(h1.kept b2).kept b3, h2'.kept b3, h3, f2.kept b3 (by omega), f3, (b1.trans (b2.mono b1.size)).trans (b3.mono (by omega))⟩
set_option maxHeartbeats 4000000 in
theorem topump_any (p : Pg) (A : Option Addr) (c : Nat) (A2 : Option Addr) (c2 : Nat) (w : World) (h : PAt w p A A2) :
    Calls Try.prog 13 #[pv p A c A2 c2] w fun e w' => (∃ g g2, e = .returned (pv p (some ⟨g, 0, none⟩) p.xs.length (some ⟨g2, 0, none⟩) p.ys.length) ∧ w.heap.size ≤ g ∧ w.heap.size ≤ g2 ∧ g ≠ g2 ∧
      IOwn w' w.heap.size (.slice (some ⟨g, 0, none⟩) p.xs.length p.xs.length) p.xs ∧ IOwn w' w.heap.size (.slice (some ⟨g2, 0, none⟩) p.ys.length p.ys.length) p.ys) ∧ Below w.heap.size w w' := by
  have HT := Lib.hid (fun w => totk_any p.L p.a p.b w)
  have HX := Lib.hid (fun w' (hb : Below w.heap.size w w') => toints_any A c p.xs w' (h.x.kept hb (Nat.le_refl _)) h.xl)
  have HY := Lib.hid (fun w' (hb : Below w.heap.size w w') => toints_any A2 c2 p.ys w' (h.y.kept hb (Nat.le_refl _)) h.yl)
  have H3 := Lib.hid (T3.new w p A c A2 c2)
  clear h
  go_enter Try.func13, Try.ntmps13
  go_wp2_with (first | (go_at_call 37; refine (HT.out _).mono ?_; rintro e w1 ⟨rfl, hb1⟩; refine Hid.out ?_) | fail)
  have h1 := H3.out.call hb1
  obtain ⟨a0, a1, a2, a3, a4, a5⟩ := h1.arg.six
  obtain ⟨o0, o1, o2, o3, o4, o5⟩ := h1.out.six
  obtain ⟨f0, f1, f2, f3, f4, f5⟩ := (fz_six h1.fo)
  have H31 := Lib.hid ((((h1.set (j := 0) (u := .int .i64 p.L) (by simp)).set (j := 1) (u := .int .i64 p.a) (by simp)).set (j := 2) (u := .int .i64 p.b) (by simp)).set (j := 3) (u := .int .i64 p.pm) (by simp))
  have hB := Lib.hid H31.out.bw
  clear h1 hb1 H3 HT
  refine Lib.hid ?_
  go_wp2_with (first | (go_at_call 17; refine (HX.out _ hB.out).mono ?_; rintro e w2 ⟨⟨g, rfl, hg, ho⟩, hb2⟩; refine Hid.out ?_) | fail)
  have h1 := H31.out.call hb2
  have hgl := Nat.le_trans hB.out.size hg
  have hgg : w.heap.size + 2 < g := Nat.lt_of_lt_of_le H31.out.out.lt hg
  simp only [List.set] at h1
  clear a0 a1 a2 a3 a4 a5 o0 o1 o2 o3 o4 o5 f0 f1 f2 f3 f4 f5 hg
  obtain ⟨a0, a1, a2, a3, a4, a5⟩ := h1.arg.six
  obtain ⟨o0, o1, o2, o3, o4, o5⟩ := h1.out.six
  obtain ⟨f0, f1, f2, f3, f4, f5⟩ := (fz_six h1.fo)
  have hgw := iown_lt ho
  have HO := Lib.hid ((own_lower ho hB.out.size).far (grown_set (grown_refl w2 (some (w.heap.size + 2))) 4 (.slice (some ⟨g, 0, none⟩) p.xs.length p.xs.length)) (by omega))
  have H32 := Lib.hid (h1.set (j := 4) (u := .slice (some ⟨g, 0, none⟩) p.xs.length p.xs.length) (by simp))
  clear h1 hb2 hB H31 HX ho
  have hB := Lib.hid H32.out.bw
  refine Lib.hid ?_
  go_wp2_with (first | (go_at_call 17; refine (HY.out _ hB.out).mono ?_; rintro e w3 ⟨⟨g2, rfl, hg2, ho2⟩, hb3⟩; refine Hid.out ?_) | fail)
  have h1 := H32.out.call hb3
  have hgl2 := Nat.le_trans hB.out.size hg2
  have hgg2 : g < g2 := Nat.lt_of_lt_of_le (by simpa using hgw) hg2
  simp only [List.set] at h1
  clear a0 a1 a2 a3 a4 a5 o0 o1 o2 o3 o4 o5 f0 f1 f2 f3 f4 f5
  obtain ⟨o0, o1, o2, o3, o4, o5⟩ := h1.out.six
  obtain ⟨f0, f1, f2, f3, f4, f5⟩ := (fz_six h1.fo)
  obtain ⟨r0, r1, r2, r3, r4, r5⟩ := h1.res.six
  obtain ⟨e0, e1, e2, e3, e4, e5⟩ := (fz_six h1.fr)
  have hsz1 : w.heap.size + 1 < w3.heap.size := h1.res.lt
  have hsz2 : w.heap.size + 2 < w3.heap.size := h1.out.lt
  have HOX := Lib.hid (HO.out.on hb3)
  have HOY := Lib.hid (own_lower ho2 hB.out.size)
  have HBW := Lib.hid h1.bw
  clear h1 hb3 hB H32 HY ho2 HO
  refine Lib.hid ?_
  go_wp2_with fail
  have hgr : ∀ (q : Nat → Value), (w3.setCell ⟨w.heap.size + 2, 5, none⟩ (q 6)).grownBy ((((((w3.setCell ⟨w.heap.size + 2, 5, none⟩ (q 6)).setCell ⟨w.heap.size + 1, 0, none⟩ (q 0)).setCell ⟨w.heap.size + 1, 1, none⟩ (q 1)).setCell ⟨w.heap.size + 1, 2, none⟩ (q 2)).setCell ⟨w.heap.size + 1, 3, none⟩ (q 3)).setCell ⟨w.heap.size + 1, 4, none⟩ (q 4) |>.setCell ⟨w.heap.size + 1, 5, none⟩ (q 5)) (some (w.heap.size + 1)) := fun q =>
    grown_set (grown_set (grown_set (grown_set (grown_set (grown_set (grown_refl _ _) _ _) _ _) _ _) _ _) _ _) _ _
  have h5 := grown_set (grown_refl w3 (some (w.heap.size + 2)))
  refine bodyPost_ret (v := pv p (some ⟨g, 0, none⟩) p.xs.length (some ⟨g2, 0, none⟩) p.ys.length) (by simp [results, Try.results13, go_sem, r0, r1, r2, r3, r4, r5]) rfl ⟨⟨g, g2, rfl, hgl, hgl2, by omega, ?_, ?_⟩, ?_⟩
  · exact (HOX.out.far (h5 5 _) (by omega)).far (hgr (fun i => if i = 6 then .slice (some ⟨g2, 0, none⟩) p.ys.length p.ys.length else if i = 0 then .int .i64 p.L else if i = 1 then .int .i64 p.a else if i = 2 then .int .i64 p.b else if i = 3 then .int .i64 p.pm else if i = 4 then .slice (some ⟨g, 0, none⟩) p.xs.length p.xs.length else .slice (some ⟨g2, 0, none⟩) p.ys.length p.ys.length)) (by omega)
  · exact (HOY.out.far (h5 5 _) (by omega)).far (hgr (fun i => if i = 6 then .slice (some ⟨g2, 0, none⟩) p.ys.length p.ys.length else if i = 0 then .int .i64 p.L else if i = 1 then .int .i64 p.a else if i = 2 then .int .i64 p.b else if i = 3 then .int .i64 p.pm else if i = 4 then .slice (some ⟨g, 0, none⟩) p.xs.length p.xs.length else .slice (some ⟨g2, 0, none⟩) p.ys.length p.ys.length)) (by omega)
  · have hw1 : w.heap.size ≤ w.heap.size + 1 := by omega
    have hw2 : w.heap.size ≤ w.heap.size + 2 := by omega
    exact ((((((HBW.out.setCell (p := ⟨w.heap.size + 2, 5, none⟩) hw2 _).setCell (p := ⟨w.heap.size + 1, 0, none⟩) hw1 _).setCell (p := ⟨w.heap.size + 1, 1, none⟩) hw1 _).setCell (p := ⟨w.heap.size + 1, 2, none⟩) hw1 _).setCell (p := ⟨w.heap.size + 1, 3, none⟩) hw1 _).setCell (p := ⟨w.heap.size + 1, 4, none⟩) hw1 _).setCell (p := ⟨w.heap.size + 1, 5, none⟩) hw1 _
end Go.Proofs.Ytlkomipjamelkaa.S13
