/- A tariff that grows in a box: what SimplerTariff and RaiseTariff give: plain facts and contracts. Conditions: each theorem's own premises. -/
import Derived.Test.YtidlpoambmeiiaaTaGives
import Derived.Test.YtidlpoambmeiiaaTaGoodS
import Derived.Deep.AppendLies
import Derived.Deep.RegionLaw
import Derived.Deep.RegionHeld3
namespace Go.Proofs.Ytidlpoambmeiiaa.S14
open Go.RowKit Go.Sort P14

/-- The box g holds a number and the slice v of the call's own, with the blocks l. -/
structure OT (wr : World) (g : Nat) (f : Int) (v : Value) (l : List Bl) : Prop where
  k0 : wr.cell? ⟨g, 0, none⟩ = some (.int .i64 f)
  k1 : wr.cell? ⟨g, 1, none⟩ = some v
  fz : ∀ o, wr.frozen? ⟨g, o, none⟩ = false
  lt : g < wr.heap.size
  own : COwn wr (g + 1) v l
theorem OT.start (w : World) (t : TypeId) (f : Int) : OT (w.alloc (.cells #[.int .i64 f, .slice none 0 0] t)) w.heap.size f (.slice none 0 0) [] := by
  have h := C2.new w t (.int .i64 f) (.slice none 0 0)
  exact ⟨h.k0, h.k1, h.fz, h.lt, World.ownsRow_nil _ _ _ _⟩
theorem OT.on {wr w1 : World} {g : Nat} {f : Int} {v : Value} {l : List Bl} (h : OT wr g f v l) (hb : Below wr.heap.size wr w1) : OT w1 g f v l :=
  ⟨(hb.cell (p := ⟨g, 0, none⟩) h.lt).trans h.k0, (hb.cell (p := ⟨g, 1, none⟩) h.lt).trans h.k1, fun o => (hb.frozen (p := ⟨g, o, none⟩) h.lt).trans (h.fz o), Nat.lt_of_lt_of_le h.lt hb.size, COwn.on h.own hb⟩
theorem OT.ne {wr : World} {g : Nat} {f : Int} {v : Value} {l : List Bl} (h : OT wr g f v l) {b : Nat} (hb : b ≤ g) : some b ≠ v.ownBlock := fun e => by have := (World.ownsRow.lt h.own b e.symm).1; omega
theorem OT.nw {wr : World} {g : Nat} {f : Int} {v : Value} {l : List Bl} (h : OT wr g f v l) {b : Nat} (hb : wr.heap.size ≤ b) : some b ≠ v.ownBlock := fun e => by have := (World.ownsRow.lt h.own b e.symm).2; omega
theorem ccs_one1 (p : Bl) : ccs [p] = ccs2 p := by simp [ccs]
/-- Behind the append, ahead of the store. -/
theorem OT.grown {w1 w3 : World} {g : Nat} {f : Int} {v : Value} {l : List Bl} (h : OT w1 g f v l) (hg : w1.grownBy w3 v.ownBlock) : w3.cell? ⟨g, 0, none⟩ = some (.int .i64 f) ∧ w3.cell? ⟨g, 1, none⟩ = some v ∧ (∀ o, w3.frozen? ⟨g, o, none⟩ = false) ∧ g < w3.heap.size :=
  ⟨(hg.cell_far ⟨g, 0, none⟩ h.lt (h.ne (Nat.le_refl _))).trans h.k0, (hg.cell_far ⟨g, 1, none⟩ h.lt (h.ne (Nat.le_refl _))).trans h.k1, fun o => (World.frozen?_of_block (hg.block g h.lt (h.ne (Nat.le_refl _)))).trans (h.fz o), Nat.lt_of_lt_of_le h.lt hg.size⟩
theorem OT.push {w1 w3 : World} {g : Nat} {f : Int} {v v' : Value} {l : List Bl} {p : Bl} (h : OT w1 g f v l)
    (hown : w3.ownsRow (g + 1) 62 2 v' (l.length + 1) (ccs l ++ ccs2 p)) (hg : w1.grownBy w3 v.ownBlock) : OT (w3.setCell ⟨g, 1, none⟩ v') g f v' (l ++ [p]) := by
  obtain ⟨h0, h1, hf, hl⟩ := h.grown hg
  refine ⟨?_, World.cell?_setCell_same _ _ _ h1, fun o => by rw [World.frozen?_setCell]; exact hf o, by simpa using hl, ?_⟩
  · exact (World.cell?_setCell_other _ _ _ _ (by simp)).trans h0
  · have e : (l ++ [p]).length = l.length + 1 := by simp
    unfold COwn
    rw [e, ccs_snoc]
    exact ownsRow_setCell_below hown (show g < g + 1 by omega) _
theorem OT.below {w w1 w3 : World} {B g : Nat} {f : Int} {v v' : Value} {l : List Bl} (h : OT w1 g f v l) (hB : Below B w w1) (hg : w1.grownBy w3 v.ownBlock) (hBg : B ≤ g) : Below B w (w3.setCell ⟨g, 1, none⟩ v') :=
  (hB.grown hg (by have := h.lt; omega) (fun k hk => by have := (World.ownsRow.lt h.own k hk).1; omega)).setCell (p := ⟨g, 1, none⟩) hBg _
/-- The boxes of an argument and a result. -/
structure CR (w W : World) (t : Ta) (A : Option Addr) (c : Nat) : Prop where
  a : B2 W w.heap.size t A c
  r : C2 W (w.heap.size + 1) (.int .i64 0) (.slice none 0 0)
  bw : Below w.heap.size w W
theorem CR.new (w : World) (ty ty2 : TypeId) (t : Ta) (A : Option Addr) (c : Nat) : CR w ((w.alloc (tb ty t A c)).alloc (.cells #[.int .i64 0, .slice none 0 0] ty2)) t A c := by
  have h1 := (B2.new w ty t A c).kept (alloc_below _ (.cells #[.int .i64 0, .slice none 0 0] ty2))
  have h2 := C2.new (w.alloc (tb ty t A c)) ty2 (.int .i64 0) (.slice none 0 0)
  rw [alloc_size] at h2
  exact ⟨h1, h2, two_below _ _ _⟩
theorem CR.call {w W W2 : World} {t : Ta} {A : Option Addr} {c : Nat} (h : CR w W t A c) (hb : Below W.heap.size W W2) : CR w W2 t A c :=
  ⟨h.a.kept hb, h.r.kept hb, h.bw.trans (hb.mono h.bw.size)⟩
theorem two_set {w w1 : World} {g : Nat} {x y : Value} (h : Below w.heap.size w w1) (hg : w.heap.size ≤ g) : Below w.heap.size w ((w1.setCell ⟨g, 0, none⟩ x).setCell ⟨g, 1, none⟩ y) :=
  (h.setCell (p := ⟨g, 0, none⟩) hg _).setCell (p := ⟨g, 1, none⟩) hg _
theorem gives_t {w w1 wr : World} {t : Ta} {A : Option Addr} {c : Nat} {f : Int} {l : List Bl} {v : Value} {g cap : Nat} (hC : CR w w1 t A c) (hB : Below w1.heap.size w1 wr) (hO : OT wr w1.heap.size f v l) (hv : v = .slice (some ⟨g, 0, none⟩) l.length cap) :
    GivesT w ⟨f, l⟩ true (.returned (.tuple #[.agg #[.int .i64 f, .slice (some ⟨g, 0, none⟩) l.length cap], .bool true])) ((wr.setCell ⟨w.heap.size + 1, 0, none⟩ (.int .i64 f)).setCell ⟨w.heap.size + 1, 1, none⟩ v) := by
  subst hv
  have h1 := (World.ownsRow.lt hO.own g rfl).1
  have h2 := hC.r.lt
  have h3 := hC.bw.size
  refine ⟨g, cap, rfl, by omega, ?_, two_set (hC.bw.trans (hB.mono h3)) (by omega)⟩
  have h4 : COwn wr w.heap.size (.slice (some ⟨g, 0, none⟩) l.length cap) l := COwn.low hO.own
  exact COwn.far (COwn.far h4 (grown_set (grown_refl _ _) _ _) (by omega)) (grown_set (grown_refl _ _) _ _) (by omega)

/-! ### Plain: a simpler tariff, a raised one -/
/-- Whether the block k stays. -/
def stays (bs : List Bl) (k : Nat) : Prop := k + 1 = bs.length ∨ (cAt bs (k + 1)).pr ≠ (cAt bs k).pr
instance (bs : List Bl) (k : Nat) : Decidable (stays bs k) := by unfold stays; exact inferInstance
def smL (bs : List Bl) : Nat → List Bl
  | 0 => []
  | k + 1 => if stays bs k then smL bs k ++ [cAt bs k] else smL bs k
theorem smL_yes {bs : List Bl} {k : Nat} (h : stays bs k) : smL bs (k + 1) = smL bs k ++ [cAt bs k] := by
  show (if stays bs k then _ else _) = _
  rw [if_pos h]
theorem smL_no {bs : List Bl} {k : Nat} (h : ¬ stays bs k) : smL bs (k + 1) = smL bs k := by
  show (if stays bs k then _ else _) = _
  rw [if_neg h]
theorem smL_len (bs : List Bl) : ∀ k, (smL bs k).length ≤ k
  | 0 => Nat.le_refl _
  | k + 1 => by
    have := smL_len bs k
    by_cases h : stays bs k
    · rw [smL_yes h]; simp; omega
    · rw [smL_no h]; omega
theorem smL_pos {bs : List Bl} (h : 0 < bs.length) : 0 < (smL bs bs.length).length := by
  obtain ⟨n, hn⟩ : ∃ n, bs.length = n + 1 := ⟨bs.length - 1, by omega⟩
  have hs : stays bs n := .inl hn.symm
  rw [hn, smL_yes hs]; simp
def smT (t : Ta) : Ta := ⟨t.fee, smL t.bs t.bs.length⟩
noncomputable def smR (t : Ta) : Ta := if gB t = true then smT t else ⟨0, []⟩
/-- A number raised by a percentage, rounded. -/
def rz (x p : Int) : Int := (x * (100 + p) + 50).tdiv 100
def rzL (bs : List Bl) (p : Int) (k : Nat) : List Bl := (List.range k).map fun i => ⟨(cAt bs i).up, rz (cAt bs i).pr p⟩
theorem rzL_len (bs : List Bl) (p : Int) (k : Nat) : (rzL bs p k).length = k := by simp [rzL]
theorem rzL_succ (bs : List Bl) (p : Int) (k : Nat) : rzL bs p (k + 1) = rzL bs p k ++ [⟨(cAt bs k).up, rz (cAt bs k).pr p⟩] := by simp [rzL, List.range_succ]
def rzT (t : Ta) (p : Int) : Ta := ⟨rz t.fee p, rzL t.bs p t.bs.length⟩
noncomputable def rzB (t : Ta) (p : Int) : Bool := gB t && decide (-100 ≤ p ∧ p ≤ 100) && gB (rzT t p)
noncomputable def rzR (t : Ta) (p : Int) : Ta := if rzB t p = true then rzT t p else ⟨0, []⟩
theorem rz_in {x p : Int} (h0 : 0 ≤ x) (h9 : x ≤ 100000) (p0 : -100 ≤ p) (p9 : p ≤ 100) : 0 ≤ x * (100 + p) ∧ x * (100 + p) ≤ 20000000 := by
  have := mul_le (x := x) (y := 100 + p) (a := 100000) (b := 200) h0 h9 (by omega) (by omega)
  omega
theorem raised_any (x p : Int) (w : World) (h0 : 0 ≤ x) (h9 : x ≤ 100000) (p0 : -100 ≤ p) (p9 : p ≤ 100) : Calls Try.prog 72 #[.int .i64 x, .int .i64 p] w fun e w' => e = .returned (.int .i64 (rz x p)) ∧ w' = w := by
  have hm := rz_in h0 h9 p0 p9
  obtain ⟨m, hme⟩ : ∃ m, x * (100 + p) = m := ⟨_, rfl⟩
  obtain ⟨q, hq⟩ : ∃ q, (m + 50).tdiv 100 = q := ⟨_, rfl⟩
  have HR := Lib.hid (show rz x p = q by unfold rz; rw [hme, hq])
  rw [hme] at hm
  have ht : 0 ≤ q ∧ q ≤ 20000050 := by rw [← hq, Int.tdiv_eq_ediv_of_nonneg (by omega)]; omega
  rw [HR.out]
  go_enter Try.func72, Try.ntmps72
  go_wp2
  go_ret
  exact ⟨rfl, rfl⟩
theorem sraised_any (x p : Int) (w : World) (h0 : 0 ≤ x) (h9 : x ≤ 100000) (p0 : -100 ≤ p) (p9 : p ≤ 100) : Calls Try.prog 71 #[.int .i64 x, .int .i64 p] w fun e w' => e = .returned (.int .i64 (rz x p)) ∧ w' = w := by
  have hm := rz_in h0 h9 p0 p9
  obtain ⟨m, hme⟩ : ∃ m, x * (100 + p) = m := ⟨_, rfl⟩
  obtain ⟨q, hq⟩ : ∃ q, (m + 50).tdiv 100 = q := ⟨_, rfl⟩
  have HR := Lib.hid (show rz x p = q by unfold rz; rw [hme, hq])
  rw [hme] at hm
  have ht : 0 ≤ q ∧ q ≤ 20000050 := by rw [← hq, Int.tdiv_eq_ediv_of_nonneg (by omega)]; omega
  rw [HR.out]
  go_enter Try.func71, Try.ntmps71
  go_wp2
  go_ret
  exact ⟨rfl, rfl⟩
end Go.Proofs.Ytidlpoambmeiiaa.S14
