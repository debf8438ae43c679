/- How the laws of chapter 14 draw a tariff: what is under way: contracts. Conditions: each theorem's own premises. -/
import Derived.Test.YtidlpoambmeiiaaPfDraw
import Derived.Test.YtidlpoambmeiiaaTaSm
namespace Go.Proofs.Ytidlpoambmeiiaa.S14
open Go.RowKit Go.Sort P14

theorem row_none {w w' : World} (h : w.grownBy w' none) (x : Nat) : w.grownBy w' (some x) :=
  ⟨h.os, h.tape, h.output, h.size, fun k hk _ => h.block k hk (by simp)⟩
/-- The cursor's block is not touched by what grows in another one. -/
theorem st_row {B g gv : Nat} {a : Option Addr} {n cap K : Nat} {w w' : World} (h : S1.St B g a n cap K w) (hg : w.grownBy w' (some gv)) (hlt : g < gv) : S1.St B g a n cap K w' := by
  obtain ⟨k, sd, hk, hh⟩ := h.cur
  have hB := h.bg
  refine ⟨?_, ⟨k, sd, hk, ?_⟩, h.bg, h.few⟩
  · rcases h.cd with h0 | ⟨b, off, ha, hbB, hc⟩
    · exact .inl h0
    · refine .inr ⟨b, off, ha, hbB, fun j hj => ?_⟩
      obtain ⟨u, hu, hcv⟩ := hc j hj
      exact ⟨u, hu, hg.cell hcv (by simp; omega)⟩
  · have hlt2 : g < w.heap.size := (Array.getElem?_eq_some_iff.1 hh).1
    rw [hg.block g hlt2 (by simp; omega)]; exact hh
theorem grown_row {w w1 w2 : World} {g gv : Nat} (h : w.grownBy w1 (some g)) (h2 : w1.grownBy w2 (some gv)) (hg : w.heap.size ≤ gv) : w.grownBy w2 (some g) :=
  ⟨h2.os.trans h.os, h2.tape.trans h.tape, h2.output.trans h.output, Nat.le_trans h.size h2.size, fun k hk hne => (h2.block k (Nat.lt_of_lt_of_le hk h.size) (by simp; omega)).trans (h.block k hk hne)⟩
theorem OT.farG {wr w2 : World} {g T : Nat} {f : Int} {v : Value} {l : List Bl} (h : OT wr T f v l) (hg : wr.grownBy w2 (some g)) (hT : g < T) : OT w2 T f v l :=
  ⟨(hg.cell_far ⟨T, 0, none⟩ h.lt (by simp; omega)).trans h.k0, (hg.cell_far ⟨T, 1, none⟩ h.lt (by simp; omega)).trans h.k1, fun o => (World.frozen?_of_block (hg.block T h.lt (by simp; omega))).trans (h.fz o), Nat.lt_of_lt_of_le h.lt hg.size, World.ownsRow.kept h.own hg (.inr fun e => by have := (World.ownsRow.lt h.own g e).1; omega)⟩
/-- A tariff under way: the cursor, what has changed, the tariff in its box, the result's box. -/
structure TI (w wr : World) (B g : Nat) (a : Option Addr) (n cap K T : Nat) (f : Int) (v : Value) (l : List Bl) : Prop where
  st : S1.St B g a n cap K wr
  gr : w.grownBy wr (some g)
  out : OT wr T f v l
  lo : w.heap.size < T
  gw : g < w.heap.size
  res : C2 wr w.heap.size (.int .i64 0) (.slice none 0 0)
theorem TI.alloc {w wr : World} {B g : Nat} {a : Option Addr} {n cap K T : Nat} {f : Int} {v : Value} {l : List Bl} (h : TI w wr B g a n cap K T f v l) (ob : Obj) : TI w (wr.alloc ob) B g a n cap K T f v l :=
  ⟨S1.st_new h.st _, S1.grown_new h.gr _, h.out.on (alloc_below _ _), h.lo, h.gw, h.res.kept (alloc_below _ _)⟩
theorem TI.call {w wr w2 : World} {B g : Nat} {a : Option Addr} {n cap K K' T : Nat} {f : Int} {v : Value} {l : List Bl} (h : TI w wr B g a n cap K T f v l) (hs : S1.St B g a n cap K' w2) (hg : wr.grownBy w2 (some g)) : TI w w2 B g a n cap K' T f v l :=
  ⟨hs, S1.grown_trans h.gr hg, h.out.farG hg (by have := h.lo; have := h.gw; omega), h.lo, h.gw, h.res.far hg (by have := h.gw; omega)⟩
theorem TI.draw {w wr : World} {B g : Nat} {a : Option Addr} {n cap K T : Nat} {f : Int} {v : Value} {l : List Bl} (h : TI w wr B g a n cap K T f v l) (m : Nat) : TI w (wr.drewN m) B g a n cap K T f v l :=
  ⟨h.st.other (below_drewN (Below.refl _ _) m), S1.grown_draw h.gr m, h.out.on (below_drewN (Below.refl _ _) m), h.lo, h.gw, h.res.kept (below_drewN (Below.refl _ _) m)⟩
theorem TI.more {w wr : World} {B g : Nat} {a : Option Addr} {n cap K K' T : Nat} {f : Int} {v : Value} {l : List Bl} (h : TI w wr B g a n cap K T f v l) (hK : K ≤ K') : TI w wr B g a n cap K' T f v l := ⟨h.st.more hK, h.gr, h.out, h.lo, h.gw, h.res⟩
/-- A box beside all is written, or a row. -/
theorem TI.far {w wr w2 : World} {B g x : Nat} {a : Option Addr} {n cap K T : Nat} {f : Int} {v : Value} {l : List Bl} (h : TI w wr B g a n cap K T f v l) (hg : wr.grownBy w2 (some x)) (hx : w.heap.size < x) (hT : OT w2 T f v l) : TI w w2 B g a n cap K T f v l :=
  ⟨st_row h.st hg (by have := h.gw; omega), grown_row h.gr hg (by omega), hT, h.lo, h.gw, h.res.far hg (by omega)⟩
theorem TI.push {w wr w3 : World} {B g : Nat} {a : Option Addr} {n cap K T : Nat} {f : Int} {v v' : Value} {l : List Bl} {p : Bl} (h : TI w wr B g a n cap K T f v l)
    (hown : w3.ownsRow (T + 1) 62 2 v' (l.length + 1) (ccs l ++ ccs2 p)) (hg : wr.grownBy w3 v.ownBlock) : TI w (w3.setCell ⟨T, 1, none⟩ v') B g a n cap K T f v' (l ++ [p]) := by
  have hT := h.out.push hown hg
  have hlo := h.lo
  have key : ∃ x, wr.grownBy w3 (some x) ∧ w.heap.size < x := by
    cases e : v.ownBlock with
    | none => rw [e] at hg; exact ⟨T, row_none hg T, hlo⟩
    | some x => rw [e] at hg; have := (World.ownsRow.lt h.out.own x e).1; exact ⟨x, hg, by omega⟩
  obtain ⟨x, hgx, hx⟩ := key
  have h3s := st_row h.st hgx (by have := h.gw; omega)
  have hgw := h.gw
  have hbg := h.st.bg
  exact ⟨S1.st_far h3s (by omega) (by omega), S1.grown_setnew (grown_row h.gr hgx (by omega)) (by omega), hT, hlo, hgw, (h.res.far hgx (by omega)).far (grown_set (grown_refl _ (some T)) _ _) (by omega)⟩
theorem TI.fee {w wr : World} {B g : Nat} {a : Option Addr} {n cap K T : Nat} {f : Int} {v : Value} {l : List Bl} (h : TI w wr B g a n cap K T f v l) (z : Int) : TI w (wr.setCell ⟨T, 0, none⟩ (.int .i64 z)) B g a n cap K T z v l := by
  have hlo := h.lo
  have hgw := h.gw
  have hbg := h.st.bg
  refine ⟨S1.st_far h.st (by omega) (by omega), S1.grown_setnew h.gr (by omega), ⟨World.cell?_setCell_same _ _ _ h.out.k0, (World.cell?_setCell_other _ _ _ _ (by simp)).trans h.out.k1, fun o => by rw [World.frozen?_setCell]; exact h.out.fz o, by simpa using h.out.lt, ?_⟩, hlo, hgw, h.res.far (grown_set (grown_refl _ (some T)) _ _) (by omega)⟩
  exact ownsRow_setCell_below h.out.own (show T < T + 1 by omega) _
theorem set_split (cs : List Bl) (k : Nat) (c : Bl) (h : k < cs.length) : cs.set k c = cs.take k ++ c :: cs.drop (k + 1) := List.set_eq_take_append_cons_drop.trans (by rw [if_pos h])
theorem self_split (cs : List Bl) (k : Nat) (h : k < cs.length) : cs = cs.take k ++ cAt cs k :: cs.drop (k + 1) := by
  rw [cAt_eq cs k h, ← List.drop_eq_getElem_cons h, List.take_append_drop]
theorem ccs_setp (cs : List Bl) (k : Nat) (x y : Int) (h : k < cs.length) : ((ccs cs).set (k * 2) (.int .i64 x)).set (k * 2 + 1) (.int .i64 y) = ccs (cs.set k ⟨x, y⟩) := by
  have hl : (ccs (cs.take k)).length = k * 2 := by rw [ccs_len, List.length_take]; omega
  rw [set_split cs k ⟨x, y⟩ h, ccs_app]
  conv => lhs; rw [self_split cs k h, ccs_app]
  rw [List.set_append_right _ _ (by omega), List.set_append_right _ _ (by omega), hl, Nat.sub_self, show k * 2 + 1 - k * 2 = 1 by omega]
  rfl
theorem TI.row {w wr : World} {B g : Nat} {a : Option Addr} {n cap K T gv cv : Nat} {f : Int} {l : List Bl} (h : TI w wr B g a n cap K T f (.slice (some ⟨gv, 0, none⟩) l.length cv) l) (i : Nat) (hi : i < l.length) (x y : Int) :
    TI w ((wr.setCell ⟨gv, i * 2, none⟩ (.int .i64 x)).setCell ⟨gv, i * 2 + 1, none⟩ (.int .i64 y)) B g a n cap K T f (.slice (some ⟨gv, 0, none⟩) l.length cv) (l.set i ⟨x, y⟩) := by
  have ho := ((h.out.own.stored (i * 2) (.int .i64 x)).1.stored (i * 2 + 1) (.int .i64 y)).1
  rw [ccs_setp l i x y hi] at ho
  have hb := (World.ownsRow.lt h.out.own gv rfl).1
  have hlo := h.lo
  have hgr : wr.grownBy ((wr.setCell ⟨gv, i * 2, none⟩ (.int .i64 x)).setCell ⟨gv, i * 2 + 1, none⟩ (.int .i64 y)) (some gv) := grown_set (grown_set (grown_refl _ _) _ _) _ _
  have hO : OT ((wr.setCell ⟨gv, i * 2, none⟩ (.int .i64 x)).setCell ⟨gv, i * 2 + 1, none⟩ (.int .i64 y)) T f (.slice (some ⟨gv, 0, none⟩) l.length cv) (l.set i ⟨x, y⟩) :=
    ⟨(hgr.cell_far ⟨T, 0, none⟩ h.out.lt (by simp; omega)).trans h.out.k0, (hgr.cell_far ⟨T, 1, none⟩ h.out.lt (by simp; omega)).trans h.out.k1, fun o => (World.frozen?_of_block (hgr.block T h.out.lt (by simp; omega))).trans (h.out.fz o), Nat.lt_of_lt_of_le h.out.lt hgr.size, by unfold COwn; rw [List.length_set]; exact ho⟩
  exact ⟨st_row h.st hgr (by have := h.gw; omega), grown_row h.gr hgr (by omega), hO, hlo, h.gw, h.res.far hgr (by omega)⟩
/-- The blocks of a tariff lie in a block of memory from S on. -/
def TFr (S : Nat) (w : World) (t : Ta) (A : Option Addr) : Prop := t.bs = [] ∨ ∃ b off, A = some ⟨b, off, none⟩ ∧ S ≤ b ∧ b < w.heap.size ∧ CAt w (some ⟨b, off, none⟩) t.bs
theorem TFr.at_ {S : Nat} {w : World} {t : Ta} {A : Option Addr} (h : TFr S w t A) : CAt w A t.bs := by
  rcases h with h | ⟨b, off, hA, _, _, hc⟩
  · exact .inl h
  · rw [hA]; exact hc
theorem TFr.low {S S' : Nat} {w : World} {t : Ta} {A : Option Addr} (h : TFr S w t A) (hS : S' ≤ S) : TFr S' w t A := by
  rcases h with h | ⟨b, off, hA, hb, hl, hc⟩
  · exact .inl h
  · exact .inr ⟨b, off, hA, Nat.le_trans hS hb, hl, hc⟩
theorem TFr.far {S x : Nat} {w w' : World} {t : Ta} {A : Option Addr} (h : TFr S w t A) (hg : w.grownBy w' (some x)) (hx : x < S) : TFr S w' t A := by
  rcases h with h | ⟨b, off, hA, hb, hl, hc⟩
  · exact .inl h
  · exact .inr ⟨b, off, hA, hb, Nat.lt_of_lt_of_le hl hg.size, hc.far hg (by omega)⟩
theorem TFr.kept {S : Nat} {w w' : World} {t : Ta} {A : Option Addr} (h : TFr S w t A) (hb : Below w.heap.size w w') : TFr S w' t A := by
  rcases h with h | ⟨b, off, hA, hb', hl, hc⟩
  · exact .inl h
  · exact .inr ⟨b, off, hA, hb', Nat.lt_of_lt_of_le hl hb.size, hc.low hb hl⟩
def TaPost (B g : Nat) (a : Option Addr) (n cap K : Nat) (w : World) (e : Ending) (w' : World) : Prop :=
  ∃ (t : Ta) (A : Option Addr) (c : Nat), e = .returned (tv t A c) ∧ TFr (w.heap.size + 1) w' t A ∧ t.bs.length ≤ 10 ∧ S1.St B g a n cap K w' ∧ w.grownBy w' (some g)
theorem ta_post {w wr : World} {B g : Nat} {a : Option Addr} {n cap K K' : Nat} {f : Int} {l : List Bl} {A : Option Addr} {c : Nat} {x y : Value} (hs : S1.St B g a n cap K wr) (hg : w.grownBy wr (some g)) (hgw : g < w.heap.size) (hF : TFr (w.heap.size + 1) wr ⟨f, l⟩ A) (hl : l.length ≤ 10) (hK : K ≤ K') :
    TaPost B g a n cap K' w (.returned (.agg #[.int .i64 f, .slice A l.length c])) ((wr.setCell ⟨w.heap.size, 0, none⟩ x).setCell ⟨w.heap.size, 1, none⟩ y) := by
  have hbg := hs.bg
  exact ⟨⟨f, l⟩, A, c, rfl, (hF.far (grown_set (grown_refl _ (some w.heap.size)) _ _) (by omega)).far (grown_set (grown_refl _ (some w.heap.size)) _ _) (by omega), hl, (S1.st_far (S1.st_far hs (by omega) (by omega)) (by omega) (by omega)).more hK, S1.grown_setnew (S1.grown_setnew hg (Nat.le_refl _)) (Nat.le_refl _)⟩
theorem TI.fr {w wr : World} {B g : Nat} {a : Option Addr} {n cap K T gv cv : Nat} {f : Int} {l l2 : List Bl} (h : TI w wr B g a n cap K T f (.slice (some ⟨gv, 0, none⟩) l2.length cv) l) (he : l2.length = l.length) : TFr (w.heap.size + 1) wr ⟨f, l⟩ (some ⟨gv, 0, none⟩) := by
  have hb := World.ownsRow.lt h.out.own gv rfl
  have hlo := h.lo
  refine .inr ⟨gv, 0, rfl, by omega, hb.2, ?_⟩
  have := h.out.own
  unfold COwn at this
  rw [he] at this
  exact own_cat this
end Go.Proofs.Ytidlpoambmeiiaa.S14
