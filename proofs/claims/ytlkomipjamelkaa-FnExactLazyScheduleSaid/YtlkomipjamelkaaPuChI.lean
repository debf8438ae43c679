/- The cheapest schedule: what the program returns: contract. Conditions: its own premises. -/
import Derived.Test.YtlkomipjamelkaaPuCtg
import Derived.Test.YtlkomipjamelkaaPuFld
import Derived.Test.YtlkomipjamelkaaPuMk
import Derived.Test.YtlkomipjamelkaaPuGives
import Derived.Deep.RegionLaw
import Derived.Deep.DeepCutAuto
namespace Go.Proofs.Ytlkomipjamelkaa.S13
open Go.RowKit Go.Sort Go.ChangeShapes Go.WideShapes Go.Deep Go.Joins P11 S11 P13

def chE (p : Pg) : Bool := pgB p && (plan p p.xs.length p.L).ex
def chR (p : Pg) : List Int := if chE p then sch p p.xs.length else []
def chC (p : Pg) : Int := if chE p then (plan p p.xs.length p.L).cost else 0
theorem ch_no {p : Pg} (h : chE p = false) : chR p = [] ∧ chC p = 0 := by unfold chR chC; rw [h]; exact ⟨rfl, rfl⟩
theorem ch_yes {p : Pg} (h : chE p = true) : chR p = sch p p.xs.length ∧ chC p = (plan p p.xs.length p.L).cost := by unfold chR chC; rw [h]; exact ⟨rfl, rfl⟩
/-- A row under way beside a tank's box, above a bound. -/
structure Ru (B : Nat) (wr : World) (G H n : Nat) (l : List Int) (k : Nat) (L a b : Int) : Prop where
  row : wr.ownsRow B 3 1 (.slice (some ⟨G, 0, none⟩) n n) n (fiI l k)
  bt : BT wr H L a b
  fz : FZ wr H
  ne : G ≠ H
  lo : B ≤ H
theorem RT.ru {w wr : World} {G H n : Nat} {l : List Int} {k : Nat} {L a b : Int} (h : RT w wr G H n l k L a b) : Ru w.heap.size wr G H n l k L a b := ⟨h.row, h.bt, h.fz, h.ne, h.lo⟩
theorem Ru.lt {B : Nat} {wr : World} {G H n : Nat} {l : List Int} {k : Nat} {L a b : Int} (h : Ru B wr G H n l k L a b) : B ≤ G ∧ G < wr.heap.size ∧ H < wr.heap.size := ⟨(World.ownsRow.lt h.row G rfl).1, (World.ownsRow.lt h.row G rfl).2, h.bt.1⟩
theorem Ru.call {B : Nat} {wr w2 : World} {G H n : Nat} {l : List Int} {k : Nat} {L a b : Int} (h : Ru B wr G H n l k L a b) (hb : Below wr.heap.size wr w2) : Ru B w2 G H n l k L a b := ⟨own_on h.row hb, h.bt.kept hb, h.fz.kept hb h.bt.1, h.ne, h.lo⟩
theorem Ru.far {B : Nat} {wr w2 : World} {G H n O : Nat} {l : List Int} {k : Nat} {L a b : Int} (h : Ru B wr G H n l k L a b) (hg : wr.grownBy w2 (some O)) (hO : O < B) : Ru B w2 G H n l k L a b := by
  have hl := h.lt
  have hlo := h.lo
  exact ⟨World.ownsRow.kept h.row hg (.inr (by simp [Value.ownBlock]; omega)), h.bt.far hg (by omega), fun j => (hg.frozen_far ⟨H, j, none⟩ hl.2.2 (by simp; omega)).trans (h.fz j), h.ne, h.lo⟩
theorem Ru.put {B : Nat} {wr : World} {G H n : Nat} {l : List Int} {k : Nat} {L a b : Int} (h : Ru B wr G H n l k L a b) (z x y : Int) :
    Ru B (((wr.setCell ⟨H, 0, none⟩ (.int .i64 z)).setCell ⟨H, 1, none⟩ (.int .i64 x)).setCell ⟨H, 2, none⟩ (.int .i64 y)) G H n l k z x y :=
  ⟨own_put h.row h.ne _ _ _, h.bt.put z x y, ((h.fz.set _ _).set _ _).set _ _, h.ne, h.lo⟩
theorem Ru.store {B : Nat} {wr : World} {G H n : Nat} {l : List Int} {k : Nat} {L a b : Int} (h : Ru B wr G H n l k L a b) (hk : k < l.length) : Ru B (wr.setCell ⟨G, k, none⟩ (iv (l.getD k 0))) G H n l (k + 1) L a b := by
  have hst := (h.row.stored k (iv (l.getD k 0))).1
  rw [fiI_set l k hk] at hst
  exact ⟨hst, h.bt.set_far k _ (Ne.symm h.ne), h.fz.set _ _, h.ne, h.lo⟩
/-- The world of the loop. -/
structure Ch (w wr : World) (p : Pg) (A : Option Addr) (c : Nat) (A2 : Option Addr) (c2 O g6 B G H n : Nat) (l : List Int) (k : Nat) (L a b : Int) (q : Pl) : Prop where
  bw : Below w.heap.size w wr
  ot : Ot wr O p A c A2 c2
  ru : Ru B wr G H n l k L a b
  e6 : E4 wr g6 0 true q
  oo : w.heap.size < O
  o6 : O < g6
  b6 : g6 < B
theorem E4.set {w : World} {g o : Nat} {kn : Bool} {q : Pl} (h : E4 w g o kn q) {G : Nat} (hG : g ≠ G) (j : Nat) (u : Value) : E4 (w.setCell ⟨G, j, none⟩ u) g o kn q := h.same fun i => World.cell?_setCell_far _ _ _ _ (by show G ≠ g; omega)
theorem Ch.call {w wr w2 : World} {p : Pg} {A : Option Addr} {c : Nat} {A2 : Option Addr} {c2 O g6 B G H n : Nat} {l : List Int} {k : Nat} {L a b : Int} {q : Pl} (h : Ch w wr p A c A2 c2 O g6 B G H n l k L a b q) (hb : Below wr.heap.size wr w2) : Ch w w2 p A c A2 c2 O g6 B G H n l k L a b q := by
  have hl := h.ru.lt
  have h1 := h.b6
  exact ⟨h.bw.trans (hb.mono h.bw.size), h.ot.kept hb, h.ru.call hb, h.e6.same fun j => hb.cell (p := ⟨g6, j, none⟩) (by show g6 < wr.heap.size; omega), h.oo, h.o6, h.b6⟩
theorem Ch.from {w wr w2 : World} {p : Pg} {A : Option Addr} {c : Nat} {A2 : Option Addr} {c2 O g6 B G H n : Nat} {l : List Int} {k : Nat} {L a b : Int} {q : Pl} (h : Ch w wr p A c A2 c2 O g6 B G H n l k L a b q) (hg : wr.grownBy w2 (some O)) (ho : Ot w2 O p A c A2 c2) : Ch w w2 p A c A2 c2 O g6 B G H n l k L a b q := by
  have hl := h.ru.lt
  have h1 := h.b6
  have h2 := h.o6
  have h3 := h.oo
  exact ⟨h.bw.grown hg h.bw.size (fun k hk => by have : k = O := by simpa using hk.symm
                                                 omega), ho, h.ru.far hg (by omega), h.e6.same fun j => hg.cell_far ⟨g6, j, none⟩ (by show g6 < wr.heap.size; omega) (by simp; omega), h.oo, h.o6, h.b6⟩
theorem Ch.store {w wr : World} {p : Pg} {A : Option Addr} {c : Nat} {A2 : Option Addr} {c2 O g6 B G H n : Nat} {l : List Int} {k : Nat} {L a b : Int} {q : Pl} (h : Ch w wr p A c A2 c2 O g6 B G H n l k L a b q) (hk : k < l.length) : Ch w (wr.setCell ⟨G, k, none⟩ (iv (l.getD k 0))) p A c A2 c2 O g6 B G H n l (k + 1) L a b q := by
  have hl := h.ru.lt
  have h1 := h.b6
  have h2 := h.o6
  have h3 := h.oo
  exact ⟨h.bw.setCell (p := ⟨G, k, none⟩) (by show w.heap.size ≤ G; omega) _, h.ot.set (by omega) _ _, h.ru.store hk, h.e6.set (by omega) _ _, h.oo, h.o6, h.b6⟩
theorem Ch.put {w wr : World} {p : Pg} {A : Option Addr} {c : Nat} {A2 : Option Addr} {c2 O g6 B G H n : Nat} {l : List Int} {k : Nat} {L a b : Int} {q : Pl} (h : Ch w wr p A c A2 c2 O g6 B G H n l k L a b q) (z x y : Int) :
    Ch w (((wr.setCell ⟨H, 0, none⟩ (.int .i64 z)).setCell ⟨H, 1, none⟩ (.int .i64 x)).setCell ⟨H, 2, none⟩ (.int .i64 y)) p A c A2 c2 O g6 B G H n l k z x y q := by
  have hl := h.ru.lo
  have h1 := h.b6
  have h2 := h.o6
  have h3 := h.oo
  exact ⟨put_below h.bw (by omega) _ _ _, ((h.ot.set (by omega) _ _).set (by omega) _ _).set (by omega) _ _, h.ru.put z x y, ((h.e6.set (by omega) _ _).set (by omega) _ _).set (by omega) _ _, h.oo, h.o6, h.b6⟩
theorem empty_gives3 {w w1 : World} {ok : Bool} (hb : Below w.heap.size w w1) : GivesI3 w [] 0 ok (.returned (.tuple #[.slice (some ⟨w1.heap.size, 0, none⟩) 0 0, .int .i64 0, .bool ok])) (w1.alloc (.cells #[] 3)) :=
  ⟨w1.heap.size, 0, rfl, hb.size, own_empty w1 _ hb.size, hb.trans ((alloc_below _ _).mono hb.size)⟩
set_option maxRecDepth 100000 in
set_option maxHeartbeats 4000000 in
theorem cheap_any (p : Pg) (A : Option Addr) (c : Nat) (A2 : Option Addr) (c2 : Nat) (w : World) (hp : PAt w p A A2) :
    Calls Try.prog 25 #[pv p A c A2 c2] w (GivesI3 w (chR p) (chC p) (chE p)) := by
  have HI := Lib.hid (fun w' hb => ivp_any p A c A2 c2 w' (hp.kept (w' := w') hb))
  have HB0 := Lib.hid (boxB w 31 p A c A2 c2)
  have H60 := Lib.hid (B6.new w 31 p A c A2 c2)
  have HPA := Lib.hid (fun w' hb => hp.kept (w' := w') hb)
  clear hp
  cases hv : pgB p with
  | false =>
    have HE : Hid (chE p = false) := Lib.hid (by unfold chE; rw [hv]; rfl)
    rw [HE.out, (ch_no HE.out).1, (ch_no HE.out).2]
    rw [hv] at HI
    clear hv
    go_enter Try.func25, Try.ntmps25
    go_wp2_with (first | (go_at_call 14; refine (HI.out _ HB0.out).mono ?_; rintro e w1 ⟨rfl, hb1⟩; refine Hid.out ?_) | fail)
    have HB1 := Lib.hid (HB0.out.trans (hb1.mono HB0.out.size))
    refine Lib.hid ?_
    go_wp2_with fail
    go_ret3
    exact empty_gives3 HB1.out
  | true =>
    have hg := pgB_iff.1 hv
    obtain ⟨q0, q1, q2, q3⟩ := tkB_iff.1 hg.day.tk
    have HCE : chE p = (plan p p.xs.length p.L).ex := by unfold chE; rw [hv]; rfl
    obtain ⟨LN, hLN⟩ : ∃ LN : Nat, p.L = (LN : Int) := ⟨p.L.toNat, by omega⟩
    have htk : tkB (LN : Int) p.a p.b = true := by rw [← hLN]; exact hg.day.tk
    have HFR0 := Lib.hid (fun O w ho => from_any p A c A2 c2 O hg p.xs.length 0 LN w (by omega) htk ho)
    have HLN := Lib.hid hLN
    have HGD := Lib.hid hg
    have hx0 : p.xs ≠ [] := by intro e; have := hg.day.n0; rw [e] at this; simp at this
    have hy0 : p.ys ≠ [] := by intro e; have := hg.day.n0; have := hg.day.eq; rw [e] at this; simp at this; omega
    have HEQ := Lib.hid hg.day.eq
    have hn12 := hg.day.n1
    have hny : p.ys.length ≤ 12 := by rw [HEQ.out]; exact hn12
    have hzr := ol_zero
    have hst := ol_cells (.int .i64 p.L) (.int .i64 p.a) (.int .i64 p.b) (.int .i64 p.pm) (.slice A p.xs.length c) (.slice A2 p.ys.length c2) rfl rfl rfl rfl rfl rfl
    rw [hv] at HI
    cases hE : chE p with
    | false =>
      rw [(ch_no hE).1, (ch_no hE).2]
      have HQX := Lib.hid (HCE.symm.trans hE)
      clear hE
      clear hv hg htk q0 q1 q2 q3 hLN HCE
      go_enter Try.func25, Try.ntmps25
      go_wp2_with (first | (go_at_call 14; refine (HI.out _ HB0.out).mono ?_; rintro e w2 ⟨rfl, hb1⟩; refine Hid.out ?_) | fail)
      have HB2 := Lib.hid (HB0.out.trans (hb1.mono HB0.out.size))
      have H62 := Lib.hid (H60.out.kept hb1)
      obtain ⟨a0, a1, a2, a3, a4, a5⟩ := H62.out.out
      have hwl2 : w.heap.size < w2.heap.size := H62.out.lt
      clear hb1 HI H60 HB0
      have hlt2 := new_lt w2 (.cells (olL (.int .i64 p.L) (.int .i64 p.a) (.int .i64 p.b) (.int .i64 p.pm) (.slice A p.xs.length c) (.slice A2 p.ys.length c2)).toArray 64)
      have hbb := (alloc_below w2 (.cells (olL (.int .i64 p.L) (.int .i64 p.a) (.int .i64 p.b) (.int .i64 p.pm) (.slice A p.xs.length c) (.slice A2 p.ys.length c2)).toArray 64))
      have HB3 := Lib.hid (HB2.out.trans (hbb.mono HB2.out.size))
      have H63 := Lib.hid (H62.out.kept hbb)
      have HO := Lib.hid (Ot.new (c := c) (c2 := c2) (HPA.out w2 HB2.out) hx0 hy0 64)
      have HFR1 := Lib.hid (HFR0.out w2.heap.size _ HO.out)
      rw [← HLN.out] at HFR1
      clear hbb HFR0
      refine Lib.hid ?_
      go_wp2_with (first | (go_at_call 46; refine HFR1.out.mono ?_; rintro e w3 ⟨rfl, hg3, ho3⟩; refine Hid.out ?_) | fail)
      have HB4 := Lib.hid (HB3.out.grown hg3 HB3.out.size (fun k hk => by have : k = w2.heap.size := by simpa using hk.symm
                                                                          omega))
      have H64 := Lib.hid (H63.out.far hg3 (by omega))
      have HO3 := Lib.hid ho3
      have hz3 : w2.heap.size < w3.heap.size := by have := hg3.size; omega
      clear hg3 ho3 HO HFR1 H63 H62 a0 a1 a2 a3 a4 a5 hst hzr HB3
      have hqx := HQX.out
      generalize hpl : plan p p.xs.length p.L = q at hqx ⊢
      obtain ⟨qx, qc, qv⟩ := q
      simp only at hqx
      subst hqx
      have HPL := Lib.hid hpl
      clear hpl
      try dsimp only
      have HB5 := Lib.hid (HB4.out.trans ((alloc_below w3 (.cells #[.bool true, .bool false, .int .i64 qc, .int .i64 qv] 60)).mono HB4.out.size))
      have H65 := Lib.hid (H64.out.kept (alloc_below w3 (.cells #[.bool true, .bool false, .int .i64 qc, .int .i64 qv] 60)))
      have HO5 := Lib.hid (HO3.out.kept (alloc_below w3 (.cells #[.bool true, .bool false, .int .i64 qc, .int .i64 qv] 60)))
      have e6 : E4 (w3.alloc (.cells #[.bool true, .bool false, .int .i64 qc, .int .i64 qv] 60)) w3.heap.size 0 true ⟨false, qc, qv⟩ := by
        refine ⟨?_, ?_, ?_, ?_⟩ <;> (rw [World.cell?_alloc_at _ _ _ _ rfl]; rfl)
      have hz5 := new_lt w3 (.cells #[.bool true, .bool false, .int .i64 qc, .int .i64 qv] 60)
      have HE6 := Lib.hid e6
      clear e6 H64 HO3 HB4
      obtain ⟨w5, hw5⟩ : ∃ w5, w5 = w3.alloc (.cells #[.bool true, .bool false, .int .i64 qc, .int .i64 qv] 60) := ⟨_, rfl⟩
      rw [← hw5] at HB5 H65 HO5 HE6 hz5
      have HW5 := Lib.hid hw5
      clear hw5

      refine Lib.hid ?_
      go_wp2_with fail
      go_ret3
      have hq9 := empty_gives3 (ok := false) HB5.out
      rw [show w5.heap.size = w3.heap.size + 1 by rw [HW5.out]; simp, HW5.out] at hq9
      exact hq9
    | true =>
      rw [(ch_yes hE).1, (ch_yes hE).2]
      have HQX := Lib.hid (HCE.symm.trans hE)
      clear hE
      have HLVT := Lib.hid (fun h (hh : h ≤ p.xs.length) => lvl_tk hg hh)
      have HPV := Lib.hid (fun r L => plan_vol hg (r := r) L)
      have HFR := Lib.hid (fun O r h l w hh ht ho => from_any p A c A2 c2 O hg r h l w hh ht ho)
      clear hv hg htk q0 q1 q2 q3 hLN HCE
      go_enter Try.func25, Try.ntmps25
      go_wp2_with (first | (go_at_call 14; refine (HI.out _ HB0.out).mono ?_; rintro e w2 ⟨rfl, hb1⟩; refine Hid.out ?_) | fail)
      have HB2 := Lib.hid (HB0.out.trans (hb1.mono HB0.out.size))
      have H62 := Lib.hid (H60.out.kept hb1)
      obtain ⟨a0, a1, a2, a3, a4, a5⟩ := H62.out.out
      have hwl2 : w.heap.size < w2.heap.size := H62.out.lt
      clear hb1 HI H60 HB0
      have hlt2 := new_lt w2 (.cells (olL (.int .i64 p.L) (.int .i64 p.a) (.int .i64 p.b) (.int .i64 p.pm) (.slice A p.xs.length c) (.slice A2 p.ys.length c2)).toArray 64)
      have hbb := (alloc_below w2 (.cells (olL (.int .i64 p.L) (.int .i64 p.a) (.int .i64 p.b) (.int .i64 p.pm) (.slice A p.xs.length c) (.slice A2 p.ys.length c2)).toArray 64))
      have HB3 := Lib.hid (HB2.out.trans (hbb.mono HB2.out.size))
      have H63 := Lib.hid (H62.out.kept hbb)
      have HO := Lib.hid (Ot.new (c := c) (c2 := c2) (HPA.out w2 HB2.out) hx0 hy0 64)
      have HFR1 := Lib.hid (HFR0.out w2.heap.size _ HO.out)
      rw [← HLN.out] at HFR1
      clear hbb HFR0
      refine Lib.hid ?_
      go_wp2_with (first | (go_at_call 46; refine HFR1.out.mono ?_; rintro e w3 ⟨rfl, hg3, ho3⟩; refine Hid.out ?_) | fail)
      have HB4 := Lib.hid (HB3.out.grown hg3 HB3.out.size (fun k hk => by have : k = w2.heap.size := by simpa using hk.symm
                                                                          omega))
      have H64 := Lib.hid (H63.out.far hg3 (by omega))
      have HO3 := Lib.hid ho3
      have hz3 : w2.heap.size < w3.heap.size := by have := hg3.size; omega
      clear hg3 ho3 HO HFR1 H63 H62 a0 a1 a2 a3 a4 a5 hst hzr HB3
      have hqx := HQX.out
      generalize hpl : plan p p.xs.length p.L = q at hqx ⊢
      obtain ⟨qx, qc, qv⟩ := q
      simp only at hqx
      subst hqx
      have HPL := Lib.hid hpl
      clear hpl
      try dsimp only
      have HB5 := Lib.hid (HB4.out.trans ((alloc_below w3 (.cells #[.bool true, .bool true, .int .i64 qc, .int .i64 qv] 60)).mono HB4.out.size))
      have H65 := Lib.hid (H64.out.kept (alloc_below w3 (.cells #[.bool true, .bool true, .int .i64 qc, .int .i64 qv] 60)))
      have HO5 := Lib.hid (HO3.out.kept (alloc_below w3 (.cells #[.bool true, .bool true, .int .i64 qc, .int .i64 qv] 60)))
      have e6 : E4 (w3.alloc (.cells #[.bool true, .bool true, .int .i64 qc, .int .i64 qv] 60)) w3.heap.size 0 true ⟨true, qc, qv⟩ := by
        refine ⟨?_, ?_, ?_, ?_⟩ <;> (rw [World.cell?_alloc_at _ _ _ _ rfl]; rfl)
      have hz5 := new_lt w3 (.cells #[.bool true, .bool true, .int .i64 qc, .int .i64 qv] 60)
      have HE6 := Lib.hid e6
      clear e6 H64 HO3 HB4
      obtain ⟨w5, hw5⟩ : ∃ w5, w5 = w3.alloc (.cells #[.bool true, .bool true, .int .i64 qc, .int .i64 qv] 60) := ⟨_, rfl⟩
      rw [← hw5] at HB5 H65 HO5 HE6 hz5
      have HW5 := Lib.hid hw5
      clear hw5

      have hmk := run_make_row' (P := Try.prog) 24 3 (.int .i64 0) 8 Try.underlying24 infoI rfl .i64 .i64 p.ys.length (by omega) (by omega)
      obtain ⟨a0, a1, a2, a3, a4, a5⟩ := H65.out.out
      refine Lib.hid ?_
      go_upto_region 7 with (fail)
      rw [← HW5.out]
      go_cut [7, 8] (fun s t wx => ∃ G H : Nat, s = .slice (some ⟨G, 0, none⟩) p.ys.length p.ys.length ∧ t = .pointer (some ⟨H, 0, none⟩) ∧ Hid (RT w5 wx G H p.ys.length (sch p p.xs.length) 0 p.L p.a p.b))
      case first =>
        have HLEN := Lib.hid (show (sch p p.xs.length).length = p.ys.length by rw [sch_len, HEQ.out])
        have hnm : p.ys.length ≤ 1048576 := by omega
        have hwl5 : w.heap.size < w5.heap.size := H65.out.lt
        go_region
        all_goals
          go_wp2_with fail
          go_meet
          first
            | exact ⟨_, _, rfl, rfl, Lib.hid (rt_a w5 (sch p p.xs.length) p.ys.length HLEN.out hnm 29 p.L p.a p.b).drew⟩
            | exact ⟨_, _, rfl, rfl, Lib.hid (rt_b w5 (sch p p.xs.length) p.ys.length HLEN.out hnm 29 p.L p.a p.b).drew⟩
      case rest =>
        obtain ⟨G, H, rfl, rfl, hrt⟩ := hcut
        obtain ⟨w6, hw6⟩ : ∃ w6, w6 = wc := ⟨_, rfl⟩
        subst hw6
        clear hmk a0 a1 a2 a3 a4 a5
        have HLEN := Lib.hid (show (sch p p.xs.length).length = p.ys.length by rw [sch_len, HEQ.out])
        have HLA := Lib.hid (fun k (hk : k < p.xs.length) => sch_at p (k := p.xs.length) (i := k) hk)
        have hz36 : w3.heap.size < w5.heap.size := hz5
        have HCH := Lib.hid (show Ch w w6 p A c A2 c2 w2.heap.size w3.heap.size w5.heap.size G H p.ys.length (sch p p.xs.length) 0 (lvl p 0) p.a p.b ⟨true, qc, qv⟩ from
          ⟨HB5.out.trans (hrt.out.bw.mono HB5.out.size), HO5.out.kept hrt.out.bw, hrt.out.ru, HE6.out.same fun j => hrt.out.bw.cell (p := ⟨w3.heap.size, j, none⟩) hz36, hwl2, hz3, hz36⟩)
        obtain ⟨a0, a1, a2, a3, a4, a5⟩ := (H65.out.kept hrt.out.bw).out
        clear hrt HE6 HO5 HB5 H65 HW5 HQX HB2
        go_wp2_with fail
        clear a0 a1 a2 a3 a4 a5
        generalize hel : sch p p.xs.length = el at *
        clear hel
        go_loopw [33] (fun i wr => ∃ k : Nat, k ≤ p.ys.length ∧ i = .int .i64 (k : Int) ∧ Hid (Ch w wr p A c A2 c2 w2.heap.size w3.heap.size w5.heap.size G H p.ys.length el k (lvl p k) p.a p.b ⟨true, qc, qv⟩)) (fun i _ => p.ys.length - (intOf i).toNat)
        case atStart => exact ⟨0, Nat.zero_le _, rfl, HCH⟩
        case round =>
          obtain ⟨k, hk, rfl, hr⟩ := hrel
          clear HCH
          obtain ⟨hGlo, hGlt, hHlt⟩ := hr.out.ru.lt
          have hHlo := hr.out.ru.lo
          have hne := hr.out.ru.ne
          by_cases hlt : k < p.ys.length
          · have hkx : k < p.xs.length := by rw [← HEQ.out]; exact hlt
            have htk := HLVT.out k (by omega)
            obtain ⟨t0, t1, t2, t3⟩ := tkB_iff.1 htk
            have hpv := HPV.out (p.xs.length - k) (lvl p k)
            have hst9 := good_st HGD.out hkx htk hpv.1 hpv.2
            obtain ⟨by_, oy, hAy, hby, hcy⟩ := hr.out.ot.pat.y.at_ hlt
            have hyO := hr.out.ot.ay by_ oy hAy
            subst hAy
            have hk0 : (0 : Int) ≤ (k : Int) := by omega
            have hkn : (k : Int) < (p.ys.length : Int) := by omega
            obtain ⟨_, b0, b1, b2⟩ := hr.out.ru.bt
            obtain ⟨zl, hzl⟩ : ∃ zl : Nat, lvl p k = (zl : Int) := ⟨(lvl p k).toNat, by omega⟩
            have HV := Lib.hid (show (plan p (p.xs.length - k) (lvl p k)).vol = el.getD k 0 by rw [HLA.out k hkx]; rfl)
            have HST := Lib.hid (fun w => step_yes (lvl p k) p.a p.b (plan p (p.xs.length - k) (lvl p k)).vol (p.ys.getD k 0) w hst9)
            unfold StepIs at HST
            have hq : nxt p.a p.b (lvl p k) (plan p (p.xs.length - k) (lvl p k)).vol (p.ys.getD k 0) = lvl p (k + 1) := rfl
            rw [hq] at HST
            have HF9 := Lib.hid (HFR.out w2.heap.size (p.xs.length - k) k zl wr (by omega) (by rw [← hzl]; exact htk) hr.out.ot)
            rw [← hzl] at HF9
            clear hq hst9 htk hzl
            obtain ⟨z, hz⟩ : ∃ z, lvl p (k + 1) = z := ⟨_, rfl⟩
            rw [hz] at HST
            have HZ := Lib.hid hz
            clear hz
            rw [HV.out] at HST hpv
            generalize hpk : plan p (p.xs.length - k) (lvl p k) = pk at *
            clear hpk
            obtain ⟨v, hv⟩ : ∃ v, el.getD k 0 = v := ⟨_, rfl⟩
            rw [hv] at HV HST hpv
            generalize spl p.b (lvl p k) v = s9 at *
            generalize mis p.a p.b (lvl p k) v (p.ys.getD k 0) = m9 at *
            generalize hl0 : lvl p k = l0 at *
            clear hl0
            generalize hy0 : p.ys.getD k 0 = y at *
            clear hy0
            have hfv := plv_vol
            go_wp2_with (first | (go_at_call 46; refine HF9.out.mono ?_; rintro e w7 ⟨rfl, hg7, ho7⟩; refine Hid.out ?_) | fail)
            have HC7 := Lib.hid (hr.out.from hg7 ho7)
            clear hg7 ho7 hr b0 b1 b2 hcy HF9
            obtain ⟨hGlo, hGlt, hHlt⟩ := HC7.out.ru.lt
            obtain ⟨u, hu⟩ := fiI_has el k (by rw [HLEN.out]; exact hlt)
            have hcell := (HC7.out.ru.row.cellAt k (by omega)).trans hu
            have hfz := HC7.out.ru.row.frozenAt k
            have HCS := Lib.hid (HC7.out.store (by rw [HLEN.out]; exact hlt))
            rw [hv] at HCS
            obtain ⟨_, b0, b1, b2⟩ := HC7.out.ru.bt
            have hcS : Hid ((w7.setCell ⟨G, k, none⟩ (iv v)).cell? ⟨G, k, none⟩ = some (iv v)) := Lib.hid (World.cell?_setCell_same _ _ _ hcell)
            have hpkv := HV.out
            clear HV hv
            refine Lib.hid ?_
            go_wp2_with fail
            try rw [hpkv]
            obtain ⟨wS, hwS⟩ : ∃ wS, wS = w7.setCell ⟨G, k, none⟩ (iv v) := ⟨_, rfl⟩
            rw [← hwS] at HCS hcS ⊢
            clear hwS b0 b1 b2 hcell hu hfz HC7 hpkv
            obtain ⟨_, b0, b1, b2⟩ := HCS.out.ru.bt
            obtain ⟨f0, f1, f2⟩ := HCS.out.ru.fz.out
            have hc9 := hcS.out
            obtain ⟨hG2, hG3, hH3⟩ := HCS.out.ru.lt
            go_region_with (first
              | (go_at_call 48; refine (HST.out _).mono ?_; rintro e w8 ⟨rfl, hb8⟩; have HC8 := Lib.hid (HCS.out.call ((Below.refl wS.heap.size wS).drew.trans hb8)); obtain ⟨_, d0, d1, d2⟩ := HC8.out.ru.bt; obtain ⟨e0, e1, e2⟩ := HC8.out.ru.fz.out))
            all_goals
              go_wp2_with fail
              have HC9 := Lib.hid (HC8.out.put z p.a p.b)
              go_roundw
              case rel => exact ⟨k + 1, by omega, by go_num, by rw [HZ.out]; exact HC9⟩
              case measure => simp [intOf]; omega
          · have e : k = p.ys.length := by omega
            subst e
            have ho := hr.out.ru.row
            have e2 := fiI_full el
            rw [HLEN.out] at e2
            rw [e2] at ho
            have HO9 := Lib.hid (show IOwn wr w5.heap.size (.slice (some ⟨G, 0, none⟩) el.length p.ys.length) el by unfold IOwn; rw [HLEN.out]; exact ho)
            obtain ⟨g0, g1, g2, g3⟩ := hr.out.e6.six
            have hBw := Lib.hid hr.out.bw
            have hq6 : w3.heap.size < wr.heap.size := by omega
            clear ho e2 hr
            go_wp2_with fail
            have hG := @cell_g
            refine region_below (by kernel_rfl) (by kernel_rfl) ?_
            repeat (first | go_big_quiet_step (fail))
            refine wpQuiet_nil ?_
            intro wz hbz
            have HBZ := Lib.hid (hBw.out.trans (hbz.mono hBw.out.size))
            have HOZ := Lib.hid (HO9.out.on hbz)
            clear hbz hG
            go_wp2_with fail
            go_ret3
            exact ⟨G, p.ys.length, by rw [HLEN.out, HPL.out]; rfl, by omega, own_lower HOZ.out (by omega), HBZ.out⟩
end Go.Proofs.Ytlkomipjamelkaa.S13
