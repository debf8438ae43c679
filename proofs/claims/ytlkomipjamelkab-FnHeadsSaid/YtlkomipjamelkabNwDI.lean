/- How the laws draw a network: a network under way, in a box of its own: contracts. Conditions: each theorem's own premises. -/
import Derived.Test.YtlkomipjamelkabPfDraw
import Derived.Test.YtlkomipjamelkabAmB
import Derived.Test.YtlkomipjamelkabNetKit
import Derived.OneCell
import Derived.Lib.SmallJoins
import Derived.Lib.OwnKind
namespace Go.Proofs.Ytlkomipjamelkab.S1
open Go.RowKit
/-- one. -/
theorem one_any (B g : Nat) (a : Option Addr) (n cap K : Nat) (m : Int) (w : World) (hK : K ≤ 900000) (h1 : 1 ≤ m) (h2 : m ≤ 1000000) (h : St B g a n cap K w) :
    Calls Try.prog 118 #[.pointer (some ⟨g, 0, none⟩), .int .i64 m] w fun e w' => ∃ r : Bool, e = .returned (.bool r) ∧ St B g a n cap (K + 2) w' ∧ w.grownBy w' (some g) := by
  have HS := Lib.hid h
  clear h
  go_enter Try.func118, Try.ntmps118
  go_wp2_with (go_at_call 109; refine (pick_any B g a n cap K m _ hK h1 h2 HS.out).mono ?_; rintro e w1 ⟨r, rfl, hr0, hr1, hs1, hg1⟩)
  go_ret
  exact ⟨_, rfl, hs1, hg1⟩
end Go.Proofs.Ytlkomipjamelkab.S1
namespace Go.Proofs.Ytlkomipjamelkab.S2
open Go.RowKit P2

theorem st_row {B g gv : Nat} {a : Option Addr} {n cap K : Nat} {w w' : World} (h : S1.St B g a n cap K w) (hg : w.grownBy w' (some gv)) (hlt : g < gv) : S1.St B g a n cap K w' := by
  obtain ⟨k, sd, hk, hh⟩ := h.cur
  have hB := h.bg
  refine ⟨?_, ⟨k, sd, hk, ?_⟩, h.bg, h.few⟩
  · rcases h.cd with h0 | ⟨b, off, ha, hbB, hc⟩
    · exact .inl h0
    · refine .inr ⟨b, off, ha, hbB, fun j hj => ?_⟩
      obtain ⟨u, hu, hcv⟩ := hc j hj
      exact ⟨u, hu, hg.cell hcv (by simp; omega)⟩
  · have hlt2 : g < w.heap.size := (Array.getElem?_eq_some_iff.1 hh).1
    rw [hg.block g hlt2 (by simp; omega)]; exact hh
theorem grown_row {w w1 w2 : World} {g gv : Nat} (h : w.grownBy w1 (some g)) (h2 : w1.grownBy w2 (some gv)) (hg : w.heap.size ≤ gv) : w.grownBy w2 (some g) :=
  ⟨h2.os.trans h.os, h2.tape.trans h.tape, h2.output.trans h.output, Nat.le_trans h.size h2.size, fun k hk hne => (h2.block k (Nat.lt_of_lt_of_le hk h.size) (by simp; omega)).trans (h.block k hk hne)⟩
/-- A network in a box of its own. -/
def TN (w : World) (T : Nat) (x v : Value) : Prop := w.heap[T]? = some (.cells #[x, v] 26 (0, 0))
theorem TN.lt {w : World} {T : Nat} {x v : Value} (h : TN w T x v) : T < w.heap.size := (Array.getElem?_eq_some_iff.1 h).1
theorem TN.cell {w : World} {T : Nat} {x v : Value} (h : TN w T x v) : w.cell? ⟨T, 0, none⟩ = some x ∧ w.cell? ⟨T, 1, none⟩ = some v := by
  rw [cell_of_row w T 0 _ 26 (0, 0) h, cell_of_row w T 1 _ 26 (0, 0) h]
  exact ⟨rfl, rfl⟩
theorem TN.frozen {w : World} {T : Nat} {x v : Value} (h : TN w T x v) (o : Nat) : w.frozen? ⟨T, o, none⟩ = false := by
  unfold TN at h
  simp [World.frozen?, h]
theorem TN.set1 {w : World} {T : Nat} {x v : Value} (h : TN w T x v) (u : Value) : TN (w.setCell ⟨T, 1, none⟩ u) T x u := by
  unfold TN at h ⊢
  simp [World.setCell, Array.getElem?_modify, h]
theorem TN.kept {w w' : World} {T : Nat} {x v : Value} (h : TN w T x v) (hb : w'.heap[T]? = w.heap[T]?) : TN w' T x v := hb.trans h
theorem TN.below {w w' : World} {T : Nat} {x v : Value} (h : TN w T x v) (hb : Below w.heap.size w w') : TN w' T x v := h.kept (hb.block T h.lt)
theorem TN.other {w : World} {T : Nat} {x v : Value} (h : TN w T x v) {p : Addr} (u : Value) (hp : T ≠ p.block) : TN (w.setCell p u) T x v := h.kept (Below.heap_setCell _ _ _ _ (by intro e; exact hp (by rw [e])))
theorem TN.grown {w w' : World} {T g : Nat} {x v : Value} (h : TN w T x v) (hg : w.grownBy w' (some g)) (hne : T ≠ g) : TN w' T x v := h.kept (hg.block T h.lt (by simp; exact hne))
theorem TN.made (w : World) (x v : Value) : TN (w.alloc (.cells #[x, v] 26)) w.heap.size x v := by
  unfold TN
  simpa using (MapKept.heap_alloc w (.cells #[x, v] 26)).1
theorem grown_some {w w' : World} {row : Option Nat} (h : w.grownBy w' row) (X : Nat) (hX : ∀ k, row = some k → k = X) : w.grownBy w' (some X) :=
  ⟨h.os, h.tape, h.output, h.size, fun k hk hne => h.block k hk (fun e => hne (by rw [hX k e.symm]))⟩
theorem own_net {w : World} {base T n : Nat} {x v u : Value} {xs : List Value} (h : w.ownsRow base 40 4 u n xs) (hb : TN w T x v) : u.ownBlock ≠ some T := by
  intro e
  obtain ⟨c, fz, hc⟩ := Lib.ownsRow_kind h T e
  unfold TN at hb
  rw [hb] at hc
  injection hc with hc
  injection hc with _ h2 _
  exact absurd h2 (by decide)
/-- A network under way: the cursor, what has changed, the pipes so far in a row of its own, the network in its box. -/
structure NI (w wr : World) (B g : Nat) (a : Option Addr) (n cap K T : Nat) (N : Int) (v : Value) (ps : List Pp) : Prop where
  st : S1.St B g a n cap K wr
  gr : w.grownBy wr (some g)
  own : wr.ownsRow w.heap.size 40 4 v ps.length (pcs ps)
  box : TN wr T (.int .i64 N) v
  res : TN wr w.heap.size (.int .i64 0) (.slice none 0 0)
  lo : w.heap.size < T
  gw : g < w.heap.size
theorem NI.alloc {w wr : World} {B g : Nat} {a : Option Addr} {n cap K T : Nat} {N : Int} {v : Value} {ps : List Pp} (h : NI w wr B g a n cap K T N v ps) (ob : Obj) : NI w (wr.alloc ob) B g a n cap K T N v ps :=
  ⟨S1.st_new h.st _, S1.grown_new h.gr _, h.own.alloc _, h.box.below (alloc_below _ _), h.res.below (alloc_below _ _), h.lo, h.gw⟩
theorem NI.call {w wr w2 : World} {B g : Nat} {a : Option Addr} {n cap K K' T : Nat} {N : Int} {v : Value} {ps : List Pp} (h : NI w wr B g a n cap K T N v ps) (hs : S1.St B g a n cap K' w2) (hg : wr.grownBy w2 (some g)) : NI w w2 B g a n cap K' T N v ps :=
  ⟨hs, S1.grown_trans h.gr hg, World.ownsRow.kept h.own hg (.inr (fun e => by have := (h.own.lt g e).1; have := h.gw; omega)), h.box.grown hg (by have := h.lo; have := h.gw; omega), h.res.grown hg (by have := h.gw; omega), h.lo, h.gw⟩
theorem NI.more {w wr : World} {B g : Nat} {a : Option Addr} {n cap K K' T : Nat} {N : Int} {v : Value} {ps : List Pp} (h : NI w wr B g a n cap K T N v ps) (hK : K ≤ K') : NI w wr B g a n cap K' T N v ps := ⟨h.st.more hK, h.gr, h.own, h.box, h.res, h.lo, h.gw⟩
/-- A pipe is appended and the row stored in the network's box. -/
theorem NI.push {w wr w2 : World} {B g : Nat} {a : Option Addr} {n cap K T : Nat} {N : Int} {v v' : Value} {ps : List Pp} {p : Pp} (h : NI w wr B g a n cap K T N v ps) (hg : wr.grownBy w2 v.ownBlock) (ho : w2.ownsRow w.heap.size 40 4 v' (ps.length + 1) (pcs ps ++ pcs4 p)) : NI w (w2.setCell ⟨T, 1, none⟩ v') B g a n cap K T N v' (ps ++ [p]) := by
  have hlt := h.box.lt
  have hlo := h.lo
  have hgw := h.gw
  have hgz := h.gr.size
  have hbg := h.st.bg
  obtain ⟨X, hX, hgX, hloX, hTX, hRX⟩ : ∃ X, (∀ k, v.ownBlock = some k → k = X) ∧ g < X ∧ w.heap.size ≤ X ∧ T ≠ X ∧ w.heap.size ≠ X := by
    rcases Go.Joins.ownsRow_forms h.own with ⟨hv, _⟩ | ⟨q, c, hv⟩
    · exact ⟨wr.heap.size, fun k hk => by rw [hv] at hk; simp [Value.ownBlock] at hk, by omega, hgz, by omega, by omega⟩
    · have hq : v.ownBlock = some q := by rw [hv]; rfl
      have h1 := h.own.lt q hq
      have h2 := own_net h.own h.box
      have h3 := own_net h.own h.res
      exact ⟨q, fun k hk => by rw [hq] at hk; injection hk with hk; exact hk.symm, by omega, h1.1, fun e => h2 (by rw [hq, e]), fun e => h3 (by rw [hq, e])⟩
  have hg2 := grown_some hg X hX
  have hb2 := h.box.grown hg2 hTX
  have hne := own_net ho hb2
  refine ⟨S1.st_far (st_row h.st hg2 hgX) (by omega) (by omega), S1.grown_setnew (grown_row h.gr hg2 hloX) (Nat.le_of_lt h.lo), ?_, hb2.set1 _, (h.res.grown hg2 hRX).other _ (by have := h.lo; show w.heap.size ≠ T; omega), h.lo, h.gw⟩
  have ho2 := ownsRow_setCell_other ho (a := ⟨T, 1, none⟩) hne v'
  rw [pcs_snoc, List.length_append]
  exact ho2
/-- Between the append and the store: the network's box lies as it lay. -/
theorem NI.mid {w wr w2 : World} {B g : Nat} {a : Option Addr} {n cap K T : Nat} {N : Int} {v v' : Value} {ps : List Pp} {L : List Value} (h : NI w wr B g a n cap K T N v ps) (hg : wr.grownBy w2 v.ownBlock) (ho : w2.ownsRow w.heap.size 40 4 v' (ps.length + 1) (pcs ps ++ L)) : w2.cell? ⟨T, 0, none⟩ = some (.int .i64 N) ∧ w2.cell? ⟨T, 1, none⟩ = some v ∧ w2.frozen? ⟨T, 1, none⟩ = false ∧ ∃ q c, v' = .slice (some ⟨q, 0, none⟩) (ps.length + 1) c := by
  have hb : TN w2 T (.int .i64 N) v := TN.kept h.box (hg.block T h.box.lt (fun e => own_net h.own h.box e.symm))
  exact ⟨hb.cell.1, hb.cell.2, hb.frozen 1, Go.Joins.ownsRow_form ho (by omega)⟩
/-- The number of nodes is written. -/
theorem TN.put0 {w : World} {T : Nat} {x v : Value} (h : TN w T x v) (u : Value) : TN (w.setCell ⟨T, 0, none⟩ u) T u v := by
  unfold TN at h ⊢
  simp [World.setCell, Array.getElem?_modify, h]
theorem NI.nodes {w wr : World} {B g : Nat} {a : Option Addr} {n cap K T : Nat} {N : Int} {v : Value} {ps : List Pp} (h : NI w wr B g a n cap K T N v ps) (M : Int) : NI w (wr.setCell ⟨T, 0, none⟩ (.int .i64 M)) B g a n cap K T M v ps :=
  ⟨S1.st_far h.st (by have := h.lo; have := h.gw; omega) (by have := h.lo; have := h.gw; have := h.st.bg; omega), S1.grown_setnew h.gr (Nat.le_of_lt h.lo), ownsRow_setCell_other h.own (a := ⟨T, 0, none⟩) (own_net h.own h.box) _, h.box.put0 _, h.res.other _ (by have := h.lo; show w.heap.size ≠ T; omega), h.lo, h.gw⟩
/-- A box beside the row and the network is written. -/
theorem NI.box' {w wr : World} {B g : Nat} {a : Option Addr} {n cap K T : Nat} {N : Int} {v : Value} {ps : List Pp} (h : NI w wr B g a n cap K T N v ps) (X i : Nat) (u : Value) (hX : w.heap.size < X) (hT : T ≠ X) (hv : v.ownBlock ≠ some X) : NI w (wr.setCell ⟨X, i, none⟩ u) B g a n cap K T N v ps :=
  ⟨S1.st_far h.st (by have := h.gw; omega) (by have := h.gw; have := h.st.bg; omega), S1.grown_setnew h.gr (Nat.le_of_lt hX), ownsRow_setCell_other h.own (a := ⟨X, i, none⟩) hv _, h.box.other _ hT, h.res.other _ (by show w.heap.size ≠ X; omega), h.lo, h.gw⟩
/-- A new block is in no row. -/
theorem NI.new {w wr : World} {B g : Nat} {a : Option Addr} {n cap K T : Nat} {N : Int} {v : Value} {ps : List Pp} (h : NI w wr B g a n cap K T N v ps) : v.ownBlock ≠ some wr.heap.size := fun e => by have := (h.own.lt _ e).2; omega
theorem NI.start {w wr : World} {B g : Nat} {a : Option Addr} {n cap K : Nat} (N : Int) (h : S1.St B g a n cap K wr) (hg : w.grownBy wr (some g)) (hgw : g < w.heap.size) (hr : TN wr w.heap.size (.int .i64 0) (.slice none 0 0)) : NI w (wr.alloc (nb N none 0 0)) B g a n cap K wr.heap.size N (.slice none 0 0) [] :=
  ⟨S1.st_new h _, S1.grown_new hg _, World.ownsRow_nil _ _ _ _, TN.made _ _ _, hr.below (alloc_below _ _), hr.lt, hgw⟩
/-- A pipe in a box of its own. -/
def PX (w : World) (P : Nat) (p : Pp) : Prop := w.heap[P]? = some (.cells #[.int .i64 p.id, .int .i64 p.fr, .int .i64 p.to, .int .i64 p.sz] 40 (0, 0))
theorem PX.lt {w : World} {P : Nat} {p : Pp} (h : PX w P p) : P < w.heap.size := (Array.getElem?_eq_some_iff.1 h).1
theorem PX.cells {w : World} {P : Nat} {p : Pp} (h : PX w P p) : w.cell? ⟨P, 0, none⟩ = some (.int .i64 p.id) ∧ w.cell? ⟨P, 1, none⟩ = some (.int .i64 p.fr) ∧ w.cell? ⟨P, 2, none⟩ = some (.int .i64 p.to) ∧ w.cell? ⟨P, 3, none⟩ = some (.int .i64 p.sz) := by
  rw [cell_of_row w P 0 _ 40 (0, 0) h, cell_of_row w P 1 _ 40 (0, 0) h, cell_of_row w P 2 _ 40 (0, 0) h, cell_of_row w P 3 _ 40 (0, 0) h]
  exact ⟨rfl, rfl, rfl, rfl⟩
theorem PX.frozen {w : World} {P : Nat} {p : Pp} (h : PX w P p) (o : Nat) : w.frozen? ⟨P, o, none⟩ = false := by
  unfold PX at h
  simp [World.frozen?, h]
theorem PX.made (w : World) (p : Pp) : PX (w.alloc (.cells #[.int .i64 p.id, .int .i64 p.fr, .int .i64 p.to, .int .i64 p.sz] 40)) w.heap.size p := by
  unfold PX
  simpa using (MapKept.heap_alloc w (.cells #[.int .i64 p.id, .int .i64 p.fr, .int .i64 p.to, .int .i64 p.sz] 40)).1
theorem PX.grown {w w' : World} {P g : Nat} {p : Pp} (h : PX w P p) (hg : w.grownBy w' (some g)) (hne : P ≠ g) : PX w' P p := (hg.block P h.lt (by simp; exact hne)).trans h
theorem PX.whole {w : World} {P : Nat} {p : Pp} (h : PX w P p) (q : Pp) : PX ((((w.setCell ⟨P, 0, none⟩ (.int .i64 q.id)).setCell ⟨P, 1, none⟩ (.int .i64 q.fr)).setCell ⟨P, 2, none⟩ (.int .i64 q.to)).setCell ⟨P, 3, none⟩ (.int .i64 q.sz)) P q := by
  unfold PX at h ⊢
  simp [World.setCell, Array.getElem?_modify, h]
theorem PX.one {w : World} {P : Nat} {p : Pp} (h : PX w P p) (x : Int) : PX (w.setCell ⟨P, 0, none⟩ (.int .i64 x)) P ⟨x, p.fr, p.to, p.sz⟩ ∧ PX (w.setCell ⟨P, 2, none⟩ (.int .i64 x)) P ⟨p.id, p.fr, x, p.sz⟩ ∧ PX (w.setCell ⟨P, 3, none⟩ (.int .i64 x)) P ⟨p.id, p.fr, p.to, x⟩ := by
  unfold PX at h ⊢
  refine ⟨?_, ?_, ?_⟩ <;> simp [World.setCell, Array.getElem?_modify, h]
theorem NI.swap {w wr : World} {B g : Nat} {a : Option Addr} {n cap K T : Nat} {N : Int} {v : Value} {ps : List Pp} (h : NI w wr B g a n cap K T N v ps) (X : Nat) (p : Pp) (hX : w.heap.size < X) (hT : T ≠ X) (hv : v.ownBlock ≠ some X) : NI w ((((wr.setCell ⟨X, 0, none⟩ (.int .i64 p.id)).setCell ⟨X, 1, none⟩ (.int .i64 p.fr)).setCell ⟨X, 2, none⟩ (.int .i64 p.to)).setCell ⟨X, 3, none⟩ (.int .i64 p.sz)) B g a n cap K T N v ps :=
  (((h.box' X 0 _ hX hT hv).box' X 1 _ hX hT hv).box' X 2 _ hX hT hv).box' X 3 _ hX hT hv
theorem cells_newP (w : World) (p : Pp) : ∀ j u, (pcs4 p)[j]? = some u → (w.alloc (.cells #[.int .i64 p.id, .int .i64 p.fr, .int .i64 p.to, .int .i64 p.sz] 40)).cell? ((⟨w.heap.size, 0, none⟩ : Addr).add j) = some u := by
  intro j u hu
  have := PX.cells (PX.made w p)
  match j, hu with
  | 0, hu => rw [add_plus, Nat.zero_add, this.1]; simpa [pcs4] using hu
  | 1, hu => rw [add_plus, Nat.zero_add, this.2.1]; simpa [pcs4] using hu
  | 2, hu => rw [add_plus, Nat.zero_add, this.2.2.1]; simpa [pcs4] using hu
  | 3, hu => rw [add_plus, Nat.zero_add, this.2.2.2]; simpa [pcs4] using hu
  | j + 4, hu => simp [pcs4] at hu
theorem nat_in {r m : Int} (h0 : 0 ≤ r) (h9 : r < m) : ∃ k : Nat, r = (k : Int) ∧ (k : Int) < m := ⟨r.toNat, by omega, by omega⟩
/-- What a drawn network is: its nodes, its pipes in a row that is nil or its own. -/
def NetPost (B g : Nat) (a : Option Addr) (n cap K m : Nat) (w : World) (e : Ending) (w' : World) : Prop :=
  ∃ (N : Int) (v : Value) (ps : List Pp), e = .returned (.agg #[.int .i64 N, v]) ∧ (0 ≤ N ∧ N ≤ 9) ∧ ps.length ≤ m ∧ w'.ownsRow w.heap.size 40 4 v ps.length (pcs ps) ∧ S1.St B g a n cap K w' ∧ w.grownBy w' (some g)
theorem NI.drew {w wr : World} {B g : Nat} {a : Option Addr} {n cap K T : Nat} {N : Int} {v : Value} {ps : List Pp} (h : NI w wr B g a n cap K T N v ps) : NI w wr.drew B g a n cap K T N v ps :=
  h.call (h.st.other ((Below.refl _ _).drew)) (by have h := World.grownBy.refl wr (some g); exact ⟨h.os, h.tape, h.output, h.size, h.block⟩)
theorem NI.done {w wr : World} {B g : Nat} {a : Option Addr} {n cap K K' T m : Nat} {N : Int} {v : Value} {ps : List Pp} (h : NI w wr B g a n cap K T N v ps) (hK : K ≤ K') (hN : 0 ≤ N ∧ N ≤ 9) (hm : ps.length ≤ m) : NetPost B g a n cap K' m w (.returned (.agg #[.int .i64 N, v])) ((wr.setCell ⟨w.heap.size, 0, none⟩ (.int .i64 N)).setCell ⟨w.heap.size, 1, none⟩ v) := by
  have hne := own_net h.own h.res
  have hg : w.heap.size ≠ g := by have := h.gw; omega
  have hB : B ≤ w.heap.size := by have := h.gw; have := h.st.bg; omega
  have h1 := ownsRow_setCell_other h.own (a := ⟨w.heap.size, 0, none⟩) hne (.int .i64 N)
  exact ⟨N, v, ps, rfl, hN, hm, ownsRow_setCell_other h1 (a := ⟨w.heap.size, 1, none⟩) hne v, (S1.st_far (S1.st_far h.st hg hB) hg hB).more hK, S1.grown_setnew (S1.grown_setnew h.gr (Nat.le_refl _)) (Nat.le_refl _)⟩
end Go.Proofs.Ytlkomipjamelkab.S2
