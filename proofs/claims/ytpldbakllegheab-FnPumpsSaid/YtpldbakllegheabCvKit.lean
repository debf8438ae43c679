/- What the laws of chapter 7 need: points of curves read, owned, compared, copied and marked; an argument opened. Conditions: each theorem's own premises. -/
import Derived.Test.YtpldbakllegheabChecked
import Derived.Test.YtpldbakllegheabCvPlain
import Derived.WalkKit
import Derived.ProofKit
import Derived.LoopTactic
import Derived.IntWalk
import Derived.Lib.Hide
import Derived.WalkSpells
import Derived.WalkSmall
import Derived.WalkLawsBesides
import Derived.Outline
import Derived.Below
import Derived.Deep.RegionWith
import Derived.Deep.QuietTactic
import Derived.Deep.OwnRows
import Derived.Deep.AppendLies
import Derived.Deep.Slices
import Derived.Deep.Fields
import Derived.Deep.DeepCutAuto
import Derived.Lib.QuietBelow
import Derived.Lib.SmallJoins
import Derived.BigQuiet
import Derived.Maps.AppendAt
import Derived.Laws.OwnMore
import Derived.Laws.CopyOwn
import Derived.Laws.CopyRow
import Derived.OwnWalk
import Derived.ChangeSame
import Derived.OpenShut
namespace Go.Proofs.Ytpldbakllegheab.S7
open Go.RowKit Go.Sort Go.ChangeShapes Go.WideShapes Go.Deep Go.Joins P7

theorem bcell {W w1 : World} (hb : Below W.heap.size W w1) : (∀ b o, b < W.heap.size → w1.cell? ⟨b, o, none⟩ = W.cell? ⟨b, o, none⟩) ∧ (∀ b o, b < W.heap.size → w1.frozen? ⟨b, o, none⟩ = W.frozen? ⟨b, o, none⟩) :=
  ⟨fun b o h => hb.cell (p := ⟨b, o, none⟩) h, fun b o h => hb.frozen (p := ⟨b, o, none⟩) h⟩
theorem in_any (x a b : Int) (w : World) :
    Calls Try.prog 51 #[.int .i64 x, .int .i64 a, .int .i64 b] w fun e w' => e = .returned (.bool (decide (a ≤ x ∧ x ≤ b))) ∧ w' = w := by
  by_cases h1 : a ≤ x
  · have e : decide (a ≤ x ∧ x ≤ b) = decide (x ≤ b) := by simp [h1]
    rw [e]
    go_enter Try.func51, Try.ntmps51
    go_wp2
    go_ret
    exact ⟨rfl, rfl⟩
  · have e : decide (a ≤ x ∧ x ≤ b) = false := by simp [h1]
    rw [e]
    go_enter Try.func51, Try.ntmps51
    go_wp2
    go_ret
    exact ⟨rfl, rfl⟩
theorem in_eq (x a b : Int) (v : Bool) (h : decide (a ≤ x ∧ x ≤ b) = v) (w : World) :
    Calls Try.prog 51 #[.int .i64 x, .int .i64 a, .int .i64 b] w fun e w' => e = .returned (.bool v) ∧ w' = w := by
  rw [← h]; exact in_any x a b w
theorem cell_g (W : World) (d : Nat) (os : Array Obj) (b o : Nat) (h : b < W.heap.size) : (grow (redrawn W d) os).cell? ⟨b, o, none⟩ = W.cell? ⟨b, o, none⟩ :=
  (below_regrown W d os).cell (p := ⟨b, o, none⟩) h
theorem of_regrown {W w' : World} (h : ∃ p : Regrown, w' = grow (redrawn W p.d) p.os) : Below W.heap.size W w' := by
  obtain ⟨p, rfl⟩ := h; exact below_regrown _ _ _
theorem region_below {P : Program} {id : Nat} {Q : Exit → Act → World → Prop} {a : Act} {w : World} {l : List Oper} (hm : P.follows .mixedOrders = true) (hB : Region.lexB .any l.toArray = true)
    (h : wpQuiet P l.toArray (fun w' => ∃ p : Regrown, w' = grow (redrawn w p.d) p.os) (fun a' => ∀ w', Below w.heap.size w w' → Q .normal a' w') l a) : (Code.region id l.toArray true).wp P Q a w :=
  wp_region_quiet_below hm hB (by
    have e : (fun a' => ∀ w', (∃ p : Regrown, w' = grow (redrawn w p.d) p.os) → Q .normal a' w') = fun a' => ∀ w', Below w.heap.size w w' → Q .normal a' w' := by
      funext a'
      refine propext ⟨fun h w' hb => h w' (regrown_of_below hb), fun h w' hb => h w' (of_regrown hb)⟩
    rw [e]; exact h)
/-- A callee whose contract ends in Below, met inside. -/
theorem met {P : Program} {f : FuncId} {args : Array Value} {w : World} {d : Nat} {os : Array Obj} {v : Value}
    (h : ∀ w, Calls P f args w fun e w' => e = .returned v ∧ Below w.heap.size w w') : Calls P f args (grow (redrawn w d) os) fun e w'' => e = .returned v ∧ ∃ p : Regrown, w'' = grow (redrawn w p.d) p.os :=
  Calls.regrown_of (h _)
theorem own_on {A B : World} {base : Nat} {e : TypeId} {size : Nat} {v : Value} {n : Nat} {xs : List Value} (h : A.ownsRow base e size v n xs) (hb : Below A.heap.size A B) : B.ownsRow base e size v n xs :=
  h.kept ⟨hb.os, hb.tape, hb.output, hb.size, fun k hk _ => hb.block k hk⟩ (Classical.or_iff_not_imp_left.2 fun hn => hn)
/-- What was there when the call began, and its first box, stand. -/
theorem below_keep {B : Nat} {w0 wr w1 : World} {o : Obj} (h : Below B w0 wr) (hB : B ≤ wr.heap.size) (hb : Below (wr.alloc o).heap.size (wr.alloc o) w1) : Below B w0 w1 :=
  (h.alloc hB o).trans (hb.mono (by simp; omega))
theorem below_box {w w1 : World} {o : Obj} (h : Below (w.heap.size + 1) (w.alloc o) w1) : Below w.heap.size w w1 :=
  ((Below.refl _ w).alloc (Nat.le_refl _) o).trans (h.mono (by omega))
theorem on_call {w a b : World} {o : Obj} (h : Below (w.heap.size + 1) (w.alloc o) a) (hb : Below a.heap.size a b) : Below (w.heap.size + 1) (w.alloc o) b :=
  h.trans (hb.mono (by have := h.size; simpa using this))
theorem box_lt {w a : World} {o : Obj} (h : Below (w.heap.size + 1) (w.alloc o) a) : w.heap.size < a.heap.size := by have := h.size; simp at this; omega
theorem grown_set {w w' : World} {g : Nat} (h : w.grownBy w' (some g)) (o : Nat) (u : Value) : w.grownBy (w'.setCell ⟨g, o, none⟩ u) (some g) :=
  ⟨h.os, h.tape, h.output, by have := h.size; simpa using this, fun k hk hne => by
    rw [Below.heap_setCell _ _ _ _ (by intro e; exact hne (by rw [e]))]
    exact h.block k hk hne⟩
theorem grown_refl (w : World) (r : Option Nat) : w.grownBy w r := ⟨rfl, rfl, rfl, Nat.le_refl _, fun _ _ _ => rfl⟩
abbrev iv (x : Int) : Value := .int .i64 x
theorem on_base {w0 a b : World} {S : Nat} (h : Below S w0 a) (hS : S ≤ w0.heap.size) (hb : Below a.heap.size a b) : Below S w0 b :=
  h.trans (hb.mono (Nat.le_trans hS h.size))
theorem box_at {w : World} {x : Value} {t : TypeId} : (w.alloc (.cells #[x] t)).cell? ⟨w.heap.size, 0, none⟩ = some x := by
  rw [World.cell?_alloc_at _ _ _ _ rfl]; rfl
theorem alloc_below (w : World) (o : Obj) : Below w.heap.size w (w.alloc o) := (Below.refl _ _).alloc (Nat.le_refl _) o
theorem alloc_size (w : World) (o : Obj) : (w.alloc o).heap.size = w.heap.size + 1 := by simp
theorem met_at {P : Program} {f : FuncId} {args : Array Value} {w : World} {d : Nat} {os : Array Obj} {v : Value}
    (h : ∀ w', Below w.heap.size w w' → Calls P f args w' fun e w'' => e = .returned v ∧ Below w'.heap.size w' w'') : Calls P f args (grow (redrawn w d) os) fun e w'' => e = .returned v ∧ ∃ p : Regrown, w'' = grow (redrawn w p.d) p.os :=
  Calls.regrown_of (h _ (below_regrown w d os))
theorem rowIs_below {w w' : World} {B g n : Nat} {t : TypeId} {f : Nat → Value} (h : w.rowIs g t n f) (hb : Below B w w') (hg : g < B) : w'.rowIs g t n f := h.of_block (hb.block g hg)
theorem intsOne : Try.prog.cellsOf 3 = 1 := by kernel_rfl
theorem add_plus (b off i : Nat) : (⟨b, off, none⟩ : Addr).add i = ⟨b, off + i, none⟩ := by unfold Addr.add; split <;> simp_all
set_option maxRecDepth 100000 in
theorem int_open {H : Type} {enc : TypeId × Value → H} {w : World} {r : Reach} {b0 : Nat} {v : Value} {d : DataW H} {p : List MemPlace} (hv : Value.okWide Try.prog w r b0 3 v) (h : DataW.Trod enc Try.prog w 0 (fun _ => true) true 3 v d p) : ∃ n : Int, v = .int .i64 n ∧ -9223372036854775808 ≤ n ∧ n ≤ 9223372036854775807 := by
  obtain ⟨n, hn, _, _, hw⟩ := open_int Try.underlying3 hv h
  refine ⟨n, hn, ?_⟩
  have e1 : IntKind.i64.min = -9223372036854775808 := rfl
  have e2 : IntKind.i64.max = 9223372036854775807 := rfl
  simpa [Lit.wf, e1, e2] using hw
theorem box1 {w w' : World} {x : Value} {t : TypeId} (h : Below (w.heap.size + 1) (w.alloc (.cells #[x] t)) w') : w'.cell? ⟨w.heap.size, 0, none⟩ = some x := by
  have h0 := h.cell (p := ⟨w.heap.size, 0, none⟩) (by show w.heap.size < w.heap.size + 1; omega)
  rw [h0, World.cell?_alloc_at _ _ _ _ rfl]
  rfl
/-- A point as a value. -/
abbrev cv (c : Cp) : Value := .agg #[.int .i64 c.fl, .int .i64 c.hd]
/-- The points cs lie there. -/
def CAt (w : World) (A : Option Addr) (cs : List Cp) : Prop :=
  cs = [] ∨ ∃ b off, A = some ⟨b, off, none⟩ ∧ b < w.heap.size ∧ ∀ i, i < cs.length →
    w.cell? ⟨b, off + i * 2, none⟩ = some (.int .i64 (cAt cs i).fl) ∧ w.cell? ⟨b, off + i * 2 + 1, none⟩ = some (.int .i64 (cAt cs i).hd)
theorem CAt.kept {w w' : World} {A : Option Addr} {cs : List Cp} {B : Nat} (h : CAt w A cs) (hb : Below B w w') (hB : w.heap.size ≤ B) : CAt w' A cs := by
  rcases h with h | ⟨b, off, hA, hlt, h⟩
  · exact .inl h
  · refine .inr ⟨b, off, hA, Nat.lt_of_lt_of_le hlt hb.size, fun i hi => ?_⟩
    obtain ⟨h0, h1⟩ := h i hi
    have hc : ∀ o, w'.cell? ⟨b, o, none⟩ = w.cell? ⟨b, o, none⟩ := fun o => hb.cell (p := ⟨b, o, none⟩) (by show b < B; omega)
    rw [hc, hc]
    exact ⟨h0, h1⟩
theorem CAt.at_ {w : World} {A : Option Addr} {cs : List Cp} (h : CAt w A cs) {i : Nat} (hi : i < cs.length) : ∃ b off, A = some ⟨b, off, none⟩ ∧ b < w.heap.size ∧
    w.cell? ⟨b, off + i * 2, none⟩ = some (.int .i64 (cAt cs i).fl) ∧ w.cell? ⟨b, off + i * 2 + 1, none⟩ = some (.int .i64 (cAt cs i).hd) := by
  rcases h with h | ⟨b, off, hA, hlt, h⟩
  · subst h; simp at hi
  · exact ⟨b, off, hA, hlt, h i hi⟩
/-- Two of the points at once. -/
theorem CAt.two {w : World} {A : Option Addr} {cs : List Cp} (h : CAt w A cs) {i j : Nat} (hi : i < cs.length) (hj : j < cs.length) : ∃ b off, A = some ⟨b, off, none⟩ ∧ b < w.heap.size ∧
    w.cell? ⟨b, off + i * 2, none⟩ = some (.int .i64 (cAt cs i).fl) ∧ w.cell? ⟨b, off + i * 2 + 1, none⟩ = some (.int .i64 (cAt cs i).hd) ∧
    w.cell? ⟨b, off + j * 2, none⟩ = some (.int .i64 (cAt cs j).fl) ∧ w.cell? ⟨b, off + j * 2 + 1, none⟩ = some (.int .i64 (cAt cs j).hd) := by
  rcases h with h | ⟨b, off, hA, hlt, h⟩
  · subst h; simp at hi
  · exact ⟨b, off, hA, hlt, (h i hi).1, (h i hi).2, (h j hj).1, (h j hj).2⟩

/-- The cells of a row of points. -/
def ccell (cs : List Cp) (i : Nat) : Value := if i % 2 = 0 then .int .i64 (cAt cs (i / 2)).fl else .int .i64 (cAt cs (i / 2)).hd
theorem ccell0 (cs : List Cp) (i : Nat) : ccell cs (i * 2) = .int .i64 (cAt cs i).fl := by
  have a : i * 2 % 2 = 0 := by omega
  have b : i * 2 / 2 = i := by omega
  simp [ccell, a, b]
theorem ccell1 (cs : List Cp) (i : Nat) : ccell cs (i * 2 + 1) = .int .i64 (cAt cs i).hd := by
  have a : (i * 2 + 1) % 2 = 1 := by omega
  have b : (i * 2 + 1) / 2 = i := by omega
  simp [ccell, a, b]
/-- A row of points in a block of its own. -/
def CRow (w : World) (g : Nat) (cs : List Cp) : Prop := w.rowIs g 38 (cs.length * 2) (ccell cs)
theorem CRow.at_ {w : World} {g : Nat} {cs : List Cp} (h : CRow w g cs) : CAt w (some ⟨g, 0, none⟩) cs := by
  refine .inr ⟨g, 0, rfl, h.lt, fun i hi => ?_⟩
  simp only [Nat.zero_add]
  rw [h.cell (by omega), h.cell (by omega), ccell0, ccell1]
  exact ⟨rfl, rfl⟩
theorem CRow.kept {w w' : World} {B g : Nat} {cs : List Cp} (h : CRow w g cs) (hb : Below B w w') (hg : g < B) : CRow w' g cs := rowIs_below h hb hg
theorem CAt.low {w w' : World} {g o B : Nat} {l : List Cp} (h : CAt w (some ⟨g, o, none⟩) l) (hb : Below B w w') (hg : g < B) : CAt w' (some ⟨g, o, none⟩) l := by
  rcases h with h | ⟨b, off, hA, hlt, h⟩
  · exact .inl h
  · simp only [Option.some.injEq, Addr.mk.injEq, and_true] at hA
    obtain ⟨rfl, rfl⟩ := hA
    refine .inr ⟨g, o, rfl, Nat.lt_of_lt_of_le hlt hb.size, fun i hi => ?_⟩
    have hc : ∀ k, w'.cell? ⟨g, k, none⟩ = w.cell? ⟨g, k, none⟩ := fun k => hb.cell (p := ⟨g, k, none⟩) hg
    rw [hc, hc]
    exact h i hi
theorem CAt.far {w w' : World} {g o x : Nat} {l : List Cp} (h : CAt w (some ⟨g, o, none⟩) l) (hb : w.grownBy w' (some x)) (hg : g ≠ x) : CAt w' (some ⟨g, o, none⟩) l := by
  rcases h with h | ⟨b, off, hA, hlt, h⟩
  · exact .inl h
  · simp only [Option.some.injEq, Addr.mk.injEq, and_true] at hA
    obtain ⟨rfl, rfl⟩ := hA
    refine .inr ⟨g, o, rfl, Nat.lt_of_lt_of_le hlt hb.size, fun i hi => ?_⟩
    have hc : ∀ k, w'.cell? ⟨g, k, none⟩ = w.cell? ⟨g, k, none⟩ := fun k => hb.cell_far ⟨g, k, none⟩ hlt (by simp; omega)
    rw [hc, hc]
    exact h i hi

/-- The first k points are written. -/
def cfill (cs : List Cp) (k : Nat) (i : Nat) : Value := if i < k * 2 then ccell cs i else .int .i64 0
theorem cfill_step {w : World} {g n : Nat} {t : TypeId} {cs : List Cp} {k : Nat} (h : w.rowIs g t n (cfill cs k)) :
    ((w.setCell ⟨g, k * 2, none⟩ (.int .i64 (cAt cs k).fl)).setCell ⟨g, k * 2 + 1, none⟩ (.int .i64 (cAt cs k).hd)).rowIs g t n (cfill cs (k + 1)) := by
  refine ((h.set _ _).set _ _).congr fun i _ => ?_
  unfold cfill
  by_cases h1 : i = k * 2 + 1
  · subst h1; rw [if_pos rfl, if_pos (by omega), ccell1]
  · rw [if_neg h1]
    by_cases h0 : i = k * 2
    · subst h0; rw [if_pos rfl, if_pos (by omega), ccell0]
    · rw [if_neg h0]
      by_cases hk : i < k * 2
      · rw [if_pos hk, if_pos (by omega)]
      · rw [if_neg hk, if_neg (by omega)]
theorem cfill_all {w : World} {g : Nat} {t : TypeId} {cs : List Cp} {k : Nat} (h : w.rowIs g t (cs.length * 2) (cfill cs k)) (hk : cs.length ≤ k) : w.rowIs g t (cs.length * 2) (ccell cs) :=
  h.congr fun i hi => by unfold cfill; rw [if_pos (by omega)]
theorem infoC : (Try.prog.info? 38).map (fun i => (i.zero, i.size, i.bytes)) = some (some (.agg #[.int .i64 0, .int .i64 0]), 2, 16) := by kernel_rfl
theorem tocp_any (v : Cp) (w : World) :
    Calls Try.prog 63 #[cv v] w fun e w' => e = .returned (cv v) ∧ Below w.heap.size w w' := by
  obtain ⟨fl, hd⟩ := v
  go_enter Try.func63, Try.ntmps63
  go_wp2
  refine bodyPost_ret (v := .agg #[.int .i64 fl, .int .i64 hd]) (by simp [results, Try.results63, go_sem]) rfl ⟨rfl, ?_⟩
  exact (((Below.refl _ _).alloc (Nat.le_refl _) _).alloc (by simp) _).alloc (by simp; omega) _
theorem made_points (w : World) (cs : List Cp) : (w.alloc (.cells (madeCells (Value.agg #[.int .i64 0, .int .i64 0]).cells (cs.length * 2)) 38)).rowIs w.heap.size 38 (cs.length * 2) (cfill cs 0) := by
  refine ⟨_, Go.Deep.blk_alloc_new _ _, size_madeCells _ _, fun i hi => ?_⟩
  have e : cfill cs 0 i = .int .i64 0 := by unfold cfill; rw [if_neg (by omega)]
  rw [e]
  have h4 : i % 2 < 2 := Nat.mod_lt _ (by omega)
  have hz : (Value.agg #[.int .i64 0, .int .i64 0]).cells = #[.int .i64 0, .int .i64 0] := rfl
  rw [hz]
  simp only [madeCells]
  rw [Array.getElem?_map, Array.getElem?_range, if_pos hi]
  simp only [Option.map_some]
  congr 1
  show (#[Value.int .i64 0, .int .i64 0])[i % 2]! = _
  generalize i % 2 = r at h4
  match r, h4 with
  | 0, _ => rfl
  | 1, _ => rfl

set_option maxHeartbeats 1000000 in
theorem tocps_any (A : Option Addr) (cap : Nat) (cs : List Cp) (w : World) (h : CAt w A cs) (hn : cs.length ≤ 1048576) :
    Calls Try.prog 35 #[.slice A cs.length cap] w fun e w' => (∃ g, e = .returned (.slice (some ⟨g, 0, none⟩) cs.length cs.length) ∧ w.heap.size ≤ g ∧ CRow w' g cs) ∧ Below w.heap.size w w' := by
  have HA := Lib.hid h
  clear h
  have hmk : ∃ w1 : World, (Instr.makeSlice 24 (.int .i64 (cs.length : Int)) (.int .i64 (cs.length : Int))).run Try.prog w = .ok (.slice (some ⟨w.heap.size, 0, none⟩) cs.length cs.length) w1 ∧ w1.rowIs w.heap.size 38 (cs.length * 2) (cfill cs 0) ∧ Below w.heap.size w w1 := by
    obtain ⟨i0, hi, hz0, hz1, hz2⟩ := info_parts infoC
    have hr := run_make (P := Try.prog) w 24 38 i0 _ Try.underlying24 hi hz0 .i64 .i64 cs.length cs.length (by omega) (Int.le_refl _) (by rw [hz2]; omega) (by omega)
    simp only [Int.toNat_natCast] at hr
    rw [hz1] at hr
    exact ⟨_, hr, made_points _ _, (Below.refl _ _).alloc (Nat.le_refl _) _⟩
  obtain ⟨w1, hmk, hrow, hb1⟩ := hmk
  have HR := Lib.hid hrow
  clear hrow
  go_enter Try.func35, Try.ntmps35
  go_wp2
  clear hmk
  go_loopw [4] (fun i wr => ∃ k : Nat, k ≤ cs.length ∧ i = .int .i64 k ∧ Hid (wr.rowIs w.heap.size 38 (cs.length * 2) (cfill cs k)) ∧ Below w.heap.size w wr) (fun i _ => cs.length - (intOf i).toNat)
  case atStart => exact ⟨0, Nat.zero_le _, rfl, HR, hb1⟩
  case round =>
    obtain ⟨k, hk, rfl, hrow, hb⟩ := hrel
    by_cases hlt : k < cs.length
    · obtain ⟨b, off, hA, hbl, h0, h1⟩ := HA.out.at_ hlt
      subst hA
      obtain ⟨hc, hf⟩ := bcell hb
      have hgl := hrow.out.lt
      have H1 := Lib.hid (fun w => tocp_any (cAt cs k) w)
      have hst := Lib.hid (fun (w1 : World) (h : w1.rowIs w.heap.size 38 (cs.length * 2) (cfill cs k)) => cfill_step h)
      generalize cAt cs k = p at *
      go_wp2_with (go_at_call 63; refine (H1.out _).mono ?_; rintro e w2 ⟨rfl, hb2⟩; have hrow2 := Lib.hid (rowIs_below hrow.out hb2 hgl); have hfz : ∀ o, w2.frozen? ⟨w.heap.size, o, none⟩ = false := fun o => hrow2.out.frozen o; have c0 := hrow2.out.cell (i := k * 2) (by omega); have c1 := hrow2.out.cell (i := k * 2 + 1) (by omega))
      have hst' := hst.out _ hrow2.out
      go_roundw
      case rel => exact ⟨k + 1, by omega, by go_num, Lib.hid hst', ((hb.trans (hb2.mono (by omega))).setCell (p := ⟨w.heap.size, k * 2, none⟩) (Nat.le_refl _) _).setCell (p := ⟨w.heap.size, k * 2 + 1, none⟩) (Nat.le_refl _) _⟩
      case measure => simp [intOf]; omega
    · have hfin := Lib.hid (cfill_all hrow.out (by omega))
      go_wp2
      go_ret
      exact ⟨⟨_, rfl, Nat.le_refl _, hfin.out⟩, hb⟩
theorem szcps_any (A : Option Addr) (len cap : Nat) (r0 : Int) (w : World) (hm : len ≤ maxLen) (h0 : 0 ≤ r0) (h9 : r0 ≤ 1048576) :
    Calls Try.prog 34 #[.slice A len cap, .int .i64 r0] w fun e w' => (∃ r : Int, e = .returned (.int .i64 r) ∧ (r < 0 ∨ (0 ≤ r ∧ r ≤ r0 ∧ len ≤ 1048576))) ∧ Below w.heap.size w w' := by
  unfold maxLen at hm
  by_cases h0 : (len : Int) ≤ r0
  · go_enter Try.func34, Try.ntmps34
    go_wp2
    go_ret
    exact ⟨⟨_, rfl, .inr ⟨by omega, by omega, by omega⟩⟩, Below.refl _ _⟩
  · go_enter Try.func34, Try.ntmps34
    go_wp2
    go_ret
    exact ⟨⟨_, rfl, .inl (by omega)⟩, Below.refl _ _⟩
theorem eqcp_same (v : Cp) (w : World) :
    Calls Try.prog 64 #[cv v, cv v] w fun e w' => e = .returned (.bool true) ∧ Below w.heap.size w w' := by
  obtain ⟨fl, hd⟩ := v
  go_enter Try.func64, Try.ntmps64
  go_wp2
  go_ret
  exact ⟨rfl, ((Below.refl _ _).alloc (Nat.le_refl _) _).alloc (by simp) _⟩
set_option maxHeartbeats 1000000 in
theorem eqcps_same (A A2 : Option Addr) (cap cap2 : Nat) (cs : List Cp) (w : World) (h : CAt w A cs) (h2 : CAt w A2 cs) (hn : cs.length ≤ 1048576) :
    Calls Try.prog 36 #[.slice A cs.length cap, .slice A2 cs.length cap2] w fun e w' => e = .returned (.bool true) ∧ Below w.heap.size w w' := by
  have HA := Lib.hid h
  have HA2 := Lib.hid h2
  clear h h2
  go_enter Try.func36, Try.ntmps36
  go_wp2
  go_loopw [5] (fun i wr => ∃ k : Nat, k ≤ cs.length ∧ i = .int .i64 k ∧ Below w.heap.size w wr) (fun i _ => cs.length - (intOf i).toNat)
  case atStart => exact ⟨0, Nat.zero_le _, rfl, Below.refl _ _⟩
  case round =>
    obtain ⟨k, hk, rfl, hb⟩ := hrel
    by_cases hlt : k < cs.length
    · obtain ⟨b, off, hA, hbl, h0, h1⟩ := HA.out.at_ hlt
      obtain ⟨b2, off2, hA2, hbl2, g0, g1⟩ := HA2.out.at_ hlt
      subst hA hA2
      obtain ⟨hc, hf⟩ := bcell hb
      have hz := hb.size
      have hbw : b < wr.heap.size := by omega
      have hbw2 : b2 < wr.heap.size := by omega
      have hk0i : (0 : Int) ≤ (k : Int) := by omega
      have hk1i : (k : Int) < (cs.length : Int) := by omega
      have H1 := Lib.hid (fun w => eqcp_same (cAt cs k) w)
      have hG := @cell_g
      generalize cAt cs k = p at *
      go_wp2
      refine region_below (by kernel_rfl) (by kernel_rfl) ?_
      repeat (first | go_big_quiet_step ((go_at_call 64; exact met H1.out)))
      refine wpQuiet_nil ?_
      intro w1 hb1
      go_wp2
      go_roundw
      case rel => exact ⟨k + 1, by omega, by go_num, hb.trans (hb1.mono hz)⟩
      case measure => simp [intOf]; omega
    · go_wp2
      go_ret
      exact ⟨rfl, hb⟩

/-! ### A law's argument that is a slice of points, opened -/
section
variable {H : Type} {enc : TypeId × Value → H} {w : World} {spare : Nat → Bool}
theorem cpTwo : Try.prog.cellsOf 77 = 2 := by kernel_rfl
set_option maxRecDepth 100000 in
theorem cp_open {fuel : Nat} {cs : List Value} {x : DataW H × List MemPlace} (h : DataW.trod enc Try.prog w 0 spare true fuel 77 cs = some x) :
    ∃ q : Cp, cs = [.int .i64 q.fl, .int .i64 q.hd] := by
  obtain ⟨xs, n, _, _, hl, hlx, hf⟩ := DataW.trod_struct Try.underlying77 h
  rw [cpTwo] at hl
  match cs, hl, xs, hlx with
  | [c0, c1], _, [y0, y1], _ =>
    have g0 : DataW.trod enc Try.prog w 0 spare true n 3 (List.take (Try.prog.cellsOf 3) (List.drop 0 [c0, c1])) = some y0 := hf 0 _ rfl
    have g1 : DataW.trod enc Try.prog w 0 spare true n 3 (List.take (Try.prog.cellsOf 3) (List.drop 1 [c0, c1])) = some y1 := hf 1 _ rfl
    rw [intsOne] at g0 g1
    obtain ⟨n0, e0, _⟩ := DataW.trod_int (cs := [c0]) Try.underlying3 g0
    obtain ⟨n1, e1, _⟩ := DataW.trod_int (cs := [c1]) Try.underlying3 g1
    injection e0 with e0
    injection e1 with e1
    exact ⟨⟨n0, n1⟩, by rw [e0, e1]⟩
set_option maxRecDepth 100000 in
theorem cps_open {fuel : Nat} {v : Value} {x : DataW H × List MemPlace} (h : DataW.trod enc Try.prog w 0 (fun _ => true) true fuel 46 [v] = some x) :
    ∃ (A : Option Addr) (cap : Nat) (cs : List Cp), v = .slice A cs.length cap ∧ CAt w A cs ∧ cs.length ≤ maxLen := by
  rcases open_slice Try.underlying46 h with ⟨hcs, _⟩ | ⟨a, len, cap, m, n, D, Pl, hcs, _, hl, hm, hmm, _, hi⟩
  · injection hcs with hcs
    exact ⟨none, 0, [], hcs, .inl rfl, by simp⟩
  · injection hcs with hcs
    have hm' : len ≤ m := by rw [hmm]; split <;> omega
    have h4 := cpTwo
    have hq : ∀ i, ∃ q : Cp, i < len → w.cell? (a.add (i * 2)) = some (.int .i64 q.fl) ∧ w.cell? ((a.add (i * 2)).add 1) = some (.int .i64 q.hd) := by
      intro i
      by_cases hil : i < len
      · obtain ⟨cs', hc, ht⟩ := hi i (by omega)
        rw [h4] at hc
        obtain ⟨q, rfl⟩ := cp_open ht
        obtain ⟨_, _, hat⟩ := World.cells?_some hc
        refine ⟨q, fun _ => ⟨?_, ?_⟩⟩
        · have := hat 0 (by omega)
          simpa [Addr.add] using this
        · exact hat 1 (by omega)
      · exact ⟨default, fun h => absurd h hil⟩
    obtain ⟨f, hf⟩ := Classical.axiomOfChoice hq
    have hlen : ((List.range len).map f).length = len := by simp
    refine ⟨some a, cap, (List.range len).map f, by rw [hcs, hlen], ?_, by rw [hlen]; omega⟩
    by_cases h0 : len = 0
    · subst h0; exact .inl rfl
    · obtain ⟨b, off, spot⟩ := a
      have hspot : spot = none := by
        have := (hf 0 (by omega)).1
        simpa [Addr.add] using World.cell?_spot this
      subst hspot
      have hbl : b < w.heap.size := by
        have := World.block_lt_of_cell? w _ (hf 0 (by omega)).1
        rw [add_plus] at this
        exact this
      refine .inr ⟨b, off, rfl, hbl, fun i hi' => ?_⟩
      rw [hlen] at hi'
      have e : cAt ((List.range len).map f) i = f i := by unfold cAt; simp [List.getD, hi']
      obtain ⟨c0, c1⟩ := hf i hi'
      rw [e]
      rw [add_plus] at c0 c1
      rw [add_plus] at c1
      exact ⟨c0, c1⟩
set_option maxRecDepth 100000 in
theorem curve_open {r : Reach} {b0 : Nat} {v : Value} {d : DataW H} {p : List MemPlace} (hv : Value.okWide Try.prog w r b0 46 v) (h : DataW.Trod enc Try.prog w 0 (fun _ => true) true 46 v d p) :
    ∃ (A : Option Addr) (cap : Nat) (cs : List Cp), v = .slice A cs.length cap ∧ CAt w A cs ∧ cs.length ≤ maxLen := by
  obtain ⟨a, len, cp, rfl⟩ := okWide_slice Try.underlying46 hv
  obtain ⟨fuel, h⟩ := h
  exact cps_open (v := .slice a len cp) h
end
end Go.Proofs.Ytpldbakllegheab.S7
