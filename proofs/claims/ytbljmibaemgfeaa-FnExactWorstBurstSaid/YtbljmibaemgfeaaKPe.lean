/- GentlestPlan of the program and of the model: contracts. Conditions: each theorem's own premises. -/
import Derived.Test.YtbljmibaemgfeaaSegTwo
import Derived.Sort.QuietTacIn
import Derived.OwnWalkIn
import Derived.RangeFuncCalls
import Derived.RangeFuncNested
import Derived.RangeFuncBound
import Derived.RangeFuncLeaves
import Derived.Shelf.Abstract
import Derived.Shelf.RegionOpen
import Derived.WalkKit
import Derived.TacticsInMore
import Derived.LoopNIn
import Derived.LoopIn
import Derived.BigRegionIn
import Derived.WalkMore
import Derived.Lib.Hide
import Derived.WalkSpells
import Derived.WalkSmall
import Derived.WalkLawsBesides
import Derived.Laws.Bits64b
import Derived.Test.YtbljmibaemgfeaaKPa
import Derived.Test.YtbljmibaemgfeaaChecked
import Derived.Test.YtbljmibaemgfeaaKPb
import Derived.Test.YtbljmibaemgfeaaKPd
import Derived.RangeFuncWrites
import Derived.RangeFuncBox
import Derived.Deep.DeepCutAuto
import Derived.Test.YtbljmibaemgfeaaKPc
import Derived.Lib.RabinKarpLaws
import Derived.Test.YtbljmibaemgfeaaGivesNone
namespace Go.Proofs.Ytbljmibaemgfeaa.S2
open Go.RowKit P2 P4

section
variable {F : Fence} {n : Nat} {ops : Array Oper} {rest : List Oper} {o : Oper} {a : Act} {w : World} {Q : Exit → Act → World → Prop}
theorem wpInE_alloc (hgd : o.guard = none) (ho : o.op = .alloc 96)
    (h : ∀ w', ERow w' w.heap.size es0 → Below w.heap.size w w' → w'.heap.size = w.heap.size + 1 → wpListIn F n Try.prog ops Q rest (a.put o.dst (.pointer (some ⟨w.heap.size, 0, none⟩))) w') : wpListIn F n Try.prog ops Q (o :: rest) a w :=
  wpListIn_plain hgd fun _ hK => by
    have hz := zeroE w
    unfold Oper.wpIn
    refine ⟨by simp [Oper.about, ho], ?_⟩
    rw [Oper.semAt_plain F _ _ (by rw [ho]; intro c hc'; cases hc')]
    unfold execOp
    simp [ho, Instr.alloc, Sem.run_bind, hz, Result.andThen]
    have hn : (newVar 96 (ev es0)).run Try.prog w = .ok ⟨w.heap.size, 0, none⟩ (w.alloc (.cells (ecells es0) 96)) := by
      simp [newVar, go_sem]
    rw [hn]
    exact hK _ _ (h _ (ERow.new _ _) ((Below.refl _ _).alloc (Nat.le_refl _) _) (by simp))
theorem wpInE_load (hgd : o.guard = none) (x : Operand) (ho : o.op = .load 96 x) (g : Nat) (hx : a.eval x = .pointer (some ⟨g, 0, none⟩)) (s : Nat → Bool) (he : ERow w g s)
    (h : wpListIn F n Try.prog ops Q rest (a.put o.dst (ev s)) w) : wpListIn F n Try.prog ops Q (o :: rest) a w :=
  wpListIn_plain hgd fun _ hK => by
    unfold Oper.wpIn
    refine ⟨by simp [Oper.about, ho], ?_⟩
    rw [Oper.semAt_plain F _ _ (by rw [ho]; intro c hc'; cases hc')]
    unfold execOp
    simp only [ho, hx, Instr.loadAt, Instr.sureAddr, Sem.run_bind, Sem.run_pure, Result.andThen_ok, run_loadVar_row w g 96 96 (ecells s) (0, 0) _ he Try.underlying96 rfl (infoE' s)]
    exact hK _ _ h
theorem wpInE_store (hgd : o.guard = none) (x y : Operand) (ho : o.op = .store 96 x y) (hd : o.dst = none) (g : Nat) (hx : a.eval x = .pointer (some ⟨g, 0, none⟩)) (s : Nat → Bool) (hy : a.eval y = ev s) (s0 : Nat → Bool) (he : ERow w g s0)
    (h : ∀ w', ERow w' g s → w.grownBy w' (some g) → w'.heap.size = w.heap.size → wpListIn F n Try.prog ops Q rest a w') : wpListIn F n Try.prog ops Q (o :: rest) a w :=
  wpListIn_plain hgd fun _ hK => by
    unfold Oper.wpIn
    refine ⟨by simp [Oper.about, ho], ?_⟩
    rw [Oper.semAt_plain F _ _ (by rw [ho]; intro c hc'; cases hc')]
    unfold execOp
    simp only [ho, hx, hy, Instr.storeAt, Instr.sureAddr, Sem.run_bind, Sem.run_pure, Result.andThen_ok, run_storeVar_row w g 96 96 (ecells s0) (ecells s) he (infoE' s) (by rw [ecells_size, ecells_size]) (ecells_one s)]
    have := hK _ _ (h _ (setRow_heap w g _ (ecells s) _ (0, 0) he) (grown_setRow _) (by simp))
    rw [Oper.uponIn_skip, hd]
    exact this
end

section
variable {F : Fence} {n : Nat} {P : Program} {ops : Array Oper} {Q : Exit → Act → World → Prop} {md : Region.Mode}
/-- An operation that is no defer statement is carried out in a round as elsewhere. -/
theorem op_round {o : Oper} {a : Act} {w : World} {K : Act → World → Prop} (l : Nat) (hnd : ∀ c, o.op ≠ .defer c) (h : o.wpIn F n P a w K Q) : o.wpIn (F.inRound l) n P a w K Q := by
  unfold Oper.wpIn at *
  refine ⟨h.1, ?_⟩
  have h2 := h.2
  rw [Oper.semAt_plain F _ _ hnd] at h2
  rw [Oper.semAt_plain (F.inRound l) _ _ hnd]
  generalize (execOp a.eval o).run P w = r at *
  cases r with
  | ok x w' => cases x <;> exact h2
  | halt x w' => cases x <;> exact h2
theorem any_round (l : Nat) (hnd : ∀ (i : Nat) (o : Oper), ops[i]? = some o → ∀ c, o.op ≠ .defer c) : ∀ (fuel : Nat) (listed : Array Bool) (a : Act) (w : World), wpAnyIn F n P md ops Q fuel listed a w → wpAnyIn (F.inRound l) n P md ops Q fuel listed a w
  | 0, _, _, _, h => h
  | fuel + 1, listed, a, w, h => by
    refine ⟨h.1, fun i hi => ?_⟩
    have h2 := h.2 i hi
    have ih := any_round l hnd fuel (listed.setIfInBounds i true)
    unfold wpOpIn at *
    cases ho : ops[i]? with
    | none => rw [ho] at h2; exact ih _ _ h2
    | some o =>
      rw [ho] at h2
      dsimp only at h2 ⊢
      split
      · rename_i hw
        rw [if_pos hw] at h2
        exact op_round l (hnd i o ho) (Oper.wpIn_mono (fun a w => ih a w) h2)
      · rename_i hw
        rw [if_neg hw] at h2
        exact ⟨h2.1, ih _ _ h2.2⟩
/-- None of the operations is a defer statement. -/
def ndB (l : List Oper) : Bool := l.all fun o => match o.op with | .defer _ => false | _ => true
theorem ndB_of {l : List Oper} (h : ndB l = true) (i : Nat) (o : Oper) (ho : l.toArray[i]? = some o) : ∀ c, o.op ≠ .defer c := by
  intro c hc
  have hm : o ∈ l := by
    rw [List.getElem?_toArray] at ho
    exact List.mem_of_getElem? ho
  have := (List.all_eq_true.1 h) o hm
  rw [hc] at this
  cases this
/-- A region of a round that draws its order and only reads: walked once. -/
theorem region_round {id : Nat} {a : Act} {w : World} {lst : List Oper} (l : Nat) (hro : F.round = none) (hm : P.follows .mixedOrders = true) (hB : Region.lexB .any lst.toArray = true) (hnd : ndB lst = true)
    (h : wpQuietIn F n P lst.toArray (fun w' => ∃ k, w' = w.drewN k) (fun a' => ∀ w', (∃ k, w' = w.drewN k) → Q .normal a' w') lst a) : (Code.region id lst.toArray true).wpIn (F.inRound l) n P Q a w := by
  simp only [Region.lexB, Bool.and_eq_true] at hB
  refine wpIn_region_any hm (any_round l (ndB_of hnd) _ _ _ _ ?_)
  refine wpAnyIn_of_quiet (Q := fun a' => ∀ w', (∃ k, w' = w.drewN k) → Q .normal a' w') hro (fun _ w' hw' h => h w' hw') _ _ _ _ ⟨1, rfl⟩ ?_
  have := wpAnyQIn_lex (F := F) (n := n) (C := fun w' => ∃ k, w' = w.drewN k) (md := .any) hB.1 lst 0 (Array.replicate lst.toArray.size false) a (by simp) (by simpa using hB.2) h
  simpa using this
end
end Go.Proofs.Ytbljmibaemgfeaa.S2

namespace Go.Proofs.Ytbljmibaemgfeaa.S2
open Go.RowKit Go.Shelf P2 P4
attribute [local go_sem] Oper.semAt_some

/-- What a round keeps: the cell that the iterator reads. -/
def Kc (Bx : Nat) (A B : World) : Prop := ∀ v, A.cell? ⟨Bx, 0, none⟩ = some v → B.cell? ⟨Bx, 0, none⟩ = some v
theorem Kc.t {Bx : Nat} {A B C : World} (h : Kc Bx A B) (k : Kc Bx B C) : Kc Bx A C := fun v hv => k v (h v hv)
theorem Kc.b {Bx : Nat} {w : World} (W : World) (l : Nat) (o o' : Obj) (_ : w.heap.size ≤ l) (h : W.heap[l]? = some o) (hc : o.isCells = false) (_ : o.isWalk = false) : Kc Bx W (W.putObj l o') :=
  fun _ hv => cell_kept hv (grownBy_putObj' W l o') (fun r e => by cases e; exact ⟨o, h, hc⟩)

set_option maxRecDepth 100000 in
set_option maxHeartbeats 4000000 in
theorem chs_in (vs : List Vv) (hl : vs.length ≤ 10) (n : Nat) (hn : 1 ≤ n) (l Ba : Nat) (J Jx : List (Ch vs) → World → Prop) (W : World)
    (hY : ∀ pre x W, J pre W → pre.length < 1024 → YieldAt Fence.wide (n - 1) Try.prog l #[.int .u64 (x.1 : Int)] W fun e W' =>
      (e = .returned (.bool true) ∧ J (pre ++ [x]) W' ∧ Kc Ba W W') ∨ (e = .returned (.bool false) ∧ Jx (pre ++ [x]) W'))
    (hBa : W.cell? ⟨Ba, 0, none⟩ = some (.int .u64 (allC vs vs.length : Int))) (h0 : J [] W) :
    CallsIn Fence.wide n Try.prog 173 #[.func (.yield l) #[] #[], .pointer (some ⟨Ba, 0, none⟩)] W fun e W' => (∃ v, e = .returned v) ∧
      ((∃ ys : List (Ch vs), AllCh ys ∧ J ys W') ∨ (∃ pre : List (Ch vs), True ∧ Jx pre W')) := by
  have HY := Lib.hid hY
  have HST := Lib.hid (mid_start vs hl)
  have HLT := Lib.hid (orTo_lt (fun i => !(vAt vs i).sh) vs.length)
  have HSUB := Lib.hid (allC_sub vs hl)
  have HNX := Lib.hid (fun (pre : List (Ch vs)) (c d : Ch vs) (h : Mid pre c) (h0 : 0 < c.1) (hd : d.1 = (c.1 - 1) &&& allC vs vs.length) => Mid.next hl h h0 hd)
  have HLS := Lib.hid (fun c : Nat => land_sub (C := c) hl)
  obtain ⟨M, hM⟩ : ∃ M, M = allC vs vs.length := ⟨_, rfl⟩
  have HLT2 := Lib.hid (show M < 1024 from by rw [hM]; exact HLT.out)
  have hsm : SubC vs M := by rw [hM]; exact HSUB.out
  have HST2 := Lib.hid (show Mid ([] : List (Ch vs)) ⟨M, hsm⟩ from by
    have e : (⟨M, hsm⟩ : Ch vs) = ⟨allC vs vs.length, allC_sub vs hl⟩ := Subtype.ext hM
    rw [e]; exact HST.out)
  rw [← hM] at HNX HLS hBa
  clear hY HST HLT hM
  refine callsIn_of_wp Try.func173 rfl trivial ?_ rfl
  simp only [Try.ntmps173, List.size_toArray, List.length_cons, List.length_nil, Nat.reduceAdd, Nat.reduceSub, Array.replicate_succ, Array.replicate_zero, List.push_toArray, List.append_toArray, List.nil_append, List.cons_append]
  gi_wp2
  gi_loopw [3] (fun r wr => ∃ (pre : List (Ch vs)) (x : Ch vs), r = .int .u64 (x.1 : Int) ∧ Hid (Mid pre x) ∧ Hid (J pre wr) ∧ wr.cell? ⟨Ba, 0, none⟩ = some (.int .u64 (M : Int)))
    (fun r _ => (intOf r).toNat)
  case atStart => exact ⟨[], _, rfl, HST2, Lib.hid h0, hBa⟩
  case round =>
    obtain ⟨pre, x, rfl, hmid, hJs, hcx⟩ := hrel
    clear hBa h0
    obtain ⟨c, hc⟩ := x
    have HC := Lib.hid hc
    have hc1 := hc.1
    obtain ⟨fn, tmps, assign, body, hy, hR⟩ := HY.out pre ⟨c, hc⟩ wr hJs.out hmid.out.len
    dsimp only at hy hc1 ⊢
    by_cases hc0 : c = 0
    · have HL := Lib.hid (hmid.out.last hc0)
      have g1 : ((c : Int) != 0) = false := by subst hc0; rfl
      have g2 : ((c : Int) == 0) = true := by subst hc0; rfl
      clear hc0
      gi_wp2
      refine hR.mono ?_
      rintro e W3 (⟨rfl, hJ3, hk3⟩ | ⟨rfl, hJx3⟩)
      · gi_wp2
        go_end0
        exact ⟨⟨_, rfl⟩, .inl ⟨_, HL.out, hJ3⟩⟩
      · gi_wp2
        go_end0
        exact ⟨⟨_, rfl⟩, .inr ⟨_, trivial, hJx3⟩⟩
    · obtain ⟨d, rfl⟩ : ∃ d, c = d + 1 := ⟨c - 1, by omega⟩
      have g1 : (((d + 1 : Nat) : Int) != 0) = true := by rw [bne_iff_ne]; omega
      have HN := Lib.hid (HNX.out pre ⟨d + 1, hc⟩ ⟨d &&& M, HLS.out d⟩ hmid.out (by show 0 < d + 1; omega) (by show d &&& M = (d + 1 - 1) &&& M; rw [Nat.add_sub_cancel]))
      have HA := Lib.hid (bits_and_u64_nat d M (by omega) (by have := HLT2.out; omega))
      have hlt : d &&& M < d + 1 := by have := Nat.and_le_left (n := d) (m := M); omega
      have hcast : ((d + 1 : Nat) : Int) = (d : Int) + 1 := by omega
      rw [hcast] at hy g1
      clear hcast
      clear hc0
      gi_wp2
      refine hR.mono ?_
      rintro e W3 (⟨rfl, hJ3, hk3⟩ | ⟨rfl, hJx3⟩)
      · have hc3 := hk3 _ hcx
        have hJ3 := Lib.hid hJ3
        clear hR hy
        gi_wp2
        go_roundw
        case rel => exact ⟨pre ++ [⟨d + 1, hc⟩], ⟨d &&& M, HLS.out d⟩, by rw [HA.out], HN, hJ3, hc3⟩
        case measure => simp [intOf, HA.out]; omega
      · gi_wp2
        go_end0
        exact ⟨⟨_, rfl⟩, .inr ⟨_, trivial, hJx3⟩⟩

set_option maxHeartbeats 1000000 in
theorem choices_any (C : Nat) (w : World) :
    Calls Try.prog 145 #[.int .u64 (C : Int)] w fun e w' => e = .returned (.func (.func 173) #[] #[.pointer (some ⟨w.heap.size, 0, none⟩)]) ∧ w' = w.alloc (.cells #[.int .u64 (C : Int)] 118) := by
  go_enter Try.func145, Try.ntmps145
  go_wp2
  go_ret
  exact ⟨rfl, rfl⟩

/-- The iterator's contract. -/
theorem chs_stops (vs : List Vv) (hl : vs.length ≤ 10) (n : Nat) (hn : 1 ≤ n) (Ba : Nat) (w : World) (hB : Ba < w.heap.size) (hc : w.cell? ⟨Ba, 0, none⟩ = some (.int .u64 (allC vs vs.length : Int))) :
    SeqStopsK Fence.wide n Try.prog 173 #[.pointer (some ⟨Ba, 0, none⟩)] (fun x : Ch vs => #[Value.int .u64 (x.1 : Int)]) (Kc Ba) AllCh (fun _ => True) 1024 w := fun l J Jx W hW _ _ hY h0 =>
  chs_in vs hl n hn l Ba J Jx W hY ((hW.cell (p := ⟨Ba, 0, none⟩) hB).trans hc) h0
end Go.Proofs.Ytbljmibaemgfeaa.S2

namespace Go.Proofs.Ytbljmibaemgfeaa.S2
open Go.RowKit Go.Sort Go.Shelf P2 P4
set_option linter.unusedVariables false

/-- A post-condition that no way out but the normal one meets. -/
def onlyN (Q : Exit → Act → World → Prop) : Exit → Act → World → Prop
  | .normal, a, w => Q .normal a w
  | _, _, _ => False
theorem wp_only {P : Program} {c : Code} {Q : Exit → Act → World → Prop} {a : Act} {w : World} (h : c.wp P (onlyN Q) a w) : c.wp P Q a w :=
  Code.wp_mono (Q := onlyN Q) (fun e a w h => by cases e <;> first | exact h | exact h.elim) h
theorem onlyN_mk {Q : Exit → Act → World → Prop} {a : Act} {w : World} (h : Q .normal a w) : onlyN Q .normal a w := h
theorem run_storeF (P : Program) (w : World) (a : Addr) (f : Fn) (t c : Array Value) (m : Mode) : (store a (.func f t c) m).run P w = stored P w a (.func f t c) m := run_store P w a _ m rfl

/-- The fixed part of what the search has. -/
structure Fx where
  q : Nat
  p : Nat
  Ba : Nat
  L : Nat
  M : Nat
  S : Nat
  N : Nat
  A : Option Addr
  cap : Nat
  ps : List Pp
  AV : Option Addr
  capv : Nat
  vs : List Vv
  X : Nat
  x : Int
  hv : Value
/-- What is read in a round. -/
structure RC (f : Fx) (W : World) : Prop where
  n0 : W.cell? ⟨f.q, 0, none⟩ = some (.int .i64 (f.N : Int))
  n1 : W.cell? ⟨f.q, 1, none⟩ = some (.slice f.A f.ps.length f.cap)
  px : W.cell? ⟨f.q + 1, 0, none⟩ = some (.int .i64 f.x)
  hf : W.cell? ⟨f.q + 1 + 1, 0, none⟩ = some f.hv
  wf : W.cell? ⟨f.p, 0, none⟩ = some (.func (.func 158) #[] #[.pointer (some ⟨f.L, 0, none⟩), .pointer (some ⟨f.M, 0, none⟩), .pointer (some ⟨f.S, 0, none⟩)])
  al : W.cell? ⟨f.Ba, 0, none⟩ = some (.int .u64 (allC f.vs f.vs.length : Int))
  wl : W.cell? ⟨f.L, 0, none⟩ = some (.slice f.AV f.vs.length f.capv)
  wm0 : W.cell? ⟨f.M, 0, none⟩ = some (.int .i64 (f.N : Int))
  wm1 : W.cell? ⟨f.M, 1, none⟩ = some (.slice f.A f.ps.length f.cap)
  ws : W.cell? ⟨f.S, 0, none⟩ = some (.int .i64 (f.X : Int))
  o1 : f.q + 1 + 1 < f.p
  o2 : f.L < f.p
  o3 : f.M < f.p
  o4 : f.S < f.p
  o5 : f.p + 1 + 1 + 1 < f.Ba
  o6 : f.Ba < W.heap.size
theorem RC.by_cells {f : Fx} {W W' : World} (h : RC f W) (hz : W.heap.size ≤ W'.heap.size) (hc : ∀ b o v, b < W.heap.size → (b ≠ f.p + 1 ∧ b ≠ f.p + 1 + 1 ∧ b ≠ f.p + 1 + 1 + 1) → W.cell? ⟨b, o, none⟩ = some v → W'.cell? ⟨b, o, none⟩ = some v) : RC f W' := by
  have o1 := h.o1; have o2 := h.o2; have o3 := h.o3; have o4 := h.o4; have o5 := h.o5; have o6 := h.o6
  exact ⟨hc _ _ _ (by omega) (by omega) h.n0, hc _ _ _ (by omega) (by omega) h.n1, hc _ _ _ (by omega) (by omega) h.px, hc _ _ _ (by omega) (by omega) h.hf, hc _ _ _ (by omega) (by omega) h.wf, hc _ _ _ (by omega) (by omega) h.al,
    hc _ _ _ (by omega) (by omega) h.wl, hc _ _ _ (by omega) (by omega) h.wm0, hc _ _ _ (by omega) (by omega) h.wm1, hc _ _ _ (by omega) (by omega) h.ws, o1, o2, o3, o4, o5, by omega⟩
theorem RC.low {f : Fx} {W W' : World} (h : RC f W) (hb : Below W.heap.size W W') : RC f W' :=
  h.by_cells hb.size fun b o v hlt _ hv => (hb.cell (p := ⟨b, o, none⟩) hlt).trans hv
theorem RC.own (f : Fx) {β : Type} : Own (fun (_ : β) W => RC f W) := fun _ W W' row hs hg hr =>
  RC.by_cells hs hg.size fun b o v _ _ hv => cell_kept hv hg hr
theorem RC.set {f : Fx} {W : World} (h : RC f W) {k : Nat} (v : Value) (hk : k = f.p + 1 ∨ k = f.p + 1 + 1 ∨ k = f.p + 1 + 1 + 1) : RC f (W.setCell ⟨k, 0, none⟩ v) :=
  h.by_cells (by simp) fun b o u hlt hne hu => ((grownBy_setCell' W k v).cell_far ⟨b, o, none⟩ hlt (by simp; omega)).trans hu
theorem RC.wb {f : Fx} {W : World} (h : RC f W) : WB W f.L f.M f.S f.N f.A f.cap f.ps f.AV f.capv f.vs f.X :=
  ⟨h.wl, h.wm0, h.wm1, h.ws, by have := h.o2; have := h.o5; have := h.o6; omega, by have := h.o3; have := h.o5; have := h.o6; omega, by have := h.o4; have := h.o5; have := h.o6; omega⟩
/-- What the search holds between two rounds. -/
def RB (f : Fx) (w : World) (st : St) (W : World) : Prop :=
  (RC f W ∧ (Boxed W (f.p + 1) 118 (.int .u64 (st.best : Int)) ∧ (Boxed W (f.p + 1 + 1) 3 (.int .i64 st.least) ∧ Boxed W (f.p + 1 + 1 + 1) 4 (.bool st.found)))) ∧ Below f.q w W
theorem RB.own (f : Fx) (w : World) (B : Nat) (hq : f.q ≤ w.heap.size) (hB : f.q ≤ B) {β : Type} (g : β → St) : OwnFrom B (fun (b : β) W => RB f w (g b) W) :=
  OwnFrom.and (Own.from (fun s A B' row hs hg hr => ⟨RC.own f s A B' row hs.1 hg hr, boxed_own (f.p + 1) 118 (fun b : β => .int .u64 ((g b).best : Int)) s A B' row hs.2.1 hg hr, boxed_own (f.p + 1 + 1) 3 (fun b : β => .int .i64 (g b).least) s A B' row hs.2.2.1 hg hr, boxed_own (f.p + 1 + 1 + 1) 4 (fun b : β => .bool (g b).found) s A B' row hs.2.2.2 hg hr⟩) B) (ownFrom_below hq hB)
theorem boxed_low {W W' : World} {k : Nat} {t : TypeId} {v : Value} (h : Boxed W k t v) (hb : Below W.heap.size W W') : Boxed W' k t v := (hb.block k h.lt).trans h
theorem RB.low {f : Fx} {w : World} {st : St} {W W' : World} (h : RB f w st W) (hb : Below W.heap.size W W') : RB f w st W' :=
  ⟨⟨h.1.1.low hb, boxed_low h.1.2.1 hb, boxed_low h.1.2.2.1 hb, boxed_low h.1.2.2.2 hb⟩, h.2.trans (hb.mono (by have := h.1.1.o1; have := h.1.1.o5; have := h.1.1.o6; omega))⟩
theorem RB.set {f : Fx} {w : World} {st : St} {W : World} (h : RB f w st W) (C : Nat) (d : Int) (b : Bool) :
    RB f w ⟨C, d, b⟩ (((W.setCell ⟨f.p + 1, 0, none⟩ (.int .u64 (C : Int))).setCell ⟨f.p + 1 + 1, 0, none⟩ (.int .i64 d)).setCell ⟨f.p + 1 + 1 + 1, 0, none⟩ (.bool b)) := by
  have o1 := h.1.1.o1
  have hq : f.q ≤ W.heap.size := by have := h.1.1.o5; have := h.1.1.o6; omega
  refine ⟨⟨((h.1.1.set _ (.inl rfl)).set _ (.inr (.inl rfl))).set _ (.inr (.inr rfl)), ?_, ?_, ?_⟩, ?_⟩
  · exact ((h.1.2.1.set _).other (by omega) _).other (by omega) _
  · exact ((h.1.2.2.1.other (by omega) _).set _).other (by omega) _
  · exact ((h.1.2.2.2.other (by omega) _).other (by omega) _).set _
  · exact ((h.2.setCell (p := ⟨f.p + 1, 0, none⟩) (by show f.q ≤ f.p + 1; omega) _).setCell (p := ⟨f.p + 1 + 1, 0, none⟩) (by show f.q ≤ f.p + 1 + 1; omega) _).setCell (p := ⟨f.p + 1 + 1 + 1, 0, none⟩) (by show f.q ≤ f.p + 1 + 1 + 1; omega) _
theorem keeps_low {W W' : World} (hb : Below W.heap.size W W') : KeepsOthers W W' :=
  KeepsOthers.of_grownBy (row := none) ⟨hb.os, hb.tape, hb.output, hb.size, fun k hk _ => hb.block k hk⟩ (fun _ _ e => by cases e)
theorem kc_low {Ba : Nat} {W W' : World} (hb : Below W.heap.size W W') : Kc Ba W W' := fun v hv => (hb.cell (p := ⟨Ba, 0, none⟩) (block_lt_of_cell hv)).trans hv
theorem kc_set {Ba k : Nat} {W : World} (v : Value) (hne : Ba ≠ k) : Kc Ba W (W.setCell ⟨k, 0, none⟩ v) := fun u hu => ((grownBy_setCell' W k v).cell_far ⟨Ba, 0, none⟩ (block_lt_of_cell hu) (by simp; exact hne)).trans hu
/-- The fields of the fixed part. -/
structure FE (f : Fx) (q N : Nat) (A : Option Addr) (cap : Nat) (ps : List Pp) (AV : Option Addr) (capv : Nat) (vs : List Vv) (X : Nat) (x : Int) (hv : Value) : Prop where
  q : f.q = q
  N : f.N = N
  A : f.A = A
  cap : f.cap = cap
  ps : f.ps = ps
  AV : f.AV = AV
  capv : f.capv = capv
  vs : f.vs = vs
  X : f.X = X
  x : f.x = x
  hv : f.hv = hv
theorem RC.exp {f : Fx} {W : World} (h : RC f W) {q N : Nat} {A : Option Addr} {cap : Nat} {ps : List Pp} {AV : Option Addr} {capv : Nat} {vs : List Vv} {X : Nat} {x : Int} {hv : Value} (e : FE f q N A cap ps AV capv vs X x hv) :
    W.cell? ⟨q, 0, none⟩ = some (.int .i64 (N : Int)) ∧ W.cell? ⟨q, 1, none⟩ = some (.slice A ps.length cap) ∧ W.cell? ⟨q + 1, 0, none⟩ = some (.int .i64 x) ∧ W.cell? ⟨q + 1 + 1, 0, none⟩ = some hv ∧
      W.cell? ⟨f.p, 0, none⟩ = some (.func (.func 158) #[] #[.pointer (some ⟨f.L, 0, none⟩), .pointer (some ⟨f.M, 0, none⟩), .pointer (some ⟨f.S, 0, none⟩)]) ∧ W.cell? ⟨f.Ba, 0, none⟩ = some (.int .u64 (allC vs vs.length : Int)) ∧
      WB W f.L f.M f.S N A cap ps AV capv vs X := by
  obtain ⟨rfl, rfl, rfl, rfl, rfl, rfl, rfl, rfl, rfl, rfl, rfl⟩ := e
  exact ⟨h.n0, h.n1, h.px, h.hf, h.wf, h.al, h.wb⟩
theorem below_drewN {B : Nat} {a w : World} (h : Below B a w) (n : Nat) : Below B a (w.drewN n) := ⟨h.os, h.tape, h.output, h.size, h.block⟩
/-- A round that leaves the search as it was. -/
theorem round_same {f : Fx} {w : World} {st : St} {W W' : World} {B : Nat} (h : RB f w st W) (hb : Below W.heap.size W W') : KeepsFrom B W W' ∧ Kc f.Ba W W' ∧ RB f w st W' :=
  ⟨(keeps_low hb).from B, kc_low hb, h.low hb⟩
/-- A round that finds a better one. -/
theorem round_new {f : Fx} {w : World} {st : St} {W W' : World} {B : Nat} (h : RB f w st W) (hb : Below W.heap.size W W') (C : Nat) (d : Int) (b : Bool) :
    KeepsFrom B W (((W'.setCell ⟨f.p + 1, 0, none⟩ (.int .u64 (C : Int))).setCell ⟨f.p + 1 + 1, 0, none⟩ (.int .i64 d)).setCell ⟨f.p + 1 + 1 + 1, 0, none⟩ (.bool b)) ∧
      Kc f.Ba W (((W'.setCell ⟨f.p + 1, 0, none⟩ (.int .u64 (C : Int))).setCell ⟨f.p + 1 + 1, 0, none⟩ (.int .i64 d)).setCell ⟨f.p + 1 + 1 + 1, 0, none⟩ (.bool b)) ∧
      RB f w ⟨C, d, b⟩ (((W'.setCell ⟨f.p + 1, 0, none⟩ (.int .u64 (C : Int))).setCell ⟨f.p + 1 + 1, 0, none⟩ (.int .i64 d)).setCell ⟨f.p + 1 + 1 + 1, 0, none⟩ (.bool b)) := by
  have o5 := h.1.1.o5
  refine ⟨(((((keeps_low hb).trans (KeepsOthers.setCell _ _ _)).trans (KeepsOthers.setCell _ _ _)).trans (KeepsOthers.setCell _ _ _))).from B, ?_, (h.low hb).set C d b⟩
  exact (((kc_low hb).t (kc_set _ (by omega))).t (kc_set _ (by omega))).t (kc_set _ (by omega))
end Go.Proofs.Ytbljmibaemgfeaa.S2

namespace Go.Proofs.Ytbljmibaemgfeaa.S2
open Go.RowKit Go.Sort Go.Shelf P2 P4
attribute [local go_sem] Oper.semAt_some
attribute [local go_sem] run_storeF
set_option linter.unusedVariables false

set_option maxRecDepth 100000 in
set_option maxHeartbeats 16000000 in
theorem best_short (N X i : Nat) (A : Option Addr) (cap : Nat) (ps : List Pp) (AV : Option Addr) (capv : Nat) (vs : List Vv) (x : Int) (w : World) (h : PAt w A ps) (hv : VAt w AV vs) (hg : P4.Good N ps vs) (hX : X < 9) (hi : At ps x i)
    (Hs : (Nat → Bool) → Int) (hh : ∀ s w', Below w.heap.size w w' → Calls Try.prog 89 #[ev s] w' fun e w'' => e = .returned (.int .i64 (Hs s)) ∧ Below w'.heap.size w' w'')
    (P : List Int) (hP : Int) (ok : Bool) (hr : Res vs (cutB ps vs X i) (fun l => Hs (wetP ps vs X l)) ok P hP) :
    CallsIn Fence.wide 6 Try.prog 88 #[nv N A ps.length cap, .slice AV vs.length capv, .int .i64 (X : Int), .int .i64 x, .func (.func 89) #[] #[]] w (GivesIH w P hP ok) := by
  have HWF := Lib.hid (fun w' => waterfrom_any N X A cap ps AV capv vs w')
  have HOP := Lib.hid (fun w' (hb' : Below w.heap.size w w') => openv_any AV capv vs w' (hv.kept hb' (Nat.le_refl _)) hg.2.1)
  have HCA := Lib.hid (fun w' => choices_any (allC vs vs.length) w')
  have HID := Lib.hid (fun C w' (hb' : Below w.heap.size w w') (hC : C < 1024) => idsof_any AV capv vs C w' (hv.kept hb' (Nat.le_refl _)) hg.2.1 hC)
  have HWX := Lib.hid (fun C L M S w' (hb' : Below w.heap.size w w') (hC : SubC vs C) (hw : WB w' L M S N A cap ps AV capv vs X) => wbox_any (C := C) hw (h.kept hb' (Nat.le_refl _)) (hv.kept hb' (Nat.le_refl _)) hg hX hC)
  have HHP := Lib.hid (fun s w' (hb' : Below w.heap.size w w') => haspipe_any N A cap ps s x i w' (h.kept hb' (Nat.le_refl _)) hg.1 hi)
  have HH := Lib.hid hh
  have hl10 := hg.2.1
  have HASC := Lib.hid (ascV_of hg)
  have HR := Lib.hid hr
  have HAL := Lib.hid (orTo_lt (fun i => !(vAt vs i).sh) vs.length)
  clear h hv hg hh hr hi
  refine callsIn_of_wp_marks Try.func88 rfl trivial ?_ rfl
  refine wpIn_wide.2 ?_
  simp only [Try.ntmps88, List.size_toArray, List.length_cons, List.length_nil, Nat.reduceAdd, Nat.reduceSub, Array.replicate_succ, Array.replicate_zero, List.push_toArray, List.append_toArray, List.nil_append, List.cons_append]
  go_wp2_with (go_at_call 104; refine (HWF.out _).mono ?_; rintro e w1 ⟨⟨L, M, S, rfl, hWB⟩, hb1⟩; have HW1 := Lib.hid hWB; have HX1 := Lib.hid hb1; clear hWB hb1; refine Hid.out ?_)
  have n0 : w1.cell? ⟨w.heap.size, 0, none⟩ = some (.int .i64 (N : Int)) := (HX1.out.cell (p := ⟨w.heap.size, 0, none⟩) (by simp; omega)).trans (by go_simp)
  have n1 : w1.cell? ⟨w.heap.size, 1, none⟩ = some (.slice A ps.length cap) := (HX1.out.cell (p := ⟨w.heap.size, 1, none⟩) (by simp; omega)).trans (by go_simp)
  have px : w1.cell? ⟨w.heap.size + 1, 0, none⟩ = some (.int .i64 x) := (HX1.out.cell (p := ⟨w.heap.size + 1, 0, none⟩) (by simp)).trans (by go_simp)
  have hf : w1.cell? ⟨w.heap.size + 1 + 1, 0, none⟩ = some (.func (.func 89) #[] #[]) := (HX1.out.cell (p := ⟨w.heap.size + 1 + 1, 0, none⟩) (by simp)).trans (by go_simp)
  have hz1 : w.heap.size + 3 ≤ w1.heap.size := by have := HX1.out.size; simp at this; omega
  have HB1 := Lib.hid (show Below w.heap.size w w1 from ((((Below.refl _ _).alloc (Nat.le_refl _) _).alloc (by simp) _).alloc (by simp; omega) _).trans (HX1.out.mono (by simp; omega)))
  refine Lib.hid ?_
  go_upto_region 4 with (fail)
  obtain ⟨W5, hW5⟩ : ∃ W5, W5 = ((((w1.alloc (.cells #[.func (.func 158) #[] #[.pointer (some ⟨L, 0, none⟩), .pointer (some ⟨M, 0, none⟩), .pointer (some ⟨S, 0, none⟩)]] 115)).alloc (.cells #[.int .u64 0] 118)).alloc (.cells #[.int .i64 0] 3)).alloc (.cells #[.bool false] 4)) := ⟨_, rfl⟩
  have hz5 : W5.heap.size = w1.heap.size + 4 := by rw [hW5]; simp
  have HB15 := Lib.hid (show Below w1.heap.size w1 W5 from by rw [hW5]; exact ((((Below.refl _ _).alloc (Nat.le_refl _) _).alloc (by simp) _).alloc (by simp; omega) _).alloc (by simp; omega) _)
  have wf : W5.cell? ⟨w1.heap.size, 0, none⟩ = some (.func (.func 158) #[] #[.pointer (some ⟨L, 0, none⟩), .pointer (some ⟨M, 0, none⟩), .pointer (some ⟨S, 0, none⟩)]) := by rw [hW5]; go_simp
  have bb : Boxed W5 (w1.heap.size + 1) 118 (.int .u64 0) := by
    have h1 := ((Boxed.new (w1.alloc (.cells #[.func (.func 158) #[] #[.pointer (some ⟨L, 0, none⟩), .pointer (some ⟨M, 0, none⟩), .pointer (some ⟨S, 0, none⟩)]] 115)) 118 (.int .u64 0)).alloc (.cells #[.int .i64 0] 3)).alloc (.cells #[.bool false] 4)
    rw [hW5]; simpa using h1
  have bl : Boxed W5 (w1.heap.size + 1 + 1) 3 (.int .i64 0) := by
    have h1 := (Boxed.new ((w1.alloc (.cells #[.func (.func 158) #[] #[.pointer (some ⟨L, 0, none⟩), .pointer (some ⟨M, 0, none⟩), .pointer (some ⟨S, 0, none⟩)]] 115)).alloc (.cells #[.int .u64 0] 118)) 3 (.int .i64 0)).alloc (.cells #[.bool false] 4)
    rw [hW5]; simpa using h1
  have bq : Boxed W5 (w1.heap.size + 1 + 1 + 1) 4 (.bool false) := by
    have h1 := Boxed.new (((w1.alloc (.cells #[.func (.func 158) #[] #[.pointer (some ⟨L, 0, none⟩), .pointer (some ⟨M, 0, none⟩), .pointer (some ⟨S, 0, none⟩)]] 115)).alloc (.cells #[.int .u64 0] 118)).alloc (.cells #[.int .i64 0] 3)) 4 (.bool false)
    rw [hW5]; simpa using h1
  rw [← hW5]
  have HB5 := Lib.hid (HB1.out.trans (HB15.out.mono HB1.out.size))
  have HZ5 := Lib.hid hz5
  clear hW5 hz5
  go_wp2_with (first
    | (go_at_call 105; refine (HOP.out _ HB5.out).mono ?_; rintro e w2 ⟨rfl, hb2⟩; have HX2 := Lib.hid hb2; clear hb2)
    | (go_at_call 145; refine (HCA.out _).mono ?_; rintro e w3 ⟨rfl, rfl⟩; refine Hid.out ?_))
  obtain ⟨W0, hW0⟩ : ∃ W0, W0 = w2.alloc (.cells #[.int .u64 (allC vs vs.length : Int)] 118) := ⟨_, rfl⟩
  have HX20 := Lib.hid (show Below w2.heap.size w2 W0 from by rw [hW0]; exact (Below.refl _ _).alloc (Nat.le_refl _) _)
  have al : W0.cell? ⟨w2.heap.size, 0, none⟩ = some (.int .u64 (allC vs vs.length : Int)) := by rw [hW0]; go_simp
  have hz0 : W0.heap.size = w2.heap.size + 1 := by rw [hW0]; simp
  rw [← hW0]
  have HX5 := Lib.hid (HX2.out.trans (HX20.out.mono HX2.out.size))
  have hz25 : w1.heap.size + 4 ≤ w2.heap.size := by have := HX2.out.size; have := HZ5.out; omega
  have HX15 := Lib.hid (HB15.out.trans (HX5.out.mono HB15.out.size))
  have HRB := Lib.hid (show RB ⟨w.heap.size, w1.heap.size, w2.heap.size, L, M, S, N, A, cap, ps, AV, capv, vs, X, x, .func (.func 89) #[] #[]⟩ w st0 W0 from by
    refine ⟨⟨?_, boxed_low bb HX5.out, boxed_low bl HX5.out, boxed_low bq HX5.out⟩, HB5.out.trans (HX5.out.mono HB5.out.size)⟩
    have hwb := HW1.out
    exact ⟨(HX15.out.cell (p := ⟨w.heap.size, 0, none⟩) (by show w.heap.size < _; omega)).trans n0, (HX15.out.cell (p := ⟨w.heap.size, 1, none⟩) (by show w.heap.size < _; omega)).trans n1, (HX15.out.cell (p := ⟨w.heap.size + 1, 0, none⟩) (by show w.heap.size + 1 < _; omega)).trans px, (HX15.out.cell (p := ⟨w.heap.size + 1 + 1, 0, none⟩) (by show w.heap.size + 1 + 1 < _; omega)).trans hf,
      (HX5.out.cell (p := ⟨w1.heap.size, 0, none⟩) (by have := HZ5.out; show w1.heap.size < _; omega)).trans wf, al,
      (HX15.out.cell (p := ⟨L, 0, none⟩) hwb.ll).trans hwb.l, (HX15.out.cell (p := ⟨M, 0, none⟩) hwb.ml).trans hwb.m0, (HX15.out.cell (p := ⟨M, 1, none⟩) hwb.ml).trans hwb.m1, (HX15.out.cell (p := ⟨S, 0, none⟩) hwb.sl).trans hwb.s,
      by show w.heap.size + 1 + 1 < w1.heap.size; omega, hwb.ll, hwb.ml, hwb.sl, by show w1.heap.size + 1 + 1 + 1 < w2.heap.size; omega, by show w2.heap.size < W0.heap.size; omega⟩)
  have HQ0 : w.heap.size ≤ W0.heap.size := by omega
  have hB0 : w2.heap.size < W0.heap.size := by omega
  obtain ⟨f, hf0⟩ : ∃ f : Fx, f = ⟨w.heap.size, w1.heap.size, w2.heap.size, L, M, S, N, A, cap, ps, AV, capv, vs, X, x, .func (.func 89) #[] #[]⟩ := ⟨_, rfl⟩
  have e1 : f.q = w.heap.size := by rw [hf0]
  have e2 : f.p = w1.heap.size := by rw [hf0]
  have e3 : f.Ba = w2.heap.size := by rw [hf0]
  have e4 : f.L = L := by rw [hf0]
  have e5 : f.M = M := by rw [hf0]
  have e6 : f.S = S := by rw [hf0]
  have HFE := Lib.hid (show FE f w.heap.size N A cap ps AV capv vs X x (.func (.func 89) #[] #[]) from by rw [hf0]; exact ⟨rfl, rfl, rfl, rfl, rfl, rfl, rfl, rfl, rfl, rfl, rfl⟩)
  rw [← hf0] at HRB
  clear n0 n1 px hf wf bb bl bq al hW0 hz0 HX20 HX5 HX2 HX15 HB15 HX1 HW1 hf0
  rw [← e2, ← e3, ← e4, ← e5, ← e6]
  rw [← e1] at HQ0
  clear e1
  rw [← e3] at hB0
  clear e2 e3 e4 e5 e6 hz25 hz1 HB1 HB5 HZ5
  refine Lib.hid ?_
  go_wp2_with fail
  refine (wpIn_wide (n := 6)).1 ?_
  refine wpIn_rangeFunc_ownG rfl (by omega) (gf := 173) (lb := #[.pointer (some ⟨f.Ba, 0, none⟩)]) rfl trivial (enters_of Try.func173 (by kernel_rfl) rfl)
    (chs_stops vs hl10 5 (by omega) f.Ba W0 hB0 (HRB.out.1.1.exp HFE.out).2.2.2.2.2.1) Kc.t (Kc.b (w := W0)) (Below.refl _ _) (fun _ => rfl)
    (fun pre W => RB f w (foldB (cutB ps vs X i) (fun l => Hs (wetP ps vs X l)) vs pre) W)
    (fun _ _ _ => False)
    (RB.own f w W0.heap.size (by rw [HFE.out.q]; exact Nat.le_refl _) HQ0 (fun pre => foldB (cutB ps vs X i) (fun l => Hs (wetP ps vs X l)) vs pre))
    (fun _ _ _ _ _ hs _ _ => hs)
    HRB.out
    (fun y => { tmps := #[nv (N : Int) A ps.length cap, .slice AV vs.length capv, .int .i64 (X : Int), .int .i64 x, .func (.func 89) #[] #[], .pointer (some ⟨w.heap.size, 0, none⟩), undef, undef, .pointer (some ⟨w.heap.size + 1, 0, none⟩), .pointer (some ⟨w.heap.size + 1 + 1, 0, none⟩), .slice none 0 0, .int .i64 0, .bool false, .pointer (some ⟨f.p, 0, none⟩), .pointer (some ⟨f.p + 1, 0, none⟩), .pointer (some ⟨f.p + 1 + 1, 0, none⟩), .pointer (some ⟨f.p + 1 + 1 + 1, 0, none⟩), .int .u64 (y.1 : Int), undef, undef, .agg #[.int .i64 (N : Int), .slice A ps.length cap], .slice AV vs.length capv, .int .i64 (X : Int), .func (.func 158) #[] #[.pointer (some ⟨f.L, 0, none⟩), .pointer (some ⟨f.M, 0, none⟩), .pointer (some ⟨f.S, 0, none⟩)], .slice AV vs.length capv, .int .u64 (allC vs vs.length : Int), .func (.func 173) #[] #[.pointer (some ⟨f.Ba, 0, none⟩)], .int .u64 (y.1 : Int), undef, undef, undef, undef, undef, undef, undef, undef, undef, undef, undef, undef, undef, undef, undef, undef, undef, undef, undef, undef, undef, undef, undef, undef, undef, undef, undef, undef, undef, undef, undef, undef, undef, undef, undef, undef], defers := [] }) ?assign ?body ?done ?stop
  case assign =>
    intro l y W K hK
    gi_wp2
    exact hK
  case body =>
    rintro l pre y W hrb hlt
    obtain ⟨C, hC⟩ := y
    have hmx : Try.prog.follows .mixedOrders = true := by kernel_rfl
    have HSB := Lib.hid (foldB_snoc (cutB ps vs X i) (fun l => Hs (wetP ps vs X l)) vs pre ⟨C, hC⟩)
    have HSU := Lib.hid (foldB_sub (cutB ps vs X i) (fun l => Hs (wetP ps vs X l)) vs pre).1
    obtain ⟨st, hst⟩ : ∃ st, st = foldB (cutB ps vs X i) (fun l => Hs (wetP ps vs X l)) vs pre := ⟨_, rfl⟩
    rw [← hst] at hrb HSB HSU
    obtain ⟨st2, hst2⟩ : ∃ st2, st2 = foldB (cutB ps vs X i) (fun l => Hs (wetP ps vs X l)) vs (pre ++ [⟨C, hC⟩]) := ⟨_, rfl⟩
    rw [← hst2] at HSB
    have HS2 := Lib.hid hst2
    have HRP := Lib.hid hrb
    obtain ⟨n0, n1, px, hf, wf, al, hwb⟩ := hrb.1.1.exp HFE.out
    have HWB := Lib.hid hwb
    have bb := hrb.1.2.1
    have bl := hrb.1.2.2.1
    have bq := hrb.1.2.2.2
    have HBW := Lib.hid (show Below w.heap.size w W from by have h7 := hrb.2; rwa [HFE.out.q] at h7)
    obtain ⟨s, hs⟩ : ∃ s, s = wetP ps vs X (idsC vs C) := ⟨_, rfl⟩
    have HWC := Lib.hid (by have h7 := HWX.out C _ _ _ W HBW.out hC hwb; rwa [← hs] at h7)
    have HTK := Lib.hid (show takesB (cutB ps vs X i) (fun l => Hs (wetP ps vs X l)) vs st C = ((!(s (9 + i))) && (!st.found || decide (Hs s < st.least) || (decide (Hs s = st.least) && decide (pcT C 10 < pcT st.best 10)))) from by rw [hs]; rfl)
    have HS3 := Lib.hid (show st2 = if takesB (cutB ps vs X i) (fun l => Hs (wetP ps vs X l)) vs st C then ⟨C, Hs s, true⟩ else st from by rw [HSB.out, hs]; rfl)
    have HCC := Lib.hid hC.1
    have hq1 : w.heap.size + 1 + 1 < W.heap.size := block_lt_of_cell hf
    have hq0 : w.heap.size < W.heap.size := by omega
    have hp3 := bq.lt
    have cb := bb.cell
    have cl := bl.cell
    have cq := bq.cell
    clear hrb hst hst2 hwb hs hlt HSB bb bl bq
    gi_wp2_with (refine ⟨trivial, ?_⟩; gi_at_call 158; refine (CallsIn.inRound l (callsIn_wide.2 HWC.out)).mono ?_; rintro e w3 ⟨rfl, hb3⟩; have HX3 := Lib.hid hb3; clear hb3; refine Hid.out ?_)
    have m0 := (HX3.out.cell (p := ⟨w.heap.size, 0, none⟩) hq0).trans n0
    have m1 := (HX3.out.cell (p := ⟨w.heap.size, 1, none⟩) hq0).trans n1
    have mx := (HX3.out.cell (p := ⟨w.heap.size + 1, 0, none⟩) (by show w.heap.size + 1 < _; omega)).trans px
    have mf := (HX3.out.cell (p := ⟨w.heap.size + 1 + 1, 0, none⟩) hq1).trans hf
    have db := (HX3.out.cell (p := ⟨f.p + 1, 0, none⟩) (by show f.p + 1 < _; omega)).trans cb
    have dl := (HX3.out.cell (p := ⟨f.p + 1 + 1, 0, none⟩) (by show f.p + 1 + 1 < _; omega)).trans cl
    have dq := (HX3.out.cell (p := ⟨f.p + 1 + 1 + 1, 0, none⟩) (by show f.p + 1 + 1 + 1 < _; omega)).trans cq
    have hz3 := HX3.out.size
    clear n0 n1 px hf cb cl cq wf al
    refine Lib.hid ?_
    gi_wp2_with (first
      | ((with_reducible refine wpInE_alloc rfl rfl ?_); intro w4 he4 hb4 hz4; have E4 := Lib.hid he4; have HX4 := Lib.hid hb4; clear he4 hb4 hz4)
      | ((with_reducible refine wpInE_store rfl _ _ rfl rfl w3.heap.size rfl s rfl es0 E4.out ?_); intro w5 he5 hg5 hz5; have E5 := Lib.hid he5; have HG5 := Lib.hid hg5; clear he5 hg5 hz5; refine Hid.out ?_))
    have HX35 := Lib.hid (show Below w3.heap.size w3 w5 from HX4.out.grown HG5.out HX4.out.size (fun g hg => by simp at hg; omega))
    have HX5 := Lib.hid (HX3.out.trans (HX35.out.mono HX3.out.size))
    have r0 := (HX35.out.cell (p := ⟨w.heap.size, 0, none⟩) (by show w.heap.size < _; omega)).trans m0
    have r1 := (HX35.out.cell (p := ⟨w.heap.size, 1, none⟩) (by show w.heap.size < _; omega)).trans m1
    have rx := (HX35.out.cell (p := ⟨w.heap.size + 1, 0, none⟩) (by show w.heap.size + 1 < _; omega)).trans mx
    have rf := (HX35.out.cell (p := ⟨w.heap.size + 1 + 1, 0, none⟩) (by show w.heap.size + 1 + 1 < _; omega)).trans mf
    have eb := (HX35.out.cell (p := ⟨f.p + 1, 0, none⟩) (by show f.p + 1 < _; omega)).trans db
    have el := (HX35.out.cell (p := ⟨f.p + 1 + 1, 0, none⟩) (by show f.p + 1 + 1 < _; omega)).trans dl
    have eq := (HX35.out.cell (p := ⟨f.p + 1 + 1 + 1, 0, none⟩) (by show f.p + 1 + 1 + 1 < _; omega)).trans dq
    have hz5 := HX35.out.size
    have hl5 := E5.out.lt
    have HB5 := Lib.hid (HBW.out.trans (HX5.out.mono HBW.out.size))
    have HP5 := Lib.hid (HHP.out s w5 HB5.out)
    clear m0 m1 mx mf db dl dq E4 HX4 HG5
    obtain ⟨b, hb⟩ : ∃ b, s (9 + i) = b := ⟨_, rfl⟩
    rw [hb] at HP5 HTK
    clear hb
    cases b with
    | true =>
      refine Lib.hid ?_
      gi_wp2_with (first
        | (with_reducible refine wpInE_load rfl _ rfl w3.heap.size rfl s E5.out ?_)
        | (refine ⟨trivial, ?_⟩; gi_at_call 129; refine (CallsIn.inRound l (callsIn_wide.2 HP5.out)).mono ?_; rintro e w6 ⟨rfl, hb6⟩; have HX6 := Lib.hid (HX5.out.trans (hb6.mono HX5.out.size)); clear hb6))
      have hfin := round_same (B := W0.heap.size) HRP.out HX6.out
      have e2 : st2 = st := by rw [HS3.out, HTK.out]; rfl
      rw [← e2, HS2.out] at hfin
      exact hfin
    | false =>
      refine Lib.hid ?_
      gi_wp2_with (first
        | (with_reducible refine wpInE_load rfl _ rfl w3.heap.size rfl s E5.out ?_)
        | (refine ⟨trivial, ?_⟩; gi_at_call 129; refine (CallsIn.inRound l (callsIn_wide.2 HP5.out)).mono ?_; rintro e w6 ⟨rfl, hb6⟩; have HX56 := Lib.hid hb6; have HX6 := Lib.hid (HX5.out.trans (hb6.mono HX5.out.size)); clear hb6; refine Hid.out ?_))
      have sf := (HX56.out.cell (p := ⟨w.heap.size + 1 + 1, 0, none⟩) (by show w.heap.size + 1 + 1 < _; omega)).trans rf
      have fb := (HX56.out.cell (p := ⟨f.p + 1, 0, none⟩) (by show f.p + 1 < _; omega)).trans eb
      have fl := (HX56.out.cell (p := ⟨f.p + 1 + 1, 0, none⟩) (by show f.p + 1 + 1 < _; omega)).trans el
      have fq := (HX56.out.cell (p := ⟨f.p + 1 + 1 + 1, 0, none⟩) (by show f.p + 1 + 1 + 1 < _; omega)).trans eq
      have E6 := Lib.hid (E5.out.kept HX56.out hl5)
      have hz6 := HX56.out.size
      have HB6 := Lib.hid (HBW.out.trans (HX6.out.mono HBW.out.size))
      have HH6 := Lib.hid (HH.out s w6 HB6.out)
      clear r0 r1 rx rf eb el eq
      obtain ⟨d, hd⟩ : ∃ d, Hs s = d := ⟨_, rfl⟩
      rw [hd] at HH6 HTK HS3
      clear hd
      refine Lib.hid ?_
      gi_wp2_with (first
        | (with_reducible refine wpInE_load rfl _ rfl w3.heap.size rfl s E6.out ?_)
        | (refine ⟨trivial, ?_⟩; gi_at_call 89; refine (CallsIn.inRound l (callsIn_wide.2 HH6.out)).mono ?_; rintro e w7 ⟨rfl, hb7⟩; have HX67 := Lib.hid hb7; have HX7 := Lib.hid (HX6.out.trans (hb7.mono HX6.out.size)); clear hb7; refine Hid.out ?_))
      have gb := (HX67.out.cell (p := ⟨f.p + 1, 0, none⟩) (by show f.p + 1 < _; omega)).trans fb
      have gl := (HX67.out.cell (p := ⟨f.p + 1 + 1, 0, none⟩) (by show f.p + 1 + 1 < _; omega)).trans fl
      have gq := (HX67.out.cell (p := ⟨f.p + 1 + 1 + 1, 0, none⟩) (by show f.p + 1 + 1 + 1 < _; omega)).trans fq
      have HO1 := Lib.hid (fun w' => ones_any C HCC.out w')
      have HO2 := Lib.hid (fun w' => ones_any st.best HSU.out w')
      have hz7 := HX67.out.size
      have hp7 : f.p + 1 + 1 + 1 < w7.heap.size := by omega
      have k1 : w7.frozen? ⟨f.p + 1, 0, none⟩ = false := (HRP.out.low HX7.out).1.2.1.frozen
      have k2 : w7.frozen? ⟨f.p + 1 + 1, 0, none⟩ = false := (HRP.out.low HX7.out).1.2.2.1.frozen
      have k3 : w7.frozen? ⟨f.p + 1 + 1 + 1, 0, none⟩ = false := (HRP.out.low HX7.out).1.2.2.2.frozen
      clear sf fb fl fq E5 E6 HX56 HX35 HX67
      obtain ⟨B0, L0, F0⟩ := st
      dsimp only at gb gl gq HO2 HTK HS3 HRP
      cases F0 with
      | false =>
        have HN := Lib.hid (show st2 = ⟨C, d, true⟩ from by rw [HS3.out, HTK.out]; rfl)
        clear HTK HS3
        refine Lib.hid ?_
        gi_wp2_with fail
        refine region_round (F := Fence.wide) l rfl hmx (by kernel_rfl) (by kernel_rfl) ?_
        repeat (refine wpQuietIn_step (fun _ _ _ _ => trivial) (fun K hK => ?_); go_simp; first | (refine hK _ ?_; clear hK K) | (apply Exists.intro; refine ⟨fun _ => ?_, hK _ ?_⟩; (first | (gi_at_call 146; exact CallsIn.quiet_of_same (callsIn_wide.2 (HO1.out _))) | (gi_at_call 146; exact CallsIn.quiet_of_same (callsIn_wide.2 (HO2.out _)))); clear hK K))
        refine wpQuietIn_nil ?_
        intro _ hw'
        obtain ⟨nq, hw''⟩ := hw'
        subst hw''
        gi_wp2_with fail
        have hfin := round_new (B := W0.heap.size) HRP.out (below_drewN HX7.out nq) C d true
        rw [← HN.out, HS2.out] at hfin
        exact hfin
      | true =>
        by_cases h1 : d < L0
        · have HN := Lib.hid (show st2 = ⟨C, d, true⟩ from by rw [HS3.out, HTK.out]; simp [h1])
          have d1 : decide (d < L0) = true := by simpa using h1
          clear HTK HS3 h1
          refine Lib.hid ?_
          gi_wp2_with fail
          refine region_round (F := Fence.wide) l rfl hmx (by kernel_rfl) (by kernel_rfl) ?_
          repeat (refine wpQuietIn_step (fun _ _ _ _ => trivial) (fun K hK => ?_); go_simp; first | (refine hK _ ?_; clear hK K) | (apply Exists.intro; refine ⟨fun _ => ?_, hK _ ?_⟩; (first | (gi_at_call 146; exact CallsIn.quiet_of_same (callsIn_wide.2 (HO1.out _))) | (gi_at_call 146; exact CallsIn.quiet_of_same (callsIn_wide.2 (HO2.out _)))); clear hK K))
          refine wpQuietIn_nil ?_
          intro _ hw'
          obtain ⟨nq, hw''⟩ := hw'
          subst hw''
          gi_wp2_with fail
          have hfin := round_new (B := W0.heap.size) HRP.out (below_drewN HX7.out nq) C d true
          rw [← HN.out, HS2.out] at hfin
          exact hfin
        · have d1 : decide (d < L0) = false := by simpa using h1
          by_cases h2 : d = L0
          · have d2 : (d == L0) = true := beq_iff_eq.2 h2
            by_cases h3 : pcT C 10 < pcT B0 10
            · have HN := Lib.hid (show st2 = ⟨C, d, true⟩ from by rw [HS3.out, HTK.out]; simp [h2, h3])
              have d3 : decide ((pcT C 10 : Int) < (pcT B0 10 : Int)) = true := by simp; omega
              have d4 : decide (pcT C 10 < pcT B0 10) = true := by simpa using h3
              clear HTK HS3 h1 h2 h3
              refine Lib.hid ?_
              gi_wp2_with fail
              refine region_round (F := Fence.wide) l rfl hmx (by kernel_rfl) (by kernel_rfl) ?_
              repeat (refine wpQuietIn_step (fun _ _ _ _ => trivial) (fun K hK => ?_); go_simp; first | (refine hK _ ?_; clear hK K) | (apply Exists.intro; refine ⟨fun _ => ?_, hK _ ?_⟩; (first | (gi_at_call 146; exact CallsIn.quiet_of_same (callsIn_wide.2 (HO1.out _))) | (gi_at_call 146; exact CallsIn.quiet_of_same (callsIn_wide.2 (HO2.out _)))); clear hK K))
              refine wpQuietIn_nil ?_
              intro _ hw'
              obtain ⟨nq, hw''⟩ := hw'
              subst hw''
              gi_wp2_with fail
              have hfin := round_new (B := W0.heap.size) HRP.out (below_drewN HX7.out nq) C d true
              rw [← HN.out, HS2.out] at hfin
              exact hfin
            · have HN := Lib.hid (show st2 = ⟨B0, L0, true⟩ from by rw [HS3.out, HTK.out]; simp [h2, h3])
              have d3 : decide ((pcT C 10 : Int) < (pcT B0 10 : Int)) = false := by simp; omega
              have d4 : decide (pcT C 10 < pcT B0 10) = false := by simpa using h3
              clear HTK HS3 h1 h2 h3
              refine Lib.hid ?_
              gi_wp2_with fail
              refine region_round (F := Fence.wide) l rfl hmx (by kernel_rfl) (by kernel_rfl) ?_
              repeat (refine wpQuietIn_step (fun _ _ _ _ => trivial) (fun K hK => ?_); go_simp; first | (refine hK _ ?_; clear hK K) | (apply Exists.intro; refine ⟨fun _ => ?_, hK _ ?_⟩; (first | (gi_at_call 146; exact CallsIn.quiet_of_same (callsIn_wide.2 (HO1.out _))) | (gi_at_call 146; exact CallsIn.quiet_of_same (callsIn_wide.2 (HO2.out _)))); clear hK K))
              refine wpQuietIn_nil ?_
              intro _ hw'
              obtain ⟨nq, hw''⟩ := hw'
              subst hw''
              gi_wp2_with fail
              have hfin := round_same (B := W0.heap.size) HRP.out (below_drewN HX7.out nq)
              rw [← HN.out, HS2.out] at hfin
              exact hfin
          · have HN := Lib.hid (show st2 = ⟨B0, L0, true⟩ from by rw [HS3.out, HTK.out]; simp [h1, h2])
            have d2 : (d == L0) = false := beq_eq_false_iff_ne.2 h2
            clear HTK HS3 h1 h2
            refine Lib.hid ?_
            gi_wp2_with fail
            refine region_round (F := Fence.wide) l rfl hmx (by kernel_rfl) (by kernel_rfl) ?_
            repeat (refine wpQuietIn_step (fun _ _ _ _ => trivial) (fun K hK => ?_); go_simp; first | (refine hK _ ?_; clear hK K) | (apply Exists.intro; refine ⟨fun _ => ?_, hK _ ?_⟩; (first | (gi_at_call 146; exact CallsIn.quiet_of_same (callsIn_wide.2 (HO1.out _))) | (gi_at_call 146; exact CallsIn.quiet_of_same (callsIn_wide.2 (HO2.out _)))); clear hK K))
            refine wpQuietIn_nil ?_
            intro _ hw'
            obtain ⟨nq, hw''⟩ := hw'
            subst hw''
            gi_wp2_with fail
            have hfin := round_same (B := W0.heap.size) HRP.out (below_drewN HX7.out nq)
            rw [← HN.out, HS2.out] at hfin
            exact hfin
  case done =>
    rintro D ys W hD hall hrb hK
    obtain ⟨st, hst⟩ : ∃ st, st = foldB (cutB ps vs X i) (fun l => Hs (wetP ps vs X l)) vs ys := ⟨_, rfl⟩
    have hres := foldB_res (cut := cutB ps vs X i) (H := fun l => Hs (wetP ps vs X l)) HASC.out hl10 hall
    have HSU := Lib.hid (foldB_sub (cutB ps vs X i) (fun l => Hs (wetP ps vs X l)) vs ys).1
    rw [← hst] at hres hrb HSU
    obtain ⟨e1, e2, e3⟩ := res_unique hres HR.out
    have HE1 := Lib.hid e1
    have HE2 := Lib.hid e2
    have HE3 := Lib.hid e3
    have cb := hrb.1.2.1.cell
    have cl := hrb.1.2.2.1.cell
    have cq := hrb.1.2.2.2.cell
    have HBW := Lib.hid (show Below w.heap.size w W from by have h7 := hrb.2; rwa [HFE.out.q] at h7)
    have hp3 := hrb.1.2.2.2.lt
    have HKK := Lib.hid hK
    have hDl : D < W.heap.size := (Array.getElem?_eq_some_iff.1 hK).1
    have hwD : w.heap.size ≤ D := by have := HQ0; have := HFE.out.q; omega
    clear hres hrb hst e1 e2 e3 hK hall
    gi_wp2_with fail
    go_upto_region 11 with (fail)
    refine wp_only ?_
    refine wp_region_held_drew (S := fun w' => w'.cell? ⟨f.p + 1, 0, none⟩ = some (.int .u64 (st.best : Int)) ∧ w'.cell? ⟨f.p + 1 + 1, 0, none⟩ = some (.int .i64 st.least) ∧ w'.cell? ⟨f.p + 1 + 1 + 1, 0, none⟩ = some (.bool st.found)) (by kernel_rfl) (by exact ⟨cb, cl, cq⟩) (fun hHeld => ?_)
    refine wpAnyH_take (i := 0) (v := .slice AV vs.length capv) rfl (by kernel_rfl) (by kernel_rfl) (by kernel_rfl) (fun _ _ _ h => h) (Or.inl ⟨by rfl, ?_⟩) (by assumption) ?_
    · (intro w hSw; (try dsimp only at hSw); go_simp)
    simp only [Act.put, List.setIfInBounds_toArray]
    refine wpAnyH_take (i := 1) (v := .int .u64 (st.best : Int)) rfl (by kernel_rfl) (by kernel_rfl) (by kernel_rfl) (fun _ _ _ h => h) (Or.inl ⟨by rfl, ?_⟩) (by assumption) ?_
    · (intro w hSw; (try dsimp only at hSw); go_simp)
    simp only [Act.put]
    refine wpAnyH_take (i := 3) (v := .int .i64 st.least) rfl (by kernel_rfl) (by kernel_rfl) (by kernel_rfl) (fun _ _ _ h => h) (Or.inl ⟨by rfl, ?_⟩) (by assumption) ?_
    · (intro w hSw; (try dsimp only at hSw); go_simp)
    simp only [Act.put]
    refine wpAnyH_take (i := 4) (v := .bool st.found) rfl (by kernel_rfl) (by kernel_rfl) (by kernel_rfl) (fun _ _ _ h => h) (Or.inl ⟨by rfl, ?_⟩) (by assumption) ?_
    · (intro w hSw; (try dsimp only at hSw); go_simp)
    simp only [Act.put]
    have HBD := Lib.hid HBW.out.drew
    refine wpAnyH_ready (rs := [2]) (by kernel_rfl) (by simp) ?_
    refine AllReadyH.cons rfl (fun K hK => ?_) AllReadyH.nil
    go_simp
    go_at_call 147
    refine (HID.out st.best _ HBD.out HSU.out).mono ?_
    rintro e w4 ⟨g4, c4, rfl, hg4, hO4, hb4⟩
    have HO4 := Lib.hid hO4
    have HB4 := Lib.hid (HBD.out.trans (hb4.mono HBD.out.size))
    have HX4 := Lib.hid hb4
    have hg4b : W.heap.size ≤ g4 := hg4
    clear hO4 hg4
    refine hK.out _ _ (by rcases hHeld with ⟨q0, q1, q2⟩; exact ⟨(hb4.cell (p := ⟨f.p + 1, 0, none⟩) (by show f.p + 1 < W.heap.size; omega)).trans q0, (hb4.cell (p := ⟨f.p + 1 + 1, 0, none⟩) (by show f.p + 1 + 1 < W.heap.size; omega)).trans q1, (hb4.cell (p := ⟨f.p + 1 + 1 + 1, 0, none⟩) (by show f.p + 1 + 1 + 1 < W.heap.size; omega)).trans q2⟩) (fun hHeld => ?_)
    clear hK K
    clear hb4
    refine wpAnyH_ready (rs := [5]) (by kernel_rfl) (by simp) ?_
    refine AllReadyH.cons rfl (fun K hK => ?_) AllReadyH.nil
    go_simp
    refine hK.out _ _ (by first | assumption | go_keep) (fun hHeld => ?_)
    clear hK K
    refine wpAnyH_ready (rs := [6]) (by kernel_rfl) (by simp) ?_
    refine AllReadyH.cons rfl (fun K hK => ?_) AllReadyH.nil
    go_simp
    refine hK.out _ _ (by first | assumption | go_keep) (fun hHeld => ?_)
    clear hK K
    refine wpAnyH_ready (rs := [7]) (by kernel_rfl) (by simp) ?_
    refine AllReadyH.cons rfl (fun K hK => ?_) AllReadyH.nil
    go_simp
    refine hK.out _ _ (by first | assumption | go_keep) (fun hHeld => ?_)
    clear hK K
    refine wpAnyH_done (by kernel_rfl) ?_ _
    refine onlyN_mk ?_
    go_wp2_with fail
    have hK4 := Lib.hid ((HX4.out.block D hDl).trans HKK.out)
    refine ⟨by simp, .inl ⟨_, _, rfl, run_takeDeferred hK4.out, ?_⟩⟩
    refine ⟨_, results_tmp3 rfl _ _ _, ?_⟩
    rw [← HE1.out, ← HE2.out, ← HE3.out]
    refine ⟨g4, c4, rfl, by have := HBW.out.size; omega, ?_, HB4.out.trans (belowK_b (w := w) (Nat.le_refl _) _ D _ _ hwD hK4.out rfl rfl)⟩
    exact ownsRow_putObj (own_lower HO4.out (show w.heap.size ≤ W.heap.size from HBW.out.size)) _ hK4.out rfl
  case stop =>
    rintro D c pre W _ _ h _
    exact h.elim
end Go.Proofs.Ytbljmibaemgfeaa.S2

namespace Go.Proofs.Ytbljmibaemgfeaa.S2
open Go.RowKit Go.Sort Go.Shelf P2 P4
attribute [local go_sem] Oper.semAt_some
attribute [local go_sem] run_storeF
set_option linter.unusedVariables false

set_option maxRecDepth 100000 in
set_option maxHeartbeats 16000000 in
theorem best_harm (N X i : Nat) (A : Option Addr) (cap : Nat) (ps : List Pp) (AV : Option Addr) (capv : Nat) (vs : List Vv) (x : Int) (w : World) (h : PAt w A ps) (hv : VAt w AV vs) (hg : P4.Good N ps vs) (hX : X < 9) (hi : At ps x i) (HM HU : Nat)
    (Hs : (Nat → Bool) → Int) (hh : ∀ s w', Below w.heap.size w w' → Calls Try.prog 152 #[ev s, .pointer (some ⟨HM, 0, none⟩), .pointer (some ⟨HU, 0, none⟩)] w' fun e w'' => e = .returned (.int .i64 (Hs s)) ∧ Below w'.heap.size w' w'')
    (P : List Int) (hP : Int) (ok : Bool) (hr : Res vs (cutB ps vs X i) (fun l => Hs (wetP ps vs X l)) ok P hP) :
    CallsIn Fence.wide 6 Try.prog 88 #[nv N A ps.length cap, .slice AV vs.length capv, .int .i64 (X : Int), .int .i64 x, .func (.func 152) #[] #[.pointer (some ⟨HM, 0, none⟩), .pointer (some ⟨HU, 0, none⟩)]] w (GivesIH w P hP ok) := by
  have HWF := Lib.hid (fun w' => waterfrom_any N X A cap ps AV capv vs w')
  have HOP := Lib.hid (fun w' (hb' : Below w.heap.size w w') => openv_any AV capv vs w' (hv.kept hb' (Nat.le_refl _)) hg.2.1)
  have HCA := Lib.hid (fun w' => choices_any (allC vs vs.length) w')
  have HID := Lib.hid (fun C w' (hb' : Below w.heap.size w w') (hC : C < 1024) => idsof_any AV capv vs C w' (hv.kept hb' (Nat.le_refl _)) hg.2.1 hC)
  have HWX := Lib.hid (fun C L M S w' (hb' : Below w.heap.size w w') (hC : SubC vs C) (hw : WB w' L M S N A cap ps AV capv vs X) => wbox_any (C := C) hw (h.kept hb' (Nat.le_refl _)) (hv.kept hb' (Nat.le_refl _)) hg hX hC)
  have HHP := Lib.hid (fun s w' (hb' : Below w.heap.size w w') => haspipe_any N A cap ps s x i w' (h.kept hb' (Nat.le_refl _)) hg.1 hi)
  have HH := Lib.hid hh
  have hl10 := hg.2.1
  have HASC := Lib.hid (ascV_of hg)
  have HR := Lib.hid hr
  have HAL := Lib.hid (orTo_lt (fun i => !(vAt vs i).sh) vs.length)
  clear h hv hg hh hr hi
  refine callsIn_of_wp_marks Try.func88 rfl trivial ?_ rfl
  refine wpIn_wide.2 ?_
  simp only [Try.ntmps88, List.size_toArray, List.length_cons, List.length_nil, Nat.reduceAdd, Nat.reduceSub, Array.replicate_succ, Array.replicate_zero, List.push_toArray, List.append_toArray, List.nil_append, List.cons_append]
  go_wp2_with (go_at_call 104; refine (HWF.out _).mono ?_; rintro e w1 ⟨⟨L, M, S, rfl, hWB⟩, hb1⟩; have HW1 := Lib.hid hWB; have HX1 := Lib.hid hb1; clear hWB hb1; refine Hid.out ?_)
  have n0 : w1.cell? ⟨w.heap.size, 0, none⟩ = some (.int .i64 (N : Int)) := (HX1.out.cell (p := ⟨w.heap.size, 0, none⟩) (by simp; omega)).trans (by go_simp)
  have n1 : w1.cell? ⟨w.heap.size, 1, none⟩ = some (.slice A ps.length cap) := (HX1.out.cell (p := ⟨w.heap.size, 1, none⟩) (by simp; omega)).trans (by go_simp)
  have px : w1.cell? ⟨w.heap.size + 1, 0, none⟩ = some (.int .i64 x) := (HX1.out.cell (p := ⟨w.heap.size + 1, 0, none⟩) (by simp)).trans (by go_simp)
  have hf : w1.cell? ⟨w.heap.size + 1 + 1, 0, none⟩ = some (.func (.func 152) #[] #[.pointer (some ⟨HM, 0, none⟩), .pointer (some ⟨HU, 0, none⟩)]) := (HX1.out.cell (p := ⟨w.heap.size + 1 + 1, 0, none⟩) (by simp)).trans (by go_simp)
  have hz1 : w.heap.size + 3 ≤ w1.heap.size := by have := HX1.out.size; simp at this; omega
  have HB1 := Lib.hid (show Below w.heap.size w w1 from ((((Below.refl _ _).alloc (Nat.le_refl _) _).alloc (by simp) _).alloc (by simp; omega) _).trans (HX1.out.mono (by simp; omega)))
  refine Lib.hid ?_
  go_upto_region 4 with (fail)
  obtain ⟨W5, hW5⟩ : ∃ W5, W5 = ((((w1.alloc (.cells #[.func (.func 158) #[] #[.pointer (some ⟨L, 0, none⟩), .pointer (some ⟨M, 0, none⟩), .pointer (some ⟨S, 0, none⟩)]] 115)).alloc (.cells #[.int .u64 0] 118)).alloc (.cells #[.int .i64 0] 3)).alloc (.cells #[.bool false] 4)) := ⟨_, rfl⟩
  have hz5 : W5.heap.size = w1.heap.size + 4 := by rw [hW5]; simp
  have HB15 := Lib.hid (show Below w1.heap.size w1 W5 from by rw [hW5]; exact ((((Below.refl _ _).alloc (Nat.le_refl _) _).alloc (by simp) _).alloc (by simp; omega) _).alloc (by simp; omega) _)
  have wf : W5.cell? ⟨w1.heap.size, 0, none⟩ = some (.func (.func 158) #[] #[.pointer (some ⟨L, 0, none⟩), .pointer (some ⟨M, 0, none⟩), .pointer (some ⟨S, 0, none⟩)]) := by rw [hW5]; go_simp
  have bb : Boxed W5 (w1.heap.size + 1) 118 (.int .u64 0) := by
    have h1 := ((Boxed.new (w1.alloc (.cells #[.func (.func 158) #[] #[.pointer (some ⟨L, 0, none⟩), .pointer (some ⟨M, 0, none⟩), .pointer (some ⟨S, 0, none⟩)]] 115)) 118 (.int .u64 0)).alloc (.cells #[.int .i64 0] 3)).alloc (.cells #[.bool false] 4)
    rw [hW5]; simpa using h1
  have bl : Boxed W5 (w1.heap.size + 1 + 1) 3 (.int .i64 0) := by
    have h1 := (Boxed.new ((w1.alloc (.cells #[.func (.func 158) #[] #[.pointer (some ⟨L, 0, none⟩), .pointer (some ⟨M, 0, none⟩), .pointer (some ⟨S, 0, none⟩)]] 115)).alloc (.cells #[.int .u64 0] 118)) 3 (.int .i64 0)).alloc (.cells #[.bool false] 4)
    rw [hW5]; simpa using h1
  have bq : Boxed W5 (w1.heap.size + 1 + 1 + 1) 4 (.bool false) := by
    have h1 := Boxed.new (((w1.alloc (.cells #[.func (.func 158) #[] #[.pointer (some ⟨L, 0, none⟩), .pointer (some ⟨M, 0, none⟩), .pointer (some ⟨S, 0, none⟩)]] 115)).alloc (.cells #[.int .u64 0] 118)).alloc (.cells #[.int .i64 0] 3)) 4 (.bool false)
    rw [hW5]; simpa using h1
  rw [← hW5]
  have HB5 := Lib.hid (HB1.out.trans (HB15.out.mono HB1.out.size))
  have HZ5 := Lib.hid hz5
  clear hW5 hz5
  go_wp2_with (first
    | (go_at_call 105; refine (HOP.out _ HB5.out).mono ?_; rintro e w2 ⟨rfl, hb2⟩; have HX2 := Lib.hid hb2; clear hb2)
    | (go_at_call 145; refine (HCA.out _).mono ?_; rintro e w3 ⟨rfl, rfl⟩; refine Hid.out ?_))
  obtain ⟨W0, hW0⟩ : ∃ W0, W0 = w2.alloc (.cells #[.int .u64 (allC vs vs.length : Int)] 118) := ⟨_, rfl⟩
  have HX20 := Lib.hid (show Below w2.heap.size w2 W0 from by rw [hW0]; exact (Below.refl _ _).alloc (Nat.le_refl _) _)
  have al : W0.cell? ⟨w2.heap.size, 0, none⟩ = some (.int .u64 (allC vs vs.length : Int)) := by rw [hW0]; go_simp
  have hz0 : W0.heap.size = w2.heap.size + 1 := by rw [hW0]; simp
  rw [← hW0]
  have HX5 := Lib.hid (HX2.out.trans (HX20.out.mono HX2.out.size))
  have hz25 : w1.heap.size + 4 ≤ w2.heap.size := by have := HX2.out.size; have := HZ5.out; omega
  have HX15 := Lib.hid (HB15.out.trans (HX5.out.mono HB15.out.size))
  have HRB := Lib.hid (show RB ⟨w.heap.size, w1.heap.size, w2.heap.size, L, M, S, N, A, cap, ps, AV, capv, vs, X, x, .func (.func 152) #[] #[.pointer (some ⟨HM, 0, none⟩), .pointer (some ⟨HU, 0, none⟩)]⟩ w st0 W0 from by
    refine ⟨⟨?_, boxed_low bb HX5.out, boxed_low bl HX5.out, boxed_low bq HX5.out⟩, HB5.out.trans (HX5.out.mono HB5.out.size)⟩
    have hwb := HW1.out
    exact ⟨(HX15.out.cell (p := ⟨w.heap.size, 0, none⟩) (by show w.heap.size < _; omega)).trans n0, (HX15.out.cell (p := ⟨w.heap.size, 1, none⟩) (by show w.heap.size < _; omega)).trans n1, (HX15.out.cell (p := ⟨w.heap.size + 1, 0, none⟩) (by show w.heap.size + 1 < _; omega)).trans px, (HX15.out.cell (p := ⟨w.heap.size + 1 + 1, 0, none⟩) (by show w.heap.size + 1 + 1 < _; omega)).trans hf,
      (HX5.out.cell (p := ⟨w1.heap.size, 0, none⟩) (by have := HZ5.out; show w1.heap.size < _; omega)).trans wf, al,
      (HX15.out.cell (p := ⟨L, 0, none⟩) hwb.ll).trans hwb.l, (HX15.out.cell (p := ⟨M, 0, none⟩) hwb.ml).trans hwb.m0, (HX15.out.cell (p := ⟨M, 1, none⟩) hwb.ml).trans hwb.m1, (HX15.out.cell (p := ⟨S, 0, none⟩) hwb.sl).trans hwb.s,
      by show w.heap.size + 1 + 1 < w1.heap.size; omega, hwb.ll, hwb.ml, hwb.sl, by show w1.heap.size + 1 + 1 + 1 < w2.heap.size; omega, by show w2.heap.size < W0.heap.size; omega⟩)
  have HQ0 : w.heap.size ≤ W0.heap.size := by omega
  have hB0 : w2.heap.size < W0.heap.size := by omega
  obtain ⟨f, hf0⟩ : ∃ f : Fx, f = ⟨w.heap.size, w1.heap.size, w2.heap.size, L, M, S, N, A, cap, ps, AV, capv, vs, X, x, .func (.func 152) #[] #[.pointer (some ⟨HM, 0, none⟩), .pointer (some ⟨HU, 0, none⟩)]⟩ := ⟨_, rfl⟩
  have e1 : f.q = w.heap.size := by rw [hf0]
  have e2 : f.p = w1.heap.size := by rw [hf0]
  have e3 : f.Ba = w2.heap.size := by rw [hf0]
  have e4 : f.L = L := by rw [hf0]
  have e5 : f.M = M := by rw [hf0]
  have e6 : f.S = S := by rw [hf0]
  have HFE := Lib.hid (show FE f w.heap.size N A cap ps AV capv vs X x (.func (.func 152) #[] #[.pointer (some ⟨HM, 0, none⟩), .pointer (some ⟨HU, 0, none⟩)]) from by rw [hf0]; exact ⟨rfl, rfl, rfl, rfl, rfl, rfl, rfl, rfl, rfl, rfl, rfl⟩)
  rw [← hf0] at HRB
  clear n0 n1 px hf wf bb bl bq al hW0 hz0 HX20 HX5 HX2 HX15 HB15 HX1 HW1 hf0
  rw [← e2, ← e3, ← e4, ← e5, ← e6]
  rw [← e1] at HQ0
  clear e1
  rw [← e3] at hB0
  clear e2 e3 e4 e5 e6 hz25 hz1 HB1 HB5 HZ5
  refine Lib.hid ?_
  go_wp2_with fail
  refine (wpIn_wide (n := 6)).1 ?_
  refine wpIn_rangeFunc_ownG rfl (by omega) (gf := 173) (lb := #[.pointer (some ⟨f.Ba, 0, none⟩)]) rfl trivial (enters_of Try.func173 (by kernel_rfl) rfl)
    (chs_stops vs hl10 5 (by omega) f.Ba W0 hB0 (HRB.out.1.1.exp HFE.out).2.2.2.2.2.1) Kc.t (Kc.b (w := W0)) (Below.refl _ _) (fun _ => rfl)
    (fun pre W => RB f w (foldB (cutB ps vs X i) (fun l => Hs (wetP ps vs X l)) vs pre) W)
    (fun _ _ _ => False)
    (RB.own f w W0.heap.size (by rw [HFE.out.q]; exact Nat.le_refl _) HQ0 (fun pre => foldB (cutB ps vs X i) (fun l => Hs (wetP ps vs X l)) vs pre))
    (fun _ _ _ _ _ hs _ _ => hs)
    HRB.out
    (fun y => { tmps := #[nv (N : Int) A ps.length cap, .slice AV vs.length capv, .int .i64 (X : Int), .int .i64 x, .func (.func 152) #[] #[.pointer (some ⟨HM, 0, none⟩), .pointer (some ⟨HU, 0, none⟩)], .pointer (some ⟨w.heap.size, 0, none⟩), undef, undef, .pointer (some ⟨w.heap.size + 1, 0, none⟩), .pointer (some ⟨w.heap.size + 1 + 1, 0, none⟩), .slice none 0 0, .int .i64 0, .bool false, .pointer (some ⟨f.p, 0, none⟩), .pointer (some ⟨f.p + 1, 0, none⟩), .pointer (some ⟨f.p + 1 + 1, 0, none⟩), .pointer (some ⟨f.p + 1 + 1 + 1, 0, none⟩), .int .u64 (y.1 : Int), undef, undef, .agg #[.int .i64 (N : Int), .slice A ps.length cap], .slice AV vs.length capv, .int .i64 (X : Int), .func (.func 158) #[] #[.pointer (some ⟨f.L, 0, none⟩), .pointer (some ⟨f.M, 0, none⟩), .pointer (some ⟨f.S, 0, none⟩)], .slice AV vs.length capv, .int .u64 (allC vs vs.length : Int), .func (.func 173) #[] #[.pointer (some ⟨f.Ba, 0, none⟩)], .int .u64 (y.1 : Int), undef, undef, undef, undef, undef, undef, undef, undef, undef, undef, undef, undef, undef, undef, undef, undef, undef, undef, undef, undef, undef, undef, undef, undef, undef, undef, undef, undef, undef, undef, undef, undef, undef, undef, undef, undef], defers := [] }) ?assign ?body ?done ?stop
  case assign =>
    intro l y W K hK
    gi_wp2
    exact hK
  case body =>
    rintro l pre y W hrb hlt
    obtain ⟨C, hC⟩ := y
    have hmx : Try.prog.follows .mixedOrders = true := by kernel_rfl
    have HSB := Lib.hid (foldB_snoc (cutB ps vs X i) (fun l => Hs (wetP ps vs X l)) vs pre ⟨C, hC⟩)
    have HSU := Lib.hid (foldB_sub (cutB ps vs X i) (fun l => Hs (wetP ps vs X l)) vs pre).1
    obtain ⟨st, hst⟩ : ∃ st, st = foldB (cutB ps vs X i) (fun l => Hs (wetP ps vs X l)) vs pre := ⟨_, rfl⟩
    rw [← hst] at hrb HSB HSU
    obtain ⟨st2, hst2⟩ : ∃ st2, st2 = foldB (cutB ps vs X i) (fun l => Hs (wetP ps vs X l)) vs (pre ++ [⟨C, hC⟩]) := ⟨_, rfl⟩
    rw [← hst2] at HSB
    have HS2 := Lib.hid hst2
    have HRP := Lib.hid hrb
    obtain ⟨n0, n1, px, hf, wf, al, hwb⟩ := hrb.1.1.exp HFE.out
    have HWB := Lib.hid hwb
    have bb := hrb.1.2.1
    have bl := hrb.1.2.2.1
    have bq := hrb.1.2.2.2
    have HBW := Lib.hid (show Below w.heap.size w W from by have h7 := hrb.2; rwa [HFE.out.q] at h7)
    obtain ⟨s, hs⟩ : ∃ s, s = wetP ps vs X (idsC vs C) := ⟨_, rfl⟩
    have HWC := Lib.hid (by have h7 := HWX.out C _ _ _ W HBW.out hC hwb; rwa [← hs] at h7)
    have HTK := Lib.hid (show takesB (cutB ps vs X i) (fun l => Hs (wetP ps vs X l)) vs st C = ((!(s (9 + i))) && (!st.found || decide (Hs s < st.least) || (decide (Hs s = st.least) && decide (pcT C 10 < pcT st.best 10)))) from by rw [hs]; rfl)
    have HS3 := Lib.hid (show st2 = if takesB (cutB ps vs X i) (fun l => Hs (wetP ps vs X l)) vs st C then ⟨C, Hs s, true⟩ else st from by rw [HSB.out, hs]; rfl)
    have HCC := Lib.hid hC.1
    have hq1 : w.heap.size + 1 + 1 < W.heap.size := block_lt_of_cell hf
    have hq0 : w.heap.size < W.heap.size := by omega
    have hp3 := bq.lt
    have cb := bb.cell
    have cl := bl.cell
    have cq := bq.cell
    clear hrb hst hst2 hwb hs hlt HSB bb bl bq
    gi_wp2_with (refine ⟨trivial, ?_⟩; gi_at_call 158; refine (CallsIn.inRound l (callsIn_wide.2 HWC.out)).mono ?_; rintro e w3 ⟨rfl, hb3⟩; have HX3 := Lib.hid hb3; clear hb3; refine Hid.out ?_)
    have m0 := (HX3.out.cell (p := ⟨w.heap.size, 0, none⟩) hq0).trans n0
    have m1 := (HX3.out.cell (p := ⟨w.heap.size, 1, none⟩) hq0).trans n1
    have mx := (HX3.out.cell (p := ⟨w.heap.size + 1, 0, none⟩) (by show w.heap.size + 1 < _; omega)).trans px
    have mf := (HX3.out.cell (p := ⟨w.heap.size + 1 + 1, 0, none⟩) hq1).trans hf
    have db := (HX3.out.cell (p := ⟨f.p + 1, 0, none⟩) (by show f.p + 1 < _; omega)).trans cb
    have dl := (HX3.out.cell (p := ⟨f.p + 1 + 1, 0, none⟩) (by show f.p + 1 + 1 < _; omega)).trans cl
    have dq := (HX3.out.cell (p := ⟨f.p + 1 + 1 + 1, 0, none⟩) (by show f.p + 1 + 1 + 1 < _; omega)).trans cq
    have hz3 := HX3.out.size
    clear n0 n1 px hf cb cl cq wf al
    refine Lib.hid ?_
    gi_wp2_with (first
      | ((with_reducible refine wpInE_alloc rfl rfl ?_); intro w4 he4 hb4 hz4; have E4 := Lib.hid he4; have HX4 := Lib.hid hb4; clear he4 hb4 hz4)
      | ((with_reducible refine wpInE_store rfl _ _ rfl rfl w3.heap.size rfl s rfl es0 E4.out ?_); intro w5 he5 hg5 hz5; have E5 := Lib.hid he5; have HG5 := Lib.hid hg5; clear he5 hg5 hz5; refine Hid.out ?_))
    have HX35 := Lib.hid (show Below w3.heap.size w3 w5 from HX4.out.grown HG5.out HX4.out.size (fun g hg => by simp at hg; omega))
    have HX5 := Lib.hid (HX3.out.trans (HX35.out.mono HX3.out.size))
    have r0 := (HX35.out.cell (p := ⟨w.heap.size, 0, none⟩) (by show w.heap.size < _; omega)).trans m0
    have r1 := (HX35.out.cell (p := ⟨w.heap.size, 1, none⟩) (by show w.heap.size < _; omega)).trans m1
    have rx := (HX35.out.cell (p := ⟨w.heap.size + 1, 0, none⟩) (by show w.heap.size + 1 < _; omega)).trans mx
    have rf := (HX35.out.cell (p := ⟨w.heap.size + 1 + 1, 0, none⟩) (by show w.heap.size + 1 + 1 < _; omega)).trans mf
    have eb := (HX35.out.cell (p := ⟨f.p + 1, 0, none⟩) (by show f.p + 1 < _; omega)).trans db
    have el := (HX35.out.cell (p := ⟨f.p + 1 + 1, 0, none⟩) (by show f.p + 1 + 1 < _; omega)).trans dl
    have eq := (HX35.out.cell (p := ⟨f.p + 1 + 1 + 1, 0, none⟩) (by show f.p + 1 + 1 + 1 < _; omega)).trans dq
    have hz5 := HX35.out.size
    have hl5 := E5.out.lt
    have HB5 := Lib.hid (HBW.out.trans (HX5.out.mono HBW.out.size))
    have HP5 := Lib.hid (HHP.out s w5 HB5.out)
    clear m0 m1 mx mf db dl dq E4 HX4 HG5
    obtain ⟨b, hb⟩ : ∃ b, s (9 + i) = b := ⟨_, rfl⟩
    rw [hb] at HP5 HTK
    clear hb
    cases b with
    | true =>
      refine Lib.hid ?_
      gi_wp2_with (first
        | (with_reducible refine wpInE_load rfl _ rfl w3.heap.size rfl s E5.out ?_)
        | (refine ⟨trivial, ?_⟩; gi_at_call 129; refine (CallsIn.inRound l (callsIn_wide.2 HP5.out)).mono ?_; rintro e w6 ⟨rfl, hb6⟩; have HX6 := Lib.hid (HX5.out.trans (hb6.mono HX5.out.size)); clear hb6))
      have hfin := round_same (B := W0.heap.size) HRP.out HX6.out
      have e2 : st2 = st := by rw [HS3.out, HTK.out]; rfl
      rw [← e2, HS2.out] at hfin
      exact hfin
    | false =>
      refine Lib.hid ?_
      gi_wp2_with (first
        | (with_reducible refine wpInE_load rfl _ rfl w3.heap.size rfl s E5.out ?_)
        | (refine ⟨trivial, ?_⟩; gi_at_call 129; refine (CallsIn.inRound l (callsIn_wide.2 HP5.out)).mono ?_; rintro e w6 ⟨rfl, hb6⟩; have HX56 := Lib.hid hb6; have HX6 := Lib.hid (HX5.out.trans (hb6.mono HX5.out.size)); clear hb6; refine Hid.out ?_))
      have sf := (HX56.out.cell (p := ⟨w.heap.size + 1 + 1, 0, none⟩) (by show w.heap.size + 1 + 1 < _; omega)).trans rf
      have fb := (HX56.out.cell (p := ⟨f.p + 1, 0, none⟩) (by show f.p + 1 < _; omega)).trans eb
      have fl := (HX56.out.cell (p := ⟨f.p + 1 + 1, 0, none⟩) (by show f.p + 1 + 1 < _; omega)).trans el
      have fq := (HX56.out.cell (p := ⟨f.p + 1 + 1 + 1, 0, none⟩) (by show f.p + 1 + 1 + 1 < _; omega)).trans eq
      have E6 := Lib.hid (E5.out.kept HX56.out hl5)
      have hz6 := HX56.out.size
      have HB6 := Lib.hid (HBW.out.trans (HX6.out.mono HBW.out.size))
      have HH6 := Lib.hid (HH.out s w6 HB6.out)
      clear r0 r1 rx rf eb el eq
      obtain ⟨d, hd⟩ : ∃ d, Hs s = d := ⟨_, rfl⟩
      rw [hd] at HH6 HTK HS3
      clear hd
      refine Lib.hid ?_
      gi_wp2_with (first
        | (with_reducible refine wpInE_load rfl _ rfl w3.heap.size rfl s E6.out ?_)
        | (refine ⟨trivial, ?_⟩; gi_at_call 152; refine (CallsIn.inRound l (callsIn_wide.2 HH6.out)).mono ?_; rintro e w7 ⟨rfl, hb7⟩; have HX67 := Lib.hid hb7; have HX7 := Lib.hid (HX6.out.trans (hb7.mono HX6.out.size)); clear hb7; refine Hid.out ?_))
      have gb := (HX67.out.cell (p := ⟨f.p + 1, 0, none⟩) (by show f.p + 1 < _; omega)).trans fb
      have gl := (HX67.out.cell (p := ⟨f.p + 1 + 1, 0, none⟩) (by show f.p + 1 + 1 < _; omega)).trans fl
      have gq := (HX67.out.cell (p := ⟨f.p + 1 + 1 + 1, 0, none⟩) (by show f.p + 1 + 1 + 1 < _; omega)).trans fq
      have HO1 := Lib.hid (fun w' => ones_any C HCC.out w')
      have HO2 := Lib.hid (fun w' => ones_any st.best HSU.out w')
      have hz7 := HX67.out.size
      have hp7 : f.p + 1 + 1 + 1 < w7.heap.size := by omega
      have k1 : w7.frozen? ⟨f.p + 1, 0, none⟩ = false := (HRP.out.low HX7.out).1.2.1.frozen
      have k2 : w7.frozen? ⟨f.p + 1 + 1, 0, none⟩ = false := (HRP.out.low HX7.out).1.2.2.1.frozen
      have k3 : w7.frozen? ⟨f.p + 1 + 1 + 1, 0, none⟩ = false := (HRP.out.low HX7.out).1.2.2.2.frozen
      clear sf fb fl fq E5 E6 HX56 HX35 HX67
      obtain ⟨B0, L0, F0⟩ := st
      dsimp only at gb gl gq HO2 HTK HS3 HRP
      cases F0 with
      | false =>
        have HN := Lib.hid (show st2 = ⟨C, d, true⟩ from by rw [HS3.out, HTK.out]; rfl)
        clear HTK HS3
        refine Lib.hid ?_
        gi_wp2_with fail
        refine region_round (F := Fence.wide) l rfl hmx (by kernel_rfl) (by kernel_rfl) ?_
        repeat (refine wpQuietIn_step (fun _ _ _ _ => trivial) (fun K hK => ?_); go_simp; first | (refine hK _ ?_; clear hK K) | (apply Exists.intro; refine ⟨fun _ => ?_, hK _ ?_⟩; (first | (gi_at_call 146; exact CallsIn.quiet_of_same (callsIn_wide.2 (HO1.out _))) | (gi_at_call 146; exact CallsIn.quiet_of_same (callsIn_wide.2 (HO2.out _)))); clear hK K))
        refine wpQuietIn_nil ?_
        intro _ hw'
        obtain ⟨nq, hw''⟩ := hw'
        subst hw''
        gi_wp2_with fail
        have hfin := round_new (B := W0.heap.size) HRP.out (below_drewN HX7.out nq) C d true
        rw [← HN.out, HS2.out] at hfin
        exact hfin
      | true =>
        by_cases h1 : d < L0
        · have HN := Lib.hid (show st2 = ⟨C, d, true⟩ from by rw [HS3.out, HTK.out]; simp [h1])
          have d1 : decide (d < L0) = true := by simpa using h1
          clear HTK HS3 h1
          refine Lib.hid ?_
          gi_wp2_with fail
          refine region_round (F := Fence.wide) l rfl hmx (by kernel_rfl) (by kernel_rfl) ?_
          repeat (refine wpQuietIn_step (fun _ _ _ _ => trivial) (fun K hK => ?_); go_simp; first | (refine hK _ ?_; clear hK K) | (apply Exists.intro; refine ⟨fun _ => ?_, hK _ ?_⟩; (first | (gi_at_call 146; exact CallsIn.quiet_of_same (callsIn_wide.2 (HO1.out _))) | (gi_at_call 146; exact CallsIn.quiet_of_same (callsIn_wide.2 (HO2.out _)))); clear hK K))
          refine wpQuietIn_nil ?_
          intro _ hw'
          obtain ⟨nq, hw''⟩ := hw'
          subst hw''
          gi_wp2_with fail
          have hfin := round_new (B := W0.heap.size) HRP.out (below_drewN HX7.out nq) C d true
          rw [← HN.out, HS2.out] at hfin
          exact hfin
        · have d1 : decide (d < L0) = false := by simpa using h1
          by_cases h2 : d = L0
          · have d2 : (d == L0) = true := beq_iff_eq.2 h2
            by_cases h3 : pcT C 10 < pcT B0 10
            · have HN := Lib.hid (show st2 = ⟨C, d, true⟩ from by rw [HS3.out, HTK.out]; simp [h2, h3])
              have d3 : decide ((pcT C 10 : Int) < (pcT B0 10 : Int)) = true := by simp; omega
              have d4 : decide (pcT C 10 < pcT B0 10) = true := by simpa using h3
              clear HTK HS3 h1 h2 h3
              refine Lib.hid ?_
              gi_wp2_with fail
              refine region_round (F := Fence.wide) l rfl hmx (by kernel_rfl) (by kernel_rfl) ?_
              repeat (refine wpQuietIn_step (fun _ _ _ _ => trivial) (fun K hK => ?_); go_simp; first | (refine hK _ ?_; clear hK K) | (apply Exists.intro; refine ⟨fun _ => ?_, hK _ ?_⟩; (first | (gi_at_call 146; exact CallsIn.quiet_of_same (callsIn_wide.2 (HO1.out _))) | (gi_at_call 146; exact CallsIn.quiet_of_same (callsIn_wide.2 (HO2.out _)))); clear hK K))
              refine wpQuietIn_nil ?_
              intro _ hw'
              obtain ⟨nq, hw''⟩ := hw'
              subst hw''
              gi_wp2_with fail
              have hfin := round_new (B := W0.heap.size) HRP.out (below_drewN HX7.out nq) C d true
              rw [← HN.out, HS2.out] at hfin
              exact hfin
            · have HN := Lib.hid (show st2 = ⟨B0, L0, true⟩ from by rw [HS3.out, HTK.out]; simp [h2, h3])
              have d3 : decide ((pcT C 10 : Int) < (pcT B0 10 : Int)) = false := by simp; omega
              have d4 : decide (pcT C 10 < pcT B0 10) = false := by simpa using h3
              clear HTK HS3 h1 h2 h3
              refine Lib.hid ?_
              gi_wp2_with fail
              refine region_round (F := Fence.wide) l rfl hmx (by kernel_rfl) (by kernel_rfl) ?_
              repeat (refine wpQuietIn_step (fun _ _ _ _ => trivial) (fun K hK => ?_); go_simp; first | (refine hK _ ?_; clear hK K) | (apply Exists.intro; refine ⟨fun _ => ?_, hK _ ?_⟩; (first | (gi_at_call 146; exact CallsIn.quiet_of_same (callsIn_wide.2 (HO1.out _))) | (gi_at_call 146; exact CallsIn.quiet_of_same (callsIn_wide.2 (HO2.out _)))); clear hK K))
              refine wpQuietIn_nil ?_
              intro _ hw'
              obtain ⟨nq, hw''⟩ := hw'
              subst hw''
              gi_wp2_with fail
              have hfin := round_same (B := W0.heap.size) HRP.out (below_drewN HX7.out nq)
              rw [← HN.out, HS2.out] at hfin
              exact hfin
          · have HN := Lib.hid (show st2 = ⟨B0, L0, true⟩ from by rw [HS3.out, HTK.out]; simp [h1, h2])
            have d2 : (d == L0) = false := beq_eq_false_iff_ne.2 h2
            clear HTK HS3 h1 h2
            refine Lib.hid ?_
            gi_wp2_with fail
            refine region_round (F := Fence.wide) l rfl hmx (by kernel_rfl) (by kernel_rfl) ?_
            repeat (refine wpQuietIn_step (fun _ _ _ _ => trivial) (fun K hK => ?_); go_simp; first | (refine hK _ ?_; clear hK K) | (apply Exists.intro; refine ⟨fun _ => ?_, hK _ ?_⟩; (first | (gi_at_call 146; exact CallsIn.quiet_of_same (callsIn_wide.2 (HO1.out _))) | (gi_at_call 146; exact CallsIn.quiet_of_same (callsIn_wide.2 (HO2.out _)))); clear hK K))
            refine wpQuietIn_nil ?_
            intro _ hw'
            obtain ⟨nq, hw''⟩ := hw'
            subst hw''
            gi_wp2_with fail
            have hfin := round_same (B := W0.heap.size) HRP.out (below_drewN HX7.out nq)
            rw [← HN.out, HS2.out] at hfin
            exact hfin
  case done =>
    rintro D ys W hD hall hrb hK
    obtain ⟨st, hst⟩ : ∃ st, st = foldB (cutB ps vs X i) (fun l => Hs (wetP ps vs X l)) vs ys := ⟨_, rfl⟩
    have hres := foldB_res (cut := cutB ps vs X i) (H := fun l => Hs (wetP ps vs X l)) HASC.out hl10 hall
    have HSU := Lib.hid (foldB_sub (cutB ps vs X i) (fun l => Hs (wetP ps vs X l)) vs ys).1
    rw [← hst] at hres hrb HSU
    obtain ⟨e1, e2, e3⟩ := res_unique hres HR.out
    have HE1 := Lib.hid e1
    have HE2 := Lib.hid e2
    have HE3 := Lib.hid e3
    have cb := hrb.1.2.1.cell
    have cl := hrb.1.2.2.1.cell
    have cq := hrb.1.2.2.2.cell
    have HBW := Lib.hid (show Below w.heap.size w W from by have h7 := hrb.2; rwa [HFE.out.q] at h7)
    have hp3 := hrb.1.2.2.2.lt
    have HKK := Lib.hid hK
    have hDl : D < W.heap.size := (Array.getElem?_eq_some_iff.1 hK).1
    have hwD : w.heap.size ≤ D := by have := HQ0; have := HFE.out.q; omega
    clear hres hrb hst e1 e2 e3 hK hall
    gi_wp2_with fail
    go_upto_region 11 with (fail)
    refine wp_only ?_
    refine wp_region_held_drew (S := fun w' => w'.cell? ⟨f.p + 1, 0, none⟩ = some (.int .u64 (st.best : Int)) ∧ w'.cell? ⟨f.p + 1 + 1, 0, none⟩ = some (.int .i64 st.least) ∧ w'.cell? ⟨f.p + 1 + 1 + 1, 0, none⟩ = some (.bool st.found)) (by kernel_rfl) (by exact ⟨cb, cl, cq⟩) (fun hHeld => ?_)
    refine wpAnyH_take (i := 0) (v := .slice AV vs.length capv) rfl (by kernel_rfl) (by kernel_rfl) (by kernel_rfl) (fun _ _ _ h => h) (Or.inl ⟨by rfl, ?_⟩) (by assumption) ?_
    · (intro w hSw; (try dsimp only at hSw); go_simp)
    simp only [Act.put, List.setIfInBounds_toArray]
    refine wpAnyH_take (i := 1) (v := .int .u64 (st.best : Int)) rfl (by kernel_rfl) (by kernel_rfl) (by kernel_rfl) (fun _ _ _ h => h) (Or.inl ⟨by rfl, ?_⟩) (by assumption) ?_
    · (intro w hSw; (try dsimp only at hSw); go_simp)
    simp only [Act.put]
    refine wpAnyH_take (i := 3) (v := .int .i64 st.least) rfl (by kernel_rfl) (by kernel_rfl) (by kernel_rfl) (fun _ _ _ h => h) (Or.inl ⟨by rfl, ?_⟩) (by assumption) ?_
    · (intro w hSw; (try dsimp only at hSw); go_simp)
    simp only [Act.put]
    refine wpAnyH_take (i := 4) (v := .bool st.found) rfl (by kernel_rfl) (by kernel_rfl) (by kernel_rfl) (fun _ _ _ h => h) (Or.inl ⟨by rfl, ?_⟩) (by assumption) ?_
    · (intro w hSw; (try dsimp only at hSw); go_simp)
    simp only [Act.put]
    have HBD := Lib.hid HBW.out.drew
    refine wpAnyH_ready (rs := [2]) (by kernel_rfl) (by simp) ?_
    refine AllReadyH.cons rfl (fun K hK => ?_) AllReadyH.nil
    go_simp
    go_at_call 147
    refine (HID.out st.best _ HBD.out HSU.out).mono ?_
    rintro e w4 ⟨g4, c4, rfl, hg4, hO4, hb4⟩
    have HO4 := Lib.hid hO4
    have HB4 := Lib.hid (HBD.out.trans (hb4.mono HBD.out.size))
    have HX4 := Lib.hid hb4
    have hg4b : W.heap.size ≤ g4 := hg4
    clear hO4 hg4
    refine hK.out _ _ (by rcases hHeld with ⟨q0, q1, q2⟩; exact ⟨(hb4.cell (p := ⟨f.p + 1, 0, none⟩) (by show f.p + 1 < W.heap.size; omega)).trans q0, (hb4.cell (p := ⟨f.p + 1 + 1, 0, none⟩) (by show f.p + 1 + 1 < W.heap.size; omega)).trans q1, (hb4.cell (p := ⟨f.p + 1 + 1 + 1, 0, none⟩) (by show f.p + 1 + 1 + 1 < W.heap.size; omega)).trans q2⟩) (fun hHeld => ?_)
    clear hK K
    clear hb4
    refine wpAnyH_ready (rs := [5]) (by kernel_rfl) (by simp) ?_
    refine AllReadyH.cons rfl (fun K hK => ?_) AllReadyH.nil
    go_simp
    refine hK.out _ _ (by first | assumption | go_keep) (fun hHeld => ?_)
    clear hK K
    refine wpAnyH_ready (rs := [6]) (by kernel_rfl) (by simp) ?_
    refine AllReadyH.cons rfl (fun K hK => ?_) AllReadyH.nil
    go_simp
    refine hK.out _ _ (by first | assumption | go_keep) (fun hHeld => ?_)
    clear hK K
    refine wpAnyH_ready (rs := [7]) (by kernel_rfl) (by simp) ?_
    refine AllReadyH.cons rfl (fun K hK => ?_) AllReadyH.nil
    go_simp
    refine hK.out _ _ (by first | assumption | go_keep) (fun hHeld => ?_)
    clear hK K
    refine wpAnyH_done (by kernel_rfl) ?_ _
    refine onlyN_mk ?_
    go_wp2_with fail
    have hK4 := Lib.hid ((HX4.out.block D hDl).trans HKK.out)
    refine ⟨by simp, .inl ⟨_, _, rfl, run_takeDeferred hK4.out, ?_⟩⟩
    refine ⟨_, results_tmp3 rfl _ _ _, ?_⟩
    rw [← HE1.out, ← HE2.out, ← HE3.out]
    refine ⟨g4, c4, rfl, by have := HBW.out.size; omega, ?_, HB4.out.trans (belowK_b (w := w) (Nat.le_refl _) _ D _ _ hwD hK4.out rfl rfl)⟩
    exact ownsRow_putObj (own_lower HO4.out (show w.heap.size ≤ W.heap.size from HBW.out.size)) _ hK4.out rfl
  case stop =>
    rintro D c pre W _ _ h _
    exact h.elim
end Go.Proofs.Ytbljmibaemgfeaa.S2

namespace Go.Proofs.Ytbljmibaemgfeaa.S2
open Go.RowKit Go.Sort P2 P4

theorem below_drewN2 {B : Nat} {a w : World} (h : Below B a w) (n : Nat) : Below B a (w.drewN n) := ⟨h.os, h.tape, h.output, h.size, h.block⟩
theorem ch_bit (s k : Nat) (hs : s < 1024) : bits .and .i64 ((s : Int) / 2 ^ k) 1 = if s.testBit k then 1 else 0 := by
  have e : ((s : Int) / 2 ^ k) = ((s / 2 ^ k : Nat) : Int) := by
    rw [Int.natCast_ediv, Int.natCast_pow]; rfl
  have hle : s / 2 ^ k ≤ s := Nat.div_le_self _ _
  rw [e, Go.Proofs.and_one _ (by omega), Nat.testBit_eq_decide_div_mod_eq]
  rcases Nat.mod_two_eq_zero_or_one (s / 2 ^ k) with h | h <;> simp [h]
theorem ch_getD (l : List Int) (s k : Nat) (h : k < l.length) : chITo l s (k + 1) = if s.testBit k then chITo l s k ++ [l.getD k 0] else chITo l s k := by
  rw [chITo_succ l s k h]; simp [List.getD, h]

set_option maxHeartbeats 4000000 in
set_option maxRecDepth 100000 in
theorem schoice_any (A : Option Addr) (cap : Nat) (l : List Int) (s : Nat) (w : World) (h : IAt w A l) (hl : l.length ≤ 10) (hs : s < 1024) :
    Calls Try.prog 114 #[.slice A l.length cap, .int .i64 (s : Int)] w (GivesN w (chI l s 0)) := by
  have HA := Lib.hid h
  obtain ⟨i0, hi0, hz0, hz1, hz2⟩ := info_parts infoI
  clear h
  have HO0 := Lib.hid (own_empty w w.heap.size (Nat.le_refl _))
  have HB0 := Lib.hid (show Below w.heap.size w (w.alloc (.cells #[] 3)) from (Below.refl _ _).alloc (Nat.le_refl _) _)
  go_enter Try.func114, Try.ntmps114
  go_wp2_with fail
  go_loopw [5, 6] (fun v i wr => ∃ m : Nat, m ≤ l.length ∧ i = .int .i64 (m : Int) ∧ Hid (IOwn wr w.heap.size v (chITo l s m)) ∧ Hid (v ≠ .slice none 0 0) ∧ Hid (Below w.heap.size w wr)) (fun _ i _ => l.length - (intOf i).toNat)
  case atStart => exact ⟨0, by omega, rfl, HO0, Lib.hid (by simp), HB0⟩
  case round =>
    clear HO0 HB0
    obtain ⟨m, hmN, rfl, hown, hvn, hb⟩ := hrel
    have hz := hb.out.size
    by_cases hlt : m < l.length
    · obtain ⟨b, off, hA, hbl, h0⟩ := (HA.out.kept hb.out (Nat.le_refl _)).at_ hlt
      subst hA
      have hm0 : (0 : Int) ≤ (m : Int) := by omega
      have hmn : (m : Int) < (l.length : Int) := by omega
      have hm64 : (m : Int) ≤ 64 := by omega
      have HST := Lib.hid (ch_getD l s m hlt)
      have HAB := Lib.hid (ch_bit s m hs)
      have hil := chITo_len l s m
      have hu : IntKind.u64.wrap (m : Int) = (m : Int) := by rw [IntKind.wrap_u64]; omega
      generalize l.getD m 0 = x at *
      cases hq : s.testBit m with
      | true =>
        have HN := Lib.hid (show chITo l s (m + 1) = chITo l s m ++ [x] by rw [HST.out, if_pos hq])
        have hne : (bits .and .i64 ((s : Int) / 2 ^ m) 1 == 1) = true := by rw [HAB.out, if_pos hq]; rfl
        have ho := hown.out
        unfold IOwn at ho
        clear hq HST HAB
        go_wp2_with (at_builtin; go_must (refine wpList_append_own _ rfl _ _ 26 rfl w.heap.size 3 i0 (.int .i64 0) 1 8 Try.underlying26 hi0 hz0 hz1 hz2 rfl (by decide) _ _ _ rfl (ho.alloc _) ⟨wr.heap.size, 0, none⟩ 1 1 [iv x] rfl rfl (cell_one_new _ _ _) ?d2 ?d3 ?d4 ?d5 ?_))
        case d2 => intro u hu; simp at hu; subst hu; rfl
        case d3 => unfold maxLen; omega
        case d4 => omega
        case d5 => simp; omega
        intro v' w3 hown' hgrow hnil
        have hown3 := Lib.hid (IOwn.push hown')
        rw [← HN.out] at hown3
        have hB3 := Lib.hid ((hb.out.alloc (by omega) _).grown hgrow (by simp; omega) (fun g hg => (ho.lt g hg).1))
        have hvn3 := Lib.hid (show v' ≠ .slice none 0 0 from fun e => hnil e)
        clear hown' hgrow hnil ho
        go_wp2_with fail
        go_roundw
        case rel => exact ⟨m + 1, by omega, by go_num, hown3, hvn3, hB3⟩
        case measure => simp [intOf]; omega
      | false =>
        have HN := Lib.hid (show chITo l s (m + 1) = chITo l s m by rw [HST.out, if_neg (by rw [hq]; simp)])
        have hne : (bits .and .i64 ((s : Int) / 2 ^ m) 1 == 1) = false := by rw [HAB.out, if_neg (by rw [hq]; simp)]; rfl
        rw [← HN.out] at hown
        clear hq HST HAB HN
        go_wp2_with fail
        go_roundw
        case rel => exact ⟨m + 1, by omega, by go_num, hown, hvn, hb⟩
        case measure => simp [intOf]; omega
    · have hfin := chITo_all l s m (by omega)
      rw [hfin] at hown
      obtain ⟨g, capg, rfl, hg⟩ := own_slice hown.out hvn.out
      clear hfin
      go_wp2_with fail
      go_ret
      exact ⟨g, capg, rfl, hg, hown.out, hb.out⟩

/-! ### The order -/
theorem lex_at : ∀ {a b : List Int} {k : Nat}, (∀ j, j < k → a.getD j 0 = b.getD j 0) → k < a.length → k < b.length → a.getD k 0 ≠ b.getD k 0 → (lexLt a b ↔ a.getD k 0 < b.getD k 0)
  | [], _, _, _, h, _, _ => by simp at h
  | _ :: _, [], _, _, _, h, _ => by simp at h
  | x :: s, y :: t, 0, _, _, _, hne => by
    have hne2 : x ≠ y := by simpa [List.getD] using hne
    simp only [List.getD_cons_zero]
    constructor
    · rintro (h | ⟨h, _⟩)
      · exact h
      · exact absurd h hne2
    · exact .inl
  | x :: s, y :: t, k + 1, h, h1, h2, hne => by
    have h0 := h 0 (by omega)
    simp only [List.getD_cons_zero] at h0
    have ih := lex_at (a := s) (b := t) (k := k) (fun j hj => by have := h (j + 1) (by omega); simpa using this) (by simpa using h1) (by simpa using h2) (by simpa using hne)
    simp only [List.getD_cons_succ]
    rw [← ih]
    constructor
    · rintro (h | ⟨_, h⟩)
      · omega
      · exact h
    · intro h; exact .inr ⟨h0, h⟩
theorem lex_same : ∀ {a b : List Int}, (∀ j, j < a.length → a.getD j 0 = b.getD j 0) → a.length = b.length → ¬ lexLt a b
  | [], [], _, _, h => h
  | [], _ :: _, _, hl, _ => by simp at hl
  | _ :: _, [], _, hl, _ => by simp at hl
  | x :: s, y :: t, h, hl, hx => by
    have h0 := h 0 (by simp)
    simp only [List.getD_cons_zero] at h0
    rcases hx with hx | ⟨_, hx⟩
    · omega
    · exact lex_same (a := s) (b := t) (fun j hj => by have := h (j + 1) (by simp; omega); simpa using this) (by simpa using hl) hx

set_option maxHeartbeats 4000000 in
set_option maxRecDepth 100000 in
theorem sless_any (A B : Option Addr) (ca cb : Nat) (a b : List Int) (w : World) (ha : IAt w A a) (hb : IAt w B b) (hla : a.length ≤ 1000) :
    Calls Try.prog 143 #[.slice A a.length ca, .slice B b.length cb] w fun e w' => e = .returned (.bool (lessB a b)) ∧ Below w.heap.size w w' := by
  have HA := Lib.hid ha
  have HB := Lib.hid hb
  clear ha hb
  by_cases hne : a.length = b.length
  · have HLE := Lib.hid hne
    have g1 : ((a.length : Int) != (b.length : Int)) = false := by rw [hne]; simp
    have g2 : (a.length != b.length) = false := by rw [hne]; simp
    clear hne
    go_enter Try.func143, Try.ntmps143
    go_wp2
    go_loopw [5] (fun i wr => ∃ k : Nat, k ≤ a.length ∧ i = .int .i64 (k : Int) ∧ Hid (∀ j, j < k → a.getD j 0 = b.getD j 0) ∧ Hid (∃ n, wr = w.drewN n)) (fun i _ => a.length - (intOf i).toNat)
    case atStart => exact ⟨0, Nat.zero_le _, rfl, Lib.hid (fun j hj => by omega), Lib.hid ⟨0, rfl⟩⟩
    case round =>
      obtain ⟨k, hk, rfl, hin, hwr⟩ := hrel
      obtain ⟨n, rfl⟩ := hwr.out
      clear hwr
      by_cases hlt : k < a.length
      · have hlt2 : k < b.length := by have := HLE.out; omega
        obtain ⟨b1, off1, hA1, hbl1, h1⟩ := HA.out.at_ hlt
        obtain ⟨b2, off2, hA2, hbl2, h2⟩ := HB.out.at_ hlt2
        subst hA1 hA2
        have hk0 : (0 : Int) ≤ (k : Int) := by omega
        have hkn : (k : Int) < (a.length : Int) := by omega
        have hkn2 : (k : Int) < (b.length : Int) := by omega
        have HLEX := Lib.hid (lex_at hin.out hlt hlt2)
        obtain ⟨x, hx⟩ : ∃ x, a.getD k 0 = x := ⟨_, rfl⟩
        obtain ⟨y, hy⟩ : ∃ y, b.getD k 0 = y := ⟨_, rfl⟩
        have HX := Lib.hid hx
        have HY := Lib.hid hy
        rw [hx] at h1
        rw [hy] at h2
        rw [hx, hy] at HLEX
        clear hx hy
        by_cases hxy : x = y
        · have HN := Lib.hid (show ∀ j, j < k + 1 → a.getD j 0 = b.getD j 0 from fun j hj => by
            by_cases e : j = k
            · subst e; rw [HX.out, HY.out, hxy]
            · exact hin.out j (by omega))
          have d1 : (x != y) = false := by rw [hxy]; simp
          clear hxy hin HLEX
          go_wp2_with fail
          go_quiet ((fail))
          go_wp2_with fail
          go_roundw
          case rel => exact ⟨k + 1, by omega, by go_num, HN, Lib.hid ⟨_, rfl⟩⟩
          case measure => simp [intOf]; omega
        · have d1 : (x != y) = true := by rw [bne_iff_ne]; exact hxy
          have HR := Lib.hid (show lessB a b = decide (x < y) from by
            rw [Bool.eq_iff_iff, lessB_iff, decide_eq_true_eq, ← HLEX.out hxy]
            unfold Less
            have := HLE.out
            constructor
            · rintro (h | ⟨_, h⟩)
              · omega
              · exact h
            · intro h; exact .inr ⟨this, h⟩)
          clear hxy hin HLEX
          go_wp2_with fail
          go_quiet ((fail))
          go_wp2_with fail
          go_quiet ((fail))
          go_wp2_with fail
          go_ret
          exact ⟨by rw [HR.out]; rfl, below_drewN2 (below_drewN2 (below_drewN2 (Below.refl _ _) _) _) _⟩
      · have HR := Lib.hid (show lessB a b = false from lessB_no.2 (by
          rintro (h | ⟨_, h⟩)
          · have := HLE.out; omega
          · exact lex_same (fun j hj => hin.out j (by omega)) HLE.out h))
        go_wp2_with fail
        go_ret
        exact ⟨by rw [HR.out]; rfl, below_drewN2 (Below.refl _ _) _⟩
  · have g1 : ((a.length : Int) != (b.length : Int)) = true := by rw [bne_iff_ne]; omega
    have g2 : (a.length != b.length) = true := by rw [bne_iff_ne]; exact hne
    have HR := Lib.hid (show lessB a b = decide (a.length < b.length) from by
      rw [Bool.eq_iff_iff, lessB_iff, decide_eq_true_eq]
      unfold Less
      constructor
      · rintro (h | ⟨h, _⟩)
        · exact h
        · exact absurd h hne
      · exact .inl)
    clear hne
    go_enter Try.func143, Try.ntmps143
    go_wp2
    go_ret
    exact ⟨by rw [HR.out]; first | rfl | simp, Below.refl _ _⟩
theorem less_v {a b : List Int} {v : Bool} (hv : lessB a b = v) (A B : Option Addr) (ca cb : Nat) (w : World) (ha : IAt w A a) (hb : IAt w B b) (hla : a.length ≤ 1000) :
    Calls Try.prog 143 #[.slice A a.length ca, .slice B b.length cb] w fun e w' => e = .returned (.bool v) ∧ Below w.heap.size w w' := by
  rw [← hv]; exact sless_any A B ca cb a b w ha hb hla
end Go.Proofs.Ytbljmibaemgfeaa.S2

namespace Go.Proofs.Ytbljmibaemgfeaa.S2
open Go.RowKit Go.Sort P2 P4
set_option linter.unusedVariables false

/-- What the search tells: a plan, made by the call, and its harm, or -1. -/
def GivesB (w : World) (l : List Int) (r : Int) (e : Ending) (w' : World) : Prop :=
  ∃ g c, e = .returned (.tuple #[.slice (some ⟨g, 0, none⟩) l.length c, .int .i64 r]) ∧ w.heap.size ≤ g ∧ IAt w' (some ⟨g, 0, none⟩) l ∧ Below w.heap.size w w' ∧ g < w'.heap.size
def resV (ok : Bool) (h : Int) : Int := if ok then h else -1
theorem chI_len {l : List Int} {s k : Nat} : (chI l s k).length ≤ l.length := (chI_sub l s k).length_le
theorem pl_len {vs : List Vv} {P : List Int} (ha : AscV vs) (hl : vs.length ≤ 10) (h : Pl vs P) : P.length ≤ 10 := by
  obtain ⟨C, hC, rfl⟩ := ids_of_pl ha hl h
  unfold idsC
  rw [List.length_map]
  exact Nat.le_trans (chV_sub vs C 0).length_le hl
theorem invS_len {vs : List Vv} {cut : List Int → Bool} {H : List Int → Int} {s : Nat} {P : List Int} {l : Int} (ha : AscV vs) (hl : vs.length ≤ 10) (h : InvS vs cut H s P l) : P.length ≤ 10 := by
  rcases h with ⟨_, rfl, _⟩ | ⟨_, h, _⟩
  · simp
  · exact pl_len ha hl h
theorem invS_neg {vs : List Vv} {cut : List Int → Bool} {H : List Int → Int} {s : Nat} {P : List Int} {l : Int} (h : InvS vs cut H s P l) (hl : l < 0) : l = -1 := by
  rcases h with ⟨h, _⟩ | ⟨h, _⟩
  · exact h
  · omega
theorem invS_zeroH {vs : List Vv} {cut : List Int → Bool} {H : List Int → Int} {s : Nat} {P : List Int} {l : Int} (h : InvS vs cut H s P l) (hl : 0 ≤ l) (hH : ∀ P, H P = 0) : l = 0 := by
  rcases h with ⟨h, _⟩ | ⟨_, _, _, h, _⟩
  · omega
  · rw [h, hH]

set_option maxHeartbeats 4000000 in
set_option maxRecDepth 100000 in
theorem sbest_any (N X i : Nat) (A : Option Addr) (cap : Nat) (ps : List Pp) (AV : Option Addr) (capv : Nat) (vs : List Vv) (x : Int) (AU : Option Addr) (cq : Nat) (cu : List Int) (w : World) (h : PAt w A ps) (hv : VAt w AV vs) (hg : P4.Good N ps vs) (hx1 : 1 ≤ X) (hx2 : X ≤ N) (hi : At ps x i) (hu : IAt w AU cu) (hcu : cu = [] ∨ Cust N cu)
    (P : List Int) (hP : Int) (ok : Bool) (hr : Res vs (cutB ps vs X i) (harmP N ps vs X cu) ok P hP) :
    Calls Try.prog 86 #[nv N A ps.length cap, .slice AV vs.length capv, .int .i64 (X : Int), .int .i64 x, .slice AU cu.length cq] w (GivesB w P (resV ok hP)) := by
  have hl10 := hg.2.1
  have HASC := Lib.hid (ascV_of hg)
  have HOP := Lib.hid (fun w' (hb' : Below w.heap.size w w') => sopen_any AV capv vs w' (hv.kept hb' (Nat.le_refl _)) hg.2.1)
  have HCU := Lib.hid (fun Q AC cc w' (hb' : Below w.heap.size w w') (hc : IAt w' AC Q) (hcl : Q.length ≤ 1048576) => scut_any i N X A cap ps AV capv vs x AC cc Q w' (h.kept hb' (Nat.le_refl _)) (hv.kept hb' (Nat.le_refl _)) hg.1 hg.2.1 hx1 hx2 hi hc hcl)
  have HHA := Lib.hid (fun (hcu : Cust N cu) Q AC cc w' (hb' : Below w.heap.size w w') (hc : IAt w' AC Q) (hcl : Q.length ≤ 1048576) => sharm_any N X A cap ps AV capv vs AC cc Q AU cq cu w' (h.kept hb' (Nat.le_refl _)) (hv.kept hb' (Nat.le_refl _)) hg.1 hg.2.1 hx1 hx2 hc hcl (hu.kept hb' (Nat.le_refl _)) hcu)
  have HR := Lib.hid hr
  have HPOS := Lib.hid (show ∀ Q, 0 ≤ harmP N ps vs X cu Q from fun Q => by
    rcases hcu with rfl | hcu
    · rw [harmP_nil]; exact Int.le_refl _
    · exact harmP_pos hcu.2 Q)
  have hcul : cu.length ≤ 8 := by
    rcases hcu with rfl | hcu
    · simp
    · have := hcu.1; have := hg.1.2.1; omega
  have hol := List.length_filter_le (fun v : Vv => !v.sh) vs
  have hol2 : (openL vs).length ≤ 10 := by unfold openL; rw [List.length_map]; omega
  have HCUS := Lib.hid hcu
  obtain ⟨m, hm⟩ : ∃ m, m = (openL vs).length := ⟨_, rfl⟩
  have HM := Lib.hid hm
  have hm10 : m ≤ 10 := by omega
  obtain ⟨K, hK⟩ : ∃ K, K = 2 ^ m := ⟨_, rfl⟩
  have HK := Lib.hid hK
  have hK9 : K ≤ 1024 := by rw [hK]; exact Nat.le_trans (Nat.pow_le_pow_right (by omega) hm10) (Nat.le_refl _)
  have HKI := Lib.hid (show ((2 : Int) ^ m) = (K : Int) by rw [hK, Int.natCast_pow]; rfl)
  obtain ⟨W1, hW1⟩ : ∃ W1, W1 = w.alloc (.cells #[.int .i64 (N : Int), .slice A ps.length cap] 32) := ⟨_, rfl⟩
  have p0 : W1.cell? ⟨w.heap.size, 0, none⟩ = some (.int .i64 (N : Int)) := by rw [hW1]; go_simp
  have p1 : W1.cell? ⟨w.heap.size, 1, none⟩ = some (.slice A ps.length cap) := by rw [hW1]; go_simp
  have HBW := Lib.hid (show Below w.heap.size w W1 from by rw [hW1]; exact (Below.refl _ _).alloc (Nat.le_refl _) _)
  have hl1 : w.heap.size < W1.heap.size := by rw [hW1]; simp
  have HW1 := Lib.hid hW1
  clear h hv hg hu hcu hr hi hol hm hK hW1
  go_enter Try.func86, Try.ntmps86
  go_upto_region 1 with (fail)
  rw [← HW1.out]
  clear HW1
  go_wp2_with (go_at_call 95; refine (HOP.out _ HBW.out).mono ?_; rintro e w2 ⟨go, co, rfl, hgo, hO2, hb2⟩; have HO2 := Lib.hid hO2.iat; have HX2 := Lib.hid hb2; clear hO2 hb2; refine Hid.out ?_)
  obtain ⟨W3, hW3⟩ : ∃ W3, W3 = w2.alloc (.cells #[] 3) := ⟨_, rfl⟩
  have HX3 := Lib.hid (show Below w2.heap.size w2 W3 from by rw [hW3]; exact (Below.refl _ _).alloc (Nat.le_refl _) _)
  have hz3 : W3.heap.size = w2.heap.size + 1 := by rw [hW3]; simp
  have HX13 := Lib.hid (HX2.out.trans (HX3.out.mono HX2.out.size))
  have HB3 := Lib.hid (HBW.out.trans (HX13.out.mono HBW.out.size))
  have HO3 := Lib.hid (HO2.out.kept HX3.out (Nat.le_refl _))
  have q0 := (HX13.out.cell (p := ⟨w.heap.size, 0, none⟩) hl1).trans p0
  have q1 := (HX13.out.cell (p := ⟨w.heap.size, 1, none⟩) hl1).trans p1
  have hzw2 : w.heap.size < w2.heap.size := by have := HX2.out.size; omega
  have HC3 := Lib.hid (HCU.out (openL vs) (some ⟨go, 0, none⟩) co W3 HB3.out HO3.out (by omega))
  have HW3 := Lib.hid hW3
  clear hW3 p0 p1
  refine Lib.hid ?_
  go_upto_region 3 with (fail)
  rw [← HW3.out]
  obtain ⟨gb, hgb⟩ : ∃ gb, gb = w2.heap.size := ⟨_, rfl⟩
  have hgbw : w.heap.size ≤ gb := by omega
  have hgb3 : gb < W3.heap.size := by omega
  rw [← hgb]
  clear hgb hz3 HW3
  cases hco : cutB ps vs X i (openL vs) with
  | false =>
    have hun := res_unique (res_none (ps := ps) (X := X) (i := i) (harmP N ps vs X cu) hco) HR.out
    have HE1 := Lib.hid hun.1
    have HE2 := Lib.hid hun.2.1
    rw [hco] at HC3
    clear hco hun
    go_wp2_with (go_at_call 97; refine HC3.out.mono ?_; rintro e w4 ⟨rfl, hb4⟩; have HX4 := Lib.hid hb4; clear hb4)
    go_ret2
    rw [← HE1.out, ← HE2.out]
    show GivesB w [] (-1) _ _
    exact ⟨gb, 0, rfl, hgbw, .inl rfl, HB3.out.trans (HX4.out.mono HB3.out.size), by have := HX4.out.size; omega⟩
  | true =>
    rw [hco] at HC3
    clear hco
    have HCI := Lib.hid (fun s w' (hb' : Below W3.heap.size W3 w') (hs : s < 1024) => schoice_any (some ⟨go, 0, none⟩) co (openL vs) s w' (HO3.out.kept hb' (Nat.le_refl _)) hol2 hs)
    rw [← HM.out] at HCI HC3 ⊢
    go_wp2_with (go_at_call 97; refine HC3.out.mono ?_; rintro e w4 ⟨rfl, hb4⟩; have HX4 := Lib.hid hb4; clear hb4; refine Hid.out ?_)
    have hz34 := HX4.out.size
    have c0 := (HX4.out.cell (p := ⟨w.heap.size, 0, none⟩) (by show w.heap.size < _; omega)).trans q0
    have c1 := (HX4.out.cell (p := ⟨w.heap.size, 1, none⟩) (by show w.heap.size < _; omega)).trans q1
    clear q0 q1
    refine Lib.hid ?_
    go_wp2_with fail
    go_loopw [13, 14, 15] (fun bs ls ss wr => ∃ (s g c : Nat) (Pb : List Int) (l : Int), s ≤ K ∧ ss = .int .i64 (s : Int) ∧ bs = .slice (some ⟨g, 0, none⟩) Pb.length c ∧ ls = .int .i64 l ∧ Hid (InvS vs (cutB ps vs X i) (harmP N ps vs X cu) s Pb l) ∧ Hid (IAt wr (some ⟨g, 0, none⟩) Pb) ∧ w.heap.size ≤ g ∧ g < wr.heap.size ∧ Hid (Below w4.heap.size w4 wr)) (fun _ _ ss _ => K - (intOf ss).toNat)
    case atStart => exact ⟨0, gb, 0, [], -1, Nat.zero_le _, rfl, rfl, rfl, Lib.hid (invS_zero vs _ _), Lib.hid (.inl rfl), hgbw, by omega, Lib.hid (Below.refl _ _)⟩
    case round =>
      obtain ⟨s, g, c, Pb, l, hs, rfl, rfl, rfl, hinv, hat, hgw, hgr, hbr⟩ := hrel
      have hz4r := hbr.out.size
      have HX3r := Lib.hid (HX4.out.trans (hbr.out.mono HX4.out.size))
      have HBr := Lib.hid (HB3.out.trans (HX3r.out.mono HB3.out.size))
      have d0 := (hbr.out.cell (p := ⟨w.heap.size, 0, none⟩) (by show w.heap.size < _; omega)).trans c0
      have d1 := (hbr.out.cell (p := ⟨w.heap.size, 1, none⟩) (by show w.heap.size < _; omega)).trans c1
      have hum : IntKind.u64.wrap (m : Int) = (m : Int) := by rw [IntKind.wrap_u64]; omega
      have hm64 : (m : Int) ≤ 64 := by omega
      have hki := HKI.out
      have hwK : IntKind.i64.wrap (K : Int) = (K : Int) := by rw [IntKind.wrap_i64]; omega
      by_cases hlt : s < K
      · have HCH := Lib.hid (HCI.out s wr HX3r.out (by omega))
        have hpl := chI_len (l := openL vs) (s := s) (k := 0)
        have hpb := invS_len HASC.out hl10 hinv.out
        obtain ⟨pl, hpe⟩ : ∃ pl, pl = chI (openL vs) s 0 := ⟨_, rfl⟩
        have HPE := Lib.hid hpe
        rw [← hpe] at HCH hpl
        have hls : s < 1024 := by omega
        clear hpe
        go_wp2_with (go_at_call 114; refine HCH.out.mono ?_; rintro e w5 ⟨g5, c5, rfl, hg5, hO5, hb5⟩; have HP5 := Lib.hid hO5.iat; have hgg5 := (World.ownsRow.lt hO5 g5 rfl).2; have HX5 := Lib.hid hb5; clear hO5 hb5; refine Hid.out ?_)
        have hz5 := HX5.out.size
        have HR5 := Lib.hid (HX3r.out.trans (HX5.out.mono HX3r.out.size))
        have HB5 := Lib.hid (HBr.out.trans (HX5.out.mono HBr.out.size))
        have HO5 := Lib.hid (hat.out.kept HX5.out (Nat.le_refl _))
        have e0 := (HX5.out.cell (p := ⟨w.heap.size, 0, none⟩) (by show w.heap.size < _; omega)).trans d0
        have e1 := (HX5.out.cell (p := ⟨w.heap.size, 1, none⟩) (by show w.heap.size < _; omega)).trans d1
        have HCUT := Lib.hid (fun w' (hb' : Below w.heap.size w w') (hp : IAt w' (some ⟨g5, 0, none⟩) pl) => HCU.out pl (some ⟨g5, 0, none⟩) c5 w' hb' hp (by omega))
        obtain ⟨d, hd⟩ : ∃ d, d = harmP N ps vs X cu pl := ⟨_, rfl⟩
        have HD := Lib.hid hd
        have hd0 : 0 ≤ d := by rw [hd]; exact HPOS.out pl
        have HOLD := Lib.hid (show 0 ≤ l → ¬ (d < l ∨ (d = l ∧ Less pl Pb)) → InvS vs (cutB ps vs X i) (harmP N ps vs X cu) (s + 1) Pb l from by
          intro h1 h2
          rw [hd, HPE.out] at h2
          exact hinv.out.old h1 h2)
        have HNEW := Lib.hid (show cutB ps vs X i pl = true → (l < 0 ∨ d < l ∨ (d = l ∧ Less pl Pb)) → InvS vs (cutB ps vs X i) (harmP N ps vs X cu) (s + 1) pl d from by
          intro h1 h2
          rw [hd] at h2 ⊢
          rw [HPE.out] at h1 h2 ⊢
          exact hinv.out.new HASC.out HPOS.out h1 h2)
        have HDRY := Lib.hid (show cutB ps vs X i pl = false → InvS vs (cutB ps vs X i) (harmP N ps vs X cu) (s + 1) Pb l from by
          intro h1
          rw [HPE.out] at h1
          exact hinv.out.dry h1)
        clear hd d0 d1
        have HT5 := Lib.hid (hbr.out.trans (HX5.out.mono hbr.out.size))
        clear HPE
        refine Lib.hid ?_
        by_cases hl0 : l < 0
        · have hlm := invS_neg hinv.out hl0
          subst hlm
          clear hinv hl0
          cases hc : cutB ps vs X i pl with
          | false =>
            rw [hc] at HCUT HNEW HDRY
            go_wp2_with (go_at_call 97; refine (HCUT.out _ HB5.out HP5.out).mono ?_; rintro e w6 ⟨rfl, hb6⟩; have HX6 := Lib.hid hb6; clear hb6; refine Hid.out ?_)
            have hz6 := HX6.out.size
            have HB6 := Lib.hid (HB5.out.trans (HX6.out.mono HB5.out.size))
            have HP6 := Lib.hid (HP5.out.kept HX6.out (Nat.le_refl _))
            have HO6 := Lib.hid (HO5.out.kept HX6.out (Nat.le_refl _))
            have HR6 := Lib.hid (HR5.out.trans (HX6.out.mono HR5.out.size))
            have HT6 := Lib.hid (HT5.out.trans (HX6.out.mono HT5.out.size))
            have f0 := (HX6.out.cell (p := ⟨w.heap.size, 0, none⟩) (by show w.heap.size < _; omega)).trans e0
            have f1 := (HX6.out.cell (p := ⟨w.heap.size, 1, none⟩) (by show w.heap.size < _; omega)).trans e1
            clear e0 e1
            clear hc
            refine Lib.hid ?_
            go_wp2_with fail
            go_roundw
            case rel => exact ⟨s + 1, g, c, Pb, -1, by omega, by go_num, rfl, rfl, Lib.hid (HDRY.out (by simp)), HO6, by omega, by omega, HT6⟩
            case measure => simp [intOf]; omega
          | true =>
            rw [hc] at HCUT HNEW HDRY
            go_wp2_with (go_at_call 97; refine (HCUT.out _ HB5.out HP5.out).mono ?_; rintro e w6 ⟨rfl, hb6⟩; have HX6 := Lib.hid hb6; clear hb6; refine Hid.out ?_)
            have hz6 := HX6.out.size
            have HB6 := Lib.hid (HB5.out.trans (HX6.out.mono HB5.out.size))
            have HP6 := Lib.hid (HP5.out.kept HX6.out (Nat.le_refl _))
            have HO6 := Lib.hid (HO5.out.kept HX6.out (Nat.le_refl _))
            have HR6 := Lib.hid (HR5.out.trans (HX6.out.mono HR5.out.size))
            have HT6 := Lib.hid (HT5.out.trans (HX6.out.mono HT5.out.size))
            have f0 := (HX6.out.cell (p := ⟨w.heap.size, 0, none⟩) (by show w.heap.size < _; omega)).trans e0
            have f1 := (HX6.out.cell (p := ⟨w.heap.size, 1, none⟩) (by show w.heap.size < _; omega)).trans e1
            clear e0 e1
            rcases HCUS.out with hcu0 | hcu1
            · have hdz : d = 0 := by rw [HD.out, hcu0]; exact harmP_nil N ps vs X pl
              have HN7 := Lib.hid (HNEW.out (by simp) (.inl (by decide)))
              have hcq1 : ((cu.length : Int) == 0) = true := by rw [hcu0]; rfl
              have hcq2 : decide ((0 : Int) < (cu.length : Int)) = false := by rw [hcu0]; rfl
              have hcq3 : decide (0 < cu.length) = false := by rw [hcu0]; rfl
              have hcq4 : (cu.length == 0) = true := by rw [hcu0]; rfl
              clear hcu0
              rw [hdz] at HN7
              clear hc HNEW HDRY HOLD HD hdz
              refine Lib.hid ?_
              go_wp2_with fail
              go_roundw
              case rel => exact ⟨s + 1, g5, c5, pl, 0, by omega, by go_num, rfl, rfl, Lib.hid (HN7.out), HP6, by omega, by omega, HT6⟩
              case measure => simp [intOf]; omega
            · have hcne : cu ≠ [] := by rintro rfl; have := hcu1.1; simp at this; omega
              have hcp : 0 < cu.length := List.length_pos_iff.mpr hcne
              have HHD := Lib.hid (fun w' (hb' : Below w.heap.size w w') (hp : IAt w' (some ⟨g5, 0, none⟩) pl) => by
                have h9 := HHA.out hcu1 pl _ c5 w' hb' hp (by omega)
                rw [show sumL cu (nodesL N (wetP ps vs X pl) false) = d from by rw [HD.out]; simp [harmP, hcne]] at h9
                exact h9)
              have HN7 := Lib.hid (HNEW.out (by simp) (.inl (by decide)))
              have hcq : ((cu.length : Int) == 0) = false := by simp; exact hcne
              have hcp2 : (0 : Int) < (cu.length : Int) := by omega
              clear hc HNEW HDRY HOLD HD hcu1
              refine Lib.hid ?_
              go_wp2_with (go_at_call 92; refine (HHD.out _ HB6.out HP6.out).mono ?_; rintro e w7 ⟨rfl, hb7⟩; have HX7 := Lib.hid hb7; clear hb7; refine Hid.out ?_)
              have hz7 := HX7.out.size
              have HB7 := Lib.hid (HB6.out.trans (HX7.out.mono HB6.out.size))
              have HP7 := Lib.hid (HP6.out.kept HX7.out (Nat.le_refl _))
              have HO7 := Lib.hid (HO6.out.kept HX7.out (Nat.le_refl _))
              have HR7 := Lib.hid (HR6.out.trans (HX7.out.mono HR6.out.size))
              have HT7 := Lib.hid (HT6.out.trans (HX7.out.mono HT6.out.size))
              refine Lib.hid ?_
              go_wp2_with fail
              go_roundw
              case rel => exact ⟨s + 1, g5, c5, pl, d, by omega, by go_num, rfl, rfl, Lib.hid (HN7.out), HP7, by omega, by omega, HT7⟩
              case measure => simp [intOf]; omega
        · have hl0 : 0 ≤ l := by omega
          have hl1 : ¬ l < 0 := by omega
          rcases HCUS.out with hcu0 | hcu1
          · have hdz : d = 0 := by rw [HD.out, hcu0]; exact harmP_nil N ps vs X pl
            have hlz : l = 0 := invS_zeroH hinv.out (by omega) (by rw [hcu0]; exact harmP_nil N ps vs X)
            have hcq1 : ((cu.length : Int) == 0) = true := by rw [hcu0]; rfl
            have hcq2 : decide ((0 : Int) < (cu.length : Int)) = false := by rw [hcu0]; rfl
            have hcq3 : decide (0 < cu.length) = false := by rw [hcu0]; rfl
            have hcq4 : (cu.length == 0) = true := by rw [hcu0]; rfl
            clear hcu0
            subst hlz
            rw [hdz] at HOLD HNEW
            clear HD hdz
            cases hle : lessB pl Pb with
            | false =>
              have HLE := Lib.hid (fun w' (hp : IAt w' (some ⟨g5, 0, none⟩) pl) (ho : IAt w' (some ⟨g, 0, none⟩) Pb) => less_v hle (some ⟨g5, 0, none⟩) (some ⟨g, 0, none⟩) c5 c w' hp ho (by omega))
              have HN7 := Lib.hid (HOLD.out (Int.le_refl _) (fun h => h.elim (fun h1 => by omega) (fun h1 => lessB_no.mp hle h1.2)))
              clear HNEW HDRY HOLD hle
              refine Lib.hid ?_
              go_wp2_with (go_at_call 143; refine (HLE.out _ HP5.out HO5.out).mono ?_; rintro e w6 ⟨rfl, hb6⟩; have HX6 := Lib.hid hb6; clear hb6; refine Hid.out ?_)
              have hz6 := HX6.out.size
              have HB6 := Lib.hid (HB5.out.trans (HX6.out.mono HB5.out.size))
              have HP6 := Lib.hid (HP5.out.kept HX6.out (Nat.le_refl _))
              have HO6 := Lib.hid (HO5.out.kept HX6.out (Nat.le_refl _))
              have HR6 := Lib.hid (HR5.out.trans (HX6.out.mono HR5.out.size))
              have HT6 := Lib.hid (HT5.out.trans (HX6.out.mono HT5.out.size))
              refine Lib.hid ?_
              go_wp2_with fail
              go_roundw
              case rel => exact ⟨s + 1, g, c, Pb, 0, by omega, by go_num, rfl, rfl, Lib.hid (HN7.out), HO6, by omega, by omega, HT6⟩
              case measure => simp [intOf]; omega
            | true =>
              have HLE := Lib.hid (fun w' (hp : IAt w' (some ⟨g5, 0, none⟩) pl) (ho : IAt w' (some ⟨g, 0, none⟩) Pb) => less_v hle (some ⟨g5, 0, none⟩) (some ⟨g, 0, none⟩) c5 c w' hp ho (by omega))
              have HLT := Lib.hid (lessB_iff.mp hle)
              clear HOLD hle
              refine Lib.hid ?_
              go_wp2_with (go_at_call 143; refine (HLE.out _ HP5.out HO5.out).mono ?_; rintro e w6 ⟨rfl, hb6⟩; have HX6 := Lib.hid hb6; clear hb6; refine Hid.out ?_)
              have hz6 := HX6.out.size
              have HB6 := Lib.hid (HB5.out.trans (HX6.out.mono HB5.out.size))
              have HP6 := Lib.hid (HP5.out.kept HX6.out (Nat.le_refl _))
              have HO6 := Lib.hid (HO5.out.kept HX6.out (Nat.le_refl _))
              have HR6 := Lib.hid (HR5.out.trans (HX6.out.mono HR5.out.size))
              have HT6 := Lib.hid (HT5.out.trans (HX6.out.mono HT5.out.size))
              have f0 := (HX6.out.cell (p := ⟨w.heap.size, 0, none⟩) (by show w.heap.size < _; omega)).trans e0
              have f1 := (HX6.out.cell (p := ⟨w.heap.size, 1, none⟩) (by show w.heap.size < _; omega)).trans e1
              clear e0 e1
              refine Lib.hid ?_
              cases hc : cutB ps vs X i pl with
              | false =>
                rw [hc] at HCUT HDRY
                clear hc HNEW
                go_wp2_with (go_at_call 97; refine (HCUT.out _ HB6.out HP6.out).mono ?_; rintro e w7 ⟨rfl, hb7⟩; have HX7 := Lib.hid hb7; clear hb7; refine Hid.out ?_)
                have hz7 := HX7.out.size
                have HB7 := Lib.hid (HB6.out.trans (HX7.out.mono HB6.out.size))
                have HP7 := Lib.hid (HP6.out.kept HX7.out (Nat.le_refl _))
                have HO7 := Lib.hid (HO6.out.kept HX7.out (Nat.le_refl _))
                have HR7 := Lib.hid (HR6.out.trans (HX7.out.mono HR6.out.size))
                have HT7 := Lib.hid (HT6.out.trans (HX7.out.mono HT6.out.size))
                refine Lib.hid ?_
                go_wp2_with fail
                go_roundw
                case rel => exact ⟨s + 1, g, c, Pb, 0, by omega, by go_num, rfl, rfl, Lib.hid (HDRY.out (by simp)), HO7, by omega, by omega, HT7⟩
                case measure => simp [intOf]; omega
              | true =>
                rw [hc] at HCUT HNEW
                have HN7 := Lib.hid (HNEW.out (by simp) (.inr (.inr ⟨by simp, HLT.out⟩)))
                clear hc HDRY HNEW
                go_wp2_with (go_at_call 97; refine (HCUT.out _ HB6.out HP6.out).mono ?_; rintro e w7 ⟨rfl, hb7⟩; have HX7 := Lib.hid hb7; clear hb7; refine Hid.out ?_)
                have hz7 := HX7.out.size
                have HB7 := Lib.hid (HB6.out.trans (HX7.out.mono HB6.out.size))
                have HP7 := Lib.hid (HP6.out.kept HX7.out (Nat.le_refl _))
                have HO7 := Lib.hid (HO6.out.kept HX7.out (Nat.le_refl _))
                have HR7 := Lib.hid (HR6.out.trans (HX7.out.mono HR6.out.size))
                have HT7 := Lib.hid (HT6.out.trans (HX7.out.mono HT6.out.size))
                refine Lib.hid ?_
                go_wp2_with (go_at_call 143; refine (HLE.out _ HP7.out HO7.out).mono ?_; rintro e w8 ⟨rfl, hb8⟩; have HX8 := Lib.hid hb8; clear hb8; refine Hid.out ?_)
                have hz8 := HX8.out.size
                have HB8 := Lib.hid (HB7.out.trans (HX8.out.mono HB7.out.size))
                have HP8 := Lib.hid (HP7.out.kept HX8.out (Nat.le_refl _))
                have HO8 := Lib.hid (HO7.out.kept HX8.out (Nat.le_refl _))
                have HR8 := Lib.hid (HR7.out.trans (HX8.out.mono HR7.out.size))
                have HT8 := Lib.hid (HT7.out.trans (HX8.out.mono HT7.out.size))
                refine Lib.hid ?_
                go_wp2_with fail
                go_roundw
                case rel => exact ⟨s + 1, g5, c5, pl, 0, by omega, by go_num, rfl, rfl, Lib.hid (HN7.out), HP8, by omega, by omega, HT8⟩
                case measure => simp [intOf]; omega
          · have hcne : cu ≠ [] := by rintro rfl; have := hcu1.1; simp at this; omega
            have hcp : 0 < cu.length := List.length_pos_iff.mpr hcne
            have HHD := Lib.hid (fun w' (hb' : Below w.heap.size w w') (hp : IAt w' (some ⟨g5, 0, none⟩) pl) => by
              have h9 := HHA.out hcu1 pl _ c5 w' hb' hp (by omega)
              rw [show sumL cu (nodesL N (wetP ps vs X pl) false) = d from by rw [HD.out]; simp [harmP, hcne]] at h9
              exact h9)
            have hcq : ((cu.length : Int) == 0) = false := by simp; exact hcne
            have hcp2 : (0 : Int) < (cu.length : Int) := by omega
            clear HD hcu1
            cases hc : cutB ps vs X i pl with
            | false =>
              rw [hc] at HCUT HDRY
              clear hc HNEW HOLD HHD
              refine Lib.hid ?_
              go_wp2_with (go_at_call 97; refine (HCUT.out _ HB5.out HP5.out).mono ?_; rintro e w6 ⟨rfl, hb6⟩; have HX6 := Lib.hid hb6; clear hb6; refine Hid.out ?_)
              have hz6 := HX6.out.size
              have HB6 := Lib.hid (HB5.out.trans (HX6.out.mono HB5.out.size))
              have HP6 := Lib.hid (HP5.out.kept HX6.out (Nat.le_refl _))
              have HO6 := Lib.hid (HO5.out.kept HX6.out (Nat.le_refl _))
              have HR6 := Lib.hid (HR5.out.trans (HX6.out.mono HR5.out.size))
              have HT6 := Lib.hid (HT5.out.trans (HX6.out.mono HT5.out.size))
              refine Lib.hid ?_
              go_wp2_with fail
              go_roundw
              case rel => exact ⟨s + 1, g, c, Pb, l, by omega, by go_num, rfl, rfl, Lib.hid (HDRY.out (by simp)), HO6, by omega, by omega, HT6⟩
              case measure => simp [intOf]; omega
            | true =>
              rw [hc] at HCUT HNEW
              clear hc HDRY
              refine Lib.hid ?_
              go_wp2_with (go_at_call 97; refine (HCUT.out _ HB5.out HP5.out).mono ?_; rintro e w6 ⟨rfl, hb6⟩; have HX6 := Lib.hid hb6; clear hb6; refine Hid.out ?_)
              have hz6 := HX6.out.size
              have HB6 := Lib.hid (HB5.out.trans (HX6.out.mono HB5.out.size))
              have HP6 := Lib.hid (HP5.out.kept HX6.out (Nat.le_refl _))
              have HO6 := Lib.hid (HO5.out.kept HX6.out (Nat.le_refl _))
              have HR6 := Lib.hid (HR5.out.trans (HX6.out.mono HR5.out.size))
              have HT6 := Lib.hid (HT5.out.trans (HX6.out.mono HT5.out.size))
              have f0 := (HX6.out.cell (p := ⟨w.heap.size, 0, none⟩) (by show w.heap.size < _; omega)).trans e0
              have f1 := (HX6.out.cell (p := ⟨w.heap.size, 1, none⟩) (by show w.heap.size < _; omega)).trans e1
              clear e0 e1
              refine Lib.hid ?_
              go_wp2_with (go_at_call 92; refine (HHD.out _ HB6.out HP6.out).mono ?_; rintro e w7 ⟨rfl, hb7⟩; have HX7 := Lib.hid hb7; clear hb7; refine Hid.out ?_)
              have hz7 := HX7.out.size
              have HB7 := Lib.hid (HB6.out.trans (HX7.out.mono HB6.out.size))
              have HP7 := Lib.hid (HP6.out.kept HX7.out (Nat.le_refl _))
              have HO7 := Lib.hid (HO6.out.kept HX7.out (Nat.le_refl _))
              have HR7 := Lib.hid (HR6.out.trans (HX7.out.mono HR6.out.size))
              have HT7 := Lib.hid (HT6.out.trans (HX7.out.mono HT6.out.size))
              refine Lib.hid ?_
              rcases Int.lt_trichotomy d l with h1 | h1 | h1
              · have HN7 := Lib.hid (HNEW.out (by simp) (.inr (.inl h1)))
                clear HOLD HNEW
                go_wp2_with fail
                go_roundw
                case rel => exact ⟨s + 1, g5, c5, pl, d, by omega, by go_num, rfl, rfl, Lib.hid (HN7.out), HP7, by omega, by omega, HT7⟩
                case measure => simp [intOf]; omega
              · subst h1
                cases hle : lessB pl Pb with
                | false =>
                  have HLE := Lib.hid (fun w' (hp : IAt w' (some ⟨g5, 0, none⟩) pl) (ho : IAt w' (some ⟨g, 0, none⟩) Pb) => less_v hle (some ⟨g5, 0, none⟩) (some ⟨g, 0, none⟩) c5 c w' hp ho (by omega))
                  have HN7 := Lib.hid (HOLD.out hd0 (fun h => h.elim (fun h1 => by omega) (fun h1 => lessB_no.mp hle h1.2)))
                  clear HNEW HOLD hle
                  go_wp2_with (go_at_call 143; refine (HLE.out _ HP7.out HO7.out).mono ?_; rintro e w8 ⟨rfl, hb8⟩; have HX8 := Lib.hid hb8; clear hb8; refine Hid.out ?_)
                  have hz8 := HX8.out.size
                  have HB8 := Lib.hid (HB7.out.trans (HX8.out.mono HB7.out.size))
                  have HP8 := Lib.hid (HP7.out.kept HX8.out (Nat.le_refl _))
                  have HO8 := Lib.hid (HO7.out.kept HX8.out (Nat.le_refl _))
                  have HR8 := Lib.hid (HR7.out.trans (HX8.out.mono HR7.out.size))
                  have HT8 := Lib.hid (HT7.out.trans (HX8.out.mono HT7.out.size))
                  refine Lib.hid ?_
                  go_wp2_with fail
                  go_roundw
                  case rel => exact ⟨s + 1, g, c, Pb, d, by omega, by go_num, rfl, rfl, Lib.hid (HN7.out), HO8, by omega, by omega, HT8⟩
                  case measure => simp [intOf]; omega
                | true =>
                  have HLE := Lib.hid (fun w' (hp : IAt w' (some ⟨g5, 0, none⟩) pl) (ho : IAt w' (some ⟨g, 0, none⟩) Pb) => less_v hle (some ⟨g5, 0, none⟩) (some ⟨g, 0, none⟩) c5 c w' hp ho (by omega))
                  have HN7 := Lib.hid (HNEW.out (by simp) (.inr (.inr ⟨by simp, lessB_iff.mp hle⟩)))
                  clear HNEW HOLD hle
                  go_wp2_with (go_at_call 143; refine (HLE.out _ HP7.out HO7.out).mono ?_; rintro e w8 ⟨rfl, hb8⟩; have HX8 := Lib.hid hb8; clear hb8; refine Hid.out ?_)
                  have hz8 := HX8.out.size
                  have HB8 := Lib.hid (HB7.out.trans (HX8.out.mono HB7.out.size))
                  have HP8 := Lib.hid (HP7.out.kept HX8.out (Nat.le_refl _))
                  have HO8 := Lib.hid (HO7.out.kept HX8.out (Nat.le_refl _))
                  have HR8 := Lib.hid (HR7.out.trans (HX8.out.mono HR7.out.size))
                  have HT8 := Lib.hid (HT7.out.trans (HX8.out.mono HT7.out.size))
                  refine Lib.hid ?_
                  go_wp2_with fail
                  go_roundw
                  case rel => exact ⟨s + 1, g5, c5, pl, d, by omega, by go_num, rfl, rfl, Lib.hid (HN7.out), HP8, by omega, by omega, HT8⟩
                  case measure => simp [intOf]; omega
              · have HN7 := Lib.hid (HOLD.out hl0 (by rintro (h2 | ⟨h2, _⟩) <;> omega))
                have hb1 : decide (d < l) = false := by simp; omega
                have hb2 : (d == l) = false := by simp; omega
                clear HOLD HNEW
                go_wp2_with fail
                go_roundw
                case rel => exact ⟨s + 1, g, c, Pb, l, by omega, by go_num, rfl, rfl, Lib.hid (HN7.out), HO7, by omega, by omega, HT7⟩
                case measure => simp [intOf]; omega
      · have e : s = K := by omega
        subst e
        have HRES := Lib.hid (InvS.res HASC.out (show InvS vs (cutB ps vs X i) (harmP N ps vs X cu) (2 ^ (openL vs).length) Pb l from by rw [← HM.out, ← HK.out]; exact hinv.out) HR.out)
        go_wp2_with fail
        go_ret2
        have e7 : resV ok hP = l := HRES.out.2.symm
        rw [← HRES.out.1, e7]
        exact ⟨g, c, rfl, hgw, hat.out, HBr.out, hgr⟩
end Go.Proofs.Ytbljmibaemgfeaa.S2

namespace Go.Proofs.Ytbljmibaemgfeaa.S2
open Go.RowKit Go.Sort P2 P4
set_option linter.unusedVariables false

set_option maxHeartbeats 1000000 in
theorem shortone_any (s : Nat → Bool) (w : World) :
    Calls Try.prog 89 #[ev s] w fun e w' => e = .returned (.int .i64 0) ∧ Below w.heap.size w w' := by
  obtain ⟨W1, hW1⟩ : ∃ W1, W1 = w.alloc (.cells (ecells s) 96) := ⟨_, rfl⟩
  have HBW := Lib.hid (show Below w.heap.size w W1 from by rw [hW1]; exact (Below.refl _ _).alloc (Nat.le_refl _) _)
  have HW1 := Lib.hid hW1
  clear hW1
  go_enter Try.func89, Try.ntmps89
  go_upto_region 1 with (fail)
  rw [← HW1.out]
  clear HW1
  go_wp2_with fail
  go_ret
  exact ⟨rfl, HBW.out⟩

set_option maxHeartbeats 2000000 in
set_option maxRecDepth 100000 in
theorem short_no (n : Int) (A : Option Addr) (cap : Nat) (ps : List Pp) (AV : Option Addr) (capv : Nat) (vs : List Vv) (X x : Int) (w : World) (hs : ∀ w', Below w.heap.size w w' → Calls Try.prog 87 #[nv n A ps.length cap, .slice AV vs.length capv, .int .i64 X, .int .i64 x] w' fun e w'' => e = .returned (.bool false) ∧ Below w'.heap.size w' w'') :
    Calls Try.prog 26 #[nv n A ps.length cap, .slice AV vs.length capv, .int .i64 X, .int .i64 x] w (GivesI w [] false) := by
  have HS := Lib.hid hs
  clear hs
  have HB0 := Lib.hid (show Below w.heap.size w (w.alloc (.cells #[.int .i64 n, .slice A ps.length cap] 32)) from (Below.refl _ _).alloc (Nat.le_refl _) _)
  go_enter Try.func26, Try.ntmps26
  go_wp2_with (go_at_call 87; refine (HS.out _ HB0.out).mono ?_; rintro e w1 ⟨rfl, hb1⟩; have HB1 := Lib.hid (HB0.out.trans (hb1.mono (by simp))); have hb1' : Below (w.heap.size + 1) (w.alloc (.cells #[.int .i64 n, .slice A ps.length cap] 32)) w1 := (by simpa using hb1); have HX1 := Lib.hid hb1'; obtain ⟨b0, b1⟩ := box2 hb1'; clear hb1 hb1')
  go_ret2
  exact gives_none HB1.out

set_option maxHeartbeats 4000000 in
set_option maxRecDepth 100000 in
theorem short_yes (N X i : Nat) (A : Option Addr) (cap : Nat) (ps : List Pp) (AV : Option Addr) (capv : Nat) (vs : List Vv) (x : Int) (w : World) (hs : ∀ w', Below w.heap.size w w' → Calls Try.prog 87 #[nv N A ps.length cap, .slice AV vs.length capv, .int .i64 (X : Int), .int .i64 x] w' fun e w'' => e = .returned (.bool true) ∧ Below w'.heap.size w' w'') (h : PAt w A ps) (hv : VAt w AV vs) (hg : P4.Good N ps vs) (hX : X < 9) (hi : At ps x i) (P : List Int) (hP : Int) (ok : Bool) (hr : Res vs (cutB ps vs X i) (fun _ => 0) ok P hP) :
    Calls Try.prog 26 #[nv N A ps.length cap, .slice AV vs.length capv, .int .i64 (X : Int), .int .i64 x] w (GivesI w P ok) := by
  have HS := Lib.hid hs
  have HBE := Lib.hid (fun w' (hb : Below w.heap.size w w') => callsIn_wide.1 (best_short N X i A cap ps AV capv vs x w' (h.kept hb (Nat.le_refl _)) (hv.kept hb (Nat.le_refl _)) hg hX hi (fun _ => 0) (fun s w'' _ => shortone_any s w'') P hP ok hr))
  clear hs h hv hg hi hr
  have HB0 := Lib.hid (show Below w.heap.size w (w.alloc (.cells #[.int .i64 (N : Int), .slice A ps.length cap] 32)) from (Below.refl _ _).alloc (Nat.le_refl _) _)
  go_enter Try.func26, Try.ntmps26
  go_wp2_with (first
    | (go_at_call 87; refine (HS.out _ HB0.out).mono ?_; rintro e w1 ⟨rfl, hb1⟩; have HB1 := Lib.hid (HB0.out.trans (hb1.mono (by simp))); have hb1' : Below (w.heap.size + 1) (w.alloc (.cells #[.int .i64 (N : Int), .slice A ps.length cap] 32)) w1 := (by simpa using hb1); have HX1 := Lib.hid hb1'; obtain ⟨b0, b1⟩ := box2 hb1'; clear hb1 hb1')
    | (go_at_call 88; refine (HBE.out _ HB1.out).mono ?_; rintro e w2 ⟨g2, c2, rfl, hg2, hO2, hb2⟩; have HO2 := Lib.hid hO2; have HB2 := Lib.hid (HB1.out.trans (hb2.mono HB1.out.size)); clear hO2 hb2))
  go_ret2
  exact ⟨g2, c2, rfl, by have := HB1.out.size; omega, own_lower HO2.out (by have := HB1.out.size; omega), HB2.out⟩

set_option maxHeartbeats 2000000 in
set_option maxRecDepth 100000 in
theorem sshort_no (n : Int) (A : Option Addr) (cap : Nat) (ps : List Pp) (AV : Option Addr) (capv : Nat) (vs : List Vv) (X x : Int) (w : World) (hs : ∀ w', Below w.heap.size w w' → Calls Try.prog 85 #[nv n A ps.length cap, .slice AV vs.length capv, .int .i64 X, .int .i64 x] w' fun e w'' => e = .returned (.bool false) ∧ Below w'.heap.size w' w'') :
    Calls Try.prog 25 #[nv n A ps.length cap, .slice AV vs.length capv, .int .i64 X, .int .i64 x] w (GivesA w [] false) := by
  have HS := Lib.hid hs
  clear hs
  have HB0 := Lib.hid (show Below w.heap.size w (w.alloc (.cells #[.int .i64 n, .slice A ps.length cap] 32)) from (Below.refl _ _).alloc (Nat.le_refl _) _)
  go_enter Try.func25, Try.ntmps25
  go_wp2_with (go_at_call 85; refine (HS.out _ HB0.out).mono ?_; rintro e w1 ⟨rfl, hb1⟩; have HB1 := Lib.hid (HB0.out.trans (hb1.mono (by simp))); have hb1' : Below (w.heap.size + 1) (w.alloc (.cells #[.int .i64 n, .slice A ps.length cap] 32)) w1 := (by simpa using hb1); have HX1 := Lib.hid hb1'; obtain ⟨b0, b1⟩ := box2 hb1'; clear hb1 hb1')
  go_ret2
  exact (gives_none HB1.out).any

set_option maxHeartbeats 4000000 in
set_option maxRecDepth 100000 in
theorem sshort_yes (N X i : Nat) (A : Option Addr) (cap : Nat) (ps : List Pp) (AV : Option Addr) (capv : Nat) (vs : List Vv) (x : Int) (w : World) (hs : ∀ w', Below w.heap.size w w' → Calls Try.prog 85 #[nv N A ps.length cap, .slice AV vs.length capv, .int .i64 (X : Int), .int .i64 x] w' fun e w'' => e = .returned (.bool true) ∧ Below w'.heap.size w' w'') (h : PAt w A ps) (hv : VAt w AV vs) (hg : P4.Good N ps vs) (hx1 : 1 ≤ X) (hx2 : X ≤ N) (hi : At ps x i) (P : List Int) (hP : Int) (ok : Bool) (hr : Res vs (cutB ps vs X i) (fun _ => 0) ok P hP) :
    Calls Try.prog 25 #[nv N A ps.length cap, .slice AV vs.length capv, .int .i64 (X : Int), .int .i64 x] w (GivesA w P ok) := by
  have HS := Lib.hid hs
  have hpe : harmP N ps vs X [] = fun _ => 0 := funext (fun Q => harmP_nil N ps vs X Q)
  have HBE := Lib.hid (fun AU cq w' (hb : Below w.heap.size w w') => sbest_any N X i A cap ps AV capv vs x AU cq [] w' (h.kept hb (Nat.le_refl _)) (hv.kept hb (Nat.le_refl _)) hg hx1 hx2 hi (.inl rfl) (.inl rfl) P hP ok (by rw [hpe]; exact hr))
  have HOK := Lib.hid (show decide ((0 : Int) ≤ resV ok hP) = ok from by
    rcases hr with ⟨rfl, _, _, rfl, _⟩ | ⟨rfl, _, _, _⟩ <;> rfl)
  clear hs h hv hg hi hr hpe
  generalize resV ok hP = r at *
  have HB0 := Lib.hid (show Below w.heap.size w (w.alloc (.cells #[.int .i64 (N : Int), .slice A ps.length cap] 32)) from (Below.refl _ _).alloc (Nat.le_refl _) _)
  go_enter Try.func25, Try.ntmps25
  go_wp2_with (first
    | (go_at_call 85; refine (HS.out _ HB0.out).mono ?_; rintro e w1 ⟨rfl, hb1⟩; have HB1 := Lib.hid (HB0.out.trans (hb1.mono (by simp))); have hb1' : Below (w.heap.size + 1) (w.alloc (.cells #[.int .i64 (N : Int), .slice A ps.length cap] 32)) w1 := (by simpa using hb1); have HX1 := Lib.hid hb1'; obtain ⟨b0, b1⟩ := box2 hb1'; clear hb1 hb1')
    | (go_at_call 86; refine (HBE.out _ _ _ (HB1.out.alloc HB1.out.size _)).mono ?_; rintro e w2 ⟨g2, c2, rfl, hg2, hO2, hb2, hl2⟩; have HO2 := Lib.hid hO2; have HB2 := Lib.hid ((HB1.out.alloc HB1.out.size (.cells #[] 3)).trans (hb2.mono (HB1.out.alloc HB1.out.size (.cells #[] 3)).size)); have hgs := (HB1.out.alloc HB1.out.size (.cells #[] 3)).size; clear hO2 hb2))
  go_ret2
  exact ⟨g2, 0, c2, by rw [HOK.out]; rfl, Nat.le_trans hgs hg2, HO2.out, HB2.out, hl2⟩

end Go.Proofs.Ytbljmibaemgfeaa.S2

namespace Go.Proofs.Ytbljmibaemgfeaa.S2
open Go.RowKit Go.Sort P2 P4
set_option linter.unusedVariables false

theorem givesIH_none {w w0 : World} (h : Below w0.heap.size w0 w) : GivesIH w0 [] 0 false (.returned (.tuple #[.slice (some ⟨w.heap.size, 0, none⟩) 0 0, .int .i64 0, .bool false])) (w.alloc (.cells #[] 3)) :=
  ⟨_, _, rfl, h.size, own_empty w w0.heap.size h.size, h.alloc h.size _⟩

set_option maxHeartbeats 2000000 in
set_option maxRecDepth 100000 in
theorem gent_no1 (n : Int) (A : Option Addr) (cap : Nat) (ps : List Pp) (AV : Option Addr) (capv : Nat) (vs : List Vv) (X x : Int) (AU : Option Addr) (cq : Nat) (cu : List Int) (w : World) (hs : ∀ w', Below w.heap.size w w' → Calls Try.prog 87 #[nv n A ps.length cap, .slice AV vs.length capv, .int .i64 X, .int .i64 x] w' fun e w'' => e = .returned (.bool false) ∧ Below w'.heap.size w' w'') :
    Calls Try.prog 34 #[nv n A ps.length cap, .slice AV vs.length capv, .int .i64 X, .int .i64 x, .slice AU cu.length cq] w (GivesIH w [] 0 false) := by
  have HS := Lib.hid hs
  clear hs
  have HB0 := Lib.hid (show Below w.heap.size w (w.alloc (.cells #[.int .i64 n, .slice A ps.length cap] 32)) from (Below.refl _ _).alloc (Nat.le_refl _) _)
  go_enter Try.func34, Try.ntmps34
  go_wp2_with (go_at_call 87; refine (HS.out _ HB0.out).mono ?_; rintro e w1 ⟨rfl, hb1⟩; have HB1 := Lib.hid (HB0.out.trans (hb1.mono (by simp))); have hb1' : Below (w.heap.size + 1) (w.alloc (.cells #[.int .i64 n, .slice A ps.length cap] 32)) w1 := (by simpa using hb1); have HX1 := Lib.hid hb1'; obtain ⟨b0, b1⟩ := box2 hb1'; clear hb1 hb1')
  go_ret3
  exact givesIH_none HB1.out

set_option maxHeartbeats 2000000 in
set_option maxRecDepth 100000 in
theorem gent_no2 (n : Int) (A : Option Addr) (cap : Nat) (ps : List Pp) (AV : Option Addr) (capv : Nat) (vs : List Vv) (X x : Int) (AU : Option Addr) (cq : Nat) (cu : List Int) (w : World) (hs : ∀ w', Below w.heap.size w w' → Calls Try.prog 87 #[nv n A ps.length cap, .slice AV vs.length capv, .int .i64 X, .int .i64 x] w' fun e w'' => e = .returned (.bool true) ∧ Below w'.heap.size w' w'') (hu : IAt w AU cu) (hul : cu.length ≤ 1048576) (hq : custB n cu = false) :
    Calls Try.prog 34 #[nv n A ps.length cap, .slice AV vs.length capv, .int .i64 X, .int .i64 x, .slice AU cu.length cq] w (GivesIH w [] 0 false) := by
  have HS := Lib.hid hs
  have HC := Lib.hid (fun w' (hb : Below w.heap.size w w') => arecust_v hq A ps.length cap AU cq w' (hu.kept hb (Nat.le_refl _)) hul)
  clear hs hu hul hq
  have HB0 := Lib.hid (show Below w.heap.size w (w.alloc (.cells #[.int .i64 n, .slice A ps.length cap] 32)) from (Below.refl _ _).alloc (Nat.le_refl _) _)
  go_enter Try.func34, Try.ntmps34
  go_wp2_with (first
    | (go_at_call 87; refine (HS.out _ HB0.out).mono ?_; rintro e w1 ⟨rfl, hb1⟩; have HB1 := Lib.hid (HB0.out.trans (hb1.mono (by simp))); have hb1' : Below (w.heap.size + 1) (w.alloc (.cells #[.int .i64 n, .slice A ps.length cap] 32)) w1 := (by simpa using hb1); have HX1 := Lib.hid hb1'; obtain ⟨b0, b1⟩ := box2 hb1'; clear hb1 hb1')
    | (go_at_call 93; refine (HC.out _ HB1.out).mono ?_; rintro e w2 ⟨rfl, hb2⟩; have HB2 := Lib.hid (HB1.out.trans (hb2.mono HB1.out.size)); have hx2 := on_call HX1.out hb2; have HX2 := Lib.hid hx2; clear b0 b1; obtain ⟨b0, b1⟩ := box2 hx2; clear hb2 hx2))
  go_ret3
  exact givesIH_none HB2.out

set_option maxHeartbeats 2000000 in
set_option maxRecDepth 100000 in
theorem sgent_no1 (n : Int) (A : Option Addr) (cap : Nat) (ps : List Pp) (AV : Option Addr) (capv : Nat) (vs : List Vv) (X x : Int) (AU : Option Addr) (cq : Nat) (cu : List Int) (w : World) (hs : ∀ w', Below w.heap.size w w' → Calls Try.prog 85 #[nv n A ps.length cap, .slice AV vs.length capv, .int .i64 X, .int .i64 x] w' fun e w'' => e = .returned (.bool false) ∧ Below w'.heap.size w' w'') :
    Calls Try.prog 33 #[nv n A ps.length cap, .slice AV vs.length capv, .int .i64 X, .int .i64 x, .slice AU cu.length cq] w (GivesAH w [] 0 false) := by
  have HS := Lib.hid hs
  clear hs
  have HB0 := Lib.hid (show Below w.heap.size w (w.alloc (.cells #[.int .i64 n, .slice A ps.length cap] 32)) from (Below.refl _ _).alloc (Nat.le_refl _) _)
  go_enter Try.func33, Try.ntmps33
  go_wp2_with (go_at_call 85; refine (HS.out _ HB0.out).mono ?_; rintro e w1 ⟨rfl, hb1⟩; have HB1 := Lib.hid (HB0.out.trans (hb1.mono (by simp))); have hb1' : Below (w.heap.size + 1) (w.alloc (.cells #[.int .i64 n, .slice A ps.length cap] 32)) w1 := (by simpa using hb1); have HX1 := Lib.hid hb1'; obtain ⟨b0, b1⟩ := box2 hb1'; clear hb1 hb1')
  go_ret3
  exact (givesIH_none HB1.out).any

set_option maxHeartbeats 2000000 in
set_option maxRecDepth 100000 in
theorem sgent_no2 (n : Int) (A : Option Addr) (cap : Nat) (ps : List Pp) (AV : Option Addr) (capv : Nat) (vs : List Vv) (X x : Int) (AU : Option Addr) (cq : Nat) (cu : List Int) (w : World) (hs : ∀ w', Below w.heap.size w w' → Calls Try.prog 85 #[nv n A ps.length cap, .slice AV vs.length capv, .int .i64 X, .int .i64 x] w' fun e w'' => e = .returned (.bool true) ∧ Below w'.heap.size w' w'') (hu : IAt w AU cu) (hul : cu.length ≤ 1048576) (hq : custB n cu = false) :
    Calls Try.prog 33 #[nv n A ps.length cap, .slice AV vs.length capv, .int .i64 X, .int .i64 x, .slice AU cu.length cq] w (GivesAH w [] 0 false) := by
  have HS := Lib.hid hs
  have HC := Lib.hid (fun w' (hb : Below w.heap.size w w') => scust_v hq A ps.length cap AU cq w' (hu.kept hb (Nat.le_refl _)) hul)
  clear hs hu hul hq
  have HB0 := Lib.hid (show Below w.heap.size w (w.alloc (.cells #[.int .i64 n, .slice A ps.length cap] 32)) from (Below.refl _ _).alloc (Nat.le_refl _) _)
  go_enter Try.func33, Try.ntmps33
  go_wp2_with (first
    | (go_at_call 85; refine (HS.out _ HB0.out).mono ?_; rintro e w1 ⟨rfl, hb1⟩; have HB1 := Lib.hid (HB0.out.trans (hb1.mono (by simp))); have hb1' : Below (w.heap.size + 1) (w.alloc (.cells #[.int .i64 n, .slice A ps.length cap] 32)) w1 := (by simpa using hb1); have HX1 := Lib.hid hb1'; obtain ⟨b0, b1⟩ := box2 hb1'; clear hb1 hb1')
    | (go_at_call 91; refine (HC.out _ HB1.out).mono ?_; rintro e w2 ⟨rfl, hb2⟩; have HB2 := Lib.hid (HB1.out.trans (hb2.mono HB1.out.size)); have hx2 := on_call HX1.out hb2; have HX2 := Lib.hid hx2; clear b0 b1; obtain ⟨b0, b1⟩ := box2 hx2; clear hb2 hx2))
  go_ret3
  exact (givesIH_none HB2.out).any

set_option maxHeartbeats 8000000 in
set_option maxRecDepth 100000 in
theorem sgent_yes (N X i : Nat) (A : Option Addr) (cap : Nat) (ps : List Pp) (AV : Option Addr) (capv : Nat) (vs : List Vv) (x : Int) (AU : Option Addr) (cq : Nat) (cu : List Int) (w : World) (hs : ∀ w', Below w.heap.size w w' → Calls Try.prog 85 #[nv N A ps.length cap, .slice AV vs.length capv, .int .i64 (X : Int), .int .i64 x] w' fun e w'' => e = .returned (.bool true) ∧ Below w'.heap.size w' w'') (hu : IAt w AU cu) (hul : cu.length ≤ 1048576) (hq : custB N cu = true) (h : PAt w A ps) (hv : VAt w AV vs) (hg : P4.Good N ps vs) (hx1 : 1 ≤ X) (hx2 : X ≤ N) (hi : At ps x i) (P : List Int) (hP : Int) (ok : Bool) (hr : Res vs (cutB ps vs X i) (harmP N ps vs X cu) ok P hP) :
    Calls Try.prog 33 #[nv N A ps.length cap, .slice AV vs.length capv, .int .i64 (X : Int), .int .i64 x, .slice AU cu.length cq] w (GivesAH w P hP ok) := by
  have HS := Lib.hid hs
  have HC := Lib.hid (fun w' (hb : Below w.heap.size w w') => scust_v hq A ps.length cap AU cq w' (hu.kept hb (Nat.le_refl _)) hul)
  have HBE := Lib.hid (fun w' (hb : Below w.heap.size w w') => sbest_any N X i A cap ps AV capv vs x AU cq cu w' (h.kept hb (Nat.le_refl _)) (hv.kept hb (Nat.le_refl _)) hg hx1 hx2 hi (hu.kept hb (Nat.le_refl _)) (.inr (custB_of hq)) P hP ok hr)
  have HPOS := Lib.hid (harmP_pos (custB_of hq).2 P (N := N) (ps := ps) (vs := vs) (X := X))
  have HB0 := Lib.hid (show Below w.heap.size w (w.alloc (.cells #[.int .i64 (N : Int), .slice A ps.length cap] 32)) from (Below.refl _ _).alloc (Nat.le_refl _) _)
  rcases hr with ⟨rfl, _, _, hh, _⟩ | ⟨rfl, rfl, rfl, _⟩
  · have hp0 : 0 ≤ hP := by rw [hh]; exact HPOS.out
    have hp1 : ¬ hP < 0 := by omega
    have HB9 : Hid (∀ w' (hb : Below w.heap.size w w'), Calls Try.prog 86 #[nv N A ps.length cap, .slice AV vs.length capv, .int .i64 (X : Int), .int .i64 x, .slice AU cu.length cq] w' (GivesB w' P hP)) := HBE
    clear hs h hv hg hi hu hul hq hh HBE
    go_enter Try.func33, Try.ntmps33
    go_wp2_with (first
      | (go_at_call 85; refine (HS.out _ HB0.out).mono ?_; rintro e w1 ⟨rfl, hb1⟩; have HB1 := Lib.hid (HB0.out.trans (hb1.mono (by simp))); have hb1' : Below (w.heap.size + 1) (w.alloc (.cells #[.int .i64 (N : Int), .slice A ps.length cap] 32)) w1 := (by simpa using hb1); have HX1 := Lib.hid hb1'; obtain ⟨b0, b1⟩ := box2 hb1'; clear hb1 hb1')
      | (go_at_call 91; refine (HC.out _ HB1.out).mono ?_; rintro e w2 ⟨rfl, hb2⟩; have HB2 := Lib.hid (HB1.out.trans (hb2.mono HB1.out.size)); have hx2 := on_call HX1.out hb2; have HX2 := Lib.hid hx2; clear b0 b1; obtain ⟨b0, b1⟩ := box2 hx2; clear hb2 hx2)
      | (go_at_call 86; refine (HB9.out _ HB2.out).mono ?_; rintro e w3 ⟨g3, c3, rfl, hg3, hO3, hb3, hl3⟩; have HO3 := Lib.hid hO3; have HB3 := Lib.hid (HB2.out.trans (hb3.mono HB2.out.size)); clear hO3 hb3))
    go_ret3
    exact ⟨g3, 0, c3, rfl, Nat.le_trans HB2.out.size hg3, HO3.out, HB3.out, hl3⟩
  · have HB9 : Hid (∀ w' (hb : Below w.heap.size w w'), Calls Try.prog 86 #[nv N A ps.length cap, .slice AV vs.length capv, .int .i64 (X : Int), .int .i64 x, .slice AU cu.length cq] w' (GivesB w' [] (-1))) := HBE
    clear hs h hv hg hi hu hul hq HBE
    go_enter Try.func33, Try.ntmps33
    go_wp2_with (first
      | (go_at_call 85; refine (HS.out _ HB0.out).mono ?_; rintro e w1 ⟨rfl, hb1⟩; have HB1 := Lib.hid (HB0.out.trans (hb1.mono (by simp))); have hb1' : Below (w.heap.size + 1) (w.alloc (.cells #[.int .i64 (N : Int), .slice A ps.length cap] 32)) w1 := (by simpa using hb1); have HX1 := Lib.hid hb1'; obtain ⟨b0, b1⟩ := box2 hb1'; clear hb1 hb1')
      | (go_at_call 91; refine (HC.out _ HB1.out).mono ?_; rintro e w2 ⟨rfl, hb2⟩; have HB2 := Lib.hid (HB1.out.trans (hb2.mono HB1.out.size)); have hx2 := on_call HX1.out hb2; have HX2 := Lib.hid hx2; clear b0 b1; obtain ⟨b0, b1⟩ := box2 hx2; clear hb2 hx2)
      | (go_at_call 86; refine (HB9.out _ HB2.out).mono ?_; rintro e w3 ⟨g3, c3, rfl, hg3, hO3, hb3, hl3⟩; have HO3 := Lib.hid hO3; have HB3 := Lib.hid (HB2.out.trans (hb3.mono HB2.out.size)); clear hO3 hb3))
    go_ret3
    exact (givesIH_none HB3.out).any

set_option maxHeartbeats 8000000 in
set_option maxRecDepth 100000 in
theorem gent_yes (N X i : Nat) (A : Option Addr) (cap : Nat) (ps : List Pp) (AV : Option Addr) (capv : Nat) (vs : List Vv) (x : Int) (AU : Option Addr) (cq : Nat) (cu : List Int) (w : World) (hs : ∀ w', Below w.heap.size w w' → Calls Try.prog 87 #[nv N A ps.length cap, .slice AV vs.length capv, .int .i64 (X : Int), .int .i64 x] w' fun e w'' => e = .returned (.bool true) ∧ Below w'.heap.size w' w'') (hu : IAt w AU cu) (hul : cu.length ≤ 1048576) (hq : custB N cu = true) (h : PAt w A ps) (hv : VAt w AV vs) (hg : P4.Good N ps vs) (hX : X < 9) (hi : At ps x i) (P : List Int) (hP : Int) (ok : Bool) (hr : Res vs (cutB ps vs X i) (fun l => sumL cu (nodesL N (wetP ps vs X l) false)) ok P hP) :
    Calls Try.prog 34 #[nv N A ps.length cap, .slice AV vs.length capv, .int .i64 (X : Int), .int .i64 x, .slice AU cu.length cq] w (GivesIH w P hP ok) := by
  have HS := Lib.hid hs
  have HC := Lib.hid (fun w' (hb : Below w.heap.size w w') => arecust_v hq A ps.length cap AU cq w' (hu.kept hb (Nat.le_refl _)) hul)
  have HHT := Lib.hid (fun w' => harmto_any N A cap ps AU cq cu w')
  have HBE := Lib.hid (fun M U w' (hb : Below w.heap.size w w') (hx : HX w' M U N A cap ps AU cq cu) => callsIn_wide.1 (best_harm N X i A cap ps AV capv vs x w' (h.kept hb (Nat.le_refl _)) (hv.kept hb (Nat.le_refl _)) hg hX hi M U (fun s => sumL cu (nodesL N s false)) (fun s w'' hb2 => harmclos_any N A cap ps AU cq cu s M U w'' (h.kept (hb.trans (hb2.mono hb.size)) (Nat.le_refl _)) hg.1 (hu.kept (hb.trans (hb2.mono hb.size)) (Nat.le_refl _)) (custB_of hq) (hx.kept hb2 (Nat.le_refl _))) P hP ok hr))
  have HB0 := Lib.hid (show Below w.heap.size w (w.alloc (.cells #[.int .i64 (N : Int), .slice A ps.length cap] 32)) from (Below.refl _ _).alloc (Nat.le_refl _) _)
  clear hs hu hul hq h hv hg hi hr
  go_enter Try.func34, Try.ntmps34
  go_wp2_with (first
    | (go_at_call 87; refine (HS.out _ HB0.out).mono ?_; rintro e w1 ⟨rfl, hb1⟩; have HB1 := Lib.hid (HB0.out.trans (hb1.mono (by simp))); have hb1' : Below (w.heap.size + 1) (w.alloc (.cells #[.int .i64 (N : Int), .slice A ps.length cap] 32)) w1 := (by simpa using hb1); have HX1 := Lib.hid hb1'; obtain ⟨b0, b1⟩ := box2 hb1'; clear hb1 hb1')
    | (go_at_call 93; refine (HC.out _ HB1.out).mono ?_; rintro e w2 ⟨rfl, hb2⟩; have HB2 := Lib.hid (HB1.out.trans (hb2.mono HB1.out.size)); have hx2 := on_call HX1.out hb2; have HX2 := Lib.hid hx2; clear b0 b1; obtain ⟨b0, b1⟩ := box2 hx2; clear hb2 hx2; refine Hid.out ?_))
  have hw2 : w.heap.size < w2.heap.size := box_lt HX2.out
  refine Lib.hid ?_
  go_upto_region 3 with (fail)
  refine wp_region_held_drew (S := fun w' => w'.cell? ⟨w.heap.size, 0, none⟩ = some (.int .i64 (N : Int)) ∧ w'.cell? ⟨w.heap.size, 1, none⟩ = some (.slice A ps.length cap)) (by kernel_rfl) (by exact ⟨b0, b1⟩) (fun hHeld => ?_)
  refine wpAnyH_take (i := 0) (v := .agg #[.int .i64 (N : Int), .slice A ps.length cap]) rfl (by kernel_rfl) (by kernel_rfl) (by kernel_rfl) (fun _ _ _ h => h) (Or.inl ⟨by rfl, ?_⟩) (by assumption) ?_
  · (intro w hSw; (try dsimp only at hSw); go_simp)
  simp only [Act.put, List.setIfInBounds_toArray]
  refine wpAnyH_take (i := 1) (v := .slice AV vs.length capv) rfl (by kernel_rfl) (by kernel_rfl) (by kernel_rfl) (fun _ _ _ h => h) (Or.inl ⟨by rfl, ?_⟩) (by assumption) ?_
  · (intro w hSw; (try dsimp only at hSw); go_simp)
  simp only [Act.put]
  refine wpAnyH_take (i := 2) (v := .int .i64 (X : Int)) rfl (by kernel_rfl) (by kernel_rfl) (by kernel_rfl) (fun _ _ _ h => h) (Or.inl ⟨by rfl, ?_⟩) (by assumption) ?_
  · (intro w hSw; (try dsimp only at hSw); go_simp)
  simp only [Act.put]
  refine wpAnyH_take (i := 3) (v := .int .i64 x) rfl (by kernel_rfl) (by kernel_rfl) (by kernel_rfl) (fun _ _ _ h => h) (Or.inl ⟨by rfl, ?_⟩) (by assumption) ?_
  · (intro w hSw; (try dsimp only at hSw); go_simp)
  simp only [Act.put]
  refine wpAnyH_take (i := 4) (v := .agg #[.int .i64 (N : Int), .slice A ps.length cap]) rfl (by kernel_rfl) (by kernel_rfl) (by kernel_rfl) (fun _ _ _ h => h) (Or.inl ⟨by rfl, ?_⟩) (by assumption) ?_
  · (intro w hSw; (try dsimp only at hSw); go_simp)
  simp only [Act.put]
  refine wpAnyH_take (i := 5) (v := .slice AU cu.length cq) rfl (by kernel_rfl) (by kernel_rfl) (by kernel_rfl) (fun _ _ _ h => h) (Or.inl ⟨by rfl, ?_⟩) (by assumption) ?_
  · (intro w hSw; (try dsimp only at hSw); go_simp)
  simp only [Act.put]
  have HBD := Lib.hid HB2.out.drew
  refine wpAnyH_ready (rs := [6]) (by kernel_rfl) (by simp) ?_
  refine AllReadyH.cons rfl (fun K hK => ?_) AllReadyH.nil
  go_simp
  go_at_call 94
  refine (HHT.out _).mono ?_
  rintro e w5 ⟨⟨MM, UU, rfl, hx5⟩, hb5⟩
  have HX5 := Lib.hid hx5
  have HB5 := Lib.hid (HBD.out.trans (hb5.mono HBD.out.size))
  have hz5 := hb5.size
  simp at hz5
  clear hx5
  refine hK.out _ _ (by rcases hHeld with ⟨q0, q1⟩; exact ⟨(hb5.cell (p := ⟨w.heap.size, 0, none⟩) (by show w.heap.size < w2.heap.size; omega)).trans q0, (hb5.cell (p := ⟨w.heap.size, 1, none⟩) (by show w.heap.size < w2.heap.size; omega)).trans q1⟩) (fun hHeld => ?_)
  clear hK K
  clear hb5
  refine wpAnyH_ready (rs := [7]) (by kernel_rfl) (by simp) ?_
  refine AllReadyH.cons rfl (fun K hK => ?_) AllReadyH.nil
  go_simp
  go_at_call 88
  refine (HBE.out _ _ _ HB5.out HX5.out).mono ?_
  rintro e w6 ⟨g6, c6, rfl, hg6, hO6, hb6⟩
  have HO6 := Lib.hid hO6
  have HB6 := Lib.hid (HB5.out.trans (hb6.mono HB5.out.size))
  refine hK.out _ _ (by rcases hHeld with ⟨q0, q1⟩; exact ⟨(hb6.cell (p := ⟨w.heap.size, 0, none⟩) (by dsimp only; omega)).trans q0, (hb6.cell (p := ⟨w.heap.size, 1, none⟩) (by dsimp only; omega)).trans q1⟩) (fun hHeld => ?_)
  clear hK K
  clear hb6 hO6
  refine wpAnyH_take (i := 8) (v := .slice (some ⟨g6, 0, none⟩) P.length c6) rfl (by kernel_rfl) (by kernel_rfl) (by kernel_rfl) (fun _ _ _ h => h) (Or.inl ⟨by rfl, ?_⟩) (by assumption) ?_
  · (intro w hSw; (try dsimp only at hSw); go_simp)
  simp only [Act.put, List.setIfInBounds_toArray]
  refine wpAnyH_take (i := 9) (v := .int .i64 hP) rfl (by kernel_rfl) (by kernel_rfl) (by kernel_rfl) (fun _ _ _ h => h) (Or.inl ⟨by rfl, ?_⟩) (by assumption) ?_
  · (intro w hSw; (try dsimp only at hSw); go_simp)
  simp only [Act.put]
  refine wpAnyH_take (i := 10) (v := .bool ok) rfl (by kernel_rfl) (by kernel_rfl) (by kernel_rfl) (fun _ _ _ h => h) (Or.inl ⟨by rfl, ?_⟩) (by assumption) ?_
  · (intro w hSw; (try dsimp only at hSw); go_simp)
  simp only [Act.put]
  refine wpAnyH_ready (rs := [11]) (by kernel_rfl) (by simp) ?_
  refine AllReadyH.cons rfl (fun K hK => ?_) AllReadyH.nil
  go_simp
  refine hK.out _ _ (by first | assumption | go_keep) (fun hHeld => ?_)
  clear hK K
  refine wpAnyH_ready (rs := [12]) (by kernel_rfl) (by simp) ?_
  refine AllReadyH.cons rfl (fun K hK => ?_) AllReadyH.nil
  go_simp
  refine hK.out _ _ (by first | assumption | go_keep) (fun hHeld => ?_)
  clear hK K
  refine wpAnyH_ready (rs := [13]) (by kernel_rfl) (by simp) ?_
  refine AllReadyH.cons rfl (fun K hK => ?_) AllReadyH.nil
  go_simp
  refine hK.out _ _ (by first | assumption | go_keep) (fun hHeld => ?_)
  clear hK K
  refine wpAnyH_done (by kernel_rfl) ?_ _
  go_wp2_with fail
  go_ret3
  exact ⟨g6, c6, rfl, by have := HB5.out.size; omega, own_lower HO6.out (by have := HB5.out.size; omega), HB6.out⟩
end Go.Proofs.Ytbljmibaemgfeaa.S2
