/- What the laws of chapter 11 need: slices of numbers read, owned, compared, copied and marked; a tank as a value; arguments opened. Conditions: each theorem's own premises. -/
import Derived.Test.YtlkomipjamelkaaChecked
import Derived.Test.YtlkomipjamelkaaTkPlain
import Derived.WalkKit
import Derived.ProofKit
import Derived.LoopTactic
import Derived.IntWalk
import Derived.Lib.Hide
import Derived.WalkSpells
import Derived.WalkSmall
import Derived.WalkLawsBesides
import Derived.Outline
import Derived.Below
import Derived.Deep.RegionWith
import Derived.Deep.QuietTactic
import Derived.Deep.OwnRows
import Derived.Deep.AppendLies
import Derived.Deep.Slices
import Derived.Deep.Fields
import Derived.Deep.DeepCutAuto
import Derived.Lib.QuietBelow
import Derived.Lib.SmallJoins
import Derived.BigQuiet
import Derived.Maps.AppendAt
import Derived.Laws.OwnMore
import Derived.Laws.CopyOwn
import Derived.OwnWalk
import Derived.ChangeSame
import Derived.OpenShut
namespace Go.Proofs.Ytlkomipjamelkaa.S11
open Go.RowKit Go.Sort Go.ChangeShapes Go.WideShapes Go.Deep Go.Joins P11

theorem bcell {W w1 : World} (hb : Below W.heap.size W w1) : (∀ b o, b < W.heap.size → w1.cell? ⟨b, o, none⟩ = W.cell? ⟨b, o, none⟩) ∧ (∀ b o, b < W.heap.size → w1.frozen? ⟨b, o, none⟩ = W.frozen? ⟨b, o, none⟩) :=
  ⟨fun b o h => hb.cell (p := ⟨b, o, none⟩) h, fun b o h => hb.frozen (p := ⟨b, o, none⟩) h⟩
theorem in_any (x a b : Int) (w : World) :
    Calls Try.prog 52 #[.int .i64 x, .int .i64 a, .int .i64 b] w fun e w' => e = .returned (.bool (decide (a ≤ x ∧ x ≤ b))) ∧ w' = w := by
  by_cases h1 : a ≤ x
  · have e : decide (a ≤ x ∧ x ≤ b) = decide (x ≤ b) := by simp [h1]
    rw [e]
    go_enter Try.func52, Try.ntmps52
    go_wp2
    go_ret
    exact ⟨rfl, rfl⟩
  · have e : decide (a ≤ x ∧ x ≤ b) = false := by simp [h1]
    rw [e]
    go_enter Try.func52, Try.ntmps52
    go_wp2
    go_ret
    exact ⟨rfl, rfl⟩
theorem in_eq (x a b : Int) (v : Bool) (h : decide (a ≤ x ∧ x ≤ b) = v) (w : World) :
    Calls Try.prog 52 #[.int .i64 x, .int .i64 a, .int .i64 b] w fun e w' => e = .returned (.bool v) ∧ w' = w := by
  rw [← h]; exact in_any x a b w
theorem cell_g (W : World) (d : Nat) (os : Array Obj) (b o : Nat) (h : b < W.heap.size) : (grow (redrawn W d) os).cell? ⟨b, o, none⟩ = W.cell? ⟨b, o, none⟩ :=
  (below_regrown W d os).cell (p := ⟨b, o, none⟩) h
theorem of_regrown {W w' : World} (h : ∃ p : Regrown, w' = grow (redrawn W p.d) p.os) : Below W.heap.size W w' := by
  obtain ⟨p, rfl⟩ := h; exact below_regrown _ _ _
theorem region_below {P : Program} {id : Nat} {Q : Exit → Act → World → Prop} {a : Act} {w : World} {l : List Oper} (hm : P.follows .mixedOrders = true) (hB : Region.lexB .any l.toArray = true)
    (h : wpQuiet P l.toArray (fun w' => ∃ p : Regrown, w' = grow (redrawn w p.d) p.os) (fun a' => ∀ w', Below w.heap.size w w' → Q .normal a' w') l a) : (Code.region id l.toArray true).wp P Q a w :=
  wp_region_quiet_below hm hB (by
    have e : (fun a' => ∀ w', (∃ p : Regrown, w' = grow (redrawn w p.d) p.os) → Q .normal a' w') = fun a' => ∀ w', Below w.heap.size w w' → Q .normal a' w' := by
      funext a'
      refine propext ⟨fun h w' hb => h w' (regrown_of_below hb), fun h w' hb => h w' (of_regrown hb)⟩
    rw [e]; exact h)
/-- A callee whose contract ends in Below, met inside. -/
theorem met {P : Program} {f : FuncId} {args : Array Value} {w : World} {d : Nat} {os : Array Obj} {v : Value}
    (h : ∀ w, Calls P f args w fun e w' => e = .returned v ∧ Below w.heap.size w w') : Calls P f args (grow (redrawn w d) os) fun e w'' => e = .returned v ∧ ∃ p : Regrown, w'' = grow (redrawn w p.d) p.os :=
  Calls.regrown_of (h _)
theorem own_on {A B : World} {base : Nat} {e : TypeId} {size : Nat} {v : Value} {n : Nat} {xs : List Value} (h : A.ownsRow base e size v n xs) (hb : Below A.heap.size A B) : B.ownsRow base e size v n xs :=
  h.kept ⟨hb.os, hb.tape, hb.output, hb.size, fun k hk _ => hb.block k hk⟩ (Classical.or_iff_not_imp_left.2 fun hn => hn)
/-- What was there when the call began, and its first box, stand. -/
theorem below_keep {B : Nat} {w0 wr w1 : World} {o : Obj} (h : Below B w0 wr) (hB : B ≤ wr.heap.size) (hb : Below (wr.alloc o).heap.size (wr.alloc o) w1) : Below B w0 w1 :=
  (h.alloc hB o).trans (hb.mono (by simp; omega))
theorem below_box {w w1 : World} {o : Obj} (h : Below (w.heap.size + 1) (w.alloc o) w1) : Below w.heap.size w w1 :=
  ((Below.refl _ w).alloc (Nat.le_refl _) o).trans (h.mono (by omega))
theorem on_call {w a b : World} {o : Obj} (h : Below (w.heap.size + 1) (w.alloc o) a) (hb : Below a.heap.size a b) : Below (w.heap.size + 1) (w.alloc o) b :=
  h.trans (hb.mono (by have := h.size; simpa using this))
theorem box_lt {w a : World} {o : Obj} (h : Below (w.heap.size + 1) (w.alloc o) a) : w.heap.size < a.heap.size := by have := h.size; simp at this; omega
theorem grown_set {w w' : World} {g : Nat} (h : w.grownBy w' (some g)) (o : Nat) (u : Value) : w.grownBy (w'.setCell ⟨g, o, none⟩ u) (some g) :=
  ⟨h.os, h.tape, h.output, by have := h.size; simpa using this, fun k hk hne => by
    rw [Below.heap_setCell _ _ _ _ (by intro e; exact hne (by rw [e]))]
    exact h.block k hk hne⟩
theorem grown_refl (w : World) (r : Option Nat) : w.grownBy w r := ⟨rfl, rfl, rfl, Nat.le_refl _, fun _ _ _ => rfl⟩
abbrev iv (x : Int) : Value := .int .i64 x
/-- The numbers l lie there. -/
def IAt (w : World) (A : Option Addr) (l : List Int) : Prop :=
  l = [] ∨ ∃ b off, A = some ⟨b, off, none⟩ ∧ b < w.heap.size ∧ ∀ i, i < l.length → w.cell? ⟨b, off + i, none⟩ = some (iv (l.getD i 0))
theorem IAt.kept {w w' : World} {A : Option Addr} {l : List Int} {B : Nat} (h : IAt w A l) (hb : Below B w w') (hB : w.heap.size ≤ B) : IAt w' A l := by
  rcases h with h | ⟨b, off, hA, hlt, h⟩
  · exact .inl h
  · exact .inr ⟨b, off, hA, Nat.lt_of_lt_of_le hlt hb.size, fun i hi => (hb.cell (p := ⟨b, off + i, none⟩) (by show b < B; omega)).trans (h i hi)⟩
theorem IAt.at_ {w : World} {A : Option Addr} {l : List Int} (h : IAt w A l) {i : Nat} (hi : i < l.length) : ∃ b off, A = some ⟨b, off, none⟩ ∧ b < w.heap.size ∧ w.cell? ⟨b, off + i, none⟩ = some (iv (l.getD i 0)) := by
  rcases h with h | ⟨b, off, hA, hlt, h⟩
  · subst h; simp at hi
  · exact ⟨b, off, hA, hlt, h i hi⟩
/-- A row of the call's own. -/
def IOwn (w : World) (B : Nat) (v : Value) (l : List Int) : Prop := w.ownsRow B 3 1 v l.length (l.map iv)
theorem IOwn.iat {w : World} {B cap : Nat} {A : Option Addr} {l : List Int} (h : IOwn w B (.slice A l.length cap) l) : IAt w A l := by
  unfold IOwn at h
  rcases Nat.eq_zero_or_pos l.length with h0 | h0
  · exact .inl (List.length_eq_zero_iff.1 h0)
  · obtain ⟨g, cap', hv, _, hlt⟩ := h.form h0
    injection hv with hA
    subst hA
    refine .inr ⟨g, 0, rfl, hlt, fun i hi => ?_⟩
    rw [Nat.zero_add, h.cellAt i (by omega)]
    simp [List.getD, hi]
theorem IOwn.on {A B : World} {base : Nat} {v : Value} {l : List Int} (h : IOwn A base v l) (hb : Below A.heap.size A B) : IOwn B base v l := own_on h hb
theorem IOwn.push {w : World} {B : Nat} {v : Value} {l : List Int} {x : Int} (h : w.ownsRow B 3 1 v (l.length + 1) (l.map iv ++ [iv x])) : IOwn w B v (l ++ [x]) := by
  unfold IOwn
  rw [List.length_append, List.map_append]
  exact h
theorem own_lower {w : World} {B B' : Nat} {v : Value} {l : List Int} (h : IOwn w B v l) (hB : B' ≤ B := by omega) : IOwn w B' v l := by
  refine ⟨h.1, ?_⟩
  rcases h.2 with h2 | ⟨g, cap, cur, hv, hb, rest⟩
  · exact .inl h2
  · exact .inr ⟨g, cap, cur, hv, by omega, rest⟩
theorem infoI : (Try.prog.info? 3).map (fun i => (i.zero, i.size, i.bytes)) = some (some (.int .i64 0), 1, 8) := by kernel_rfl
/-- A fresh slice of numbers beside a bool. -/
def GivesI (w : World) (l : List Int) (ok : Bool) (e : Ending) (w' : World) : Prop :=
  ∃ g cap, e = .returned (.tuple #[.slice (some ⟨g, 0, none⟩) l.length cap, .bool ok]) ∧ w.heap.size ≤ g ∧ IOwn w' w.heap.size (.slice (some ⟨g, 0, none⟩) l.length cap) l ∧ Below w.heap.size w w'
/-- A slice of numbers beside a bool, made by the call, wherever it starts. -/
def GivesA (w : World) (l : List Int) (ok : Bool) (e : Ending) (w' : World) : Prop :=
  ∃ g o cap, e = .returned (.tuple #[.slice (some ⟨g, o, none⟩) l.length cap, .bool ok]) ∧ w.heap.size ≤ g ∧ IAt w' (some ⟨g, o, none⟩) l ∧ Below w.heap.size w w' ∧ g < w'.heap.size
theorem own_empty (w : World) (B : Nat) (hB : B ≤ w.heap.size) : IOwn (w.alloc (.cells #[] 3)) B (.slice (some ⟨w.heap.size, 0, none⟩) 0 0) [] :=
  ⟨rfl, .inr ⟨w.heap.size, 0, #[], rfl, hB, by simpa using (MapKept.heap_alloc w (.cells #[] 3)).1, Nat.le_refl _, Nat.zero_le _, rfl, rfl⟩⟩
theorem GivesI.any {w : World} {l : List Int} {ok : Bool} {e : Ending} {w' : World} (h : GivesI w l ok e w') : GivesA w l ok e w' := by
  obtain ⟨g, cap, he, hg, ho, hb⟩ := h
  exact ⟨g, 0, cap, he, hg, ho.iat, hb, (World.ownsRow.lt ho g rfl).2⟩
theorem own_slice {w : World} {B : Nat} {v : Value} {l : List Int} (h : IOwn w B v l) (hne : v ≠ .slice none 0 0) : ∃ g cap, v = .slice (some ⟨g, 0, none⟩) l.length cap ∧ B ≤ g := by
  rcases h.2 with ⟨hv, _⟩ | ⟨g, cap, cur, hv, hb, _⟩
  · exact absurd hv hne
  · exact ⟨g, cap, hv, hb⟩
theorem cell_new2 (w : World) (P : Obj) (x : Value) (t : TypeId) : ∀ j u, [x][j]? = some u → ((w.alloc P).alloc (.cells #[x] t)).cell? ((⟨w.heap.size + 1, 0, none⟩ : Addr).add j) = some u := by
  have h := cell_one_new (w.alloc P) x t
  rwa [show (w.alloc P).heap.size = w.heap.size + 1 by simp] at h
set_option maxHeartbeats 1000000 in
theorem eqints_same (A A2 : Option Addr) (cap cap2 : Nat) (l : List Int) (w : World) (h : IAt w A l) (h2 : IAt w A2 l) (hn : l.length ≤ 1048576) :
    Calls Try.prog 19 #[.slice A l.length cap, .slice A2 l.length cap2] w fun e w' => e = .returned (.bool true) ∧ Below w.heap.size w w' := by
  have HA := Lib.hid h
  have HA2 := Lib.hid h2
  clear h h2
  go_enter Try.func19, Try.ntmps19
  go_wp2
  go_loopw [5] (fun i wr => ∃ (k d : Nat), k ≤ l.length ∧ i = .int .i64 k ∧ wr = w.drewN d) (fun i _ => l.length - (intOf i).toNat)
  case atStart => exact ⟨0, 0, Nat.zero_le _, rfl, rfl⟩
  case round =>
    obtain ⟨k, d, hk, rfl, rfl⟩ := hrel
    by_cases hlt : k < l.length
    · obtain ⟨b, off, hA, hbl, h0⟩ := HA.out.at_ hlt
      obtain ⟨b2, off2, hA2, hbl2, g0⟩ := HA2.out.at_ hlt
      subst hA hA2
      have hk0i : (0 : Int) ≤ (k : Int) := by omega
      have hk1i : (k : Int) < (l.length : Int) := by omega
      generalize l.getD k 0 = x at *
      go_wp2
      go_quiet (fail)
      go_wp2
      go_roundw
      case rel => exact ⟨k + 1, _, by omega, by go_num, rfl⟩
      case measure => simp [intOf]; omega
    · go_wp2
      go_ret
      exact ⟨rfl, below_drewN (Below.refl _ _) d⟩
/-- The numbers from m on. -/
def marksI (m n : Nat) : List Int := (List.range n).map fun i => ((m + i : Nat) : Int)
theorem marksI_len (m n : Nat) : (marksI m n).length = n := by simp [marksI]
theorem marksI_get (m n i : Nat) (h : i < n) : (marksI m n).getD i 0 = ((m + i : Nat) : Int) := by simp [marksI, List.getD, h]
def mkI (m : Nat) (xs : List Value) (j : Nat) : List Value := (marksI m j).map iv ++ xs.drop j
theorem mkI_zero (m : Nat) (xs : List Value) : mkI m xs 0 = xs := by simp [mkI, marksI]
theorem mkI_set (m : Nat) (xs : List Value) (j : Nat) (h : j < xs.length) : (mkI m xs j).set j (iv ((m + j : Nat) : Int)) = mkI m xs (j + 1) := by
  unfold mkI marksI
  rw [List.set_append_right _ _ (by simp), List.range_succ, List.map_append, List.map_append, List.append_assoc]
  congr 1
  simp only [List.length_map, List.length_range, Nat.sub_self]
  rw [List.drop_eq_getElem_cons h]
  rfl
theorem mkI_len (m : Nat) (xs : List Value) (j : Nat) (h : j ≤ xs.length) : (mkI m xs j).length = xs.length := by simp [mkI, marksI]; omega
theorem mkI_has (m : Nat) (xs : List Value) (j : Nat) (h : j < xs.length) : ∃ u, (mkI m xs j)[j]? = some u := by
  have hl := mkI_len m xs j (by omega)
  exact ⟨_, List.getElem?_eq_getElem (by rw [hl]; exact h)⟩
theorem mkI_full (m : Nat) (xs : List Value) : mkI m xs xs.length = (marksI m xs.length).map iv := by simp [mkI]
set_option maxHeartbeats 1000000 in
theorem markints_any (B g cap m : Nat) (l : List Int) (w : World) (h : IOwn w B (.slice (some ⟨g, 0, none⟩) l.length cap) l) (hn : l.length ≤ 1048576) (hm : m ≤ 1048576) :
    Calls Try.prog 27 #[.slice (some ⟨g, 0, none⟩) l.length cap, .int .i64 (m : Int)] w fun e w' => e = .returned (.int .i64 ((m + l.length : Nat) : Int)) ∧ IOwn w' B (.slice (some ⟨g, 0, none⟩) l.length cap) (marksI m l.length) ∧ Below B w w' := by
  have hB := (World.ownsRow.lt h g rfl).1
  unfold IOwn at h ⊢
  rw [marksI_len]
  have hx : (l.map iv).length = l.length := by simp
  have HF := Lib.hid (show mkI m (l.map iv) l.length = (marksI m l.length).map iv by have := mkI_full m (l.map iv); rwa [hx] at this)
  have HX := Lib.hid hx
  clear hx
  generalize l.length = n at *
  generalize l.map iv = xs at *
  go_enter Try.func27, Try.ntmps27
  go_wp2
  go_loopw [1, 5] (fun k i wr => ∃ j : Nat, j ≤ n ∧ k = .int .i64 ((m + j : Nat) : Int) ∧ i = .int .i64 j ∧ wr.ownsRow B 3 1 (.slice (some ⟨g, 0, none⟩) n cap) n (mkI m xs j) ∧ Below B w wr) (fun _ i _ => n - (intOf i).toNat)
  case atStart => exact ⟨0, Nat.zero_le _, rfl, rfl, by rw [mkI_zero]; exact h, Below.refl _ _⟩
  case round =>
    obtain ⟨j, hj, rfl, rfl, hown, hb⟩ := hrel
    clear h
    by_cases hlt : j < n
    · have hset := Lib.hid (mkI_set m xs j (by rw [HX.out]; exact hlt))
      obtain ⟨u, hu⟩ := mkI_has m xs j (by rw [HX.out]; exact hlt)
      have hcell := (hown.cellAt j (by omega)).trans hu
      have hfz := hown.frozenAt j
      have HO := Lib.hid hown
      have hjn : m + j + 1 = m + (j + 1) := by omega
      clear hown hu
      go_wp2
      have hst := HO.out.stored j (iv ((m + j : Nat) : Int))
      rw [hset.out] at hst
      go_roundw
      case rel => exact ⟨j + 1, by omega, by go_num, by go_num, hst.1, hb.setCell (p := ⟨g, j, none⟩) hB _⟩
      case measure => simp [intOf]; omega
    · have hjn : j = n := by omega
      subst hjn
      go_wp2
      go_ret
      exact ⟨rfl, by rw [← HF.out]; exact hown, hb⟩
set_option maxHeartbeats 1000000 in
theorem heldints_any (A : Option Addr) (cap m n : Nat) (w : World) (h : IAt w A (marksI m n)) (hn : n ≤ 1048576) (hm : m ≤ 1048576) :
    Calls Try.prog 28 #[.slice A n cap, .int .i64 (m : Int)] w fun e w' => e = .returned (.int .i64 ((m + n : Nat) : Int)) ∧ Below w.heap.size w w' := by
  have HA := Lib.hid h
  clear h
  go_enter Try.func28, Try.ntmps28
  go_wp2
  go_loopw [1, 5] (fun k i wr => ∃ j : Nat, j ≤ n ∧ k = .int .i64 ((m + j : Nat) : Int) ∧ i = .int .i64 j ∧ Below w.heap.size w wr) (fun _ i _ => n - (intOf i).toNat)
  case atStart => exact ⟨0, Nat.zero_le _, rfl, rfl, Below.refl _ _⟩
  case round =>
    obtain ⟨j, hj, rfl, rfl, hb⟩ := hrel
    by_cases hlt : j < n
    · obtain ⟨b, off, hA, hbl, h0⟩ := HA.out.at_ (i := j) (by rw [marksI_len]; exact hlt)
      subst hA
      rw [marksI_get m n j hlt] at h0
      obtain ⟨hc, hf⟩ := bcell hb
      have hjn : m + j + 1 = m + (j + 1) := by omega
      go_wp2
      go_roundw
      case rel => exact ⟨j + 1, by omega, by go_num, by go_num, hb⟩
      case measure => simp [intOf]; omega
    · have hjn : j = n := by omega
      subst hjn
      go_wp2
      go_ret
      exact ⟨rfl, hb⟩
theorem IAt.low {w w' : World} {g o B : Nat} {l : List Int} (h : IAt w (some ⟨g, o, none⟩) l) (hb : Below B w w') (hg : g < B) : IAt w' (some ⟨g, o, none⟩) l := by
  rcases h with h | ⟨b, off, hA, hlt, h⟩
  · exact .inl h
  · simp only [Option.some.injEq, Addr.mk.injEq, and_true] at hA
    obtain ⟨rfl, rfl⟩ := hA
    exact .inr ⟨g, o, rfl, Nat.lt_of_lt_of_le hlt hb.size, fun i hi => (hb.cell (p := ⟨g, o + i, none⟩) hg).trans (h i hi)⟩
theorem IAt.far {w w' : World} {g o x : Nat} {l : List Int} (h : IAt w (some ⟨g, o, none⟩) l) (hb : w.grownBy w' (some x)) (hg : g ≠ x) : IAt w' (some ⟨g, o, none⟩) l := by
  rcases h with h | ⟨b, off, hA, hlt, h⟩
  · exact .inl h
  · simp only [Option.some.injEq, Addr.mk.injEq, and_true] at hA
    obtain ⟨rfl, rfl⟩ := hA
    exact .inr ⟨g, o, rfl, Nat.lt_of_lt_of_le hlt hb.size, fun i hi => (World.cell?_of_block (hb.block g hlt (by simp; exact hg))).trans (h i hi)⟩
theorem IOwn.far {w w' : World} {B g cap x : Nat} {l : List Int} (h : IOwn w B (.slice (some ⟨g, 0, none⟩) l.length cap) l) (hb : w.grownBy w' (some x)) (hg : g ≠ x) : IOwn w' B (.slice (some ⟨g, 0, none⟩) l.length cap) l :=
  World.ownsRow.kept h hb (.inr (by simp [Value.ownBlock]; exact hg))
theorem iown_lt {w : World} {B g n cap : Nat} {l : List Int} (h : IOwn w B (.slice (some ⟨g, 0, none⟩) n cap) l) : g < w.heap.size := (World.ownsRow.lt h g rfl).2
theorem iown_lt' {w : World} {B g n cap : Nat} {l : List Int} (h : IOwn w B (.slice (some ⟨g, 0, none⟩) n cap) l) : g < w.heap.size := iown_lt h
theorem iown_base {w : World} {B g n cap : Nat} {l : List Int} (h : IOwn w B (.slice (some ⟨g, 0, none⟩) n cap) l) : B ≤ g := (World.ownsRow.lt h g rfl).1
theorem IOwn.iat_marks {w : World} {B g n m cap : Nat} (h : IOwn w B (.slice (some ⟨g, 0, none⟩) n cap) (marksI m n)) : IAt w (some ⟨g, 0, none⟩) (marksI m n) := by
  have e : n = (marksI m n).length := (marksI_len m n).symm
  have h' : IOwn w B (.slice (some ⟨g, 0, none⟩) (marksI m n).length cap) (marksI m n) := by rw [← e]; exact h
  exact h'.iat
set_option maxHeartbeats 1000000 in
theorem markints_far (B g cap m : Nat) (l : List Int) (w : World) (h : IOwn w B (.slice (some ⟨g, 0, none⟩) l.length cap) l) (hn : l.length ≤ 1048576) (hm : m ≤ 104857600) :
    Calls Try.prog 27 #[.slice (some ⟨g, 0, none⟩) l.length cap, .int .i64 (m : Int)] w fun e w' => e = .returned (.int .i64 ((m + l.length : Nat) : Int)) ∧ IOwn w' B (.slice (some ⟨g, 0, none⟩) l.length cap) (marksI m l.length) ∧ w.grownBy w' (some g) := by
  have hB := (World.ownsRow.lt h g rfl).1
  unfold IOwn at h ⊢
  rw [marksI_len]
  have hx : (l.map iv).length = l.length := by simp
  have HF := Lib.hid (show mkI m (l.map iv) l.length = (marksI m l.length).map iv by have := mkI_full m (l.map iv); rwa [hx] at this)
  have HX := Lib.hid hx
  clear hx
  generalize l.length = n at *
  generalize l.map iv = xs at *
  go_enter Try.func27, Try.ntmps27
  go_wp2
  go_loopw [1, 5] (fun k i wr => ∃ j : Nat, j ≤ n ∧ k = .int .i64 ((m + j : Nat) : Int) ∧ i = .int .i64 j ∧ wr.ownsRow B 3 1 (.slice (some ⟨g, 0, none⟩) n cap) n (mkI m xs j) ∧ w.grownBy wr (some g)) (fun _ i _ => n - (intOf i).toNat)
  case atStart => exact ⟨0, Nat.zero_le _, rfl, rfl, by rw [mkI_zero]; exact h, World.grownBy.refl _ _⟩
  case round =>
    obtain ⟨j, hj, rfl, rfl, hown, hb⟩ := hrel
    clear h
    by_cases hlt : j < n
    · have hset := Lib.hid (mkI_set m xs j (by rw [HX.out]; exact hlt))
      obtain ⟨u, hu⟩ := mkI_has m xs j (by rw [HX.out]; exact hlt)
      have hcell := (hown.cellAt j (by omega)).trans hu
      have hfz := hown.frozenAt j
      have HO := Lib.hid hown
      have hjn : m + j + 1 = m + (j + 1) := by omega
      clear hown hu
      go_wp2
      have hst := HO.out.stored j (iv ((m + j : Nat) : Int))
      rw [hset.out] at hst
      go_roundw
      case rel => exact ⟨j + 1, by omega, by go_num, by go_num, hst.1, grown_set hb _ _⟩
      case measure => simp [intOf]; omega
    · have hjn : j = n := by omega
      subst hjn
      go_wp2
      go_ret
      exact ⟨rfl, by rw [← HF.out]; exact hown, hb⟩
theorem markints_i (B g cap m : Nat) (mi : Int) (l : List Int) (w : World) (h : IOwn w B (.slice (some ⟨g, 0, none⟩) l.length cap) l) (hn : l.length ≤ 1048576) (hm : m ≤ 104857600) (hmi : mi = (m : Int)) :
    Calls Try.prog 27 #[.slice (some ⟨g, 0, none⟩) l.length cap, .int .i64 mi] w fun e w' => e = .returned (.int .i64 (mi + (l.length : Int))) ∧ IOwn w' B (.slice (some ⟨g, 0, none⟩) l.length cap) (marksI m l.length) ∧ w.grownBy w' (some g) := by
  subst hmi
  exact (markints_far B g cap m l w h hn hm).mono fun _ _ ⟨he, ho, hg⟩ => ⟨by rw [he]; congr 2, ho, hg⟩
theorem heldints_i (A : Option Addr) (cap m n : Nat) (mi : Int) (w : World) (h : IAt w A (marksI m n)) (hn : n ≤ 1048576) (hm : m ≤ 1048576) (hmi : mi = (m : Int)) :
    Calls Try.prog 28 #[.slice A n cap, .int .i64 mi] w fun e w' => e = .returned (.int .i64 (mi + (n : Int))) ∧ Below w.heap.size w w' := by
  subst hmi
  exact (heldints_any A cap m n w h hn hm).mono fun _ _ ⟨he, hb⟩ => ⟨by rw [he]; congr 2, hb⟩
def fiI (l : List Int) (j : Nat) : List Value := (l.take j).map iv ++ List.replicate (l.length - j) (iv 0)
theorem fiI_len (l : List Int) (j : Nat) (h : j ≤ l.length) : (fiI l j).length = l.length := by simp [fiI]; omega
theorem fiI_set (l : List Int) (j : Nat) (h : j < l.length) : (fiI l j).set j (iv (l.getD j 0)) = fiI l (j + 1) := by
  unfold fiI
  have e1 : ((l.take j).map iv).length = j := by simp; omega
  have e2 : l.length - j = (l.length - (j + 1)) + 1 := by omega
  have e3 : l.getD j 0 = l[j] := by simp [List.getD, h]
  rw [List.set_append_right _ _ (by omega), e1, Nat.sub_self, e2, List.replicate_succ, List.set_cons_zero, List.take_succ_eq_append_getElem h, List.map_append, e3]
  simp
theorem fiI_has (l : List Int) (j : Nat) (h : j < l.length) : ∃ u, (fiI l j)[j]? = some u := ⟨_, List.getElem?_eq_getElem (by rw [fiI_len l j (by omega)]; exact h)⟩
theorem fiI_full (l : List Int) : fiI l l.length = l.map iv := by simp [fiI]
theorem made_own (l : List Int) (w : World) (hn : l.length ≤ 1048576) : (w.alloc (.cells (madeCells #[.int .i64 0] l.length) 3)).ownsRow w.heap.size 3 1 (.slice (some ⟨w.heap.size, 0, none⟩) l.length l.length) l.length (fiI l 0) := by
  have hs : (madeCells #[Value.int .i64 0] l.length).toList = List.replicate l.length (iv 0) := toList_madeCells_one _ _
  have hz : (madeCells #[Value.int .i64 0] l.length).size = l.length := by rw [← Array.length_toList, hs]; simp
  refine ⟨by simp [fiI], .inr ⟨w.heap.size, l.length, madeCells #[.int .i64 0] l.length, rfl, Nat.le_refl _, heap_alloc_new w _, Nat.le_refl _, by unfold maxLen; omega, by simpa using hz, ?_⟩⟩
  simp [fiI, hs]
set_option maxHeartbeats 2000000 in
theorem toints_any (A : Option Addr) (cap : Nat) (l : List Int) (w : World) (h : IAt w A l) (hn : l.length ≤ 1048576) :
    Calls Try.prog 17 #[.slice A l.length cap] w fun e w' => (∃ g, e = .returned (.slice (some ⟨g, 0, none⟩) l.length l.length) ∧ w.heap.size ≤ g ∧ IOwn w' w.heap.size (.slice (some ⟨g, 0, none⟩) l.length l.length) l) ∧ Below w.heap.size w w' := by
  have HA := Lib.hid h
  have hmk := run_make_row' (P := Try.prog) 24 3 (.int .i64 0) 8 Try.underlying24 infoI rfl .i64 .i64 l.length (by omega) (by omega)
  have HO := Lib.hid (made_own l w hn)
  have HF := Lib.hid (fiI_full l)
  clear h
  go_enter Try.func17, Try.ntmps17
  go_wp2
  clear hmk
  go_loopw [4] (fun i wr => ∃ k : Nat, k ≤ l.length ∧ i = .int .i64 k ∧ Hid (wr.ownsRow w.heap.size 3 1 (.slice (some ⟨w.heap.size, 0, none⟩) l.length l.length) l.length (fiI l k)) ∧ Below w.heap.size w wr) (fun i _ => l.length - (intOf i).toNat)
  case atStart => exact ⟨0, Nat.zero_le _, rfl, HO, (Below.refl _ _).alloc (Nat.le_refl _) _⟩
  case round =>
    obtain ⟨k, hk, rfl, hown, hb⟩ := hrel
    clear HO
    by_cases hlt : k < l.length
    · obtain ⟨b, off, hA, hbl, hx⟩ := HA.out.at_ hlt
      subst hA
      have c1 := (hb.cell (p := ⟨b, off + k, none⟩) hbl).trans hx
      obtain ⟨u, hu⟩ := fiI_has l k hlt
      have hcell := (hown.out.cellAt k (by omega)).trans hu
      have hfz := hown.out.frozenAt k
      have HST := Lib.hid (fiI_set l k hlt)
      generalize l.getD k 0 = x at *
      have hst0 := Lib.hid (hown.out.stored k (iv x))
      clear hx hu
      go_wp2
      have hst := hst0.out
      rw [HST.out] at hst
      go_roundw
      case rel => exact ⟨k + 1, by omega, by go_num, Lib.hid hst.1, hb.setCell (p := ⟨w.heap.size, k, none⟩) (Nat.le_refl _) _⟩
      case measure => simp [intOf]; omega
    · have e : k = l.length := by omega
      subst e
      have hown2 := hown.out
      rw [HF.out] at hown2
      have H2 := Lib.hid hown2
      clear hown hown2
      go_wp2
      go_ret
      exact ⟨⟨_, rfl, Nat.le_refl _, H2.out⟩, hb⟩
section
variable {H : Type} {enc : TypeId × Value → H} {w : World} {spare : Nat → Bool}
theorem intsOne : Try.prog.cellsOf 3 = 1 := by kernel_rfl
theorem add_plus (b off i : Nat) : (⟨b, off, none⟩ : Addr).add i = ⟨b, off + i, none⟩ := by unfold Addr.add; split <;> simp_all
set_option maxRecDepth 100000 in
theorem int_open {r : Reach} {b0 : Nat} {v : Value} {d : DataW H} {p : List MemPlace} (hv : Value.okWide Try.prog w r b0 3 v) (h : DataW.Trod enc Try.prog w 0 (fun _ => true) true 3 v d p) : ∃ n : Int, v = .int .i64 n ∧ -9223372036854775808 ≤ n ∧ n ≤ 9223372036854775807 := by
  obtain ⟨n, hn, _, _, hw⟩ := open_int Try.underlying3 hv h
  refine ⟨n, hn, ?_⟩
  have e1 : IntKind.i64.min = -9223372036854775808 := rfl
  have e2 : IntKind.i64.max = 9223372036854775807 := rfl
  simpa [Lit.wf, e1, e2] using hw
set_option maxRecDepth 100000 in
/-- A law's argument that is a slice of numbers, opened. -/
theorem intsarg_open {r : Reach} {b0 : Nat} {v : Value} {d : DataW H} {p : List MemPlace} (hv : Value.okWide Try.prog w r b0 24 v) (h : DataW.Trod enc Try.prog w 0 (fun _ => true) true 24 v d p) :
    ∃ (A : Option Addr) (cap : Nat) (l : List Int), v = .slice A l.length cap ∧ IAt w A l ∧ l.length ≤ maxLen := by
  obtain ⟨a, len, cp, rfl⟩ := okWide_slice Try.underlying24 hv
  obtain ⟨fuel, h⟩ := h
  rcases open_slice Try.underlying24 h with ⟨hcs, _⟩ | ⟨a', len', cap', m, n, D, Pl, hcs, _, hl, hm, hmm, _, hi⟩
  · injection hcs with hcs
    injection hcs with h1 h2 h3
    subst h1 h2 h3
    exact ⟨none, 0, [], rfl, .inl rfl, by simp⟩
  · injection hcs with hcs
    injection hcs with h1 h2 h3
    subst h1 h2 h3
    have hm' : len ≤ m := by rw [hmm]; split <;> omega
    have hq : ∀ i, ∃ x : Int, i < len → w.cell? (a'.add i) = some (iv x) := by
      intro i
      by_cases hil : i < len
      · obtain ⟨cs', hc, ht⟩ := hi i (by omega)
        rw [intsOne] at hc
        obtain ⟨h4, _, hat⟩ := World.cells?_some hc
        match cs', h4 with
        | [c], _ =>
          obtain ⟨x, e, _⟩ := DataW.trod_int (cs := [c]) Try.underlying3 ht
          injection e with e
          refine ⟨x, fun _ => ?_⟩
          have := hat 0 (by simp)
          rw [e] at this
          simpa [Addr.add] using this
      · exact ⟨0, fun h => absurd h hil⟩
    obtain ⟨f, hf⟩ := Classical.axiomOfChoice hq
    have hlen : ((List.range len).map f).length = len := by simp
    refine ⟨some a', cp, (List.range len).map f, by rw [hlen], ?_, by rw [hlen]; omega⟩
    by_cases h0 : len = 0
    · subst h0; exact .inl rfl
    · obtain ⟨b, off, spot⟩ := a'
      have hspot : spot = none := by
        have := hf 0 (by omega)
        simpa [Addr.add] using World.cell?_spot this
      subst hspot
      have hbl : b < w.heap.size := by
        have := World.block_lt_of_cell? w _ (hf 0 (by omega))
        rw [add_plus] at this
        exact this
      refine .inr ⟨b, off, rfl, hbl, fun i hi' => ?_⟩
      rw [hlen] at hi'
      have e : ((List.range len).map f).getD i 0 = f i := by simp [List.getD, hi']
      have := hf i hi'
      rw [add_plus] at this
      rw [e]; exact this
end
theorem on_base {w0 a b : World} {S : Nat} (h : Below S w0 a) (hS : S ≤ w0.heap.size) (hb : Below a.heap.size a b) : Below S w0 b :=
  h.trans (hb.mono (Nat.le_trans hS h.size))
theorem alloc_below (w : World) (o : Obj) : Below w.heap.size w (w.alloc o) := (Below.refl _ _).alloc (Nat.le_refl _) o
theorem alloc_size (w : World) (o : Obj) : (w.alloc o).heap.size = w.heap.size + 1 := by simp
theorem markints_nil (m : Int) (w : World) :
    Calls Try.prog 27 #[.slice none 0 0, .int .i64 m] w fun e w' => e = .returned (.int .i64 m) ∧ w' = w := by
  go_enter Try.func27, Try.ntmps27
  go_wp2
  go_loopw [1, 5] (fun k i wr => k = .int .i64 m ∧ i = .int .i64 0 ∧ wr = w) (fun _ _ _ => 0)
  case atStart => exact ⟨rfl, rfl, rfl⟩
  case round =>
    obtain ⟨rfl, rfl, rfl⟩ := hrel
    go_wp2
    go_ret
    exact ⟨rfl, rfl⟩
theorem heldints_nil (m : Int) (w : World) :
    Calls Try.prog 28 #[.slice none 0 0, .int .i64 m] w fun e w' => e = .returned (.int .i64 m) ∧ w' = w := by
  go_enter Try.func28, Try.ntmps28
  go_wp2
  go_loopw [1, 5] (fun k i wr => k = .int .i64 m ∧ i = .int .i64 0 ∧ wr = w) (fun _ _ _ => 0)
  case atStart => exact ⟨rfl, rfl, rfl⟩
  case round =>
    obtain ⟨rfl, rfl, rfl⟩ := hrel
    go_wp2
    go_ret
    exact ⟨rfl, rfl⟩
/-- A tank as a value. -/
abbrev tv (L a b : Int) : Value := .agg #[.int .i64 L, .int .i64 a, .int .i64 b]
/-- A tank in its box. -/
abbrev tb (t : TypeId) (L a b : Int) : Obj := .cells #[.int .i64 L, .int .i64 a, .int .i64 b] t
theorem two_below (w : World) (o o2 : Obj) : Below w.heap.size w ((w.alloc o).alloc o2) := (alloc_below w o).trans ((alloc_below _ o2).mono (by simp))
/-- The cells of a box of three. -/
def BT (w : World) (g : Nat) (L a b : Int) : Prop := g < w.heap.size ∧ w.cell? ⟨g, 0, none⟩ = some (.int .i64 L) ∧ w.cell? ⟨g, 1, none⟩ = some (.int .i64 a) ∧ w.cell? ⟨g, 2, none⟩ = some (.int .i64 b)
theorem BT.new (w : World) (t : TypeId) (L a b : Int) : BT (w.alloc (tb t L a b)) w.heap.size L a b := by
  refine ⟨by simp, ?_, ?_, ?_⟩ <;> (rw [World.cell?_alloc_at _ _ _ _ rfl]; rfl)
theorem BT.keep {w w' : World} {g S : Nat} {L a b : Int} (h : BT w g L a b) (hb : Below S w w') (hS : g < S) : BT w' g L a b :=
  ⟨Nat.lt_of_lt_of_le h.1 hb.size, (hb.cell (p := ⟨g, 0, none⟩) hS).trans h.2.1, (hb.cell (p := ⟨g, 1, none⟩) hS).trans h.2.2.1, (hb.cell (p := ⟨g, 2, none⟩) hS).trans h.2.2.2⟩
theorem BT.kept {w w' : World} {g : Nat} {L a b : Int} (h : BT w g L a b) (hb : Below w.heap.size w w') : BT w' g L a b := h.keep hb h.1
theorem BT.far {w w' : World} {g x : Nat} {L a b : Int} (h : BT w g L a b) (hg : w.grownBy w' (some x)) (hne : g ≠ x) : BT w' g L a b :=
  ⟨Nat.lt_of_lt_of_le h.1 hg.size, (hg.cell_far ⟨g, 0, none⟩ h.1 (by simpa using hne)).trans h.2.1, (hg.cell_far ⟨g, 1, none⟩ h.1 (by simpa using hne)).trans h.2.2.1, (hg.cell_far ⟨g, 2, none⟩ h.1 (by simpa using hne)).trans h.2.2.2⟩
theorem BT.out {w : World} {g : Nat} {L a b : Int} (h : BT w g L a b) : w.cell? ⟨g, 0, none⟩ = some (.int .i64 L) ∧ w.cell? ⟨g, 1, none⟩ = some (.int .i64 a) ∧ w.cell? ⟨g, 2, none⟩ = some (.int .i64 b) := h.2
theorem new_lt (w : World) (o : Obj) : w.heap.size < (w.alloc o).heap.size := by simp
section
variable {H : Type} {enc : TypeId × Value → H} {w : World} {spare : Nat → Bool}
set_option maxRecDepth 100000 in
theorem tk_open {r : Reach} {b0 : Nat} {v : Value} {d : DataW H} {p : List MemPlace} (hv : Value.okWide Try.prog w r b0 23 v) (h : DataW.Trod enc Try.prog w 0 (fun _ => true) true 23 v d p) :
    ∃ L a b : Int, v = tv L a b := by
  obtain ⟨v0, v1, v2, y0, y1, y2, n, rfl, _, _, h0, h1, h2⟩ := open_agg3 Try.underlying23 (by kernel_rfl) (by kernel_rfl) hv h
  obtain ⟨k, e0, _⟩ := DataW.trod_int Try.underlying3 h0
  injection e0 with e0
  obtain ⟨j, e1, _⟩ := DataW.trod_int Try.underlying3 h1
  injection e1 with e1
  obtain ⟨i, e2, _⟩ := DataW.trod_int Try.underlying3 h2
  injection e2 with e2
  exact ⟨k, j, i, by rw [e0, e1, e2]⟩
end
end Go.Proofs.Ytlkomipjamelkaa.S11
