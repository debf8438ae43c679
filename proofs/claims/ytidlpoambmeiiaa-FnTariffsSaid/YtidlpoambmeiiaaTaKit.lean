/- What the laws of chapter 14 need: slices of numbers and of blocks read, owned, compared, copied and marked. Conditions: each theorem's own premises. -/
import Derived.Test.YtidlpoambmeiiaaChecked
import Derived.Test.YtidlpoambmeiiaaTaPlain
import Derived.WalkKit
import Derived.ProofKit
import Derived.LoopTactic
import Derived.IntWalk
import Derived.Lib.Hide
import Derived.WalkSpells
import Derived.WalkSmall
import Derived.WalkLawsBesides
import Derived.Outline
import Derived.Below
import Derived.Deep.RegionWith
import Derived.Deep.QuietTactic
import Derived.Deep.OwnRows
import Derived.Deep.AppendLies
import Derived.Deep.Slices
import Derived.Deep.Fields
import Derived.Deep.DeepCutAuto
import Derived.Lib.QuietBelow
import Derived.Lib.SmallJoins
import Derived.BigQuiet
import Derived.Maps.AppendAt
import Derived.Laws.OwnMore
import Derived.Laws.CopyOwn
import Derived.OwnWalk
import Derived.ChangeSame
import Derived.OpenShut
namespace Go.Proofs.Ytidlpoambmeiiaa.S14
open Go.RowKit Go.Sort Go.ChangeShapes Go.WideShapes Go.Deep Go.Joins P14

theorem bcell {W w1 : World} (hb : Below W.heap.size W w1) : (∀ b o, b < W.heap.size → w1.cell? ⟨b, o, none⟩ = W.cell? ⟨b, o, none⟩) ∧ (∀ b o, b < W.heap.size → w1.frozen? ⟨b, o, none⟩ = W.frozen? ⟨b, o, none⟩) :=
  ⟨fun b o h => hb.cell (p := ⟨b, o, none⟩) h, fun b o h => hb.frozen (p := ⟨b, o, none⟩) h⟩
theorem in_any (x a b : Int) (w : World) :
    Calls Try.prog 60 #[.int .i64 x, .int .i64 a, .int .i64 b] w fun e w' => e = .returned (.bool (decide (a ≤ x ∧ x ≤ b))) ∧ w' = w := by
  by_cases h1 : a ≤ x
  · have e : decide (a ≤ x ∧ x ≤ b) = decide (x ≤ b) := by simp [h1]
    rw [e]
    go_enter Try.func60, Try.ntmps60
    go_wp2
    go_ret
    exact ⟨rfl, rfl⟩
  · have e : decide (a ≤ x ∧ x ≤ b) = false := by simp [h1]
    rw [e]
    go_enter Try.func60, Try.ntmps60
    go_wp2
    go_ret
    exact ⟨rfl, rfl⟩
theorem in_eq (x a b : Int) (v : Bool) (h : decide (a ≤ x ∧ x ≤ b) = v) (w : World) :
    Calls Try.prog 60 #[.int .i64 x, .int .i64 a, .int .i64 b] w fun e w' => e = .returned (.bool v) ∧ w' = w := by
  rw [← h]; exact in_any x a b w
theorem cell_g (W : World) (d : Nat) (os : Array Obj) (b o : Nat) (h : b < W.heap.size) : (grow (redrawn W d) os).cell? ⟨b, o, none⟩ = W.cell? ⟨b, o, none⟩ :=
  (below_regrown W d os).cell (p := ⟨b, o, none⟩) h
theorem of_regrown {W w' : World} (h : ∃ p : Regrown, w' = grow (redrawn W p.d) p.os) : Below W.heap.size W w' := by
  obtain ⟨p, rfl⟩ := h; exact below_regrown _ _ _
theorem region_below {P : Program} {id : Nat} {Q : Exit → Act → World → Prop} {a : Act} {w : World} {l : List Oper} (hm : P.follows .mixedOrders = true) (hB : Region.lexB .any l.toArray = true)
    (h : wpQuiet P l.toArray (fun w' => ∃ p : Regrown, w' = grow (redrawn w p.d) p.os) (fun a' => ∀ w', Below w.heap.size w w' → Q .normal a' w') l a) : (Code.region id l.toArray true).wp P Q a w :=
  wp_region_quiet_below hm hB (by
    have e : (fun a' => ∀ w', (∃ p : Regrown, w' = grow (redrawn w p.d) p.os) → Q .normal a' w') = fun a' => ∀ w', Below w.heap.size w w' → Q .normal a' w' := by
      funext a'
      refine propext ⟨fun h w' hb => h w' (regrown_of_below hb), fun h w' hb => h w' (of_regrown hb)⟩
    rw [e]; exact h)
/-- A callee whose contract ends in Below, met inside. -/
theorem met {P : Program} {f : FuncId} {args : Array Value} {w : World} {d : Nat} {os : Array Obj} {v : Value}
    (h : ∀ w, Calls P f args w fun e w' => e = .returned v ∧ Below w.heap.size w w') : Calls P f args (grow (redrawn w d) os) fun e w'' => e = .returned v ∧ ∃ p : Regrown, w'' = grow (redrawn w p.d) p.os :=
  Calls.regrown_of (h _)
theorem own_on {A B : World} {base : Nat} {e : TypeId} {size : Nat} {v : Value} {n : Nat} {xs : List Value} (h : A.ownsRow base e size v n xs) (hb : Below A.heap.size A B) : B.ownsRow base e size v n xs :=
  h.kept ⟨hb.os, hb.tape, hb.output, hb.size, fun k hk _ => hb.block k hk⟩ (Classical.or_iff_not_imp_left.2 fun hn => hn)
/-- What was there when the call began, and its first box, stand. -/
theorem below_keep {B : Nat} {w0 wr w1 : World} {o : Obj} (h : Below B w0 wr) (hB : B ≤ wr.heap.size) (hb : Below (wr.alloc o).heap.size (wr.alloc o) w1) : Below B w0 w1 :=
  (h.alloc hB o).trans (hb.mono (by simp; omega))
theorem below_box {w w1 : World} {o : Obj} (h : Below (w.heap.size + 1) (w.alloc o) w1) : Below w.heap.size w w1 :=
  ((Below.refl _ w).alloc (Nat.le_refl _) o).trans (h.mono (by omega))
theorem on_call {w a b : World} {o : Obj} (h : Below (w.heap.size + 1) (w.alloc o) a) (hb : Below a.heap.size a b) : Below (w.heap.size + 1) (w.alloc o) b :=
  h.trans (hb.mono (by have := h.size; simpa using this))
theorem box_lt {w a : World} {o : Obj} (h : Below (w.heap.size + 1) (w.alloc o) a) : w.heap.size < a.heap.size := by have := h.size; simp at this; omega
theorem grown_set {w w' : World} {g : Nat} (h : w.grownBy w' (some g)) (o : Nat) (u : Value) : w.grownBy (w'.setCell ⟨g, o, none⟩ u) (some g) :=
  ⟨h.os, h.tape, h.output, by have := h.size; simpa using this, fun k hk hne => by
    rw [Below.heap_setCell _ _ _ _ (by intro e; exact hne (by rw [e]))]
    exact h.block k hk hne⟩
theorem grown_refl (w : World) (r : Option Nat) : w.grownBy w r := ⟨rfl, rfl, rfl, Nat.le_refl _, fun _ _ _ => rfl⟩
abbrev iv (x : Int) : Value := .int .i64 x
/-- The numbers l lie there. -/
def IAt (w : World) (A : Option Addr) (l : List Int) : Prop :=
  l = [] ∨ ∃ b off, A = some ⟨b, off, none⟩ ∧ b < w.heap.size ∧ ∀ i, i < l.length → w.cell? ⟨b, off + i, none⟩ = some (iv (l.getD i 0))
theorem IAt.kept {w w' : World} {A : Option Addr} {l : List Int} {B : Nat} (h : IAt w A l) (hb : Below B w w') (hB : w.heap.size ≤ B) : IAt w' A l := by
  rcases h with h | ⟨b, off, hA, hlt, h⟩
  · exact .inl h
  · exact .inr ⟨b, off, hA, Nat.lt_of_lt_of_le hlt hb.size, fun i hi => (hb.cell (p := ⟨b, off + i, none⟩) (by show b < B; omega)).trans (h i hi)⟩
theorem IAt.at_ {w : World} {A : Option Addr} {l : List Int} (h : IAt w A l) {i : Nat} (hi : i < l.length) : ∃ b off, A = some ⟨b, off, none⟩ ∧ b < w.heap.size ∧ w.cell? ⟨b, off + i, none⟩ = some (iv (l.getD i 0)) := by
  rcases h with h | ⟨b, off, hA, hlt, h⟩
  · subst h; simp at hi
  · exact ⟨b, off, hA, hlt, h i hi⟩
/-- A row of the call's own. -/
def IOwn (w : World) (B : Nat) (v : Value) (l : List Int) : Prop := w.ownsRow B 3 1 v l.length (l.map iv)
theorem IOwn.iat {w : World} {B cap : Nat} {A : Option Addr} {l : List Int} (h : IOwn w B (.slice A l.length cap) l) : IAt w A l := by
  unfold IOwn at h
  rcases Nat.eq_zero_or_pos l.length with h0 | h0
  · exact .inl (List.length_eq_zero_iff.1 h0)
  · obtain ⟨g, cap', hv, _, hlt⟩ := h.form h0
    injection hv with hA
    subst hA
    refine .inr ⟨g, 0, rfl, hlt, fun i hi => ?_⟩
    rw [Nat.zero_add, h.cellAt i (by omega)]
    simp [List.getD, hi]
theorem IOwn.on {A B : World} {base : Nat} {v : Value} {l : List Int} (h : IOwn A base v l) (hb : Below A.heap.size A B) : IOwn B base v l := own_on h hb
theorem IOwn.push {w : World} {B : Nat} {v : Value} {l : List Int} {x : Int} (h : w.ownsRow B 3 1 v (l.length + 1) (l.map iv ++ [iv x])) : IOwn w B v (l ++ [x]) := by
  unfold IOwn
  rw [List.length_append, List.map_append]
  exact h
theorem own_lower {w : World} {B B' : Nat} {v : Value} {l : List Int} (h : IOwn w B v l) (hB : B' ≤ B := by omega) : IOwn w B' v l := by
  refine ⟨h.1, ?_⟩
  rcases h.2 with h2 | ⟨g, cap, cur, hv, hb, rest⟩
  · exact .inl h2
  · exact .inr ⟨g, cap, cur, hv, by omega, rest⟩
theorem infoI : (Try.prog.info? 3).map (fun i => (i.zero, i.size, i.bytes)) = some (some (.int .i64 0), 1, 8) := by kernel_rfl
/-- A fresh slice of numbers beside a bool. -/
def GivesI (w : World) (l : List Int) (ok : Bool) (e : Ending) (w' : World) : Prop :=
  ∃ g cap, e = .returned (.tuple #[.slice (some ⟨g, 0, none⟩) l.length cap, .bool ok]) ∧ w.heap.size ≤ g ∧ IOwn w' w.heap.size (.slice (some ⟨g, 0, none⟩) l.length cap) l ∧ Below w.heap.size w w'
/-- A slice of numbers beside a bool, made by the call, wherever it starts. -/
def GivesA (w : World) (l : List Int) (ok : Bool) (e : Ending) (w' : World) : Prop :=
  ∃ g o cap, e = .returned (.tuple #[.slice (some ⟨g, o, none⟩) l.length cap, .bool ok]) ∧ w.heap.size ≤ g ∧ IAt w' (some ⟨g, o, none⟩) l ∧ Below w.heap.size w w' ∧ g < w'.heap.size
theorem own_empty (w : World) (B : Nat) (hB : B ≤ w.heap.size) : IOwn (w.alloc (.cells #[] 3)) B (.slice (some ⟨w.heap.size, 0, none⟩) 0 0) [] :=
  ⟨rfl, .inr ⟨w.heap.size, 0, #[], rfl, hB, by simpa using (MapKept.heap_alloc w (.cells #[] 3)).1, Nat.le_refl _, Nat.zero_le _, rfl, rfl⟩⟩
theorem GivesI.any {w : World} {l : List Int} {ok : Bool} {e : Ending} {w' : World} (h : GivesI w l ok e w') : GivesA w l ok e w' := by
  obtain ⟨g, cap, he, hg, ho, hb⟩ := h
  exact ⟨g, 0, cap, he, hg, ho.iat, hb, (World.ownsRow.lt ho g rfl).2⟩
theorem own_slice {w : World} {B : Nat} {v : Value} {l : List Int} (h : IOwn w B v l) (hne : v ≠ .slice none 0 0) : ∃ g cap, v = .slice (some ⟨g, 0, none⟩) l.length cap ∧ B ≤ g := by
  rcases h.2 with ⟨hv, _⟩ | ⟨g, cap, cur, hv, hb, _⟩
  · exact absurd hv hne
  · exact ⟨g, cap, hv, hb⟩
theorem cell_new2 (w : World) (P : Obj) (x : Value) (t : TypeId) : ∀ j u, [x][j]? = some u → ((w.alloc P).alloc (.cells #[x] t)).cell? ((⟨w.heap.size + 1, 0, none⟩ : Addr).add j) = some u := by
  have h := cell_one_new (w.alloc P) x t
  rwa [show (w.alloc P).heap.size = w.heap.size + 1 by simp] at h
set_option maxHeartbeats 1000000 in
theorem eqints_same (A A2 : Option Addr) (cap cap2 : Nat) (l : List Int) (w : World) (h : IAt w A l) (h2 : IAt w A2 l) (hn : l.length ≤ 1048576) :
    Calls Try.prog 34 #[.slice A l.length cap, .slice A2 l.length cap2] w fun e w' => e = .returned (.bool true) ∧ Below w.heap.size w w' := by
  have HA := Lib.hid h
  have HA2 := Lib.hid h2
  clear h h2
  go_enter Try.func34, Try.ntmps34
  go_wp2
  go_loopw [5] (fun i wr => ∃ (k d : Nat), k ≤ l.length ∧ i = .int .i64 k ∧ wr = w.drewN d) (fun i _ => l.length - (intOf i).toNat)
  case atStart => exact ⟨0, 0, Nat.zero_le _, rfl, rfl⟩
  case round =>
    obtain ⟨k, d, hk, rfl, rfl⟩ := hrel
    by_cases hlt : k < l.length
    · obtain ⟨b, off, hA, hbl, h0⟩ := HA.out.at_ hlt
      obtain ⟨b2, off2, hA2, hbl2, g0⟩ := HA2.out.at_ hlt
      subst hA hA2
      have hk0i : (0 : Int) ≤ (k : Int) := by omega
      have hk1i : (k : Int) < (l.length : Int) := by omega
      generalize l.getD k 0 = x at *
      go_wp2
      go_quiet (fail)
      go_wp2
      go_roundw
      case rel => exact ⟨k + 1, _, by omega, by go_num, rfl⟩
      case measure => simp [intOf]; omega
    · go_wp2
      go_ret
      exact ⟨rfl, below_drewN (Below.refl _ _) d⟩
/-- The numbers from m on. -/
def marksI (m n : Nat) : List Int := (List.range n).map fun i => ((m + i : Nat) : Int)
theorem marksI_len (m n : Nat) : (marksI m n).length = n := by simp [marksI]
theorem marksI_get (m n i : Nat) (h : i < n) : (marksI m n).getD i 0 = ((m + i : Nat) : Int) := by simp [marksI, List.getD, h]
def mkI (m : Nat) (xs : List Value) (j : Nat) : List Value := (marksI m j).map iv ++ xs.drop j
theorem mkI_zero (m : Nat) (xs : List Value) : mkI m xs 0 = xs := by simp [mkI, marksI]
theorem mkI_set (m : Nat) (xs : List Value) (j : Nat) (h : j < xs.length) : (mkI m xs j).set j (iv ((m + j : Nat) : Int)) = mkI m xs (j + 1) := by
  unfold mkI marksI
  rw [List.set_append_right _ _ (by simp), List.range_succ, List.map_append, List.map_append, List.append_assoc]
  congr 1
  simp only [List.length_map, List.length_range, Nat.sub_self]
  rw [List.drop_eq_getElem_cons h]
  rfl
theorem mkI_len (m : Nat) (xs : List Value) (j : Nat) (h : j ≤ xs.length) : (mkI m xs j).length = xs.length := by simp [mkI, marksI]; omega
theorem mkI_has (m : Nat) (xs : List Value) (j : Nat) (h : j < xs.length) : ∃ u, (mkI m xs j)[j]? = some u := by
  have hl := mkI_len m xs j (by omega)
  exact ⟨_, List.getElem?_eq_getElem (by rw [hl]; exact h)⟩
theorem mkI_full (m : Nat) (xs : List Value) : mkI m xs xs.length = (marksI m xs.length).map iv := by simp [mkI]
set_option maxHeartbeats 1000000 in
theorem markints_any (B g cap m : Nat) (l : List Int) (w : World) (h : IOwn w B (.slice (some ⟨g, 0, none⟩) l.length cap) l) (hn : l.length ≤ 1048576) (hm : m ≤ 1048576) :
    Calls Try.prog 36 #[.slice (some ⟨g, 0, none⟩) l.length cap, .int .i64 (m : Int)] w fun e w' => e = .returned (.int .i64 ((m + l.length : Nat) : Int)) ∧ IOwn w' B (.slice (some ⟨g, 0, none⟩) l.length cap) (marksI m l.length) ∧ Below B w w' := by
  have hB := (World.ownsRow.lt h g rfl).1
  unfold IOwn at h ⊢
  rw [marksI_len]
  have hx : (l.map iv).length = l.length := by simp
  have HF := Lib.hid (show mkI m (l.map iv) l.length = (marksI m l.length).map iv by have := mkI_full m (l.map iv); rwa [hx] at this)
  have HX := Lib.hid hx
  clear hx
  generalize l.length = n at *
  generalize l.map iv = xs at *
  go_enter Try.func36, Try.ntmps36
  go_wp2
  go_loopw [1, 5] (fun k i wr => ∃ j : Nat, j ≤ n ∧ k = .int .i64 ((m + j : Nat) : Int) ∧ i = .int .i64 j ∧ wr.ownsRow B 3 1 (.slice (some ⟨g, 0, none⟩) n cap) n (mkI m xs j) ∧ Below B w wr) (fun _ i _ => n - (intOf i).toNat)
  case atStart => exact ⟨0, Nat.zero_le _, rfl, rfl, by rw [mkI_zero]; exact h, Below.refl _ _⟩
  case round =>
    obtain ⟨j, hj, rfl, rfl, hown, hb⟩ := hrel
    clear h
    by_cases hlt : j < n
    · have hset := Lib.hid (mkI_set m xs j (by rw [HX.out]; exact hlt))
      obtain ⟨u, hu⟩ := mkI_has m xs j (by rw [HX.out]; exact hlt)
      have hcell := (hown.cellAt j (by omega)).trans hu
      have hfz := hown.frozenAt j
      have HO := Lib.hid hown
      have hjn : m + j + 1 = m + (j + 1) := by omega
      clear hown hu
      go_wp2
      have hst := HO.out.stored j (iv ((m + j : Nat) : Int))
      rw [hset.out] at hst
      go_roundw
      case rel => exact ⟨j + 1, by omega, by go_num, by go_num, hst.1, hb.setCell (p := ⟨g, j, none⟩) hB _⟩
      case measure => simp [intOf]; omega
    · have hjn : j = n := by omega
      subst hjn
      go_wp2
      go_ret
      exact ⟨rfl, by rw [← HF.out]; exact hown, hb⟩
set_option maxHeartbeats 1000000 in
theorem heldints_any (A : Option Addr) (cap m n : Nat) (w : World) (h : IAt w A (marksI m n)) (hn : n ≤ 1048576) (hm : m ≤ 1048576) :
    Calls Try.prog 37 #[.slice A n cap, .int .i64 (m : Int)] w fun e w' => e = .returned (.int .i64 ((m + n : Nat) : Int)) ∧ Below w.heap.size w w' := by
  have HA := Lib.hid h
  clear h
  go_enter Try.func37, Try.ntmps37
  go_wp2
  go_loopw [1, 5] (fun k i wr => ∃ j : Nat, j ≤ n ∧ k = .int .i64 ((m + j : Nat) : Int) ∧ i = .int .i64 j ∧ Below w.heap.size w wr) (fun _ i _ => n - (intOf i).toNat)
  case atStart => exact ⟨0, Nat.zero_le _, rfl, rfl, Below.refl _ _⟩
  case round =>
    obtain ⟨j, hj, rfl, rfl, hb⟩ := hrel
    by_cases hlt : j < n
    · obtain ⟨b, off, hA, hbl, h0⟩ := HA.out.at_ (i := j) (by rw [marksI_len]; exact hlt)
      subst hA
      rw [marksI_get m n j hlt] at h0
      obtain ⟨hc, hf⟩ := bcell hb
      have hjn : m + j + 1 = m + (j + 1) := by omega
      go_wp2
      go_roundw
      case rel => exact ⟨j + 1, by omega, by go_num, by go_num, hb⟩
      case measure => simp [intOf]; omega
    · have hjn : j = n := by omega
      subst hjn
      go_wp2
      go_ret
      exact ⟨rfl, hb⟩
theorem IAt.low {w w' : World} {g o B : Nat} {l : List Int} (h : IAt w (some ⟨g, o, none⟩) l) (hb : Below B w w') (hg : g < B) : IAt w' (some ⟨g, o, none⟩) l := by
  rcases h with h | ⟨b, off, hA, hlt, h⟩
  · exact .inl h
  · simp only [Option.some.injEq, Addr.mk.injEq, and_true] at hA
    obtain ⟨rfl, rfl⟩ := hA
    exact .inr ⟨g, o, rfl, Nat.lt_of_lt_of_le hlt hb.size, fun i hi => (hb.cell (p := ⟨g, o + i, none⟩) hg).trans (h i hi)⟩
theorem IAt.far {w w' : World} {g o x : Nat} {l : List Int} (h : IAt w (some ⟨g, o, none⟩) l) (hb : w.grownBy w' (some x)) (hg : g ≠ x) : IAt w' (some ⟨g, o, none⟩) l := by
  rcases h with h | ⟨b, off, hA, hlt, h⟩
  · exact .inl h
  · simp only [Option.some.injEq, Addr.mk.injEq, and_true] at hA
    obtain ⟨rfl, rfl⟩ := hA
    exact .inr ⟨g, o, rfl, Nat.lt_of_lt_of_le hlt hb.size, fun i hi => (World.cell?_of_block (hb.block g hlt (by simp; exact hg))).trans (h i hi)⟩
theorem IOwn.far {w w' : World} {B g cap x : Nat} {l : List Int} (h : IOwn w B (.slice (some ⟨g, 0, none⟩) l.length cap) l) (hb : w.grownBy w' (some x)) (hg : g ≠ x) : IOwn w' B (.slice (some ⟨g, 0, none⟩) l.length cap) l :=
  World.ownsRow.kept h hb (.inr (by simp [Value.ownBlock]; exact hg))
theorem iown_lt {w : World} {B g n cap : Nat} {l : List Int} (h : IOwn w B (.slice (some ⟨g, 0, none⟩) n cap) l) : g < w.heap.size := (World.ownsRow.lt h g rfl).2
theorem iown_lt' {w : World} {B g n cap : Nat} {l : List Int} (h : IOwn w B (.slice (some ⟨g, 0, none⟩) n cap) l) : g < w.heap.size := iown_lt h
theorem iown_base {w : World} {B g n cap : Nat} {l : List Int} (h : IOwn w B (.slice (some ⟨g, 0, none⟩) n cap) l) : B ≤ g := (World.ownsRow.lt h g rfl).1
theorem IOwn.iat_marks {w : World} {B g n m cap : Nat} (h : IOwn w B (.slice (some ⟨g, 0, none⟩) n cap) (marksI m n)) : IAt w (some ⟨g, 0, none⟩) (marksI m n) := by
  have e : n = (marksI m n).length := (marksI_len m n).symm
  have h' : IOwn w B (.slice (some ⟨g, 0, none⟩) (marksI m n).length cap) (marksI m n) := by rw [← e]; exact h
  exact h'.iat
set_option maxHeartbeats 1000000 in
theorem markints_far (B g cap m : Nat) (l : List Int) (w : World) (h : IOwn w B (.slice (some ⟨g, 0, none⟩) l.length cap) l) (hn : l.length ≤ 1048576) (hm : m ≤ 104857600) :
    Calls Try.prog 36 #[.slice (some ⟨g, 0, none⟩) l.length cap, .int .i64 (m : Int)] w fun e w' => e = .returned (.int .i64 ((m + l.length : Nat) : Int)) ∧ IOwn w' B (.slice (some ⟨g, 0, none⟩) l.length cap) (marksI m l.length) ∧ w.grownBy w' (some g) := by
  have hB := (World.ownsRow.lt h g rfl).1
  unfold IOwn at h ⊢
  rw [marksI_len]
  have hx : (l.map iv).length = l.length := by simp
  have HF := Lib.hid (show mkI m (l.map iv) l.length = (marksI m l.length).map iv by have := mkI_full m (l.map iv); rwa [hx] at this)
  have HX := Lib.hid hx
  clear hx
  generalize l.length = n at *
  generalize l.map iv = xs at *
  go_enter Try.func36, Try.ntmps36
  go_wp2
  go_loopw [1, 5] (fun k i wr => ∃ j : Nat, j ≤ n ∧ k = .int .i64 ((m + j : Nat) : Int) ∧ i = .int .i64 j ∧ wr.ownsRow B 3 1 (.slice (some ⟨g, 0, none⟩) n cap) n (mkI m xs j) ∧ w.grownBy wr (some g)) (fun _ i _ => n - (intOf i).toNat)
  case atStart => exact ⟨0, Nat.zero_le _, rfl, rfl, by rw [mkI_zero]; exact h, World.grownBy.refl _ _⟩
  case round =>
    obtain ⟨j, hj, rfl, rfl, hown, hb⟩ := hrel
    clear h
    by_cases hlt : j < n
    · have hset := Lib.hid (mkI_set m xs j (by rw [HX.out]; exact hlt))
      obtain ⟨u, hu⟩ := mkI_has m xs j (by rw [HX.out]; exact hlt)
      have hcell := (hown.cellAt j (by omega)).trans hu
      have hfz := hown.frozenAt j
      have HO := Lib.hid hown
      have hjn : m + j + 1 = m + (j + 1) := by omega
      clear hown hu
      go_wp2
      have hst := HO.out.stored j (iv ((m + j : Nat) : Int))
      rw [hset.out] at hst
      go_roundw
      case rel => exact ⟨j + 1, by omega, by go_num, by go_num, hst.1, grown_set hb _ _⟩
      case measure => simp [intOf]; omega
    · have hjn : j = n := by omega
      subst hjn
      go_wp2
      go_ret
      exact ⟨rfl, by rw [← HF.out]; exact hown, hb⟩
theorem markints_i (B g cap m : Nat) (mi : Int) (l : List Int) (w : World) (h : IOwn w B (.slice (some ⟨g, 0, none⟩) l.length cap) l) (hn : l.length ≤ 1048576) (hm : m ≤ 104857600) (hmi : mi = (m : Int)) :
    Calls Try.prog 36 #[.slice (some ⟨g, 0, none⟩) l.length cap, .int .i64 mi] w fun e w' => e = .returned (.int .i64 (mi + (l.length : Int))) ∧ IOwn w' B (.slice (some ⟨g, 0, none⟩) l.length cap) (marksI m l.length) ∧ w.grownBy w' (some g) := by
  subst hmi
  exact (markints_far B g cap m l w h hn hm).mono fun _ _ ⟨he, ho, hg⟩ => ⟨by rw [he]; congr 2, ho, hg⟩
theorem heldints_i (A : Option Addr) (cap m n : Nat) (mi : Int) (w : World) (h : IAt w A (marksI m n)) (hn : n ≤ 1048576) (hm : m ≤ 1048576) (hmi : mi = (m : Int)) :
    Calls Try.prog 37 #[.slice A n cap, .int .i64 mi] w fun e w' => e = .returned (.int .i64 (mi + (n : Int))) ∧ Below w.heap.size w w' := by
  subst hmi
  exact (heldints_any A cap m n w h hn hm).mono fun _ _ ⟨he, hb⟩ => ⟨by rw [he]; congr 2, hb⟩
def fiI (l : List Int) (j : Nat) : List Value := (l.take j).map iv ++ List.replicate (l.length - j) (iv 0)
theorem fiI_len (l : List Int) (j : Nat) (h : j ≤ l.length) : (fiI l j).length = l.length := by simp [fiI]; omega
theorem fiI_set (l : List Int) (j : Nat) (h : j < l.length) : (fiI l j).set j (iv (l.getD j 0)) = fiI l (j + 1) := by
  unfold fiI
  have e1 : ((l.take j).map iv).length = j := by simp; omega
  have e2 : l.length - j = (l.length - (j + 1)) + 1 := by omega
  have e3 : l.getD j 0 = l[j] := by simp [List.getD, h]
  rw [List.set_append_right _ _ (by omega), e1, Nat.sub_self, e2, List.replicate_succ, List.set_cons_zero, List.take_succ_eq_append_getElem h, List.map_append, e3]
  simp
theorem fiI_has (l : List Int) (j : Nat) (h : j < l.length) : ∃ u, (fiI l j)[j]? = some u := ⟨_, List.getElem?_eq_getElem (by rw [fiI_len l j (by omega)]; exact h)⟩
theorem fiI_full (l : List Int) : fiI l l.length = l.map iv := by simp [fiI]
theorem made_own (l : List Int) (w : World) (hn : l.length ≤ 1048576) : (w.alloc (.cells (madeCells #[.int .i64 0] l.length) 3)).ownsRow w.heap.size 3 1 (.slice (some ⟨w.heap.size, 0, none⟩) l.length l.length) l.length (fiI l 0) := by
  have hs : (madeCells #[Value.int .i64 0] l.length).toList = List.replicate l.length (iv 0) := toList_madeCells_one _ _
  have hz : (madeCells #[Value.int .i64 0] l.length).size = l.length := by rw [← Array.length_toList, hs]; simp
  refine ⟨by simp [fiI], .inr ⟨w.heap.size, l.length, madeCells #[.int .i64 0] l.length, rfl, Nat.le_refl _, heap_alloc_new w _, Nat.le_refl _, by unfold maxLen; omega, by simpa using hz, ?_⟩⟩
  simp [fiI, hs]
section
variable {H : Type} {enc : TypeId × Value → H} {w : World} {spare : Nat → Bool}
theorem intsOne : Try.prog.cellsOf 3 = 1 := by kernel_rfl
theorem add_plus (b off i : Nat) : (⟨b, off, none⟩ : Addr).add i = ⟨b, off + i, none⟩ := by unfold Addr.add; split <;> simp_all
set_option maxRecDepth 100000 in
theorem int_open {r : Reach} {b0 : Nat} {v : Value} {d : DataW H} {p : List MemPlace} (hv : Value.okWide Try.prog w r b0 3 v) (h : DataW.Trod enc Try.prog w 0 (fun _ => true) true 3 v d p) : ∃ n : Int, v = .int .i64 n ∧ -9223372036854775808 ≤ n ∧ n ≤ 9223372036854775807 := by
  obtain ⟨n, hn, _, _, hw⟩ := open_int Try.underlying3 hv h
  refine ⟨n, hn, ?_⟩
  have e1 : IntKind.i64.min = -9223372036854775808 := rfl
  have e2 : IntKind.i64.max = 9223372036854775807 := rfl
  simpa [Lit.wf, e1, e2] using hw
end
theorem on_base {w0 a b : World} {S : Nat} (h : Below S w0 a) (hS : S ≤ w0.heap.size) (hb : Below a.heap.size a b) : Below S w0 b :=
  h.trans (hb.mono (Nat.le_trans hS h.size))
theorem box_at {w : World} {x : Value} {t : TypeId} : (w.alloc (.cells #[x] t)).cell? ⟨w.heap.size, 0, none⟩ = some x := by
  rw [World.cell?_alloc_at _ _ _ _ rfl]; rfl
theorem alloc_below (w : World) (o : Obj) : Below w.heap.size w (w.alloc o) := (Below.refl _ _).alloc (Nat.le_refl _) o
theorem alloc_size (w : World) (o : Obj) : (w.alloc o).heap.size = w.heap.size + 1 := by simp
theorem markints_nil (m : Int) (w : World) :
    Calls Try.prog 36 #[.slice none 0 0, .int .i64 m] w fun e w' => e = .returned (.int .i64 m) ∧ w' = w := by
  go_enter Try.func36, Try.ntmps36
  go_wp2
  go_loopw [1, 5] (fun k i wr => k = .int .i64 m ∧ i = .int .i64 0 ∧ wr = w) (fun _ _ _ => 0)
  case atStart => exact ⟨rfl, rfl, rfl⟩
  case round =>
    obtain ⟨rfl, rfl, rfl⟩ := hrel
    go_wp2
    go_ret
    exact ⟨rfl, rfl⟩
theorem heldints_nil (m : Int) (w : World) :
    Calls Try.prog 37 #[.slice none 0 0, .int .i64 m] w fun e w' => e = .returned (.int .i64 m) ∧ w' = w := by
  go_enter Try.func37, Try.ntmps37
  go_wp2
  go_loopw [1, 5] (fun k i wr => k = .int .i64 m ∧ i = .int .i64 0 ∧ wr = w) (fun _ _ _ => 0)
  case atStart => exact ⟨rfl, rfl, rfl⟩
  case round =>
    obtain ⟨rfl, rfl, rfl⟩ := hrel
    go_wp2
    go_ret
    exact ⟨rfl, rfl⟩
theorem met_at {P : Program} {f : FuncId} {args : Array Value} {w : World} {d : Nat} {os : Array Obj} {v : Value}
    (h : ∀ w', Below w.heap.size w w' → Calls P f args w' fun e w'' => e = .returned v ∧ Below w'.heap.size w' w'') : Calls P f args (grow (redrawn w d) os) fun e w'' => e = .returned v ∧ ∃ p : Regrown, w'' = grow (redrawn w p.d) p.os :=
  Calls.regrown_of (h _ (below_regrown w d os))
theorem rowIs_below {w w' : World} {B g n : Nat} {t : TypeId} {f : Nat → Value} (h : w.rowIs g t n f) (hb : Below B w w') (hg : g < B) : w'.rowIs g t n f := h.of_block (hb.block g hg)
theorem new_lt (w : World) (o : Obj) : w.heap.size < (w.alloc o).heap.size := by simp
/-- A point as a value. -/
abbrev cv (c : Bl) : Value := .agg #[.int .i64 c.up, .int .i64 c.pr]
/-- The points cs lie there. -/
def CAt (w : World) (A : Option Addr) (cs : List Bl) : Prop :=
  cs = [] ∨ ∃ b off, A = some ⟨b, off, none⟩ ∧ b < w.heap.size ∧ ∀ i, i < cs.length →
    w.cell? ⟨b, off + i * 2, none⟩ = some (.int .i64 (cAt cs i).up) ∧ w.cell? ⟨b, off + i * 2 + 1, none⟩ = some (.int .i64 (cAt cs i).pr)
theorem CAt.kept {w w' : World} {A : Option Addr} {cs : List Bl} {B : Nat} (h : CAt w A cs) (hb : Below B w w') (hB : w.heap.size ≤ B) : CAt w' A cs := by
  rcases h with h | ⟨b, off, hA, hlt, h⟩
  · exact .inl h
  · refine .inr ⟨b, off, hA, Nat.lt_of_lt_of_le hlt hb.size, fun i hi => ?_⟩
    obtain ⟨h0, h1⟩ := h i hi
    have hc : ∀ o, w'.cell? ⟨b, o, none⟩ = w.cell? ⟨b, o, none⟩ := fun o => hb.cell (p := ⟨b, o, none⟩) (by show b < B; omega)
    rw [hc, hc]
    exact ⟨h0, h1⟩
theorem CAt.at_ {w : World} {A : Option Addr} {cs : List Bl} (h : CAt w A cs) {i : Nat} (hi : i < cs.length) : ∃ b off, A = some ⟨b, off, none⟩ ∧ b < w.heap.size ∧
    w.cell? ⟨b, off + i * 2, none⟩ = some (.int .i64 (cAt cs i).up) ∧ w.cell? ⟨b, off + i * 2 + 1, none⟩ = some (.int .i64 (cAt cs i).pr) := by
  rcases h with h | ⟨b, off, hA, hlt, h⟩
  · subst h; simp at hi
  · exact ⟨b, off, hA, hlt, h i hi⟩
/-- Two of the points at once. -/
theorem CAt.two {w : World} {A : Option Addr} {cs : List Bl} (h : CAt w A cs) {i j : Nat} (hi : i < cs.length) (hj : j < cs.length) : ∃ b off, A = some ⟨b, off, none⟩ ∧ b < w.heap.size ∧
    w.cell? ⟨b, off + i * 2, none⟩ = some (.int .i64 (cAt cs i).up) ∧ w.cell? ⟨b, off + i * 2 + 1, none⟩ = some (.int .i64 (cAt cs i).pr) ∧
    w.cell? ⟨b, off + j * 2, none⟩ = some (.int .i64 (cAt cs j).up) ∧ w.cell? ⟨b, off + j * 2 + 1, none⟩ = some (.int .i64 (cAt cs j).pr) := by
  rcases h with h | ⟨b, off, hA, hlt, h⟩
  · subst h; simp at hi
  · exact ⟨b, off, hA, hlt, (h i hi).1, (h i hi).2, (h j hj).1, (h j hj).2⟩
/-- The cells of a row of points. -/
def ccell (cs : List Bl) (i : Nat) : Value := if i % 2 = 0 then .int .i64 (cAt cs (i / 2)).up else .int .i64 (cAt cs (i / 2)).pr
theorem ccell0 (cs : List Bl) (i : Nat) : ccell cs (i * 2) = .int .i64 (cAt cs i).up := by
  have a : i * 2 % 2 = 0 := by omega
  have b : i * 2 / 2 = i := by omega
  simp [ccell, a, b]
theorem ccell1 (cs : List Bl) (i : Nat) : ccell cs (i * 2 + 1) = .int .i64 (cAt cs i).pr := by
  have a : (i * 2 + 1) % 2 = 1 := by omega
  have b : (i * 2 + 1) / 2 = i := by omega
  simp [ccell, a, b]
/-- A row of points in a block of its own. -/
def CRow (w : World) (g : Nat) (cs : List Bl) : Prop := w.rowIs g 62 (cs.length * 2) (ccell cs)
theorem CRow.at_ {w : World} {g : Nat} {cs : List Bl} (h : CRow w g cs) : CAt w (some ⟨g, 0, none⟩) cs := by
  refine .inr ⟨g, 0, rfl, h.lt, fun i hi => ?_⟩
  simp only [Nat.zero_add]
  rw [h.cell (by omega), h.cell (by omega), ccell0, ccell1]
  exact ⟨rfl, rfl⟩
theorem CRow.kept {w w' : World} {B g : Nat} {cs : List Bl} (h : CRow w g cs) (hb : Below B w w') (hg : g < B) : CRow w' g cs := rowIs_below h hb hg
theorem CAt.low {w w' : World} {g o B : Nat} {l : List Bl} (h : CAt w (some ⟨g, o, none⟩) l) (hb : Below B w w') (hg : g < B) : CAt w' (some ⟨g, o, none⟩) l := by
  rcases h with h | ⟨b, off, hA, hlt, h⟩
  · exact .inl h
  · simp only [Option.some.injEq, Addr.mk.injEq, and_true] at hA
    obtain ⟨rfl, rfl⟩ := hA
    refine .inr ⟨g, o, rfl, Nat.lt_of_lt_of_le hlt hb.size, fun i hi => ?_⟩
    have hc : ∀ k, w'.cell? ⟨g, k, none⟩ = w.cell? ⟨g, k, none⟩ := fun k => hb.cell (p := ⟨g, k, none⟩) hg
    rw [hc, hc]
    exact h i hi
theorem CAt.far {w w' : World} {g o x : Nat} {l : List Bl} (h : CAt w (some ⟨g, o, none⟩) l) (hb : w.grownBy w' (some x)) (hg : g ≠ x) : CAt w' (some ⟨g, o, none⟩) l := by
  rcases h with h | ⟨b, off, hA, hlt, h⟩
  · exact .inl h
  · simp only [Option.some.injEq, Addr.mk.injEq, and_true] at hA
    obtain ⟨rfl, rfl⟩ := hA
    refine .inr ⟨g, o, rfl, Nat.lt_of_lt_of_le hlt hb.size, fun i hi => ?_⟩
    have hc : ∀ k, w'.cell? ⟨g, k, none⟩ = w.cell? ⟨g, k, none⟩ := fun k => hb.cell_far ⟨g, k, none⟩ hlt (by simp; omega)
    rw [hc, hc]
    exact h i hi
/-- The first k points are written. -/
def cfill (cs : List Bl) (k : Nat) (i : Nat) : Value := if i < k * 2 then ccell cs i else .int .i64 0
theorem cfill_step {w : World} {g n : Nat} {t : TypeId} {cs : List Bl} {k : Nat} (h : w.rowIs g t n (cfill cs k)) :
    ((w.setCell ⟨g, k * 2, none⟩ (.int .i64 (cAt cs k).up)).setCell ⟨g, k * 2 + 1, none⟩ (.int .i64 (cAt cs k).pr)).rowIs g t n (cfill cs (k + 1)) := by
  refine ((h.set _ _).set _ _).congr fun i _ => ?_
  unfold cfill
  by_cases h1 : i = k * 2 + 1
  · subst h1; rw [if_pos rfl, if_pos (by omega), ccell1]
  · rw [if_neg h1]
    by_cases h0 : i = k * 2
    · subst h0; rw [if_pos rfl, if_pos (by omega), ccell0]
    · rw [if_neg h0]
      by_cases hk : i < k * 2
      · rw [if_pos hk, if_pos (by omega)]
      · rw [if_neg hk, if_neg (by omega)]
theorem cfill_all {w : World} {g : Nat} {t : TypeId} {cs : List Bl} {k : Nat} (h : w.rowIs g t (cs.length * 2) (cfill cs k)) (hk : cs.length ≤ k) : w.rowIs g t (cs.length * 2) (ccell cs) :=
  h.congr fun i hi => by unfold cfill; rw [if_pos (by omega)]
theorem infoC : (Try.prog.info? 62).map (fun i => (i.zero, i.size, i.bytes)) = some (some (.agg #[.int .i64 0, .int .i64 0]), 2, 16) := by kernel_rfl
theorem tocp_any (v : Bl) (w : World) :
    Calls Try.prog 79 #[cv v] w fun e w' => e = .returned (cv v) ∧ Below w.heap.size w w' := by
  obtain ⟨up, pr⟩ := v
  go_enter Try.func79, Try.ntmps79
  go_wp2
  refine bodyPost_ret (v := .agg #[.int .i64 up, .int .i64 pr]) (by simp [results, Try.results79, go_sem]) rfl ⟨rfl, ?_⟩
  exact (((Below.refl _ _).alloc (Nat.le_refl _) _).alloc (by simp) _).alloc (by simp; omega) _
theorem made_points (w : World) (cs : List Bl) : (w.alloc (.cells (madeCells (Value.agg #[.int .i64 0, .int .i64 0]).cells (cs.length * 2)) 62)).rowIs w.heap.size 62 (cs.length * 2) (cfill cs 0) := by
  refine ⟨_, Go.Deep.blk_alloc_new _ _, size_madeCells _ _, fun i hi => ?_⟩
  have e : cfill cs 0 i = .int .i64 0 := by unfold cfill; rw [if_neg (by omega)]
  rw [e]
  have h4 : i % 2 < 2 := Nat.mod_lt _ (by omega)
  have hz : (Value.agg #[.int .i64 0, .int .i64 0]).cells = #[.int .i64 0, .int .i64 0] := rfl
  rw [hz]
  simp only [madeCells]
  rw [Array.getElem?_map, Array.getElem?_range, if_pos hi]
  simp only [Option.map_some]
  congr 1
  show (#[Value.int .i64 0, .int .i64 0])[i % 2]! = _
  generalize i % 2 = r at h4
  match r, h4 with
  | 0, _ => rfl
  | 1, _ => rfl

set_option maxHeartbeats 1000000 in
theorem tocps_any (A : Option Addr) (cap : Nat) (cs : List Bl) (w : World) (h : CAt w A cs) (hn : cs.length ≤ 1048576) :
    Calls Try.prog 54 #[.slice A cs.length cap] w fun e w' => (∃ g, e = .returned (.slice (some ⟨g, 0, none⟩) cs.length cs.length) ∧ w.heap.size ≤ g ∧ CRow w' g cs) ∧ Below w.heap.size w w' := by
  have HA := Lib.hid h
  clear h
  have hmk : ∃ w1 : World, (Instr.makeSlice 27 (.int .i64 (cs.length : Int)) (.int .i64 (cs.length : Int))).run Try.prog w = .ok (.slice (some ⟨w.heap.size, 0, none⟩) cs.length cs.length) w1 ∧ w1.rowIs w.heap.size 62 (cs.length * 2) (cfill cs 0) ∧ Below w.heap.size w w1 := by
    obtain ⟨i0, hi, hz0, hz1, hz2⟩ := info_parts infoC
    have hr := run_make (P := Try.prog) w 27 62 i0 _ Try.underlying27 hi hz0 .i64 .i64 cs.length cs.length (by omega) (Int.le_refl _) (by rw [hz2]; omega) (by omega)
    simp only [Int.toNat_natCast] at hr
    rw [hz1] at hr
    exact ⟨_, hr, made_points _ _, (Below.refl _ _).alloc (Nat.le_refl _) _⟩
  obtain ⟨w1, hmk, hrow, hb1⟩ := hmk
  have HR := Lib.hid hrow
  clear hrow
  go_enter Try.func54, Try.ntmps54
  go_wp2
  clear hmk
  go_loopw [4] (fun i wr => ∃ k : Nat, k ≤ cs.length ∧ i = .int .i64 k ∧ Hid (wr.rowIs w.heap.size 62 (cs.length * 2) (cfill cs k)) ∧ Below w.heap.size w wr) (fun i _ => cs.length - (intOf i).toNat)
  case atStart => exact ⟨0, Nat.zero_le _, rfl, HR, hb1⟩
  case round =>
    obtain ⟨k, hk, rfl, hrow, hb⟩ := hrel
    by_cases hlt : k < cs.length
    · obtain ⟨b, off, hA, hbl, h0, h1⟩ := HA.out.at_ hlt
      subst hA
      obtain ⟨hc, hf⟩ := bcell hb
      have hgl := hrow.out.lt
      have H1 := Lib.hid (fun w => tocp_any (cAt cs k) w)
      have hst := Lib.hid (fun (w1 : World) (h : w1.rowIs w.heap.size 62 (cs.length * 2) (cfill cs k)) => cfill_step h)
      generalize cAt cs k = p at *
      go_wp2_with (go_at_call 79; refine (H1.out _).mono ?_; rintro e w2 ⟨rfl, hb2⟩; have hrow2 := Lib.hid (rowIs_below hrow.out hb2 hgl); have hfz : ∀ o, w2.frozen? ⟨w.heap.size, o, none⟩ = false := fun o => hrow2.out.frozen o; have c0 := hrow2.out.cell (i := k * 2) (by omega); have c1 := hrow2.out.cell (i := k * 2 + 1) (by omega))
      have hst' := hst.out _ hrow2.out
      go_roundw
      case rel => exact ⟨k + 1, by omega, by go_num, Lib.hid hst', ((hb.trans (hb2.mono (by omega))).setCell (p := ⟨w.heap.size, k * 2, none⟩) (Nat.le_refl _) _).setCell (p := ⟨w.heap.size, k * 2 + 1, none⟩) (Nat.le_refl _) _⟩
      case measure => simp [intOf]; omega
    · have hfin := Lib.hid (cfill_all hrow.out (by omega))
      go_wp2
      go_ret
      exact ⟨⟨_, rfl, Nat.le_refl _, hfin.out⟩, hb⟩
theorem szcps_any (A : Option Addr) (len cap : Nat) (r0 : Int) (w : World) (hm : len ≤ maxLen) (h0 : 0 ≤ r0) (h9 : r0 ≤ 1048576) :
    Calls Try.prog 52 #[.slice A len cap, .int .i64 r0] w fun e w' => (∃ r : Int, e = .returned (.int .i64 r) ∧ (r < 0 ∨ (0 ≤ r ∧ r ≤ r0 ∧ len ≤ 1048576))) ∧ Below w.heap.size w w' := by
  unfold maxLen at hm
  by_cases h0 : (len : Int) ≤ r0
  · go_enter Try.func52, Try.ntmps52
    go_wp2
    go_ret
    exact ⟨⟨_, rfl, .inr ⟨by omega, by omega, by omega⟩⟩, Below.refl _ _⟩
  · go_enter Try.func52, Try.ntmps52
    go_wp2
    go_ret
    exact ⟨⟨_, rfl, .inl (by omega)⟩, Below.refl _ _⟩
theorem eqcp_same (v : Bl) (w : World) :
    Calls Try.prog 80 #[cv v, cv v] w fun e w' => e = .returned (.bool true) ∧ Below w.heap.size w w' := by
  obtain ⟨up, pr⟩ := v
  go_enter Try.func80, Try.ntmps80
  go_wp2
  go_ret
  exact ⟨rfl, ((Below.refl _ _).alloc (Nat.le_refl _) _).alloc (by simp) _⟩
set_option maxHeartbeats 1000000 in
theorem eqcps_same (A A2 : Option Addr) (cap cap2 : Nat) (cs : List Bl) (w : World) (h : CAt w A cs) (h2 : CAt w A2 cs) (hn : cs.length ≤ 1048576) :
    Calls Try.prog 55 #[.slice A cs.length cap, .slice A2 cs.length cap2] w fun e w' => e = .returned (.bool true) ∧ Below w.heap.size w w' := by
  have HA := Lib.hid h
  have HA2 := Lib.hid h2
  clear h h2
  go_enter Try.func55, Try.ntmps55
  go_wp2
  go_loopw [5] (fun i wr => ∃ k : Nat, k ≤ cs.length ∧ i = .int .i64 k ∧ Below w.heap.size w wr) (fun i _ => cs.length - (intOf i).toNat)
  case atStart => exact ⟨0, Nat.zero_le _, rfl, Below.refl _ _⟩
  case round =>
    obtain ⟨k, hk, rfl, hb⟩ := hrel
    by_cases hlt : k < cs.length
    · obtain ⟨b, off, hA, hbl, h0, h1⟩ := HA.out.at_ hlt
      obtain ⟨b2, off2, hA2, hbl2, g0, g1⟩ := HA2.out.at_ hlt
      subst hA hA2
      obtain ⟨hc, hf⟩ := bcell hb
      have hz := hb.size
      have hbw : b < wr.heap.size := by omega
      have hbw2 : b2 < wr.heap.size := by omega
      have hk0i : (0 : Int) ≤ (k : Int) := by omega
      have hk1i : (k : Int) < (cs.length : Int) := by omega
      have H1 := Lib.hid (fun w => eqcp_same (cAt cs k) w)
      have hG := @cell_g
      generalize cAt cs k = p at *
      go_wp2
      refine region_below (by kernel_rfl) (by kernel_rfl) ?_
      repeat (first | go_big_quiet_step ((go_at_call 80; exact met H1.out)))
      refine wpQuiet_nil ?_
      intro w1 hb1
      go_wp2
      go_roundw
      case rel => exact ⟨k + 1, by omega, by go_num, hb.trans (hb1.mono hz)⟩
      case measure => simp [intOf]; omega
    · go_wp2
      go_ret
      exact ⟨rfl, hb⟩
section
variable {H : Type} {enc : TypeId × Value → H} {w : World} {spare : Nat → Bool}
theorem cpTwo : Try.prog.cellsOf 83 = 2 := by kernel_rfl
set_option maxRecDepth 100000 in
theorem cp_open {fuel : Nat} {cs : List Value} {x : DataW H × List MemPlace} (h : DataW.trod enc Try.prog w 0 spare true fuel 83 cs = some x) :
    ∃ q : Bl, cs = [.int .i64 q.up, .int .i64 q.pr] := by
  obtain ⟨xs, n, _, _, hl, hlx, hf⟩ := DataW.trod_struct Try.underlying83 h
  rw [cpTwo] at hl
  match cs, hl, xs, hlx with
  | [c0, c1], _, [y0, y1], _ =>
    have g0 : DataW.trod enc Try.prog w 0 spare true n 3 (List.take (Try.prog.cellsOf 3) (List.drop 0 [c0, c1])) = some y0 := hf 0 _ rfl
    have g1 : DataW.trod enc Try.prog w 0 spare true n 3 (List.take (Try.prog.cellsOf 3) (List.drop 1 [c0, c1])) = some y1 := hf 1 _ rfl
    rw [intsOne] at g0 g1
    obtain ⟨n0, e0, _⟩ := DataW.trod_int (cs := [c0]) Try.underlying3 g0
    obtain ⟨n1, e1, _⟩ := DataW.trod_int (cs := [c1]) Try.underlying3 g1
    injection e0 with e0
    injection e1 with e1
    exact ⟨⟨n0, n1⟩, by rw [e0, e1]⟩
set_option maxRecDepth 100000 in
theorem cps_open {fuel : Nat} {v : Value} {x : DataW H × List MemPlace} (h : DataW.trod enc Try.prog w 0 (fun _ => true) true fuel 22 [v] = some x) :
    ∃ (A : Option Addr) (cap : Nat) (cs : List Bl), v = .slice A cs.length cap ∧ CAt w A cs ∧ cs.length ≤ maxLen := by
  rcases open_slice Try.underlying22 h with ⟨hcs, _⟩ | ⟨a, len, cap, m, n, D, Pl, hcs, _, hl, hm, hmm, _, hi⟩
  · injection hcs with hcs
    exact ⟨none, 0, [], hcs, .inl rfl, by simp⟩
  · injection hcs with hcs
    have hm' : len ≤ m := by rw [hmm]; split <;> omega
    have h4 := cpTwo
    have hq : ∀ i, ∃ q : Bl, i < len → w.cell? (a.add (i * 2)) = some (.int .i64 q.up) ∧ w.cell? ((a.add (i * 2)).add 1) = some (.int .i64 q.pr) := by
      intro i
      by_cases hil : i < len
      · obtain ⟨cs', hc, ht⟩ := hi i (by omega)
        rw [h4] at hc
        obtain ⟨q, rfl⟩ := cp_open ht
        obtain ⟨_, _, hat⟩ := World.cells?_some hc
        refine ⟨q, fun _ => ⟨?_, ?_⟩⟩
        · have := hat 0 (by omega)
          simpa [Addr.add] using this
        · exact hat 1 (by omega)
      · exact ⟨default, fun h => absurd h hil⟩
    obtain ⟨f, hf⟩ := Classical.axiomOfChoice hq
    have hlen : ((List.range len).map f).length = len := by simp
    refine ⟨some a, cap, (List.range len).map f, by rw [hcs, hlen], ?_, by rw [hlen]; omega⟩
    by_cases h0 : len = 0
    · subst h0; exact .inl rfl
    · obtain ⟨b, off, spot⟩ := a
      have hspot : spot = none := by
        have := (hf 0 (by omega)).1
        simpa [Addr.add] using World.cell?_spot this
      subst hspot
      have hbl : b < w.heap.size := by
        have := World.block_lt_of_cell? w _ (hf 0 (by omega)).1
        rw [add_plus] at this
        exact this
      refine .inr ⟨b, off, rfl, hbl, fun i hi' => ?_⟩
      rw [hlen] at hi'
      have e : cAt ((List.range len).map f) i = f i := by unfold cAt; simp [List.getD, hi']
      obtain ⟨c0, c1⟩ := hf i hi'
      rw [e]
      rw [add_plus] at c0 c1
      rw [add_plus] at c1
      exact ⟨c0, c1⟩
end
/-- The cells of points, in a list. -/
def ccs2 (c : Bl) : List Value := [.int .i64 c.up, .int .i64 c.pr]
def ccs (cs : List Bl) : List Value := cs.flatMap ccs2
theorem ccs_snoc (ps : List Bl) (p : Bl) : ccs (ps ++ [p]) = ccs ps ++ ccs2 p := by simp [ccs, List.flatMap_append]
theorem ccs_len (ps : List Bl) : (ccs ps).length = ps.length * 2 := by
  induction ps with
  | nil => rfl
  | cons p ps ih =>
    have e : ccs (p :: ps) = ccs2 p ++ ccs ps := rfl
    rw [e, List.length_append, ih]; simp [ccs2]; omega
theorem ccs_get (ps : List Bl) : ∀ i, i < ps.length → ∀ j, j < 2 → (ccs ps)[i * 2 + j]? = (ccs2 (cAt ps i))[j]? := by
  induction ps with
  | nil => intro i h; simp at h
  | cons p ps ih =>
    intro i hi j hj
    have e : ccs (p :: ps) = ccs2 p ++ ccs ps := rfl
    have l4 : (ccs2 p).length = 2 := rfl
    match i with
    | 0 =>
      have e2 : cAt (p :: ps) 0 = p := by simp [cAt, List.getD]
      rw [e, e2, Nat.zero_mul, Nat.zero_add, List.getElem?_append_left (by omega)]
    | i + 1 =>
      have e2 : cAt (p :: ps) (i + 1) = cAt ps i := by simp [cAt, List.getD]
      rw [e, e2, List.getElem?_append_right (by omega), ← ih i (by simpa using hi) j hj, l4]
      congr 1; omega
theorem ccs_one (vs : List Bl) : ∀ u ∈ ccs vs, u.oneCell' = true := by
  intro u hu
  obtain ⟨p, _, hp⟩ := List.mem_flatMap.1 hu
  simp [ccs2] at hp
  rcases hp with rfl | rfl <;> rfl
theorem ccs_at {w : World} {b off : Nat} {vs : List Bl} (h : CAt w (some ⟨b, off, none⟩) vs) : ∀ j u, (ccs vs)[j]? = some u → w.cell? ((⟨b, off, none⟩ : Addr).add j) = some u := by
  intro j u hu
  have hj : j < vs.length * 2 := by
    have := (List.getElem?_eq_some_iff.1 hu).1
    rwa [ccs_len] at this
  have hadd : (⟨b, off, none⟩ : Addr).add j = ⟨b, off + j, none⟩ := add_plus _ _ _
  rw [hadd]
  obtain ⟨b', off', hA, _, h0, h1⟩ := h.at_ (i := j / 2) (by omega)
  simp only [Option.some.injEq, Addr.mk.injEq, and_true] at hA
  obtain ⟨rfl, rfl⟩ := hA
  have hr : j % 2 = 0 ∨ j % 2 = 1 := by omega
  have hd : j = j / 2 * 2 + j % 2 := by omega
  have hg := ccs_get vs (j / 2) (by omega) (j % 2) (by omega)
  rw [← hd, hu] at hg
  generalize hq : j / 2 = q at *
  rcases hr with hr | hr
  · rw [hr] at hg hd
    rw [show j = q * 2 by omega, h0]
    simpa [ccs2] using hg.symm
  · rw [hr] at hg hd
    rw [show off + j = off + q * 2 + 1 by omega, h1]
    simpa [ccs2] using hg.symm
theorem own_cat {w : World} {B cap : Nat} {A : Option Addr} {ps : List Bl} (h : w.ownsRow B 62 2 (.slice A ps.length cap) ps.length (ccs ps)) : CAt w A ps := by
  rcases Nat.eq_zero_or_pos ps.length with h0 | h0
  · exact .inl (List.length_eq_zero_iff.1 h0)
  · obtain ⟨g, cap', hv, _, hlt⟩ := h.form h0
    injection hv with hA
    subst hA
    refine .inr ⟨g, 0, rfl, hlt, fun i hi => ?_⟩
    simp only [Nat.zero_add]
    have hc := fun j (hj : j < 2) => (h.cellAt (i * 2 + j) (by omega)).trans (ccs_get ps i hi j hj)
    exact ⟨hc 0 (by omega), hc 1 (by omega)⟩
theorem own_emptyC (w : World) (B : Nat) (hB : B ≤ w.heap.size) : (w.alloc (.cells #[] 62)).ownsRow B 62 2 (.slice (some ⟨w.heap.size, 0, none⟩) 0 0) 0 [] :=
  ⟨rfl, .inr ⟨w.heap.size, 0, #[], rfl, hB, by simpa using (MapKept.heap_alloc w (.cells #[] 62)).1, Nat.le_refl _, Nat.zero_le _, rfl, rfl⟩⟩
theorem own_slC {w : World} {B n : Nat} {v : Value} {xs : List Value} (h : w.ownsRow B 62 2 v n xs) (hne : v ≠ .slice none 0 0) : ∃ g cap, v = .slice (some ⟨g, 0, none⟩) n cap ∧ B ≤ g := by
  rcases h.2 with ⟨hv, _⟩ | ⟨g, cap, cur, hv, hb, _⟩
  · exact absurd hv hne
  · exact ⟨g, cap, hv, hb⟩
theorem crow_own {w : World} {g : Nat} {cs : List Bl} (h : CRow w g cs) (hn : cs.length ≤ 1048576) : ∃ xs : List Value, xs.length = cs.length * 2 ∧ w.ownsRow g 62 2 (.slice (some ⟨g, 0, none⟩) cs.length cs.length) cs.length xs := by
  obtain ⟨c, hb, hs, _⟩ := h
  refine ⟨c.toList, by simpa using hs, by simpa using hs, .inr ⟨g, cs.length, c, rfl, Nat.le_refl _, hb, Nat.le_refl _, by simp only [maxLen]; omega, hs, ?_⟩⟩
  rw [List.take_of_length_le (by simp; omega)]
def marksC (m n : Nat) : List Value := (List.range n).map fun j => iv ((m + j : Nat) : Int)
theorem marksC_len (m n : Nat) : (marksC m n).length = n := by simp [marksC]
def mkC (m : Nat) (xs : List Value) (j : Nat) : List Value := marksC m j ++ xs.drop j
theorem mkC_zero (m : Nat) (xs : List Value) : mkC m xs 0 = xs := by simp [mkC, marksC]
theorem mkC_set (m : Nat) (xs : List Value) (j : Nat) (h : j < xs.length) : (mkC m xs j).set j (iv ((m + j : Nat) : Int)) = mkC m xs (j + 1) := by
  unfold mkC marksC
  rw [List.set_append_right _ _ (by simp), List.range_succ, List.map_append, List.append_assoc]
  congr 1
  simp only [List.length_map, List.length_range, Nat.sub_self]
  rw [List.drop_eq_getElem_cons h]
  rfl
theorem mkC_full (m : Nat) (xs : List Value) : mkC m xs xs.length = marksC m xs.length := by simp [mkC]
theorem mkC_len (m : Nat) (xs : List Value) (j : Nat) (h : j ≤ xs.length) : (mkC m xs j).length = xs.length := by simp [mkC, marksC]; omega
theorem mkC_two (m j : Nat) (xs : List Value) (h : j * 2 + 1 < xs.length) :
    ((mkC m xs (j * 2)).set (j * 2) (iv ((m : Int) + (j : Int) * 2))).set (j * 2 + 1) (iv ((m : Int) + (j : Int) * 2 + 1)) = mkC m xs ((j + 1) * 2) := by
  have e0 : (m : Int) + (j : Int) * 2 = ((m + j * 2 : Nat) : Int) := by omega
  have e1 : (m : Int) + (j : Int) * 2 + 1 = ((m + (j * 2 + 1) : Nat) : Int) := by omega
  rw [e1, e0, mkC_set m xs (j * 2) (by omega), mkC_set m xs (j * 2 + 1) (by omega), show (j + 1) * 2 = j * 2 + 1 + 1 by omega]
set_option maxHeartbeats 2000000 in
theorem markc_any (B g cap m n : Nat) (xs : List Value) (hx : xs.length = n * 2) (w : World) (h : w.ownsRow B 62 2 (.slice (some ⟨g, 0, none⟩) n cap) n xs) (hn : n ≤ 1048576) (hm : m ≤ 104857600) :
    Calls Try.prog 70 #[.slice (some ⟨g, 0, none⟩) n cap, .int .i64 (m : Int)] w fun e w' => e = .returned (.int .i64 ((m : Int) + (n : Int) * 2)) ∧ w'.ownsRow B 62 2 (.slice (some ⟨g, 0, none⟩) n cap) n (marksC m (n * 2)) ∧ w.grownBy w' (some g) := by
  have HF := Lib.hid (show mkC m xs (n * 2) = marksC m (n * 2) by have := mkC_full m xs; rwa [hx] at this)
  have HX := Lib.hid hx
  clear hx
  go_enter Try.func70, Try.ntmps70
  go_wp2
  go_loopw [1, 5] (fun k i wr => ∃ j : Nat, j ≤ n ∧ k = .int .i64 ((m : Int) + (j : Int) * 2) ∧ i = .int .i64 j ∧ Hid (wr.ownsRow B 62 2 (.slice (some ⟨g, 0, none⟩) n cap) n (mkC m xs (j * 2))) ∧ w.grownBy wr (some g)) (fun _ i _ => n - (intOf i).toNat)
  case atStart => exact ⟨0, Nat.zero_le _, by simp, rfl, Lib.hid (by rw [Nat.zero_mul, mkC_zero]; exact h), World.grownBy.refl _ _⟩
  case round =>
    obtain ⟨j, hj, rfl, rfl, hown, hb⟩ := hrel
    clear h
    by_cases hlt : j < n
    · have hset := Lib.hid (mkC_two m j xs (by rw [HX.out]; omega))
      have hL : (mkC m xs (j * 2)).length = n * 2 := (mkC_len m xs (j * 2) (by rw [HX.out]; omega)).trans HX.out
      have c0 := (hown.out.cellAt (j * 2) (by omega)).trans (List.getElem?_eq_getElem (by omega))
      have c1 := (hown.out.cellAt (j * 2 + 1) (by omega)).trans (List.getElem?_eq_getElem (by omega))
      generalize (mkC m xs (j * 2))[j * 2]'(by omega) = u0 at c0
      generalize (mkC m xs (j * 2))[j * 2 + 1]'(by omega) = u1 at c1
      have hfz := fun o => hown.out.frozenAt o
      clear hL
      go_wp2
      have s3 := ((hown.out.stored (j * 2) (iv ((m : Int) + (j : Int) * 2))).1.stored (j * 2 + 1) (iv ((m : Int) + (j : Int) * 2 + 1))).1
      rw [hset.out] at s3
      go_roundw
      case rel => exact ⟨j + 1, by omega, by congr 1; omega, by go_num, Lib.hid s3, grown_set (grown_set hb _ _) _ _⟩
      case measure => simp [intOf]; omega
    · have hjn : j = n := by omega
      subst hjn
      go_wp2
      go_ret
      exact ⟨rfl, by rw [← HF.out]; exact hown.out, hb⟩
/-- Marks lie there. -/
def MAt (w : World) (g m n : Nat) : Prop := g < w.heap.size ∧ ∀ j, j < n * 2 → w.cell? ⟨g, j, none⟩ = some (iv ((m + j : Nat) : Int))
theorem own_marks {w : World} {B g cap m n : Nat} (h : w.ownsRow B 62 2 (.slice (some ⟨g, 0, none⟩) n cap) n (marksC m (n * 2))) : MAt w g m n :=
  ⟨(h.lt g rfl).2, fun j hj => by
    rw [h.cellAt j (by omega)]
    simp [marksC, hj]⟩
theorem MAt.kept {w w' : World} {g m n : Nat} (h : MAt w g m n) (hb : Below w.heap.size w w') : MAt w' g m n :=
  ⟨Nat.lt_of_lt_of_le h.1 hb.size, fun j hj => (hb.cell (p := ⟨g, j, none⟩) h.1).trans (h.2 j hj)⟩
set_option maxHeartbeats 2000000 in
theorem heldc_any (g cap m n : Nat) (w : World) (h : MAt w g m n) (hn : n ≤ 1048576) (hm : m ≤ 104857600) :
    Calls Try.prog 73 #[.slice (some ⟨g, 0, none⟩) n cap, .int .i64 (m : Int)] w fun e w' => e = .returned (.int .i64 ((m : Int) + (n : Int) * 2)) ∧ Below w.heap.size w w' := by
  have HA := Lib.hid h.2
  clear h
  go_enter Try.func73, Try.ntmps73
  go_wp2
  go_loop [1, 5] (fun k i => ∃ j : Nat, j ≤ n ∧ k = .int .i64 ((m : Int) + (j : Int) * 2) ∧ i = .int .i64 j) (fun _ i => n - (intOf i).toNat)
  case atStart => exact ⟨0, Nat.zero_le _, by simp, rfl⟩
  case round =>
    obtain ⟨j, hj, rfl, rfl⟩ := hrel
    by_cases hlt : j < n
    · have c0 := HA.out (j * 2) (by omega)
      have c1 := HA.out (j * 2 + 1) (by omega)
      have e0 : ((m + j * 2 : Nat) : Int) = (m : Int) + (j : Int) * 2 := by omega
      have e1 : ((m + (j * 2 + 1) : Nat) : Int) = (m : Int) + (j : Int) * 2 + 1 := by omega
      rw [e0] at c0
      rw [e1] at c1
      clear e0 e1
      go_wp2
      go_round
      case rel => exact ⟨j + 1, by omega, by congr 1; omega, by go_num⟩
      case measure => simp [intOf]; omega
    · have hjn : j = n := by omega
      subst hjn
      go_wp2
      go_ret
      exact ⟨rfl, Below.refl _ _⟩
theorem ccs_app (a b : List Bl) : ccs (a ++ b) = ccs a ++ ccs b := by simp [ccs, List.flatMap_append]
theorem take_at (cs : List Bl) (k : Nat) (h : k < cs.length) : cs.take (k + 1) = cs.take k ++ [cAt cs k] := by
  rw [List.take_succ_eq_append_getElem h, ← cAt_eq cs k h]
theorem own_lowC {w : World} {B B' n : Nat} {v : Value} {xs : List Value} (h : w.ownsRow B 62 2 v n xs) (hB : B' ≤ B := by omega) : w.ownsRow B' 62 2 v n xs := by
  refine ⟨h.1, ?_⟩
  rcases h.2 with h2 | ⟨g, cap, cur, hv, hb, rest⟩
  · exact .inl h2
  · exact .inr ⟨g, cap, cur, hv, by omega, rest⟩
end Go.Proofs.Ytidlpoambmeiiaa.S14
